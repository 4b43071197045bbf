/- Contracts of package log: an entry read. -/
import Derived.Test.YtlldmpcamdginaaG6
import Derived.Deep.Cut
import Derived.Deep.RegionHeld3
import Derived.Test.YtlldmpcamdginaaG1
import Derived.Deep.LoopGhost
namespace Go.Proofs.Ytlldmpcamdginaa.Log
open Go.ChangeShapes Go.WideShapes Go.ChangeAt Go.RowKit
open Go.Proofs.Ytlldmpcamdginaa.Wire
set_option linter.unusedVariables false

theorem blk_kept {w w' : World} {g r : Nat} {t : TypeId} {cs : Array Value} (h : Blk w g t cs) (k : w.grownBy w' (some r)) (hne : g ≠ r) : Blk w' g t cs := (k.block g h.lt (by simpa using hne)).trans h
theorem bs_kept {w w' : World} {A : Option Addr} {n r : Nat} {xs : List Nat} (h : Bs w A n xs) (k : w.grownBy w' (some r)) (hne : 0 < n → ∀ a, A = some a → a.block ≠ r) : Bs w' A n xs := by
  rcases Nat.eq_zero_or_pos n with rfl | hp
  · exact ⟨h.1, h.2.1, fun h0 => absurd h0 (by omega)⟩
  · exact h.kept k (fun a ha => by simpa using hne hp a ha)
def zeroEn : Array Value := #[.int .i64 0, .int .u8 0, .int .u8 0, .int .u16 0, .int .u16 0, .int .u16 0, .int .u8 0]
set_option maxHeartbeats 4000000 in
set_option maxRecDepth 100000 in
theorem entry_st (g n c : Nat) (A : Option Addr) (xs L : List Nat) (last : Int) (h1 : 0 ≤ last) (h2 : last ≤ 1000000) (w : World) (h : RSt w g A n c xs (some L)) :
    Calls Try.prog 46 #[.pointer (some ⟨g, 0, none⟩), .int .i64 last] w (EPost w g A n c xs L last) := by
  have hg := h.lt
  have hE0 := ext_alloc (Ext.rfl' w) (.cells #[.int .i64 0, .int .u8 0, .int .u8 0, .int .u16 0, .int .u16 0, .int .u16 0, .int .u8 0] 85)
  have hB0 := Blk.new w 85 #[.int .i64 0, .int .u8 0, .int .u8 0, .int .u16 0, .int .u16 0, .int .u16 0, .int .u8 0]
  have HA := Lib.hid (int_st g n c A xs (some L) _ (h.ext hE0))
  have HE0 := Lib.hid hE0; have HB0 := Lib.hid hB0
  have HG := Lib.hid hg
  have HR0 := Lib.hid h.rin
  have HC := Lib.hid (chain5 (L := L))
  clear h hE0 hg hB0
  go_enter Try.func46, Try.ntmps46
  go_wp2_with fail
  refine (HA.out).mono ?_
  rintro e w1 ⟨rfl, hz1, hS1, hG1⟩
  generalize hva : va pI 0 (some L) = z at *
  have HV0 := Lib.hid hva; clear hva
  have HS1 := Lib.hid hS1; have HG1 := Lib.hid hG1; clear hS1 hG1
  have HA1 := Lib.hid (bytes_st g n c 3 (by omega) A xs _ w1 HS1.out)
  go_wp2_with fail
  refine (HA1.out).mono ?_
  rintro e w2 ⟨⟨v, rfl, hv⟩, hS2, hG2⟩
  have HV := Lib.hid hv; have HS2 := Lib.hid hS2; have HG2 := Lib.hid hG2; clear hv hS2 hG2
  have HA2 := Lib.hid (num_st g n c A xs _ w2 HS2.out)
  go_wp2_with fail
  refine (HA2.out).mono ?_
  rintro e w3 ⟨rfl, hz3, hS3, hG3⟩
  generalize hva : va pN 0 (nx (pB 3) (nx pI (some L))) = u at *
  have HVu := Lib.hid hva; clear hva
  have HS3 := Lib.hid hS3; have HG3 := Lib.hid hG3; clear hS3 hG3
  have HA3 := Lib.hid (num_st g n c A xs _ w3 HS3.out)
  go_wp2_with fail
  refine (HA3.out).mono ?_
  rintro e w4 ⟨rfl, hz4, hS4, hG4⟩
  generalize hva : va pN 0 (nx pN (nx (pB 3) (nx pI (some L)))) = t at *
  have HVt := Lib.hid hva; clear hva
  have HS4 := Lib.hid hS4; have HG4 := Lib.hid hG4; clear hS4 hG4
  have HA4 := Lib.hid (num_st g n c A xs _ w4 HS4.out)
  go_wp2_with fail
  refine (HA4.out).mono ?_
  rintro e w5 ⟨rfl, hz5, hS5, hG5⟩
  generalize hva : va pN 0 (nx pN (nx pN (nx (pB 3) (nx pI (some L))))) = gg at *
  have HVg := Lib.hid hva; clear hva
  have HS5 := Lib.hid hS5; have HG5 := Lib.hid hG5; clear hS5 hG5
  have HA5 := Lib.hid (err_st g n c A xs _ w5 HS5.out)
  have HGG : Hid (w.grownBy w5 (some g)) := Lib.hid (gb_trans (gb_trans (gb_trans (gb_trans (gb_trans (gb_ext HE0.out _) HG1.out) HG2.out) HG3.out) HG4.out) HG5.out)
  have hne : w.heap.size ≠ g := by have := HG.out; omega
  have hBR := blk_kept (blk_kept (blk_kept (blk_kept (blk_kept HB0.out HG1.out hne) HG2.out hne) HG3.out hne) HG4.out hne) HG5.out hne
  have HBR := Lib.hid hBR
  have a0 := fun i => hBR.cell i; have a1 := fun i => hBR.frozen i
  clear hBR
  go_wp2_with fail
  refine (HA5.out).mono ?_
  rintro e w6 ⟨x, rfl, hx, rfl⟩
  rcases HC.out with ⟨c1, c2⟩ | ⟨s, L1, ys, L2, u', L3, t', L4, g', L5, c1, c2, c3, c4, c5, c6, d1, d2, d3, d4, d5, f1, f2, f3, f4⟩
  · have hx' : ¬ x = 0 := hx.2 c1
    have HX := Lib.hid (And.intro c1 c2)
    clear c1 c2 hx
    go_wp2_with fail
    have hb1 := ((((((HBR.out.set_ 0 (.int .i64 0)).set_ 1 (.int .u8 0)).set_ 2 (.int .u8 0)).set_ 3 (.int .u16 0)).set_ 4 (.int .u16 0)).set_ 5 (.int .u16 0)).set_ 6 (.int .u8 0)
    refine bodyPost_ret (v := .tuple #[EV 0 0 0 0 0 0 0, .bool false]) (results_cell2 Try.results46 _ _ w.heap.size 85 _ (0, 0) _ rfl hb1 _ rfl Try.underlying85 rfl (by kernel_rfl)) rfl ?_
    refine ⟨gb_far (gb_far (gb_far (gb_far (gb_far (gb_far (gb_far HGG.out (Nat.le_refl _) _) (Nat.le_refl _) _) (Nat.le_refl _) _) (Nat.le_refl _) _) (Nat.le_refl _) _) (Nat.le_refl _) _) (Nat.le_refl _) _, ?_⟩
    rw [HX.out.2]
    refine ⟨rfl, ?_⟩
    have hr := HS5.out
    rw [HX.out.1] at hr
    exact ((((((hr.set HR0.out (Nat.le_refl _) _).set HR0.out (Nat.le_refl _) _).set HR0.out (Nat.le_refl _) _).set HR0.out (Nat.le_refl _) _).set HR0.out (Nat.le_refl _) _).set HR0.out (Nat.le_refl _) _).set HR0.out (Nat.le_refl _) _
  · have q2 : nx (pB 3) (nx pI (some L)) = some L2 := by rw [d1, d2]
    have q3 : nx pN (nx (pB 3) (nx pI (some L))) = some L3 := by rw [q2, d3]
    have q4 : nx pN (nx pN (nx (pB 3) (nx pI (some L)))) = some L4 := by rw [q3, d4]
    have q5 : nx pN (nx pN (nx pN (nx (pB 3) (nx pI (some L))))) = some L5 := by rw [q4, d5]
    have hx' : x = 0 := by
      by_cases h0 : x = 0
      · exact h0
      · exact absurd (hx.1 h0) (by rw [q5]; simp)
    obtain rfl : z = s := f1
    obtain rfl : u = u' := by rw [← HVu.out, q2, f2]
    obtain rfl : t = t' := by rw [← HVt.out, q3, f3]
    obtain rfl : gg = g' := by rw [← HVg.out, q4, f4]
    obtain rfl := hx'
    have HPE := Lib.hid c6
    obtain ⟨y0, y1, y2, rfl⟩ := three_of (pB_ok c2).2
    have hGot : GotF w1.heap.size w2 [y0, y1, y2] v := by
      rcases HV.out with ⟨h0, _⟩ | ⟨ys', R', h0, hG⟩
      · rw [d1, Option.bind_some, c2] at h0; cases h0
      · rw [d1, Option.bind_some, c2] at h0; cases h0; exact hG
    obtain ⟨A', c', rfl, hc3, hc4, hc5, hBs, hfar⟩ := hGot
    have hgw : g < w1.heap.size := (HS1.out).lt
    have hne3 : 0 < ([y0, y1, y2] : List Nat).length → ∀ a, A' = some a → a.block ≠ g := fun hp a ha => by have := hfar hp a ha; omega
    have hBs5 := bs_kept (bs_kept (bs_kept hBs HG3.out hne3) HG4.out hne3) HG5.out hne3
    obtain ⟨b, o, rfl, hlt, hcs⟩ := hBs5.2.2 (by simp)
    have e0 := hcs 0 (by simp); have e1 := hcs 1 (by simp); have e2 := hcs 2 (by simp)
    have l0 := hBs5.2.1 0; have l1 := hBs5.2.1 1; have l2 := hBs5.2.1 2
    simp only [Nat.add_zero, List.getD_cons_zero, List.getD_cons_succ] at e0 e1 e2 l0 l1 l2
    have HQ5 := Lib.hid q5
    clear a0 a1
    clear hx c1 c2 c3 c4 c5 c6 d1 d2 d3 d4 d5 f2 f3 f4 q2 q3 q4 q5 hc5 hBs hfar hne3 hBs5 hcs
    simp only [List.length_cons, List.length_nil, Nat.zero_add, Nat.reduceAdd] at *
    go_wp2_with fail
    have MKS := Lib.hid (fun (w' : World) (e : Ext w5 w') => (⟨kc e e0, kc e e1, kc e e2, Lib.hid e⟩ : w'.cell? ⟨b, o, none⟩ = some (.int .u8 (y0 : Int)) ∧ w'.cell? ⟨b, o + 1, none⟩ = some (.int .u8 (y1 : Int)) ∧ w'.cell? ⟨b, o + 2, none⟩ = some (.int .u8 (y2 : Int)) ∧ Hid (Ext w5 w')))
    go_region_held3 (fun w' => w'.cell? ⟨b, o, none⟩ = some (.int .u8 (y0 : Int)) ∧ w'.cell? ⟨b, o + 1, none⟩ = some (.int .u8 (y1 : Int)) ∧ w'.cell? ⟨b, o + 2, none⟩ = some (.int .u8 (y2 : Int)) ∧ Hid (Ext w5 w'))
      ((refine MKS.out _ ?_; repeat (first | exact Ext.rfl' _ | refine ext_alloc ?_ _ | refine ext_drew ?_ | refine ext_set ?_ (by first | omega | (simp; done) | (simp; omega)) _)))
      (fail)
    clear MKS
    obtain ⟨W6, hW6⟩ : ∃ W, W = (w5.alloc (.cells #[.int .u8 (y0 : Int), .int .u8 (y1 : Int), .int .u16 (IntKind.u16.wrap (u : Int)), .int .u16 (IntKind.u16.wrap (t : Int)), .int .u16 (IntKind.u16.wrap (gg : Int)), .int .u8 (y2 : Int)] 83)).drew := ⟨_, rfl⟩
    have hb6 := (HBR.out.alloc (.cells #[.int .u8 (y0 : Int), .int .u8 (y1 : Int), .int .u16 (IntKind.u16.wrap (u : Int)), .int .u16 (IntKind.u16.wrap (t : Int)), .int .u16 (IntKind.u16.wrap (gg : Int)), .int .u8 (y2 : Int)] 83)).drew
    have hc6 := (Blk.new w5 83 #[.int .u8 (y0 : Int), .int .u8 (y1 : Int), .int .u16 (IntKind.u16.wrap (u : Int)), .int .u16 (IntKind.u16.wrap (t : Int)), .int .u16 (IntKind.u16.wrap (gg : Int)), .int .u8 (y2 : Int)]).drew
    have HGW : Hid (w.grownBy W6 (some g)) := Lib.hid (by rw [hW6]; exact gb_drew (gb_alloc HGG.out _))
    have HSW : Hid (RSt W6 g A n c xs (some L5)) := Lib.hid (by rw [hW6, ← HQ5.out]; exact HS5.out.ext (ext_drew (ext_alloc (Ext.rfl' _) _)))
    have hwz : w.heap.size < w5.heap.size := HBR.out.lt
    rw [← hW6] at hb6 hc6 ⊢
    clear hW6
    have HB6 := Lib.hid hb6
    have z0 := fun i => hb6.cell i; have z1 := fun i => hb6.frozen i; have z2 := fun i => hc6.cell i
    clear hb6 hc6
    go_wp2_with fail
    all_goals
      have hb1 := ((((((HB6.out.set_ 0 (.int .i64 (last + (z : Int)))).set_ 1 (.int .u8 (y0 : Int))).set_ 2 (.int .u8 (y1 : Int))).set_ 3 (.int .u16 (IntKind.u16.wrap (u : Int)))).set_ 4 (.int .u16 (IntKind.u16.wrap (t : Int)))).set_ 5 (.int .u16 (IntKind.u16.wrap (gg : Int)))).set_ 6 (.int .u8 (y2 : Int))
      refine bodyPost_ret (v := .tuple #[EV (last + (z : Int)) y0 y1 (IntKind.u16.wrap (u : Int)) (IntKind.u16.wrap (t : Int)) (IntKind.u16.wrap (gg : Int)) y2, .bool (decide (En.words ⟨z, y0, y1, y2, u, t, gg⟩))]) (results_cell2 Try.results46 _ _ w.heap.size 85 _ (0, 0) _ rfl hb1 _ ?_ Try.underlying85 rfl (by kernel_rfl)) rfl ?_
    all_goals first
      | (refine ⟨gb_far (gb_far (gb_far (gb_far (gb_far (gb_far (gb_far HGW.out (Nat.le_refl _) _) (Nat.le_refl _) _) (Nat.le_refl _) _) (Nat.le_refl _) _) (Nat.le_refl _) _) (Nat.le_refl _) _) (Nat.le_refl _) _, ?_⟩
         rw [HPE.out]
         exact ⟨rfl, ((((((HSW.out.set HR0.out (Nat.le_refl _) _).set HR0.out (Nat.le_refl _) _).set HR0.out (Nat.le_refl _) _).set HR0.out (Nat.le_refl _) _).set HR0.out (Nat.le_refl _) _).set HR0.out (Nat.le_refl _) _).set HR0.out (Nat.le_refl _) _⟩)
      | (refine congrArg Value.bool (decide_eq_decide.2 ?_)
         clear z0 z1 z2
         show _ ↔ (u ≤ 65535 ∧ t ≤ 65535 ∧ gg ≤ 65535)
         rcases Nat.lt_or_ge u t with hut | hut
         · simp only [if_pos hut] at *
           omega
         · simp only [if_neg (Nat.not_lt.2 hut)] at *
           omega)
end Go.Proofs.Ytlldmpcamdginaa.Log
namespace Go.Proofs.Ytlldmpcamdginaa.Log
open Go.ChangeShapes Go.WideShapes Go.ChangeAt Go.RowKit
open Go.Proofs.Ytlldmpcamdginaa.Wire
open Go.Proofs.Ytlldmpcamdginaa.Rec
set_option linter.unusedVariables false

/-- An entry as it stands in a slice: any tick. -/
structure Ev where
  tick : Int
  player : Nat
  doing : Nat
  unit : Nat
  tile : Nat
  target : Nat
  kind : Nat
def cV (x : Ev) : List Value := [.int .i64 x.tick, .int .u8 (x.player : Int), .int .u8 (x.doing : Int), .int .u16 (x.unit : Int), .int .u16 (x.tile : Int), .int .u16 (x.target : Int), .int .u8 (x.kind : Int)]
theorem cV_len (x : Ev) : (cV x).length = 7 := rfl
def En.ev (e : En) : Ev := ⟨e.tick, e.player, e.doing, e.unit, e.tile, e.target, e.kind⟩
theorem infoE : (Try.prog.info? 85).map (fun i => (i.zero, i.size, i.bytes)) = some (some (.agg #[.int .i64 0, .int .u8 0, .int .u8 0, .int .u16 0, .int .u16 0, .int .u16 0, .int .u8 0]), 7, 24) := by kernel_rfl
theorem EV_of {x : En} (h : x.words) (last : Nat) : EV ((last : Int) + x.tick) x.player x.doing (IntKind.u16.wrap x.unit) (IntKind.u16.wrap x.tile) (IntKind.u16.wrap x.target) x.kind = .agg (cV (En.ev { x with tick := last + x.tick })).toArray := by
  obtain ⟨h1, h2, h3⟩ := h
  have hw : ∀ n : Nat, n ≤ 65535 → IntKind.u16.wrap (n : Int) = (n : Int) := fun n hn => by
    show (n : Int) % 65536 = n; omega
  unfold EV cV En.ev
  rw [hw _ h1, hw _ h2, hw _ h3, Int.natCast_add]
/-- The log of bytes, in a game of n ticks. -/
def takeL (n : Int) (L : List Nat) : Option (List En) :=
  if 0 ≤ n ∧ n ≤ 4096 then match pN L with
    | none => none
    | some (left, L1) => match pL n.toNat left 0 0 L1 with
      | some (es, []) => some es
      | _ => none
  else none
def TkPost (w : World) (n : Int) (L : List Nat) (e : Ending) (w' : World) : Prop :=
  Ext w w' ∧ match takeL n L with
  | none => ∃ x : Int, x ≠ 0 ∧ e = .returned (.tuple #[.slice none 0 0, .int .i64 x])
  | some es => ∃ v, e = .returned (.tuple #[v, .int .i64 0]) ∧ OwnR w.heap.size w' 85 7 cV v (es.map En.ev)
/-- What the rest comes to, behind these. -/
def restL (n : Nat) (done : List En) (left last each : Nat) (L : List Nat) : Option (List En) :=
  match pL n left last each L with
  | some (es, []) => some (done ++ es)
  | _ => none
theorem restL_zero (n : Nat) (done : List En) (last each : Nat) (L : List Nat) : restL n done 0 last each L = if L = [] then some done else none := by
  unfold restL pL
  cases L with
  | nil => simp
  | cons a b => simp
theorem restL_bad {n : Nat} {done : List En} {left last each : Nat} {L : List Nat} (h : pE L = none) : restL n done (left + 1) last each L = none := by
  unfold restL pL
  rw [h]
theorem restL_no {n : Nat} {done : List En} {left last each : Nat} {L R : List Nat} {x : En} (h : pE L = some (x, R)) (hn : ¬ (x.words ∧ last + x.tick < n ∧ each' last each (last + x.tick) ≤ 32)) : restL n done (left + 1) last each L = none := by
  unfold restL pL
  rw [h]
  simp only
  rw [if_neg hn]
theorem restL_yes {n : Nat} {done : List En} {left last each : Nat} {L R : List Nat} {x : En} (h : pE L = some (x, R)) (hn : x.words ∧ last + x.tick < n ∧ each' last each (last + x.tick) ≤ 32) : restL n done (left + 1) last each L = restL n (done ++ [{ x with tick := last + x.tick }]) left (last + x.tick) (each' last each (last + x.tick)) R := by
  unfold restL
  rw [pL, h]
  simp only
  rw [if_pos hn]
  cases pL n left (last + x.tick) (each' last each (last + x.tick)) R with
  | none => rfl
  | some p =>
    obtain ⟨es, R'⟩ := p
    cases R' with
    | nil => simp
    | cons a b => rfl
theorem takeL_rest {n : Int} (hn : 0 ≤ n ∧ n ≤ 4096) (L : List Nat) : takeL n L = match pN L with | none => none | some (left, L1) => restL n.toNat [] left 0 0 L1 := by
  unfold takeL restL
  rw [if_pos hn]
  cases pN L with
  | none => rfl
  | some p => obtain ⟨left, L1⟩ := p; rfl
theorem each_eq (last each tick : Nat) : eachI (last : Int) each (tick : Int) = each' last each tick := by
  unfold eachI each'
  by_cases h : tick = last
  · subst h; simp
  · rw [if_neg (by omega), if_neg h]
theorem OwnR_mono {α : Type} {b b' : Nat} {w : World} {e : TypeId} {k : Nat} {f : α → List Value} {v : Value} {xs : List α} (h : OwnR b w e k f v xs) (hb : b' ≤ b) : OwnR b' w e k f v xs := by
  rcases h with ⟨h1, h2 | ⟨g, cap, cur, r1, r2, r3⟩⟩
  · exact ⟨h1, .inl h2⟩
  · exact ⟨h1, .inr ⟨g, cap, cur, r1, Nat.le_trans hb r2, r3⟩⟩
theorem tk_ok {w w' : World} {n : Int} {L : List Nat} {es : List En} {v : Value} {b : Nat} (hE : Ext w w') (h : takeL n L = some es) (hO : OwnR b w' 85 7 cV v (es.map En.ev)) (hb : w.heap.size ≤ b) : TkPost w n L (.returned (.tuple #[v, .int .i64 0])) w' := by
  refine ⟨hE, ?_⟩; rw [h]; exact ⟨v, rfl, OwnR_mono hO hb⟩
theorem tk_bad {w w' : World} {n : Int} {L : List Nat} {x : Int} (hE : Ext w w') (h : takeL n L = none) (hx : x ≠ 0) : TkPost w n L (.returned (.tuple #[.slice none 0 0, .int .i64 x])) w' := by
  refine ⟨hE, ?_⟩; rw [h]; exact ⟨x, hx, rfl⟩
/-- Where the loop of Take stands: what is done, and what is left. -/
def GRel (w : World) (B1 B2 : Nat) (g : Nat) (A : Option Addr) (m c : Nat) (xs : List Nat) (lb eb nb n : Nat) (T : Option (List En)) (gh : Nat) (ov lv kv : Value) (wr : World) : Prop :=
  ∃ (done : List En) (last each : Nat) (st : Option (List Nat)), OwnR B2 wr 85 7 cV ov (done.map En.ev) ∧ lv = .int .i64 (last : Int) ∧ kv = .int .u64 (gh : Int) ∧ gh < 18446744073709551616 ∧ RSt wr g A m c xs st ∧
    Boxes wr lb eb nb last each n ∧ last ≤ 4096 ∧ each ≤ 32 ∧ (∀ L, st = some L → done.length + L.length ≤ m) ∧ (st = none → gh = 0) ∧ B2 ≤ wr.heap.size ∧ Ext w wr ∧ T = st.bind (restL n done gh last each)
end Go.Proofs.Ytlldmpcamdginaa.Log
namespace Go.Proofs.Ytlldmpcamdginaa.Log
open Go.ChangeShapes Go.WideShapes Go.ChangeAt Go.RowKit
open Go.Proofs.Ytlldmpcamdginaa.Wire
open Go.Proofs.Ytlldmpcamdginaa.Rec
set_option linter.unusedVariables false

theorem boxes_ext {w w' : World} {lb eb nb : Nat} {last n : Int} {each : Nat} (h : Boxes w lb eb nb last each n) (e : Ext w w') : Boxes w' lb eb nb last each n :=
  ⟨h.1.ext e, h.2.1.ext e, h.2.2.1.ext e, h.2.2.2⟩
theorem boxes_grown {w w' : World} {lb eb nb r : Nat} {last n : Int} {each : Nat} (h : Boxes w lb eb nb last each n) (e : w.grownBy w' (some r)) (h1 : lb ≠ r) (h2 : eb ≠ r) (h3 : nb ≠ r) : Boxes w' lb eb nb last each n :=
  ⟨blk_kept h.1 e h1, blk_kept h.2.1 e h2, blk_kept h.2.2.1 e h3, h.2.2.2⟩
theorem own_two {α : Type} {b lb eb : Nat} {w w' : World} {e : TypeId} {k : Nat} {f : α → List Value} {v : Value} {xs : List α} (h : OwnR b w e k f v xs) (h2 : Two w w' lb eb) (h3 : lb < b) (h4 : eb < b) : OwnR b w' e k f v xs := by
  refine ⟨h.1, ?_⟩
  rcases h.2 with hn | ⟨g, cap, cur, rfl, hb, hgg, rest⟩
  · exact .inl hn
  · exact .inr ⟨g, cap, cur, rfl, hb, (h2.2.2.2.2 g (Array.getElem?_eq_some_iff.1 hgg).1 (by omega) (by omega)).trans hgg, rest⟩
set_option maxHeartbeats 4000000 in
set_option maxRecDepth 100000 in
theorem take_st (A : Option Addr) (m c : Nat) (xs : List Nat) (n : Int) (w : World) (hB : Bs w A m xs) (hnil : A = none → m = 0 ∧ c = 0) (hm : m ≤ 1000000) :
    Calls Try.prog 14 #[.slice A m c, .int .i64 n] w (TkPost w n xs) := by
  have HT := Lib.hid (ticks_any n w)
  have HOF := Lib.hid (fun (w' : World) (e : Ext w w') => of_st A m c xs w' (hB.ext e) hnil (by omega))
  have HLEN := Lib.hid hB.1
  clear hB
  by_cases hn : 0 ≤ n ∧ n ≤ 4096
  · rw [decide_eq_true hn] at HT
    obtain ⟨nn, rfl⟩ : ∃ nn : Nat, n = (nn : Int) := ⟨n.toNat, by omega⟩
    have HTR := Lib.hid (takeL_rest hn xs)
    rw [Int.toNat_natCast] at HTR
    have hn2 : nn ≤ 4096 := by omega
    clear hn
    go_enter Try.func14, Try.ntmps14
    go_wp2_with fail
    go_step3
    go_wp2_with fail
    refine (HT.out).mono ?_
    rintro e w1 ⟨rfl, hE1⟩
    have HE1 := Lib.hid hE1; clear hE1
    go_wp2_with fail
    refine (HOF.out w1 HE1.out).mono ?_
    rintro e w2 ⟨g, A', c', rfl, hg, hS, hE2, hfar⟩
    have HE2 := Lib.hid (ext_trans HE1.out hE2)
    have HR0 := Lib.hid hS.rin
    have HS2 := Lib.hid hS; have HG0 := Lib.hid hg; have HFAR := Lib.hid hfar
    clear hE2 hS hg hfar
    have HP := Lib.hid (pace (nn : Int) w2)
    go_wp2_with fail
    refine (HP.out).mono ?_
    rintro e w3 ⟨v, rfl, ⟨lb, eb, nb, rfl, hbx, hb1, hb2, hb3⟩, hE3⟩
    have HE3 := Lib.hid hE3; have HBX := Lib.hid hbx
    have HBL : Hid (w2.heap.size ≤ lb ∧ w2.heap.size ≤ eb ∧ w2.heap.size ≤ nb ∧ lb < w3.heap.size ∧ eb < w3.heap.size ∧ nb < w3.heap.size ∧ w.heap.size ≤ w2.heap.size ∧ w.heap.size ≤ g) :=
      Lib.hid ⟨hb1, hb2, hb3, Blk.lt hbx.1, Blk.lt hbx.2.1, Blk.lt hbx.2.2.1, HE2.out.size, Nat.le_trans HE1.out.size HG0.out⟩
    clear hE3 hbx hb1 hb2 hb3
    have HN := Lib.hid (num_st g m c' A' xs _ w3 (HS2.out.ext HE3.out))
    go_wp2_with fail
    refine (HN.out).mono ?_
    rintro e w4 ⟨rfl, hz4, hS4, hG4⟩
    have hE4 : Ext w w4 := ext_grown (ext_trans HE2.out HE3.out) hG4 (fun k e => by cases e; exact HBL.out.2.2.2.2.2.2.2)
    have hbx4 : Boxes w4 lb eb nb 0 0 nn := boxes_grown HBX.out hG4 (by have := HBL.out; have := HR0.out.1; omega) (by have := HBL.out; have := HR0.out.1; omega) (by have := HBL.out; have := HR0.out.1; omega)
    have HREL : Hid (GRel w w2.heap.size w3.heap.size g A' m c' xs lb eb nb nn (takeL nn xs) (va pN 0 (some xs)) (.slice none 0 0) (.int .i64 0) (.int .u64 ((va pN 0 (some xs) : Nat) : Int)) w4) := Lib.hid <| by
      refine ⟨[], 0, 0, nx pN (some xs), OwnR.nil _ _ _ _ _, rfl, rfl, hz4, hS4, hbx4, by omega, by omega, ?_, ?_, hG4.size, hE4, ?_⟩
      · intro L hL
        cases hp : pN xs with
        | none => simp [nx, hp] at hL
        | some q =>
          obtain ⟨x, R⟩ := q
          simp [nx, hp] at hL
          subst hL
          have hq := congrArg List.length (pN_ok HS2.out.small hp).1
          rw [List.length_append, HLEN.out] at hq
          simp only [List.length_nil]
          omega
      · intro h0
        cases hp : pN xs with
        | none => simp [va, hp]
        | some q => simp [nx, hp] at h0
      · rw [HTR.out]
        cases hp : pN xs with
        | none => simp [nx, hp]
        | some q => simp [nx, va, hp]
    generalize va pN 0 (some xs) = left at *
    obtain ⟨T, hTk⟩ : ∃ T, takeL nn xs = T := ⟨_, rfl⟩
    rw [hTk] at HREL
    have HTK := Lib.hid hTk; clear hTk
    have HE4 := Lib.hid hE4
    clear hz4 hS4 hG4 hE4 hbx4 HN HP HTR HOF HT hnil HS2 HBX HFAR HE3
    generalize hB1 : w2.heap.size = B1 at *
    generalize hB2 : w3.heap.size = B2 at *
    clear hB1 hB2
    go_wp2_with fail
    go_step3
    go_wp2_with fail
    go_loopg [8, 9, 10] left (fun gh ov lv kv wr => GRel w B1 B2 g A' m c' xs lb eb nb nn T gh ov lv kv wr)
    case atStart => exact HREL.out
    case round =>
      obtain ⟨done, last, each, st, hO, rfl, rfl, hgh, hS, hbx, hl1, he1, hlen, hst, hsz, hE, hT⟩ := hrel
      obtain ⟨gh, rfl⟩ : ∃ gh : Nat, gh = gk := ⟨_, rfl⟩
      have HO := Lib.hid hO; have HS := Lib.hid hS; have HBX := Lib.hid hbx; have HLE := Lib.hid hlen; have HST := Lib.hid hst; have HSZ := Lib.hid hsz; have HE := Lib.hid hE; have HTT := Lib.hid hT
      clear hO hS hbx hlen hst hsz hE hT HREL
      cases gh with
      | zero =>
        have HEN := Lib.hid (end_st g m c' A' xs st wr HS.out)
        go_wp2_with fail
        refine (HEN.out).mono ?_
        rintro e w5 ⟨x, rfl, hx, hE5⟩
        have HE5 := Lib.hid hE5; have HX := Lib.hid hx; clear hE5 hx
        have HEF := Lib.hid (ext_trans HE.out HE5.out)
        by_cases hx0 : x = 0
        · have HST0 := Lib.hid (HX.out.1 hx0)
          subst hx0
          have HO5 := Lib.hid (HO.out.ext HE5.out)
          have HTF : Hid (takeL nn xs = some done) := Lib.hid (by rw [HTK.out, HTT.out, HST0.out, Option.bind_some, restL_zero, if_pos rfl])
          go_wp2_with fail
          try rw [Exit.noGoto_ret]
          go_ret2
          exact tk_ok HEF.out HTF.out HO5.out (by have := HBL.out; have := HSZ.out; omega)
        · have HTF : Hid (takeL nn xs = none) := Lib.hid (by
            rw [HTK.out, HTT.out]
            cases hst : st with
            | none => rfl
            | some L =>
              rw [Option.bind_some, restL_zero, if_neg (fun h => hx0 (HX.out.2 (by rw [hst, h])))])
          go_wp2_with fail
          try rw [Exit.noGoto_ret]
          go_ret2
          exact tk_bad HEF.out HTF.out hx0
      | succ gh =>
        have hst2 : ∃ L, st = some L := by
          cases hq : st with
          | none => exact absurd (HST.out hq) (by omega)
          | some L => exact ⟨L, rfl⟩
        obtain ⟨L, rfl⟩ := hst2
        have HSM := Lib.hid HS.out.small
        have HLN := Lib.hid (HLE.out L rfl)
        have HEN := Lib.hid (entry_st g m c' A' xs L (last : Int) (by omega) (by omega) wr HS.out)
        have hghi : (0 : Int) < ((gh + 1 : Nat) : Int) := by omega
        clear HST HLE
        go_wp2_with fail
        refine (HEN.out).mono ?_
        rintro e w5 ⟨hG5, hm5⟩
        have HG5 := Lib.hid hG5
        clear hG5
        have HE5 : Hid (Ext w w5) := Lib.hid (ext_grown HE.out HG5.out (fun k e => by cases e; exact HBL.out.2.2.2.2.2.2.2))
        have HBX5 := Lib.hid (boxes_grown HBX.out HG5.out (by have := HBL.out; have := HR0.out.1; omega) (by have := HBL.out; have := HR0.out.1; omega) (by have := HBL.out; have := HR0.out.1; omega))
        have HO5 := Lib.hid (HO.out.grown HG5.out (by have := HBL.out; have := HR0.out.1; omega))
        have HSZ5 := Lib.hid (Nat.le_trans HSZ.out HG5.out.size)
        clear HO HBX HS HE HEN
        cases hpe : pE L with
        | none =>
          rw [hpe] at hm5
          obtain ⟨rfl, hS5⟩ := hm5
          have HPE := Lib.hid hpe; have HS5 := Lib.hid hS5; clear hpe hS5
          have HTF : Hid (takeL nn xs = none) := Lib.hid (by rw [HTK.out, HTT.out, Option.bind_some, restL_bad HPE.out])
          have HER := Lib.hid (fun (w' : World) (e : Ext w5 w') => err_st g m c' A' xs none w' (HS5.out.ext e))
          have HEN := Lib.hid (fun (w' : World) (e : Ext w5 w') => end_st g m c' A' xs none w' (HS5.out.ext e))
          clear HO5 HBX5
          unfold EV
          go_wp2_with fail
          refine (HER.out _ (ext_alloc (Ext.rfl' _) _)).mono ?_
          rintro e w6 ⟨x, rfl, hx, rfl⟩
          have hx1 : ¬ x = 0 := hx.2 (by trivial)
          clear hx
          go_wp2_with fail
          refine (HEN.out _ (ext_alloc (Ext.rfl' _) _)).mono ?_
          rintro e w7 ⟨y, rfl, hy, hE7⟩
          have hy1 : ¬ y = 0 := fun h => by have := hy.1 h; cases this
          have HE7 := Lib.hid (ext_trans (ext_alloc HE5.out _) hE7)
          clear hy hE7
          go_wp2_with fail
          try rw [Exit.noGoto_ret]
          go_ret2
          exact tk_bad HE7.out HTF.out hy1
        | some q =>
          obtain ⟨x, R⟩ := q
          rw [hpe] at hm5
          obtain ⟨rfl, hS5⟩ := hm5
          have HPE := Lib.hid hpe; have HS5 := Lib.hid hS5; clear hpe
          obtain ⟨p1, p2, p3, p4, p5, p6, p7, p8⟩ := pE_ok HSM.out HPE.out last
          have HP1 := Lib.hid p1
          clear p1 hS5
          have HER := Lib.hid (fun (w' : World) (e : Ext w5 w') => err_st g m c' A' xs (some R) w' (HS5.out.ext e))
          have HTI : Hid ((last : Int) + (x.tick : Int) = ((last + x.tick : Nat) : Int)) := Lib.hid (by omega)
          rw [HTI.out]
          have HRE : Hid (∀ t0 u0 : Nat, True) := Lib.hid (fun _ _ => trivial)
          have HWD : Hid (x.words → IntKind.u16.wrap (x.unit : Int) = x.unit ∧ IntKind.u16.wrap (x.tile : Int) = x.tile ∧ IntKind.u16.wrap (x.target : Int) = x.target) := Lib.hid (fun ⟨h1, h2, h3⟩ => by
            have hw : ∀ n : Nat, n ≤ 65535 → IntKind.u16.wrap (n : Int) = (n : Int) := fun n hn => by
              show (n : Int) % 65536 = n; omega
            exact ⟨hw _ h1, hw _ h2, hw _ h3⟩)
          generalize IntKind.u16.wrap (x.unit : Int) = U at *
          generalize IntKind.u16.wrap (x.tile : Int) = V at *
          generalize IntKind.u16.wrap (x.target : Int) = G at *
          unfold EV
          have htk : last + x.tick ≤ 2147487743 := by omega
          obtain ⟨tick, hti⟩ : ∃ t, t = last + x.tick := ⟨_, rfl⟩
          rw [← hti] at HTI htk ⊢
          have HTE := Lib.hid hti; clear hti
          by_cases hw : x.words
          · rw [decide_eq_true hw]
            have HW := Lib.hid hw; clear hw
            have HPC := Lib.hid (fun (w' : World) (h : Boxes w' lb eb nb (last : Int) each nn) => pace1 lb eb nb (last : Int) (tick : Int) nn each w' h (by omega))
            go_wp2_with fail
            refine (HER.out _ (ext_alloc (Ext.rfl' _) _)).mono ?_
            rintro e w6 ⟨y, rfl, hy, rfl⟩
            have hy1 : y = 0 := by
              by_cases h0 : y = 0
              · exact h0
              · have := hy.1 h0; cases this
            subst hy1
            clear hy
            go_wp2_with fail
            refine (HPC.out _ (boxes_ext HBX5.out (ext_alloc (Ext.rfl' _) _))).mono ?_
            rintro e w7 ⟨rfl, hbx7, h2w⟩
            rw [each_eq] at hbx7 ⊢
            have HBX7 := Lib.hid hbx7; have H2W := Lib.hid h2w
            have hb6 := Blk.new w5 85 #[.int .i64 (tick : Int), .int .u8 (x.player : Int), .int .u8 (x.doing : Int), .int .u16 U, .int .u16 V, .int .u16 G, .int .u8 (x.kind : Int)]
            have hk6 : ∀ k, k ≠ lb → k ≠ eb → k < (w5.alloc (.cells #[.int .i64 (tick : Int), .int .u8 (x.player : Int), .int .u8 (x.doing : Int), .int .u16 U, .int .u16 V, .int .u16 G, .int .u8 (x.kind : Int)] 85)).heap.size → w7.heap[k]? = (w5.alloc (.cells #[.int .i64 (tick : Int), .int .u8 (x.player : Int), .int .u8 (x.doing : Int), .int .u16 U, .int .u16 V, .int .u16 G, .int .u8 (x.kind : Int)] 85)).heap[k]? := fun k h1 h2 h3 => h2w.2.2.2.2 k h3 h1 h2
            have hb7 : Blk w7 w5.heap.size 85 #[.int .i64 (tick : Int), .int .u8 (x.player : Int), .int .u8 (x.doing : Int), .int .u16 U, .int .u16 V, .int .u16 G, .int .u8 (x.kind : Int)] :=
              (hk6 _ (by have := HBL.out; have := HSZ5.out; omega) (by have := HBL.out; have := HSZ5.out; omega) hb6.lt).trans hb6
            have HE7 : Hid (Ext w w7) := Lib.hid (h2w.ext (ext_alloc HE5.out _) (by have := HBL.out; omega) (by have := HBL.out; omega))
            have HS7 : Hid (RSt w7 g A' m c' xs (some R)) := Lib.hid <| by
              have hs6 := HS5.out.ext (ext_alloc (Ext.rfl' w5) (.cells #[.int .i64 (tick : Int), .int .u8 (x.player : Int), .int .u8 (x.doing : Int), .int .u16 U, .int .u16 V, .int .u16 G, .int .u8 (x.kind : Int)] 85))
              refine hs6.keep HR0.out (fun k hk => hk6 k (by have := HBL.out; omega) (by have := HBL.out; omega) ?_) h2w.2.2.2.1
              rw [World.size_alloc]; have := HBL.out; have := HSZ5.out; omega
            have HO7 : Hid (OwnR B2 w7 85 7 cV u8 (done.map En.ev)) := Lib.hid <| by
              have ho6 := HO5.out.ext (ext_alloc (Ext.rfl' w5) (.cells #[.int .i64 (tick : Int), .int .u8 (x.player : Int), .int .u8 (x.doing : Int), .int .u16 U, .int .u16 V, .int .u16 G, .int .u8 (x.kind : Int)] 85))
              exact own_two ho6 h2w (by have := HBL.out; omega) (by have := HBL.out; omega)
            have HB7 := Lib.hid hb7
            clear hbx7 h2w hb6 hk6 hb7 HPC HBX5 HO5 HS5
            by_cases hp : tick < nn ∧ each' last each tick ≤ 32
            · rw [decide_eq_true (show (last : Int) ≤ (tick : Int) ∧ (tick : Int) < (nn : Int) ∧ each' last each tick ≤ 32 from ⟨by have := HTE.out; omega, by omega, hp.2⟩)]
              have z0 := fun i => HB7.out.cell i
              have hw7 : w5.heap.size < w7.heap.size := HB7.out.lt
              have HHP := Lib.hid hp
              clear hp
              obtain ⟨rfl, rfl, rfl⟩ := HWD.out HW.out
              have HSRC := Lib.hid (src_rec (P := Try.prog) (e' := 85) Try.underlying37 w7 (cV ⟨(tick : Int), x.player, x.doing, x.unit, x.tile, x.target, x.kind⟩) rfl (by intro u hu; simp [cV] at hu; rcases hu with rfl | rfl | rfl | rfl | rfl | rfl | rfl <;> rfl) 1)
              have HEA := Lib.hid (ext_alloc (Ext.rfl' w7) (.cells (cV ⟨(tick : Int), x.player, x.doing, x.unit, x.tile, x.target, x.kind⟩).toArray 85))
              have HO8 := Lib.hid (HO7.out.ext HEA.out)
              have HSZ8 : Hid (B2 ≤ (w7.alloc (.cells (cV ⟨(tick : Int), x.player, x.doing, x.unit, x.tile, x.target, x.kind⟩).toArray 85)).heap.size) := Lib.hid (by rw [World.size_alloc]; have := HSZ5.out; omega)
              have HDL : Hid ((done.map En.ev).length ≤ 100000000) := Lib.hid (by rw [List.length_map]; have := HLN.out; omega)
              go_wp2_with (at_builtin; refine wpList_rec rfl (.tmp 49) (.tmp 51) 37 85 7 24 _ cV rfl Try.underlying37 infoE rfl (by decide) _ _ (done.map En.ev) ⟨(tick : Int), x.player, x.doing, x.unit, x.tile, x.target, x.kind⟩ rfl rfl HO8.out HSZ8.out HSRC.out HDL.out ?_; intro v9 w9 hown9 hgr9; have HO9 := Lib.hid hown9; have HG9 := Lib.hid hgr9; clear hown9 hgr9)
              go_roundg gh
              case measure => omega
              case rel =>
                have hob : ∀ k, u8.ownBlock = some k → B2 ≤ k := fun k e => (World.ownsRow.lt HO8.out k e).1
                have hkeep : ∀ k, k < B2 → w9.heap[k]? = (w7.alloc (.cells (cV ⟨(tick : Int), x.player, x.doing, x.unit, x.tile, x.target, x.kind⟩).toArray 85)).heap[k]? := fun k hk =>
                  HG9.out.block k (Nat.lt_of_lt_of_le hk HSZ8.out) (fun e => by have := hob k e.symm; omega)
                obtain ⟨b1, b2, b3, b4, b5, b6, b7, b8⟩ := HBL.out
                have hb8 := boxes_ext HBX7.out HEA.out
                have hlL : L.length = (enc1 last ⟨last + x.tick, x.player, x.doing, x.kind, x.unit, x.tile, x.target⟩).length + R.length := by
                  have := congrArg List.length HP1.out
                  rwa [List.length_append] at this
                rw [enc1_len] at hlL
                refine ⟨done ++ [⟨tick, x.player, x.doing, x.kind, x.unit, x.tile, x.target⟩], tick, each' last each tick, some R, ?_, rfl, rfl, by omega, ?_, ?_, ?_, HHP.out.2, ?_, ?_, ?_, ?_, ?_⟩
                · rw [List.map_append]; exact HO9.out
                · exact (HS7.out.ext HEA.out).keep HR0.out (fun k hk => hkeep k (by omega)) HG9.out.size
                · exact ⟨(hkeep lb b4).trans hb8.1, (hkeep eb b5).trans hb8.2.1, (hkeep nb b6).trans hb8.2.2.1, hb8.2.2.2⟩
                · have := HHP.out.1; omega
                · intro L2 hL2
                  obtain rfl := Option.some.inj hL2
                  have := HLN.out
                  rw [List.length_append, List.length_singleton]
                  omega
                · intro h; cases h
                · exact Nat.le_trans HSZ8.out HG9.out.size
                · exact ext_grown (ext_trans HE7.out HEA.out) HG9.out (fun k e => by have := hob k e; omega)
                · rw [HTT.out, Option.bind_some, restL_yes HPE.out ⟨HW.out, by rw [← HTE.out]; exact HHP.out⟩, ← HTE.out]
                  rfl
            · rw [decide_eq_false (show ¬ ((last : Int) ≤ (tick : Int) ∧ (tick : Int) < (nn : Int) ∧ each' last each tick ≤ 32) from fun h => hp ⟨by omega, h.2.2⟩)]
              have HTF : Hid (takeL nn xs = none) := Lib.hid (by
                rw [HTK.out, HTT.out, Option.bind_some, restL_no HPE.out (fun h => hp ?_)]
                rw [← HTE.out] at h
                exact h.2)
              clear hp
              go_wp2_with fail
              try rw [Exit.noGoto_ret]
              go_ret2
              exact tk_bad HE7.out HTF.out (by decide)
          · rw [decide_eq_false hw]
            have HTF : Hid (takeL nn xs = none) := Lib.hid (by
              rw [HTK.out, HTT.out, Option.bind_some, restL_no HPE.out (fun h => hw h.1)])
            clear hw
            go_wp2_with fail
            refine (HER.out _ (ext_alloc (Ext.rfl' _) _)).mono ?_
            rintro e w6 ⟨y, rfl, hy, rfl⟩
            have hy1 : y = 0 := by
              by_cases h0 : y = 0
              · exact h0
              · have := hy.1 h0; cases this
            subst hy1
            clear hy
            have HE7 := Lib.hid (ext_alloc HE5.out (.cells #[.int .i64 (tick : Int), .int .u8 (x.player : Int), .int .u8 (x.doing : Int), .int .u16 U, .int .u16 V, .int .u16 G, .int .u8 (x.kind : Int)] 85))
            go_wp2_with fail
            try rw [Exit.noGoto_ret]
            go_ret2
            exact tk_bad HE7.out HTF.out (by decide)
  · rw [decide_eq_false hn] at HT
    have HTF : Hid (takeL n xs = none) := Lib.hid (by unfold takeL; rw [if_neg hn])
    clear hn
    go_enter Try.func14, Try.ntmps14
    go_wp2_with fail
    go_step3
    go_wp2_with fail
    refine (HT.out).mono ?_
    rintro e w1 ⟨rfl, hE1⟩
    have HE1 := Lib.hid hE1; clear hE1
    go_wp2_with fail
    try rw [Exit.noGoto_ret]
    go_ret2
    exact tk_bad HE1.out HTF.out (by decide)
end Go.Proofs.Ytlldmpcamdginaa.Log
