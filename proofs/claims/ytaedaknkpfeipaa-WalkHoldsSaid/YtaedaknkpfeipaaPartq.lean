/- The statements' Right. -/
import Derived.Test.YtaedaknkpfeipaaPartp
import Derived.Test.YtaedaknkpfeipaaPartn
import Derived.RangeFuncNested
import Derived.RangeFuncBound
import Derived.RangeFuncCalls
import Derived.RangeFuncLeaves
import Derived.Test.YtaedaknkpfeipaaParte
import Derived.Test.YtaedaknkpfeipaaParto
import Derived.StillTail
import Derived.Test.YtaedaknkpfeipaaPartk
import Derived.Test.YtaedaknkpfeipaaParti
import Derived.Test.YtaedaknkpfeipaaParth
import Derived.Test.YtaedaknkpfeipaaPartf
namespace Go.Proofs.Ytaedaknkpfeipaa
open Go.RowKit Go.MagM Go.Shelf
attribute [local go_sem] Oper.semAt_some
theorem box_own {β : Type} (B : Nat) (b : Nat) (f : β → List Value) : OwnFrom B (fun (s : β) W => Box W b (f s)) := fun _ _ _ _ hs hg hr =>
  ⟨fun j u hj => cell_kept (hs.c j u hj) hg (fun r e => (hr r e).2), fun j u hj => (frozen_kept (hs.c j u hj) hg (fun r e => (hr r e).2)).trans (hs.f j u hj)⟩
theorem setFrom_size (g : Nat) : ∀ (xs : List Value) (i : Nat) (w : World), (setAll w g i xs).heap.size = w.heap.size
  | [], _, _ => rfl
  | x :: xs, i, w => by rw [setAll, setFrom_size g xs]; simp
theorem setAll_size' (w : World) (g : Nat) (xs : List Value) : (setAll w g 0 xs).heap.size = w.heap.size := setFrom_size g xs 0 w
/-- The blocks that Right's loop leaves as they are. -/
def RPb (n : Nat) : Nat → Prop := fun b => b < n + 8 ∧ b ≠ n + 4 ∧ b ≠ n + 5 ∧ b ≠ n + 6
theorem rpb_low {n b : Nat} (h : b < n) : RPb n b := ⟨by omega, by omega, by omega, by omega⟩
theorem rpb_seven (n : Nat) : RPb n (n + 1 + 1 + 1 + 1 + 1 + 1 + 1) := ⟨by omega, by omega, by omega, by omega⟩
theorem keepsOthers_below {W W' : World} (h : Below W.heap.size W W') : KeepsOthers W W' := ⟨h.size, fun k _ hk _ => (h.block k (Array.getElem?_eq_some_iff.1 hk).1).trans hk⟩
theorem keepB_set {Pb : Nat → Prop} {A B : World} (h : KeepB Pb A B) {g i : Nat} (hg : ¬ Pb g) (v : Value) : KeepB Pb A (B.setCell ⟨g, i, none⟩ v) := fun b hb => by
  rw [heap_set_far _ _ _ _ _ (fun e => hg (by rw [← e]; exact hb))]; exact h b hb
/-- What stands in a round of Right's loop. -/
structure RightR (w W9 W : World) (yb : Nat) (U : TriM) (ins : Bool) (at_ e0 e1 : Int) (wr : World) : Prop where
  ko : KeepsOthers W wr
  kb : KeepB (RPb w.heap.size) W9 wr
  kw : KeepB (RPb w.heap.size) W wr
  bl : Below w.heap.size w wr
  pi : Box wr (w.heap.size + 4) [.bool ins]
  pa : Box wr (w.heap.size + 5) [.int .i64 at_]
  pe : Box wr (w.heap.size + 6) [.int .i64 e0, .int .i64 e1]
  py : Box wr yb U.cells
  hyb : w.heap.size + 8 ≤ yb
theorem RightR.below {w W9 W : World} {yb : Nat} {U : TriM} {ins : Bool} {at_ e0 e1 : Int} {wr w' : World} (h : RightR w W9 W yb U ins at_ e0 e1 wr) (hb : Below wr.heap.size wr w') : RightR w W9 W yb U ins at_ e0 e1 w' :=
  have hl : w.heap.size + 8 ≤ wr.heap.size := by have := h.py.lt; have := h.hyb; omega
  have hk : KeepB (RPb w.heap.size) wr w' := KeepB.of_below hb (fun b hb => by have := hb.1; omega)
  ⟨h.ko.trans (keepsOthers_below hb), h.kb.trans hk, h.kw.trans hk, h.bl.trans (hb.mono h.bl.size), h.pi.below hb, h.pa.below hb, h.pe.below hb, h.py.below hb, h.hyb⟩
theorem RightR.setA {w W9 W : World} {yb : Nat} {U : TriM} {ins : Bool} {at_ e0 e1 : Int} {wr : World} (h : RightR w W9 W yb U ins at_ e0 e1 wr) (v : Int) : RightR w W9 W yb U ins v e0 e1 (wr.setCell ⟨w.heap.size + 5, 0, none⟩ (.int .i64 v)) :=
  have hn : ¬ RPb w.heap.size (w.heap.size + 5) := fun hb => hb.2.2.1 rfl
  have hy := h.hyb
  ⟨h.ko.trans (KeepsOthers.setCell _ _ _), keepB_set h.kb hn _, keepB_set h.kw hn _, h.bl.setCell (p := ⟨w.heap.size + 5, 0, none⟩) (by simp only []; omega) _, h.pi.far (by omega) _ _, h.pa.set 0 _, h.pe.far (by omega) _ _, h.py.far (by omega) _ _, hy⟩
theorem RightR.setE {w W9 W : World} {yb : Nat} {U : TriM} {ins : Bool} {at_ e0 e1 : Int} {wr : World} (h : RightR w W9 W yb U ins at_ e0 e1 wr) (u v : Int) : RightR w W9 W yb U ins at_ u v ((wr.setCell ⟨w.heap.size + 6, 0, none⟩ (.int .i64 u)).setCell ⟨w.heap.size + 6, 1, none⟩ (.int .i64 v)) :=
  have hn : ¬ RPb w.heap.size (w.heap.size + 6) := fun hb => hb.2.2.2 rfl
  have hy := h.hyb
  ⟨(h.ko.trans (KeepsOthers.setCell _ _ _)).trans (KeepsOthers.setCell _ _ _), keepB_set (keepB_set h.kb hn _) hn _, keepB_set (keepB_set h.kw hn _) hn _, (h.bl.setCell (p := ⟨w.heap.size + 6, 0, none⟩) (by simp only []; omega) _).setCell (p := ⟨w.heap.size + 6, 1, none⟩) (by simp only []; omega) _, (h.pi.far (by omega) _ _).far (by omega) _ _, (h.pa.far (by omega) _ _).far (by omega) _ _, (h.pe.set 0 _).set 1 _, (h.py.far (by omega) _ _).far (by omega) _ _, hy⟩
theorem RightR.setI {w W9 W : World} {yb : Nat} {U : TriM} {ins : Bool} {at_ e0 e1 : Int} {wr : World} (h : RightR w W9 W yb U ins at_ e0 e1 wr) (v : Bool) : RightR w W9 W yb U v at_ e0 e1 (wr.setCell ⟨w.heap.size + 4, 0, none⟩ (.bool v)) :=
  have hn : ¬ RPb w.heap.size (w.heap.size + 4) := fun hb => hb.2.1 rfl
  have hy := h.hyb
  ⟨h.ko.trans (KeepsOthers.setCell _ _ _), keepB_set h.kb hn _, keepB_set h.kw hn _, h.bl.setCell (p := ⟨w.heap.size + 4, 0, none⟩) (by simp only []; omega) _, h.pi.set 0 _, h.pa.far (by omega) _ _, h.pe.far (by omega) _ _, h.py.far (by omega) _ _, hy⟩
def cnP (P : List (Int × Int)) (T : TriM) (p : Int × Int) : Nat → Nat
  | 0 => 0
  | i + 1 => cnP P T p i + if sideT P T i p = 1 then 1 else 0
def cnZ (P : List (Int × Int)) (T : TriM) (p : Int × Int) : Nat → Nat
  | 0 => 0
  | i + 1 => cnZ P T p i + if sideT P T i p = 0 then 1 else 0
theorem cnP_le (P : List (Int × Int)) (T : TriM) (p : Int × Int) : ∀ i, cnP P T p i ≤ i
  | 0 => Nat.le_refl _
  | i + 1 => by have := cnP_le P T p i; unfold cnP; split <;> omega
theorem cnZ_le (P : List (Int × Int)) (T : TriM) (p : Int × Int) : ∀ i, cnZ P T p i ≤ i
  | 0 => Nat.le_refl _
  | i + 1 => by have := cnZ_le P T p i; unfold cnZ; split <;> omega
theorem side_three (P : List (Int × Int)) (T : TriM) (i : Nat) (p : Int × Int) : sideT P T i p = 1 ∨ sideT P T i p = 0 ∨ sideT P T i p = -1 := by
  rw [sideT_is]
  rcases Int.lt_trichotomy (crP (ptT P T ((i + 1) % 3)) (ptT P T ((i + 2) % 3)) p) 0 with h | h | h
  · rw [Int.sign_eq_neg_one_of_neg h]; omega
  · rw [h]; simp
  · rw [Int.sign_eq_one_of_pos h]; omega
theorem cn_three (P : List (Int × Int)) (T : TriM) (p : Int × Int) : decide (cnP P T p 3 + cnZ P T p 3 = 3) = holdsT P T p := by
  have s0 := side_three P T 0 p; have s1 := side_three P T 1 p; have s2 := side_three P T 2 p
  rw [Bool.eq_iff_iff, decide_eq_true_eq]
  unfold holdsT
  simp only [cnP, cnZ, Bool.and_eq_true, decide_eq_true_eq]
  rcases s0 with e0 | e0 | e0 <;> rcases s1 with e1 | e1 | e1 <;> rcases s2 with e2 | e2 | e2 <;> rw [e0, e1, e2] <;> decide
theorem box_keep {Pb : Nat → Prop} {A B : World} {b : Nat} {l : List Value} (h : Box A b l) (hk : KeepB Pb A B) (hb : Pb b) : Box B b l :=
  ⟨fun j u hj => (hk.cell hb).trans (h.c j u hj), fun j u hj => (World.frozen?_of_block (a := ⟨b, j, none⟩) (hk b hb)).trans (h.f j u hj)⟩
theorem box9_at {w : World} {g : Nat} {T : TriM} (h : Box w g T.cells) {k : Nat} (hk : k < 3) : w.cell? ⟨g, k, none⟩ = some (.int .i64 (T.v k)) := by
  obtain rfl | rfl | rfl : k = 0 ∨ k = 1 ∨ k = 2 := by omega
  · exact h.c 0 _ rfl
  · exact h.c 1 _ rfl
  · exact h.c 2 _ rfl
theorem min2_run (a b : Nat) (w : World) : Sem.run Try.prog (Builtin.min_ #[3, 3] 3 #[.int .i64 (a : Int), .int .i64 (b : Int)]) w = Result.ok (Value.int .i64 (min (a : Int) (b : Int))) w := by
  rw [run_min_int2, show (if (b : Int) < (a : Int) then (b : Int) else (a : Int)) = min (a : Int) (b : Int) by rw [Int.min_def]; split <;> split <;> omega]
theorem max2_run (a b : Nat) (w : World) : Sem.run Try.prog (Builtin.max_ #[3, 3] 3 #[.int .i64 (a : Int), .int .i64 (b : Int)]) w = Result.ok (Value.int .i64 (max (a : Int) (b : Int))) w := by
  rw [run_max_int2, show (if (b : Int) > (a : Int) then (b : Int) else (a : Int)) = max (a : Int) (b : Int) by rw [Int.max_def]; split <;> split <;> omega]
theorem run_equalIn_array2 {P : Program} (w : World) (d : Nat) (t e : TypeId) (k : IntKind) (ht : P.underlying t = some (.array 2 e)) (he : P.underlying e = some (.int k)) (ha : ∀ w, (isAgg e).run P w = .ok false w) (hs : ∀ w, (sizeOf e).run P w = .ok 1 w) (a b x y : Int) :
    (Op.equalIn (d + 2) t (.agg #[.int k a, .int k b]) (.agg #[.int k x, .int k y])).run P w = .ok (decide (a = x ∧ b = y)) w := by
  have hi : ∀ (a b : Int) (w : World), (Op.equalIn (d + 1) e (.int k a) (.int k b)).run P w = .ok (a == b) w := fun a b w => run_equalIn_int w d e k k a b he
  have hp0 : ∀ (u v : Value) (w : World), (part e #[u, v] 0).run P w = .ok u w := fun u v w => by simp [part, ha, Sem.run_bind, Result.andThen]
  have hp1 : ∀ (u v : Value) (w : World), (part e #[u, v] 1).run P w = .ok v w := fun u v w => by simp [part, ha, Sem.run_bind, Result.andThen]
  rw [show d + 2 = (d + 1) + 1 from rfl]
  rw [Op.equalIn]
  simp only [Sem.run_bind, run_underlying ht, Result.andThen_ok, hs, Std.Legacy.Range.forIn_eq_forIn_range', Std.Legacy.Range.size]
  simp [List.range', Sem.run_bind, hp0, hi, Result.andThen]
  by_cases h1 : a = x <;> by_cases h2 : b = y <;> simp [h1, h2, hp1, hi, Result.andThen, Sem.run_pure]
theorem eq2_run (w : World) (a b x y : Int) : Sem.run Try.prog (binOp BinOp.eql 48 (Value.agg #[.int .i64 a, .int .i64 b]) (Value.agg #[.int .i64 x, .int .i64 y])) w = Result.ok (Value.bool (decide (a = x ∧ b = y))) w := by
  rw [run_eql_struct, show (10000 : Nat) = 9998 + 2 from rfl, run_equalIn_array2 w 9998 48 3 .i64 Try.underlying48 Try.underlying3 (fun w => by kernel_rfl) (fun w => by kernel_rfl)]
  rfl
theorem neq2_run (w : World) (a b x y : Int) : Sem.run Try.prog (binOp BinOp.neq 48 (Value.agg #[.int .i64 a, .int .i64 b]) (Value.agg #[.int .i64 x, .int .i64 y])) w = Result.ok (Value.bool (!decide (a = x ∧ b = y))) w := by
  rw [run_neq_struct, show (10000 : Nat) = 9998 + 2 from rfl, run_equalIn_array2 w 9998 48 3 .i64 Try.underlying48 Try.underlying3 (fun w => by kernel_rfl) (fun w => by kernel_rfl)]
  rfl
theorem place_ghost {T : TriM} {j : Nat} (hj : j < 3) (h0 : T.v j = -1) (h1 : 0 ≤ T.v ((j + 1) % 3)) (h2 : 0 ≤ T.v ((j + 2) % 3)) : placeT T (-1) = (j : Int) := by
  obtain rfl | rfl | rfl : j = 0 ∨ j = 1 ∨ j = 2 := by omega
  · have e : T.v0 = -1 := h0
    unfold placeT; rw [if_pos e.symm]; rfl
  · have e : T.v1 = -1 := h0
    have e2 : 0 ≤ T.v0 := h2
    unfold placeT; rw [if_neg (by omega), if_pos e.symm]; rfl
  · have e : T.v2 = -1 := h0
    have e2 : 0 ≤ T.v0 := h1
    have e3 : 0 ≤ T.v1 := h2
    unfold placeT; rw [if_neg (by omega), if_neg (by omega), if_pos e.symm]; rfl
theorem range_start {F : Fence} {n : Nat} {P : Program} {g : Operand} {ps : Array Tmp} {assign body : Code} {Q : Exit → Act → World → Prop} {a : Act} {w : World} (h : ∀ a0, a0 = a → (Code.rangeFunc g ps assign body).wpIn F n P Q a0 w) : (Code.rangeFunc g ps assign body).wpIn F n P Q a w := h a rfl
set_option maxRecDepth 100000 in
set_option maxHeartbeats 16000000 in
theorem WRight_any {mb pb pc : Nat} {ta : Option Addr} {tc : Nat} {P : List (Int × Int)} {S : List TriM} (p : Int × Int) (x : Int × Int × Int × Int) (w : World) (h : MeshR w mb pb pc ta tc P S) (hin : MeshIn (fun b => b < w.heap.size) mb pb ta) (hP : InPs P) (hp : InP p.1 ∧ InP p.2) (hl : LookIn P S) (hr : RightIs P S p x) :
    Calls Try.prog 26 #[.pointer (some ⟨mb, 0, none⟩), .agg #[.int .i64 p.1, .int .i64 p.2], placeV x] w fun e w' => e = .returned (.bool true) ∧ Below w.heap.size w w' := by
  obtain ⟨p0, p1⟩ := p
  obtain ⟨t, T, hT, ht, hcase⟩ := hr
  obtain ⟨x0, x1, x2, x3⟩ := x
  simp only [] at ht
  subst ht
  unfold placeV
  simp only []
  obtain ⟨w1, hw1, pm, hb1, hs1⟩ := new_box w _ rfl [.pointer (some ⟨mb, 0, none⟩)] 28
  obtain ⟨w2, hw2, pp, hb2, hs2⟩ := new_box w1 _ hs1 [.int .i64 p0, .int .i64 p1] 26
  obtain ⟨w3, hw3, px, hb3, hs3⟩ := new_box w2 _ hs2 [.int .i64 x0, .int .i64 (t : Int), .int .i64 x2, .int .i64 x3] 69
  have hB3 : Below w.heap.size w w3 := hb1.trans ((hb2.mono (by omega)).trans (hb3.mono (by omega)))
  have hm3 := h.below hB3
  have pm3 := (pm.below (hb2.mono (by omega))).below (hb3.mono (by omega))
  have pp3 := pp.below (hb3.mono (by omega))
  have hsh := h.short.2
  have hlt := (List.getElem?_eq_some_iff.1 hT).1
  obtain ⟨len, hlen⟩ : ∃ len, S.length = len := ⟨_, rfl⟩
  have i1 : ¬ (t : Int) < 0 := by omega
  have i2 : ¬ (len : Int) ≤ (t : Int) := by omega
  have i3 : (0 : Int) ≤ (t : Int) := by omega
  have i4 : (t : Int) < (len : Int) := by omega
  have q1 : decide ((t : Int) < 0) = false := decide_eq_false (by omega)
  have q2 : decide ((len : Int) ≤ (t : Int)) = false := decide_eq_false (by omega)
  have e1 := hm3.box.c1
  rw [hlen] at e1 hsh hlt
  obtain ⟨tb, hta, -, h9⟩ := hm3.tris.get hT
  obtain ⟨v0, v1, v2, n0, n1, n2, f0, f1, f2⟩ := T
  obtain ⟨c0, c1, c2, c3, c4, c5, c6, c7, c8⟩ := h9
  simp only [] at c0 c1 c2 c3 c4 c5 c6 c7 c8
  subst hta
  obtain ⟨m0, mf⟩ := pm3.open1
  have px0 := px.c0; have px1 := px.c1
  refine (callsIn_wide (n := 20)).1 (callsIn_of_wp_marks (F := Fence.wide) (n := 20) Try.func26 rfl trivial ?_ rfl)
  simp only [Try.ntmps26, List.size_toArray, List.length_cons, List.length_nil, Nat.reduceAdd, Nat.reduceSub, Array.replicate_succ, Array.replicate_zero, List.push_toArray, List.append_toArray, List.nil_append, List.cons_append]
  rw [wpIn_wide]
  have HT := Lib.hid hT; have HC := Lib.hid hcase; have HIN := Lib.hid hin; have HPS := Lib.hid hP; have HPP := Lib.hid hp; have HL := Lib.hid hl
  clear hT hcase hin hP hp hl
  go_wp2
  have hB := Below.refl w3.heap.size w3
  refine wp_region_noPanic ?_
  refine wp_region_held_drew (S := fun w' => w'.cell? ⟨w.heap.size + 1 + 1, 1, none⟩ = some (.int .i64 (t : Int)) ∧ w'.cell? ⟨w.heap.size, 0, none⟩ = some (.pointer (some ⟨mb, 0, none⟩)) ∧ w'.cell? ⟨mb, 1, none⟩ = some (.slice (some ⟨tb, 0, none⟩) len tc)) (by kernel_rfl) (⟨px1, m0, e1⟩) (fun hHeld => ?_)
  refine reg_take 0 ?_ ?_ ?_ (by kernel_rfl) (by kernel_rfl) (by kernel_rfl) (fun _ _ _ h => h) ?_ ?_ (by assumption) ?_
  rotate_left 2
  · simp only [List.getElem?_toArray, List.getElem?_cons_zero]; exact rfl
  · rfl
  · intro w hSw; (try dsimp only at hSw); go_simp; try with_reducible rfl
  try simp only [Act.put]
  try simp only [List.setIfInBounds_toArray, List.set_cons_zero, List.set_cons_succ]
  refine reg_take 1 ?_ ?_ ?_ (by kernel_rfl) (by kernel_rfl) (by kernel_rfl) (fun _ _ _ h => h) ?_ ?_ (by assumption) ?_
  rotate_left 2
  · simp only [List.getElem?_toArray, List.getElem?_cons_succ, List.getElem?_cons_zero]; exact rfl
  · rfl
  · intro w hSw; (try dsimp only at hSw); go_simp; try with_reducible rfl
  try simp only [Act.put]
  try simp only [List.setIfInBounds_toArray, List.set_cons_zero, List.set_cons_succ]
  refine reg_take 2 ?_ ?_ ?_ (by kernel_rfl) (by kernel_rfl) (by kernel_rfl) (fun _ _ _ h => h) ?_ ?_ (by assumption) ?_
  rotate_left 2
  · simp only [List.getElem?_toArray, List.getElem?_cons_succ, List.getElem?_cons_zero]; exact rfl
  · rfl
  · intro w hSw; (try dsimp only at hSw); go_simp; try with_reducible rfl
  try simp only [Act.put]
  try simp only [List.setIfInBounds_toArray, List.set_cons_zero, List.set_cons_succ]
  refine reg_take 3 ?_ ?_ ?_ (by kernel_rfl) (by kernel_rfl) (by kernel_rfl) (fun _ _ _ h => h) ?_ ?_ (by assumption) ?_
  rotate_left 2
  · simp only [List.getElem?_toArray, List.getElem?_cons_succ, List.getElem?_cons_zero]; exact rfl
  · rfl
  · intro w hSw; (try dsimp only at hSw); go_simp; try with_reducible rfl
  try simp only [Act.put]
  try simp only [List.setIfInBounds_toArray, List.set_cons_zero, List.set_cons_succ]
  refine reg_take 4 ?_ ?_ ?_ (by kernel_rfl) (by kernel_rfl) (by kernel_rfl) (fun _ _ _ h => h) ?_ ?_ (by assumption) ?_
  rotate_left 2
  · simp only [List.getElem?_toArray, List.getElem?_cons_succ, List.getElem?_cons_zero]; exact rfl
  · rfl
  · intro w hSw; (try dsimp only at hSw); go_simp; try with_reducible rfl
  try simp only [Act.put]
  try simp only [List.setIfInBounds_toArray, List.set_cons_zero, List.set_cons_succ]
  refine reg_take 5 ?_ ?_ ?_ (by kernel_rfl) (by kernel_rfl) (by kernel_rfl) (fun _ _ _ h => h) ?_ ?_ (by assumption) ?_
  rotate_left 2
  · simp only [List.getElem?_toArray, List.getElem?_cons_succ, List.getElem?_cons_zero]; exact rfl
  · rfl
  · intro w hSw; (try dsimp only at hSw); go_simp; try with_reducible rfl
  try simp only [Act.put]
  try simp only [List.setIfInBounds_toArray, List.set_cons_zero, List.set_cons_succ]
  refine reg_take 6 ?_ ?_ ?_ (by kernel_rfl) (by kernel_rfl) (by kernel_rfl) (fun _ _ _ h => h) ?_ ?_ (by assumption) ?_
  rotate_left 2
  · simp only [List.getElem?_toArray, List.getElem?_cons_succ, List.getElem?_cons_zero]; exact rfl
  · rfl
  · intro w hSw; (try dsimp only at hSw); go_simp; try with_reducible rfl
  try simp only [Act.put]
  try simp only [List.setIfInBounds_toArray, List.set_cons_zero, List.set_cons_succ]
  refine reg_take 7 ?_ ?_ ?_ (by kernel_rfl) (by kernel_rfl) (by kernel_rfl) (fun _ _ _ h => h) ?_ ?_ (by assumption) ?_
  rotate_left 2
  · simp only [List.getElem?_toArray, List.getElem?_cons_succ, List.getElem?_cons_zero]; exact rfl
  · rfl
  · intro w hSw; (try dsimp only at hSw); go_simp; try with_reducible rfl
  try simp only [Act.put]
  try simp only [List.setIfInBounds_toArray, List.set_cons_zero, List.set_cons_succ]
  refine reg_take 8 ?_ ?_ ?_ (by kernel_rfl) (by kernel_rfl) (by kernel_rfl) (fun _ _ _ h => h) ?_ ?_ (by assumption) ?_
  rotate_left 2
  · simp only [List.getElem?_toArray, List.getElem?_cons_succ, List.getElem?_cons_zero]; exact rfl
  · rfl
  · intro w hSw; (try dsimp only at hSw); go_simp; try with_reducible rfl
  try simp only [Act.put]
  try simp only [List.setIfInBounds_toArray, List.set_cons_zero, List.set_cons_succ]
  refine reg_take 9 ?_ ?_ ?_ (by kernel_rfl) (by kernel_rfl) (by kernel_rfl) (fun _ _ _ h => h) ?_ ?_ (by assumption) ?_
  rotate_left 2
  · simp only [List.getElem?_toArray, List.getElem?_cons_succ, List.getElem?_cons_zero]; exact rfl
  · rfl
  · intro w hSw; (try dsimp only at hSw); go_simp; try with_reducible rfl
  try simp only [Act.put]
  try simp only [List.setIfInBounds_toArray, List.set_cons_zero, List.set_cons_succ]
  refine reg_take 10 ?_ ?_ ?_ (by kernel_rfl) (by kernel_rfl) (by kernel_rfl) (fun _ _ _ h => h) ?_ ?_ (by assumption) ?_
  rotate_left 2
  · simp only [List.getElem?_toArray, List.getElem?_cons_succ, List.getElem?_cons_zero]; exact rfl
  · rfl
  · intro w hSw; (try dsimp only at hSw); go_simp; try with_reducible rfl
  try simp only [Act.put]
  try simp only [List.setIfInBounds_toArray, List.set_cons_zero, List.set_cons_succ]
  refine reg_take 11 ?_ ?_ ?_ (by kernel_rfl) (by kernel_rfl) (by kernel_rfl) (fun _ _ _ h => h) ?_ ?_ (by assumption) ?_
  rotate_left 2
  · simp only [List.getElem?_toArray, List.getElem?_cons_succ, List.getElem?_cons_zero]; exact rfl
  · rfl
  · intro w hSw; (try dsimp only at hSw); go_simp; try with_reducible rfl
  try simp only [Act.put]
  try simp only [List.setIfInBounds_toArray, List.set_cons_zero, List.set_cons_succ]
  refine reg_take 12 ?_ ?_ ?_ (by kernel_rfl) (by kernel_rfl) (by kernel_rfl) (fun _ _ _ h => h) ?_ ?_ (by assumption) ?_
  rotate_left 2
  · simp only [List.getElem?_toArray, List.getElem?_cons_succ, List.getElem?_cons_zero]; exact rfl
  · rfl
  · intro w hSw; (try dsimp only at hSw); go_simp; try with_reducible rfl
  try simp only [Act.put]
  try simp only [List.setIfInBounds_toArray, List.set_cons_zero, List.set_cons_succ]
  refine wpAnyH_done (by kernel_rfl) ?_ _
  refine NoPanic.normal ?_
  go_wp2
  obtain ⟨wd, hwd⟩ : ∃ wd, w3.drew.drew = wd := ⟨_, rfl⟩
  have hBd : Below w3.heap.size w3 wd := by rw [← hwd]; exact (Below.refl _ _).drew'.drew'
  have hsd : wd.heap.size = w.heap.size + 1 + 1 + 1 := by rw [← hwd]; exact hs3
  obtain ⟨w4, hw4, pz, hb4, hs4⟩ := new_box wd _ hsd [.int .i64 0, .int .i64 0, .int .i64 0, .int .i64 0, .int .i64 0, .int .i64 0, .bool false, .bool false, .bool false] 37
  obtain ⟨w5, hw5⟩ : ∃ w5, setAll w4 (w.heap.size + 1 + 1 + 1) 0 [.int .i64 v0, .int .i64 v1, .int .i64 v2, .int .i64 n0, .int .i64 n1, .int .i64 n2, .bool f0, .bool f1, .bool f2] = w5 := ⟨_, rfl⟩
  have pt5 : Box w5 (w.heap.size + 1 + 1 + 1) [.int .i64 v0, .int .i64 v1, .int .i64 v2, .int .i64 n0, .int .i64 n1, .int .i64 n2, .bool f0, .bool f1, .bool f2] := by rw [← hw5]; exact pz.setAll _ rfl
  have hB4 : Below w3.heap.size w3 w4 := hBd.trans (hb4.mono (by omega))
  have hB5 : Below w3.heap.size w3 w5 := by rw [← hw5]; exact below_setAll hB4 (by omega) _
  have hs5 : w5.heap.size = w.heap.size + 1 + 1 + 1 + 1 := by rw [← hw5, setAll_size']; exact hs4
  have SS : ∀ w', Below w3.heap.size w3 w' → w'.cell? ⟨w.heap.size + 1 + 1, 1, none⟩ = some (.int .i64 (t : Int)) ∧ w'.cell? ⟨w.heap.size, 0, none⟩ = some (.pointer (some ⟨mb, 0, none⟩)) ∧ w'.cell? ⟨mb, 1, none⟩ = some (.slice (some ⟨tb, 0, none⟩) len tc) ∧ w'.cell? ⟨tb, t * 9, none⟩ = some (.int .i64 v0) ∧ w'.cell? ⟨tb, t * 9 + 1, none⟩ = some (.int .i64 v1) ∧ w'.cell? ⟨tb, t * 9 + 2, none⟩ = some (.int .i64 v2) ∧ w'.cell? ⟨tb, t * 9 + 3, none⟩ = some (.int .i64 n0) ∧ w'.cell? ⟨tb, t * 9 + 4, none⟩ = some (.int .i64 n1) ∧ w'.cell? ⟨tb, t * 9 + 5, none⟩ = some (.int .i64 n2) ∧ w'.cell? ⟨tb, t * 9 + 6, none⟩ = some (.bool f0) ∧ w'.cell? ⟨tb, t * 9 + 7, none⟩ = some (.bool f1) ∧ w'.cell? ⟨tb, t * 9 + 8, none⟩ = some (.bool f2) := by
    intro w' hb
    have q1 := hm3.below hb
    have k1 := q1.box.c1
    rw [hlen] at k1
    obtain ⟨tb', hta', -, h9'⟩ := q1.tris.get HT.out
    cases hta'
    obtain ⟨k2, k3, k4, k5, k6, k7, k8, k9, k10⟩ := h9'
    exact ⟨(px.below hb).c1, (pm3.below hb).c0, k1, k2, k3, k4, k5, k6, k7, k8, k9, k10⟩
  refine wp_region_noPanic ?_
  refine wp_region_held_drew (S := fun w' => w'.cell? ⟨w.heap.size + 1 + 1, 1, none⟩ = some (.int .i64 (t : Int)) ∧ w'.cell? ⟨w.heap.size, 0, none⟩ = some (.pointer (some ⟨mb, 0, none⟩)) ∧ w'.cell? ⟨mb, 1, none⟩ = some (.slice (some ⟨tb, 0, none⟩) len tc) ∧ w'.cell? ⟨tb, t * 9, none⟩ = some (.int .i64 v0) ∧ w'.cell? ⟨tb, t * 9 + 1, none⟩ = some (.int .i64 v1) ∧ w'.cell? ⟨tb, t * 9 + 2, none⟩ = some (.int .i64 v2) ∧ w'.cell? ⟨tb, t * 9 + 3, none⟩ = some (.int .i64 n0) ∧ w'.cell? ⟨tb, t * 9 + 4, none⟩ = some (.int .i64 n1) ∧ w'.cell? ⟨tb, t * 9 + 5, none⟩ = some (.int .i64 n2) ∧ w'.cell? ⟨tb, t * 9 + 6, none⟩ = some (.bool f0) ∧ w'.cell? ⟨tb, t * 9 + 7, none⟩ = some (.bool f1) ∧ w'.cell? ⟨tb, t * 9 + 8, none⟩ = some (.bool f2)) (by kernel_rfl) (SS _ (Below.refl _ _).drew'.drew') (fun hHeld => ?_)
  rw [hwd] at hHeld ⊢
  refine reg_take 0 ?_ ?_ ?_ (by kernel_rfl) (by kernel_rfl) (by kernel_rfl) (fun _ _ _ h => h) ?_ ?_ (by assumption) ?_
  rotate_left 2
  · simp only [List.getElem?_toArray, List.getElem?_cons_zero]; exact rfl
  · rfl
  · intro w hSw; (try dsimp only at hSw); go_simp; try with_reducible rfl
  try simp only [Act.put]
  try simp only [List.setIfInBounds_toArray, List.set_cons_zero, List.set_cons_succ]
  refine reg_take 1 ?_ ?_ ?_ (by kernel_rfl) (by kernel_rfl) (by kernel_rfl) (fun _ _ _ h => h) ?_ ?_ (by assumption) ?_
  rotate_left 2
  · simp only [List.getElem?_toArray, List.getElem?_cons_succ, List.getElem?_cons_zero]; exact rfl
  · rfl
  · intro w hSw; (try dsimp only at hSw); go_simp; try with_reducible rfl
  try simp only [Act.put]
  try simp only [List.setIfInBounds_toArray, List.set_cons_zero, List.set_cons_succ]
  refine reg_take 2 ?_ ?_ ?_ (by kernel_rfl) (by kernel_rfl) (by kernel_rfl) (fun _ _ _ h => h) ?_ ?_ (by assumption) ?_
  rotate_left 2
  · simp only [List.getElem?_toArray, List.getElem?_cons_succ, List.getElem?_cons_zero]; exact rfl
  · rfl
  · intro w hSw; (try dsimp only at hSw); go_simp; try with_reducible rfl
  try simp only [Act.put]
  try simp only [List.setIfInBounds_toArray, List.set_cons_zero, List.set_cons_succ]
  refine reg_take 3 ?_ ?_ ?_ (by kernel_rfl) (by kernel_rfl) (by kernel_rfl) (fun _ _ _ h => h) ?_ ?_ (by assumption) ?_
  rotate_left 2
  · simp only [List.getElem?_toArray, List.getElem?_cons_succ, List.getElem?_cons_zero]; exact rfl
  · rfl
  · intro w hSw; (try dsimp only at hSw); go_simp; try with_reducible rfl
  try simp only [Act.put]
  try simp only [List.setIfInBounds_toArray, List.set_cons_zero, List.set_cons_succ]
  refine reg_take 4 ?_ ?_ ?_ (by kernel_rfl) (by kernel_rfl) (by kernel_rfl) (fun _ _ _ h => h) ?_ ?_ (by assumption) ?_
  rotate_left 2
  · simp only [List.getElem?_toArray, List.getElem?_cons_succ, List.getElem?_cons_zero]; exact rfl
  · rfl
  · intro w hSw; (try dsimp only at hSw); go_simp; try with_reducible rfl
  try simp only [Act.put]
  try simp only [List.setIfInBounds_toArray, List.set_cons_zero, List.set_cons_succ]
  refine reg_take 5 ?_ ?_ ?_ (by kernel_rfl) (by kernel_rfl) (by kernel_rfl) (fun _ _ _ h => h) ?_ ?_ (by assumption) ?_
  rotate_left 2
  · simp only [List.getElem?_toArray, List.getElem?_cons_succ, List.getElem?_cons_zero]; exact rfl
  · rfl
  · intro w hSw; (try dsimp only at hSw); go_simp; try with_reducible rfl
  try simp only [Act.put]
  try simp only [List.setIfInBounds_toArray, List.set_cons_zero, List.set_cons_succ]
  refine reg_take 6 ?_ ?_ ?_ (by kernel_rfl) (by kernel_rfl) (by kernel_rfl) (fun _ _ _ h => h) ?_ ?_ (by assumption) ?_
  rotate_left 2
  · simp only [List.getElem?_toArray, List.getElem?_cons_succ, List.getElem?_cons_zero]; exact rfl
  · rfl
  · intro w hSw; (try dsimp only at hSw); go_simp; try with_reducible rfl
  try simp only [Act.put]
  try simp only [List.setIfInBounds_toArray, List.set_cons_zero, List.set_cons_succ]
  refine reg_take 7 ?_ ?_ ?_ (by kernel_rfl) (by kernel_rfl) (by kernel_rfl) (fun _ _ _ h => h) ?_ ?_ (by assumption) ?_
  rotate_left 2
  · simp only [List.getElem?_toArray, List.getElem?_cons_succ, List.getElem?_cons_zero]; exact rfl
  · rfl
  · intro w hSw; (try dsimp only at hSw); go_simp; try with_reducible rfl
  try simp only [Act.put]
  try simp only [List.setIfInBounds_toArray, List.set_cons_zero, List.set_cons_succ]
  refine reg_call 8 ?_ (by kernel_rfl) ?_ (fun K hK => ?_)
  rotate_left 1
  · simp only [List.getElem?_toArray, List.getElem?_cons_succ, List.getElem?_cons_zero]; exact rfl
  go_simp
  try rw [hw4]
  refine hK.out _ _ (SS _ hB4) (fun hHeld => ?_)
  clear hK K
  try simp only [Act.put]
  try simp only [List.setIfInBounds_toArray, List.set_cons_zero, List.set_cons_succ]
  refine reg_call 9 ?_ (by kernel_rfl) ?_ (fun K hK => ?_)
  rotate_left 1
  · simp only [List.getElem?_toArray, List.getElem?_cons_succ, List.getElem?_cons_zero]; exact rfl
  refine wanted_go rfl ?_
  refine wp_store_box _ _ _ rfl [.int .i64 v0, .int .i64 v1, .int .i64 v2, .int .i64 n0, .int .i64 n1, .int .i64 n2, .bool f0, .bool f1, .bool f2] pz rfl rfl (by kernel_rfl) (by simp) rfl hw5 ?_
  refine hK.out _ _ (SS _ hB5) (fun hHeld => ?_)
  clear hK K
  try simp only [Act.put]
  try simp only [List.setIfInBounds_toArray, List.set_cons_zero, List.set_cons_succ]
  refine wpAnyH_done (by kernel_rfl) ?_ _
  refine NoPanic.normal ?_
  have hB5' : Below w.heap.size w w5 := hB3.trans (hB5.mono hB3.size)
  obtain ⟨w6, hw6, pi6, hb6, hs6⟩ := new_box w5 _ hs5 [.bool false] 4
  obtain ⟨w7, hw7, pa7, hb7, hs7⟩ := new_box w6 _ hs6 [.int .i64 0] 3
  obtain ⟨wz, hwz, pez, hbz, hsz⟩ := new_box w7 _ hs7 [.int .i64 0, .int .i64 0] 48
  have hB5z : Below w5.heap.size w5 wz := by rw [hs5]; exact hb6.trans ((hb7.mono (by omega)).trans (hbz.mono (by omega)))
  have piz := (pi6.below (hb7.mono (by omega))).below (hbz.mono (by omega))
  have paz := pa7.below (hbz.mono (by omega))
  obtain ⟨z0, z1⟩ := piz.open1
  have pi_1 := piz.set 0 (.bool false)
  have pa_1 := paz.far (g' := w.heap.size + 1 + 1 + 1 + 1) (by omega) 0 (.bool false)
  have pe_1 := pez.far (g' := w.heap.size + 1 + 1 + 1 + 1) (by omega) 0 (.bool false)
  obtain ⟨z2, z3⟩ := pa_1.open1
  have pi_2 := pi_1.far (g' := w.heap.size + 1 + 1 + 1 + 1 + 1) (by omega) 0 (.int .i64 (-1))
  have pa_2 := pa_1.set 0 (.int .i64 (-1))
  have pe_2 := pe_1.far (g' := w.heap.size + 1 + 1 + 1 + 1 + 1) (by omega) 0 (.int .i64 (-1))
  obtain ⟨z4, z5, z6, z7⟩ := pe_2.open2
  obtain ⟨z8, z9⟩ := pe_2.put2 (.int .i64 0)
  have pi_3 := (pi_2.far (g' := w.heap.size + 1 + 1 + 1 + 1 + 1 + 1) (by omega) 0 (.int .i64 0)).far (g' := w.heap.size + 1 + 1 + 1 + 1 + 1 + 1) (by omega) 1 (.int .i64 0)
  have pa_3 := (pa_2.far (g' := w.heap.size + 1 + 1 + 1 + 1 + 1 + 1) (by omega) 0 (.int .i64 0)).far (g' := w.heap.size + 1 + 1 + 1 + 1 + 1 + 1) (by omega) 1 (.int .i64 0)
  have pe_3 := (pe_2.set 0 (.int .i64 0)).set 1 (.int .i64 0)
  have hB_z := (((hB5z.setCell (p := ⟨w.heap.size + 1 + 1 + 1 + 1, 0, none⟩) (by show _ ≤ w.heap.size + 1 + 1 + 1 + 1; omega) (.bool false)).setCell (p := ⟨w.heap.size + 1 + 1 + 1 + 1 + 1, 0, none⟩) (by show _ ≤ w.heap.size + 1 + 1 + 1 + 1 + 1; omega) (.int .i64 (-1))).setCell (p := ⟨w.heap.size + 1 + 1 + 1 + 1 + 1 + 1, 0, none⟩) (by show _ ≤ w.heap.size + 1 + 1 + 1 + 1 + 1 + 1; omega) (.int .i64 0)).setCell (p := ⟨w.heap.size + 1 + 1 + 1 + 1 + 1 + 1, 1, none⟩) (by show _ ≤ w.heap.size + 1 + 1 + 1 + 1 + 1 + 1; omega) (.int .i64 0)
  obtain ⟨w8, hw8⟩ : ∃ w8, (((wz.setCell ⟨w.heap.size + 1 + 1 + 1 + 1, 0, none⟩ (.bool false)).setCell ⟨w.heap.size + 1 + 1 + 1 + 1 + 1, 0, none⟩ (.int .i64 (-1))).setCell ⟨w.heap.size + 1 + 1 + 1 + 1 + 1 + 1, 0, none⟩ (.int .i64 0)).setCell ⟨w.heap.size + 1 + 1 + 1 + 1 + 1 + 1, 1, none⟩ (.int .i64 0) = w8 := ⟨_, rfl⟩
  have hs8 : w8.heap.size = w.heap.size + 1 + 1 + 1 + 1 + 1 + 1 + 1 := by rw [← hw8]; simpa using hsz
  rw [hw8] at pi_3 pa_3 pe_3 hB_z
  have hB58 := hB_z
  have pi8 := pi_3; have pa8 := pa_3; have pe8 := pe_3
  simp only [List.set_cons_zero, List.set_cons_succ] at pi8 pa8 pe8
  have hB8 : Below w.heap.size w w8 := hB5'.trans (hB58.mono hB5'.size)
  have pm8 := pm3.below (hB5.trans (hB58.mono hB5.size))
  have pp8 := pp3.below (hB5.trans (hB58.mono hB5.size))
  have px8 := px.below (hB5.trans (hB58.mono hB5.size))
  have pt8 := pt5.below hB58
  have hm8 := hm3.below (hB5.trans (hB58.mono hB5.size))
  have hfn : ∀ W : World, Sem.run Try.prog (binOp BinOp.eql 33 (Value.func (Fn.func 35) #[] #[Value.pointer (some ⟨w.heap.size + 1 + 1 + 1 + 1 + 1 + 1 + 1, 0, none⟩)]) Value.nilFunc) W = Result.ok (Value.bool false) W := fun W => by kernel_rfl
  have HAL := Lib.hid (All_any (some ⟨mb, 0, none⟩) w8)
  have m8 := pm8.c0
  clear hB hB4 hBd hb4 hs4 hw4 hwd hw5 SS pz hB5 hB5' hB58 hB5z hb6 hb7 hbz pi6 pa7 pez piz paz pi_1 pa_1 pe_1 pi_2 pa_2 pe_2 pi_3 pa_3 pe_3 hB_z pt5 hm3 pm3 pp3 px m0 mf px0 px1 e1 c0 c1 c2 c3 c4 c5 c6 c7 c8 hsd
  go_wp2_with fail
  refine HAL.out.mono ?_
  rintro e w9 ⟨rfl, hw9⟩
  rw [hs8]
  go_wp2
  clear hfn
  have hsz9 : w9.heap.size = w.heap.size + 1 + 1 + 1 + 1 + 1 + 1 + 1 + 1 := by rw [← hw9]; simp [hs8]
  have hb89 : Below w8.heap.size w8 w9 := by rw [← hw9]; exact (Below.refl _ _).alloc (Nat.le_refl _) _
  have hB9 := hB8.trans (hb89.mono hB8.size)
  have bm9 : Boxed w9 w8.heap.size 28 (.pointer (some ⟨mb, 0, none⟩)) := by rw [← hw9]; exact Boxed.new w8 _ _
  rw [hs8] at bm9
  have pm9 := pm8.below hb89; have pp9 := pp8.below hb89; have px9 := px8.below hb89; have pt9 := pt8.below hb89; have pi9 := pi8.below hb89; have pa9 := pa8.below hb89; have pe9 := pe8.below hb89
  have hm9 := hm8.below hb89
  have hin9 : MeshIn (RPb w.heap.size) mb pb (some ⟨tb, 0, none⟩) := ⟨rpb_low HIN.out.m, rpb_low HIN.out.p, fun b hb => rpb_low (HIN.out.t b hb)⟩
  have hlt9 : ∀ b, (RPb w.heap.size) b → b < w9.heap.size := fun b hb => by have := hb.1; omega
  rw [← wpIn_wide (n := 20)]
  refine range_start (fun a0 ha0 => ?_)
  refine wpIn_rangeFunc_ownH rfl (by omega) (gf := 35) (lb := #[.pointer (some ⟨w.heap.size + 1 + 1 + 1 + 1 + 1 + 1 + 1, 0, none⟩)]) (by rw [ha0]; rfl) trivial (enters_of Try.func35 (by kernel_rfl) rfl)
    (all_stops 19 (by omega) (w.heap.size + 1 + 1 + 1 + 1 + 1 + 1 + 1) (RPb w.heap.size) w9 hlt9 hm9 hin9 bm9.cell (rpb_seven _)) (fun h k => KeepB.trans h k) ?kb (Below.refl _ _) (fun _ => rfl)
    (fun pre W => (Box W (w.heap.size + 4) [.bool (rsL P (p0, p1) (pre.map (·.1))).ins] ∧ Box W (w.heap.size + 5) [.int .i64 (rsL P (p0, p1) (pre.map (·.1))).at_] ∧ Box W (w.heap.size + 6) [.int .i64 (rsL P (p0, p1) (pre.map (·.1))).e0, .int .i64 (rsL P (p0, p1) (pre.map (·.1))).e1]) ∧ KeepB (RPb w.heap.size) w9 W ∧ Below w.heap.size w W)
    (fun _ _ _ => False)
    (OwnFrom.and (OwnFrom.and (box_own _ _ _) (OwnFrom.and (box_own _ _ _) (box_own _ _ _))) (OwnFrom.and (keepB_own hlt9) (ownFrom_below (by omega) (by omega))))
    (fun _ _ _ _ _ h _ _ => h)
    ⟨⟨pi9, pa9, pe9⟩, KeepB.refl _ _, hB9⟩
    (fun x a' W => ∃ yb, a' = { tmps := ((#[51, 52].zip (encA x)).foldl (fun t (p, v) => t.setIfInBounds p v) a0.tmps).setIfInBounds 14 (.pointer (some ⟨yb, 0, none⟩)), defers := [] } ∧ w9.heap.size ≤ yb ∧ Box W yb x.1.2.cells)
    ?own ?assign ?body ?done ?stop
  case kb =>
    intro W l o o' hl _ _ _ b hb
    exact World.putObj_heap_other (fun e => by have := hlt9 b hb; omega)
  case own =>
    intro x a' s A B row hs hg hr
    obtain ⟨yb, g1, g2, g3⟩ := hs
    exact ⟨yb, g1, g2, box_own _ yb (fun _ : Unit => x.1.2.cells) () A B row g3 hg hr⟩
  case assign =>
    intro l pre x W K hI hK
    rw [ha0] at hK ⊢
    obtain ⟨⟨y, U⟩, hy1, hy2⟩ := x
    obtain ⟨u0, u1, u2, k0, k1, k2, g0, g1, g2⟩ := U
    dsimp only [encA, triV] at hK ⊢
    obtain ⟨W1, hW1, py, hbW, hsW⟩ := new_box W _ rfl [.int .i64 u0, .int .i64 u1, .int .i64 u2, .int .i64 k0, .int .i64 k1, .int .i64 k2, .bool g0, .bool g1, .bool g2] 37
    gi_wp2
    have hW9 : w9.heap.size ≤ W.heap.size := by
      have hx := (hI.2.1 (w.heap.size + 7) ⟨by omega, by omega, by omega, by omega⟩).trans bm9
      have := (Array.getElem?_eq_some_iff.1 hx).1
      omega
    refine hK _ _ ((keepsOthers_below hbW).from _) (KeepB.of_below hbW (fun b hb => by have := hlt9 b hb; omega)) ?_ ⟨W.heap.size, by kernel_rfl, hW9, py⟩
    exact ⟨⟨hI.1.1.below hbW, hI.1.2.1.below hbW, hI.1.2.2.below hbW⟩, hI.2.1.trans (KeepB.of_below hbW (fun b hb => by have := hlt9 b hb; omega)), hI.2.2.trans (hbW.mono hI.2.2.size)⟩
  case body =>
    as_aux_lemma =>
      rintro l pre x a' W hWl - ⟨⟨pi, pa, pe⟩, hKB, hBW⟩ ⟨yb, rfl, hyb, py⟩ hlen
      obtain ⟨⟨y, U⟩, hy1, hy2⟩ := x
      simp only [] at py hy1 hy2
      obtain ⟨s, hs⟩ : ∃ s, rsL P (p0, p1) (pre.map (·.1)) = s := ⟨_, rfl⟩
      rw [hs] at pi pa pe
      have hv := (HL.out y U hy1).1 hy2
      have hR0 : RightR w w9 W yb U s.ins s.at_ s.e0 s.e1 W := ⟨KeepsOthers.refl _, hKB, KeepB.refl _ _, hBW, pi, pa, pe, py, by omega⟩
      have HR0 := Lib.hid hR0; have HV := Lib.hid hv; have HS := Lib.hid hs
      obtain ⟨pn, hpn⟩ : ∃ pn, P.length = pn := ⟨_, rfl⟩
      have HPN := Lib.hid hpn; have HM9 := Lib.hid hm9; have HIN9 := Lib.hid hin9; have PM9 := Lib.hid pm9; have PP9 := Lib.hid pp9
      have hcc : ∀ (k1 k2 a b : Nat) (a0 a1 b0 b1 : Int), k1 < 3 → k2 < 3 → U.v k1 = (a : Int) → U.v k2 = (b : Int) → P[a]? = some (a0, a1) → P[b]? = some (b0, b1) → ∀ (q e f : Int) (w' : World), RightR w w9 W yb U s.ins q e f w' → w'.cell? ⟨w.heap.size, 0, none⟩ = some (.pointer (some ⟨mb, 0, none⟩)) ∧ w'.cell? ⟨mb, 0, none⟩ = some (.slice (some ⟨pb, 0, none⟩) pn pc) ∧ w'.cell? ⟨yb, k1, none⟩ = some (.int .i64 (a : Int)) ∧ w'.cell? ⟨yb, k2, none⟩ = some (.int .i64 (b : Int)) ∧ w'.cell? ⟨pb, a * 2, none⟩ = some (.int .i64 a0) ∧ w'.cell? ⟨pb, a * 2 + 1, none⟩ = some (.int .i64 a1) ∧ w'.cell? ⟨pb, b * 2, none⟩ = some (.int .i64 b0) ∧ w'.cell? ⟨pb, b * 2 + 1, none⟩ = some (.int .i64 b1) ∧ w'.cell? ⟨w.heap.size + 1, 0, none⟩ = some (.int .i64 p0) ∧ w'.cell? ⟨w.heap.size + 1, 1, none⟩ = some (.int .i64 p1) := by
        intro k1 k2 a b a0 a1 b0 b1 h1 h2 ea eb ga gb q e f w' hr
        have hm := HM9.out.keep HIN9.out hr.kb
        have e0 := hm.box.c 0 _ rfl
        rw [HPN.out] at e0
        have c1 := box9_at hr.py h1; have c2 := box9_at hr.py h2
        rw [ea] at c1; rw [eb] at c2
        have q0 : RPb w.heap.size w.heap.size := ⟨by omega, by omega, by omega, by omega⟩
        have q1 : RPb w.heap.size (w.heap.size + 1) := ⟨by omega, by omega, by omega, by omega⟩
        exact ⟨(hr.kb.cell q0).trans PM9.out.c0, e0, c1, c2, (hm.pt ga).1, (hm.pt ga).2, (hm.pt gb).1, (hm.pt gb).2, (hr.kb.cell q1).trans PP9.out.c0, (hr.kb.cell q1).trans PP9.out.c1⟩
      have HCC := Lib.hid hcc; have HMM := Lib.hid (And.intro min2_run max2_run)
      rw [ha0]
      dsimp only [encA, triV]
      clear hcc hR0 hv hs hpn pi pa pe py hKB hBW
      gi_wp2
      gi_loopw [15, 16, 53] (fun nv zv iv wr => ∃ i : Nat, i ≤ 3 ∧ iv = .int .i64 (i : Int) ∧ nv = .int .i64 ((cnP P U (p0, p1) i : Nat) : Int) ∧ zv = .int .i64 ((cnZ P U (p0, p1) i : Nat) : Int) ∧ RightR w w9 W yb U s.ins (rsK P (p0, p1) U s i).at_ (rsK P (p0, p1) U s i).e0 (rsK P (p0, p1) U s i).e1 wr) (fun _ _ iv _ => 3 - (intOf iv).toNat)
      case atStart => exact ⟨0, by omega, rfl, rfl, rfl, HR0.out⟩
      case round =>
        obtain ⟨i, hi, rfl, rfl, rfl, hR_0⟩ := hrel
        obtain ⟨n, hn⟩ : ∃ n, cnP P U (p0, p1) i = n := ⟨_, rfl⟩
        obtain ⟨z, hz⟩ : ∃ z, cnZ P U (p0, p1) i = z := ⟨_, rfl⟩
        have hn3 := cnP_le P U (p0, p1) i
        have hz3 := cnZ_le P U (p0, p1) i
        rw [hn] at hn3; rw [hz] at hz3
        rw [hn, hz]
        by_cases hlt : i < 3
        · have m1 := mod3_one hlt
          have m2 := mod3_two hlt
          obtain ⟨a, ea, la, ga⟩ := (HV.out ((i + 1) % 3) (by omega)).nat
          obtain ⟨b, eb, lb, gb⟩ := (HV.out ((i + 2) % 3) (by omega)).nat
          have hpa : InP (ptA P (U.v ((i + 1) % 3)).toNat).1 ∧ InP (ptA P (U.v ((i + 1) % 3)).toNat).2 := HPS.out _ (List.mem_of_getElem? ga)
          have hpb : InP (ptA P (U.v ((i + 2) % 3)).toNat).1 ∧ InP (ptA P (U.v ((i + 2) % 3)).toNat).2 := HPS.out _ (List.mem_of_getElem? gb)
          obtain ⟨⟨a0, a1⟩, hpta⟩ : ∃ q, ptA P (U.v ((i + 1) % 3)).toNat = q := ⟨_, rfl⟩
          obtain ⟨⟨b0, b1⟩, hptb⟩ : ∃ q, ptA P (U.v ((i + 2) % 3)).toNat = q := ⟨_, rfl⟩
          rw [hpta] at ga hpa; rw [hptb] at gb hpb
          simp only [] at ga gb hpa hpb
          have HTA := Lib.hid (show ptT P U ((i + 1) % 3) = (a0, a1) from hpta)
          have HTB := Lib.hid (show ptT P U ((i + 2) % 3) = (b0, b1) from hptb)
          have hsv : sideT P U i (p0, p1) = (crs a0 a1 b0 b1 p0 p1).sign := by rw [sideT_is, HTA.out, HTB.out]; rfl
          have hk13 : (i + 1) % 3 < 3 := by omega
          have hk23 : (i + 2) % 3 < 3 := by omega
          have cc := fun q e f w' hr => HCC.out _ _ _ _ _ _ _ _ hk13 hk23 ea eb ga gb q e f w' hr
          have HEA := Lib.hid ea; have HEBB := Lib.hid eb
          obtain ⟨k1, hk1⟩ : ∃ k1, (i + 1) % 3 = k1 := ⟨_, rfl⟩
          obtain ⟨k2, hk2⟩ : ∃ k2, (i + 2) % 3 = k2 := ⟨_, rfl⟩
          rw [hk1] at m1 hk13; rw [hk2] at m2 hk23
          rw [hk1, hk2] at cc
          have CC := Lib.hid cc
          have HPA := Lib.hid hpa; have HPB := Lib.hid hpb; have HN := Lib.hid hn; have HZ := Lib.hid hz
          have i3' : (0 : Int) ≤ (a : Int) := by omega
          have i4' : (a : Int) < (pn : Int) := by rw [HPN.out] at la; omega
          have i5 : (0 : Int) ≤ (b : Int) := by omega
          have i6 : (b : Int) < (pn : Int) := by rw [HPN.out] at lb; omega
          have i7 : (0 : Int) ≤ (k1 : Int) := by omega
          have i8 : (k1 : Int) < 3 := by omega
          have i9 : (0 : Int) ≤ (k2 : Int) := by omega
          have i10 : (k2 : Int) < 3 := by omega
          have HR_0 := Lib.hid hR_0
          clear cc ea eb la lb ga gb hpa hpb hpta hptb hk1 hk2 hn hz hR_0
          gi_wp2
          have hR_0 := HR_0.out
          refine rnd_region_held (S := fun w' => w'.cell? ⟨w.heap.size, 0, none⟩ = some (.pointer (some ⟨mb, 0, none⟩)) ∧ w'.cell? ⟨mb, 0, none⟩ = some (.slice (some ⟨pb, 0, none⟩) pn pc) ∧ w'.cell? ⟨yb, k1, none⟩ = some (.int .i64 (a : Int)) ∧ w'.cell? ⟨yb, k2, none⟩ = some (.int .i64 (b : Int)) ∧ w'.cell? ⟨pb, a * 2, none⟩ = some (.int .i64 a0) ∧ w'.cell? ⟨pb, a * 2 + 1, none⟩ = some (.int .i64 a1) ∧ w'.cell? ⟨pb, b * 2, none⟩ = some (.int .i64 b0) ∧ w'.cell? ⟨pb, b * 2 + 1, none⟩ = some (.int .i64 b1) ∧ w'.cell? ⟨w.heap.size + 1, 0, none⟩ = some (.int .i64 p0) ∧ w'.cell? ⟨w.heap.size + 1, 1, none⟩ = some (.int .i64 p1)) (by kernel_rfl) (by kernel_rfl) (CC.out _ _ _ _ (hR_0.below (Below.refl _ _).drew')) (fun hHeld => ?_)
          refine reg_take 0 ?_ ?_ ?_ (by kernel_rfl) (by kernel_rfl) (by kernel_rfl) (fun _ _ _ h => h) ?_ ?_ (by assumption) ?_
          rotate_left 2
          · simp only [List.getElem?_toArray, List.getElem?_cons_zero]; exact rfl
          · rfl
          · intro w hSw; (try dsimp only at hSw); go_simp; try with_reducible rfl
          try simp only [Act.put]
          try simp only [List.setIfInBounds_toArray, List.set_cons_zero, List.set_cons_succ]
          refine reg_take 1 ?_ ?_ ?_ (by kernel_rfl) (by kernel_rfl) (by kernel_rfl) (fun _ _ _ h => h) ?_ ?_ (by assumption) ?_
          rotate_left 2
          · simp only [List.getElem?_toArray, List.getElem?_cons_succ, List.getElem?_cons_zero]; exact rfl
          · rfl
          · intro w hSw; (try dsimp only at hSw); go_simp; try with_reducible rfl
          try simp only [Act.put]
          try simp only [List.setIfInBounds_toArray, List.set_cons_zero, List.set_cons_succ]
          refine reg_take 2 ?_ ?_ ?_ (by kernel_rfl) (by kernel_rfl) (by kernel_rfl) (fun _ _ _ h => h) ?_ ?_ (by assumption) ?_
          rotate_left 2
          · simp only [List.getElem?_toArray, List.getElem?_cons_succ, List.getElem?_cons_zero]; exact rfl
          · rfl
          · intro w hSw; (try dsimp only at hSw); go_simp; try with_reducible rfl
          try simp only [Act.put]
          try simp only [List.setIfInBounds_toArray, List.set_cons_zero, List.set_cons_succ]
          refine reg_take 3 ?_ ?_ ?_ (by kernel_rfl) (by kernel_rfl) (by kernel_rfl) (fun _ _ _ h => h) ?_ ?_ (by assumption) ?_
          rotate_left 2
          · simp only [List.getElem?_toArray, List.getElem?_cons_succ, List.getElem?_cons_zero]; exact rfl
          · rfl
          · intro w hSw; (try dsimp only at hSw); go_simp; try with_reducible rfl
          try simp only [Act.put]
          try simp only [List.setIfInBounds_toArray, List.set_cons_zero, List.set_cons_succ]
          refine reg_take 4 ?_ ?_ ?_ (by kernel_rfl) (by kernel_rfl) (by kernel_rfl) (fun _ _ _ h => h) ?_ ?_ (by assumption) ?_
          rotate_left 2
          · simp only [List.getElem?_toArray, List.getElem?_cons_succ, List.getElem?_cons_zero]; exact rfl
          · rfl
          · intro w hSw; (try dsimp only at hSw); go_simp; try with_reducible rfl
          try simp only [Act.put]
          try simp only [List.setIfInBounds_toArray, List.set_cons_zero, List.set_cons_succ]
          refine reg_take 5 ?_ ?_ ?_ (by kernel_rfl) (by kernel_rfl) (by kernel_rfl) (fun _ _ _ h => h) ?_ ?_ (by assumption) ?_
          rotate_left 2
          · simp only [List.getElem?_toArray, List.getElem?_cons_succ, List.getElem?_cons_zero]; exact rfl
          · rfl
          · intro w hSw; (try dsimp only at hSw); go_simp; try with_reducible rfl
          try simp only [Act.put]
          try simp only [List.setIfInBounds_toArray, List.set_cons_zero, List.set_cons_succ]
          refine reg_take 6 ?_ ?_ ?_ (by kernel_rfl) (by kernel_rfl) (by kernel_rfl) (fun _ _ _ h => h) ?_ ?_ (by assumption) ?_
          rotate_left 2
          · simp only [List.getElem?_toArray, List.getElem?_cons_succ, List.getElem?_cons_zero]; exact rfl
          · rfl
          · intro w hSw; (try dsimp only at hSw); go_simp; try with_reducible rfl
          try simp only [Act.put]
          try simp only [List.setIfInBounds_toArray, List.set_cons_zero, List.set_cons_succ]
          refine reg_take 7 ?_ ?_ ?_ (by kernel_rfl) (by kernel_rfl) (by kernel_rfl) (fun _ _ _ h => h) ?_ ?_ (by assumption) ?_
          rotate_left 2
          · simp only [List.getElem?_toArray, List.getElem?_cons_succ, List.getElem?_cons_zero]; exact rfl
          · rfl
          · intro w hSw; (try dsimp only at hSw); go_simp; try with_reducible rfl
          try simp only [Act.put]
          try simp only [List.setIfInBounds_toArray, List.set_cons_zero, List.set_cons_succ]
          refine reg_take 8 ?_ ?_ ?_ (by kernel_rfl) (by kernel_rfl) (by kernel_rfl) (fun _ _ _ h => h) ?_ ?_ (by assumption) ?_
          rotate_left 2
          · simp only [List.getElem?_toArray, List.getElem?_cons_succ, List.getElem?_cons_zero]; exact rfl
          · rfl
          · intro w hSw; (try dsimp only at hSw); go_simp; try with_reducible rfl
          try simp only [Act.put]
          try simp only [List.setIfInBounds_toArray, List.set_cons_zero, List.set_cons_succ]
          refine reg_take 9 ?_ ?_ ?_ (by kernel_rfl) (by kernel_rfl) (by kernel_rfl) (fun _ _ _ h => h) ?_ ?_ (by assumption) ?_
          rotate_left 2
          · simp only [List.getElem?_toArray, List.getElem?_cons_succ, List.getElem?_cons_zero]; exact rfl
          · rfl
          · intro w hSw; (try dsimp only at hSw); go_simp; try with_reducible rfl
          try simp only [Act.put]
          try simp only [List.setIfInBounds_toArray, List.set_cons_zero, List.set_cons_succ]
          refine reg_take 10 ?_ ?_ ?_ (by kernel_rfl) (by kernel_rfl) (by kernel_rfl) (fun _ _ _ h => h) ?_ ?_ (by assumption) ?_
          rotate_left 2
          · simp only [List.getElem?_toArray, List.getElem?_cons_succ, List.getElem?_cons_zero]; exact rfl
          · rfl
          · intro w hSw; (try dsimp only at hSw); go_simp; try with_reducible rfl
          try simp only [Act.put]
          try simp only [List.setIfInBounds_toArray, List.set_cons_zero, List.set_cons_succ]
          refine reg_take 11 ?_ ?_ ?_ (by kernel_rfl) (by kernel_rfl) (by kernel_rfl) (fun _ _ _ h => h) ?_ ?_ (by assumption) ?_
          rotate_left 2
          · simp only [List.getElem?_toArray, List.getElem?_cons_succ, List.getElem?_cons_zero]; exact rfl
          · rfl
          · intro w hSw; (try dsimp only at hSw); go_simp; try with_reducible rfl
          try simp only [Act.put]
          try simp only [List.setIfInBounds_toArray, List.set_cons_zero, List.set_cons_succ]
          refine reg_take 12 ?_ ?_ ?_ (by kernel_rfl) (by kernel_rfl) (by kernel_rfl) (fun _ _ _ h => h) ?_ ?_ (by assumption) ?_
          rotate_left 2
          · simp only [List.getElem?_toArray, List.getElem?_cons_succ, List.getElem?_cons_zero]; exact rfl
          · rfl
          · intro w hSw; (try dsimp only at hSw); go_simp; try with_reducible rfl
          try simp only [Act.put]
          try simp only [List.setIfInBounds_toArray, List.set_cons_zero, List.set_cons_succ]
          refine reg_take 13 ?_ ?_ ?_ (by kernel_rfl) (by kernel_rfl) (by kernel_rfl) (fun _ _ _ h => h) ?_ ?_ (by assumption) ?_
          rotate_left 2
          · simp only [List.getElem?_toArray, List.getElem?_cons_succ, List.getElem?_cons_zero]; exact rfl
          · rfl
          · intro w hSw; (try dsimp only at hSw); go_simp; try with_reducible rfl
          try simp only [Act.put]
          try simp only [List.setIfInBounds_toArray, List.set_cons_zero, List.set_cons_succ]
          refine wpAnyH_done (by kernel_rfl) ?_ _
          refine OnlyN.normal ?_
          gi_wp2
          have hR_1 := hR_0.below (Below.refl _ _).drew'
          by_cases hq : a0 = p0 ∧ a1 = p1
          · have heq : ∀ W : World, Sem.run Try.prog (binOp BinOp.eql 26 (Value.agg #[.int .i64 a0, .int .i64 a1]) (Value.agg #[.int .i64 p0, .int .i64 p1])) W = Result.ok (Value.bool true) W := fun W => by rw [eqPt_run, decide_eq_true hq]
            have HEQ := Lib.hid (show ptT P U ((i + 1) % 3) = (p0, p1) by rw [HTA.out, hq.1, hq.2])
            clear hq
            refine rnd_region_held (S := fun w' => w'.cell? ⟨w.heap.size, 0, none⟩ = some (.pointer (some ⟨mb, 0, none⟩)) ∧ w'.cell? ⟨mb, 0, none⟩ = some (.slice (some ⟨pb, 0, none⟩) pn pc) ∧ w'.cell? ⟨yb, k1, none⟩ = some (.int .i64 (a : Int)) ∧ w'.cell? ⟨yb, k2, none⟩ = some (.int .i64 (b : Int)) ∧ w'.cell? ⟨pb, a * 2, none⟩ = some (.int .i64 a0) ∧ w'.cell? ⟨pb, a * 2 + 1, none⟩ = some (.int .i64 a1) ∧ w'.cell? ⟨pb, b * 2, none⟩ = some (.int .i64 b0) ∧ w'.cell? ⟨pb, b * 2 + 1, none⟩ = some (.int .i64 b1) ∧ w'.cell? ⟨w.heap.size + 1, 0, none⟩ = some (.int .i64 p0) ∧ w'.cell? ⟨w.heap.size + 1, 1, none⟩ = some (.int .i64 p1)) (by kernel_rfl) (by kernel_rfl) (CC.out _ _ _ _ (hR_1.below (Below.refl _ _).drew')) (fun hHeld => ?_)
            refine reg_take 0 ?_ ?_ ?_ (by kernel_rfl) (by kernel_rfl) (by kernel_rfl) (fun _ _ _ h => h) ?_ ?_ (by assumption) ?_
            rotate_left 2
            · simp only [List.getElem?_toArray, List.getElem?_cons_zero]; exact rfl
            · rfl
            · intro w hSw; (try dsimp only at hSw); go_simp; try with_reducible rfl
            try simp only [Act.put]
            try simp only [List.setIfInBounds_toArray, List.set_cons_zero, List.set_cons_succ]
            refine reg_take 1 ?_ ?_ ?_ (by kernel_rfl) (by kernel_rfl) (by kernel_rfl) (fun _ _ _ h => h) ?_ ?_ (by assumption) ?_
            rotate_left 2
            · simp only [List.getElem?_toArray, List.getElem?_cons_succ, List.getElem?_cons_zero]; exact rfl
            · rfl
            · intro w hSw; (try dsimp only at hSw); go_simp; try with_reducible rfl
            try simp only [Act.put]
            try simp only [List.setIfInBounds_toArray, List.set_cons_zero, List.set_cons_succ]
            refine reg_take 2 ?_ ?_ ?_ (by kernel_rfl) (by kernel_rfl) (by kernel_rfl) (fun _ _ _ h => h) ?_ ?_ (by assumption) ?_
            rotate_left 2
            · simp only [List.getElem?_toArray, List.getElem?_cons_succ, List.getElem?_cons_zero]; exact rfl
            · rfl
            · intro w hSw; (try dsimp only at hSw); go_simp; try with_reducible rfl
            try simp only [Act.put]
            try simp only [List.setIfInBounds_toArray, List.set_cons_zero, List.set_cons_succ]
            refine reg_take 3 ?_ ?_ ?_ (by kernel_rfl) (by kernel_rfl) (by kernel_rfl) (fun _ _ _ h => h) ?_ ?_ (by assumption) ?_
            rotate_left 2
            · simp only [List.getElem?_toArray, List.getElem?_cons_succ, List.getElem?_cons_zero]; exact rfl
            · rfl
            · intro w hSw; (try dsimp only at hSw); go_simp; try with_reducible rfl
            try simp only [Act.put]
            try simp only [List.setIfInBounds_toArray, List.set_cons_zero, List.set_cons_succ]
            refine reg_take 4 ?_ ?_ ?_ (by kernel_rfl) (by kernel_rfl) (by kernel_rfl) (fun _ _ _ h => h) ?_ ?_ (by assumption) ?_
            rotate_left 2
            · simp only [List.getElem?_toArray, List.getElem?_cons_succ, List.getElem?_cons_zero]; exact rfl
            · rfl
            · intro w hSw; (try dsimp only at hSw); go_simp; try with_reducible rfl
            try simp only [Act.put]
            try simp only [List.setIfInBounds_toArray, List.set_cons_zero, List.set_cons_succ]
            refine reg_take 5 ?_ ?_ ?_ (by kernel_rfl) (by kernel_rfl) (by kernel_rfl) (fun _ _ _ h => h) ?_ ?_ (by assumption) ?_
            rotate_left 2
            · simp only [List.getElem?_toArray, List.getElem?_cons_succ, List.getElem?_cons_zero]; exact rfl
            · rfl
            · intro w hSw; (try dsimp only at hSw); go_simp; try with_reducible rfl
            try simp only [Act.put]
            try simp only [List.setIfInBounds_toArray, List.set_cons_zero, List.set_cons_succ]
            refine reg_take 6 ?_ ?_ ?_ (by kernel_rfl) (by kernel_rfl) (by kernel_rfl) (fun _ _ _ h => h) ?_ ?_ (by assumption) ?_
            rotate_left 2
            · simp only [List.getElem?_toArray, List.getElem?_cons_succ, List.getElem?_cons_zero]; exact rfl
            · rfl
            · intro w hSw; (try dsimp only at hSw); go_simp; try with_reducible rfl
            try simp only [Act.put]
            try simp only [List.setIfInBounds_toArray, List.set_cons_zero, List.set_cons_succ]
            refine reg_take 7 ?_ ?_ ?_ (by kernel_rfl) (by kernel_rfl) (by kernel_rfl) (fun _ _ _ h => h) ?_ ?_ (by assumption) ?_
            rotate_left 2
            · simp only [List.getElem?_toArray, List.getElem?_cons_succ, List.getElem?_cons_zero]; exact rfl
            · rfl
            · intro w hSw; (try dsimp only at hSw); go_simp; try with_reducible rfl
            try simp only [Act.put]
            try simp only [List.setIfInBounds_toArray, List.set_cons_zero, List.set_cons_succ]
            refine reg_take 8 ?_ ?_ ?_ (by kernel_rfl) (by kernel_rfl) (by kernel_rfl) (fun _ _ _ h => h) ?_ ?_ (by assumption) ?_
            rotate_left 2
            · simp only [List.getElem?_toArray, List.getElem?_cons_succ, List.getElem?_cons_zero]; exact rfl
            · rfl
            · intro w hSw; (try dsimp only at hSw); go_simp; try with_reducible rfl
            try simp only [Act.put]
            try simp only [List.setIfInBounds_toArray, List.set_cons_zero, List.set_cons_succ]
            refine wpAnyH_done (by kernel_rfl) ?_ _
            refine OnlyN.normal ?_
            have hR_2 := hR_1.below (Below.refl _ _).drew'
            obtain ⟨y0, y1⟩ := hR_2.pa.open1
            gi_wp2
            clear y0 y1 heq
            have hR_3 := hR_2.setA (a : Int)
            rcases side_three P U i (p0, p1) with hss | hss | hss
            · skip
              as_aux_lemma =>
                have hco := fun W => Orient_is a0 a1 b0 b1 p0 p1 HPA.out.1 HPA.out.2 HPB.out.1 HPB.out.2 HPP.out.1 HPP.out.2 (hsv.symm.trans hss) W
                have HSS := Lib.hid hss; have CO := Lib.hid hco
                clear hss hco
                refine rnd_region_held (S := fun w' => w'.cell? ⟨w.heap.size, 0, none⟩ = some (.pointer (some ⟨mb, 0, none⟩)) ∧ w'.cell? ⟨mb, 0, none⟩ = some (.slice (some ⟨pb, 0, none⟩) pn pc) ∧ w'.cell? ⟨yb, k1, none⟩ = some (.int .i64 (a : Int)) ∧ w'.cell? ⟨yb, k2, none⟩ = some (.int .i64 (b : Int)) ∧ w'.cell? ⟨pb, a * 2, none⟩ = some (.int .i64 a0) ∧ w'.cell? ⟨pb, a * 2 + 1, none⟩ = some (.int .i64 a1) ∧ w'.cell? ⟨pb, b * 2, none⟩ = some (.int .i64 b0) ∧ w'.cell? ⟨pb, b * 2 + 1, none⟩ = some (.int .i64 b1) ∧ w'.cell? ⟨w.heap.size + 1, 0, none⟩ = some (.int .i64 p0) ∧ w'.cell? ⟨w.heap.size + 1, 1, none⟩ = some (.int .i64 p1)) (by kernel_rfl) (by kernel_rfl) (CC.out _ _ _ _ (hR_3.below (Below.refl _ _).drew')) (fun hHeld => ?_)
                refine reg_take 0 ?_ ?_ ?_ (by kernel_rfl) (by kernel_rfl) (by kernel_rfl) (fun _ _ _ h => h) ?_ ?_ (by assumption) ?_
                rotate_left 2
                · simp only [List.getElem?_toArray, List.getElem?_cons_zero]; exact rfl
                · rfl
                · intro w hSw; (try dsimp only at hSw); go_simp; try with_reducible rfl
                try simp only [Act.put]
                try simp only [List.setIfInBounds_toArray, List.set_cons_zero, List.set_cons_succ]
                refine reg_take 1 ?_ ?_ ?_ (by kernel_rfl) (by kernel_rfl) (by kernel_rfl) (fun _ _ _ h => h) ?_ ?_ (by assumption) ?_
                rotate_left 2
                · simp only [List.getElem?_toArray, List.getElem?_cons_succ, List.getElem?_cons_zero]; exact rfl
                · rfl
                · intro w hSw; (try dsimp only at hSw); go_simp; try with_reducible rfl
                try simp only [Act.put]
                try simp only [List.setIfInBounds_toArray, List.set_cons_zero, List.set_cons_succ]
                refine reg_take 2 ?_ ?_ ?_ (by kernel_rfl) (by kernel_rfl) (by kernel_rfl) (fun _ _ _ h => h) ?_ ?_ (by assumption) ?_
                rotate_left 2
                · simp only [List.getElem?_toArray, List.getElem?_cons_succ, List.getElem?_cons_zero]; exact rfl
                · rfl
                · intro w hSw; (try dsimp only at hSw); go_simp; try with_reducible rfl
                try simp only [Act.put]
                try simp only [List.setIfInBounds_toArray, List.set_cons_zero, List.set_cons_succ]
                refine reg_take 3 ?_ ?_ ?_ (by kernel_rfl) (by kernel_rfl) (by kernel_rfl) (fun _ _ _ h => h) ?_ ?_ (by assumption) ?_
                rotate_left 2
                · simp only [List.getElem?_toArray, List.getElem?_cons_succ, List.getElem?_cons_zero]; exact rfl
                · rfl
                · intro w hSw; (try dsimp only at hSw); go_simp; try with_reducible rfl
                try simp only [Act.put]
                try simp only [List.setIfInBounds_toArray, List.set_cons_zero, List.set_cons_succ]
                refine reg_take 4 ?_ ?_ ?_ (by kernel_rfl) (by kernel_rfl) (by kernel_rfl) (fun _ _ _ h => h) ?_ ?_ (by assumption) ?_
                rotate_left 2
                · simp only [List.getElem?_toArray, List.getElem?_cons_succ, List.getElem?_cons_zero]; exact rfl
                · rfl
                · intro w hSw; (try dsimp only at hSw); go_simp; try with_reducible rfl
                try simp only [Act.put]
                try simp only [List.setIfInBounds_toArray, List.set_cons_zero, List.set_cons_succ]
                refine reg_take 5 ?_ ?_ ?_ (by kernel_rfl) (by kernel_rfl) (by kernel_rfl) (fun _ _ _ h => h) ?_ ?_ (by assumption) ?_
                rotate_left 2
                · simp only [List.getElem?_toArray, List.getElem?_cons_succ, List.getElem?_cons_zero]; exact rfl
                · rfl
                · intro w hSw; (try dsimp only at hSw); go_simp; try with_reducible rfl
                try simp only [Act.put]
                try simp only [List.setIfInBounds_toArray, List.set_cons_zero, List.set_cons_succ]
                refine reg_take 6 ?_ ?_ ?_ (by kernel_rfl) (by kernel_rfl) (by kernel_rfl) (fun _ _ _ h => h) ?_ ?_ (by assumption) ?_
                rotate_left 2
                · simp only [List.getElem?_toArray, List.getElem?_cons_succ, List.getElem?_cons_zero]; exact rfl
                · rfl
                · intro w hSw; (try dsimp only at hSw); go_simp; try with_reducible rfl
                try simp only [Act.put]
                try simp only [List.setIfInBounds_toArray, List.set_cons_zero, List.set_cons_succ]
                refine reg_take 7 ?_ ?_ ?_ (by kernel_rfl) (by kernel_rfl) (by kernel_rfl) (fun _ _ _ h => h) ?_ ?_ (by assumption) ?_
                rotate_left 2
                · simp only [List.getElem?_toArray, List.getElem?_cons_succ, List.getElem?_cons_zero]; exact rfl
                · rfl
                · intro w hSw; (try dsimp only at hSw); go_simp; try with_reducible rfl
                try simp only [Act.put]
                try simp only [List.setIfInBounds_toArray, List.set_cons_zero, List.set_cons_succ]
                refine reg_take 8 ?_ ?_ ?_ (by kernel_rfl) (by kernel_rfl) (by kernel_rfl) (fun _ _ _ h => h) ?_ ?_ (by assumption) ?_
                rotate_left 2
                · simp only [List.getElem?_toArray, List.getElem?_cons_succ, List.getElem?_cons_zero]; exact rfl
                · rfl
                · intro w hSw; (try dsimp only at hSw); go_simp; try with_reducible rfl
                try simp only [Act.put]
                try simp only [List.setIfInBounds_toArray, List.set_cons_zero, List.set_cons_succ]
                refine reg_take 9 ?_ ?_ ?_ (by kernel_rfl) (by kernel_rfl) (by kernel_rfl) (fun _ _ _ h => h) ?_ ?_ (by assumption) ?_
                rotate_left 2
                · simp only [List.getElem?_toArray, List.getElem?_cons_succ, List.getElem?_cons_zero]; exact rfl
                · rfl
                · intro w hSw; (try dsimp only at hSw); go_simp; try with_reducible rfl
                try simp only [Act.put]
                try simp only [List.setIfInBounds_toArray, List.set_cons_zero, List.set_cons_succ]
                refine reg_take 10 ?_ ?_ ?_ (by kernel_rfl) (by kernel_rfl) (by kernel_rfl) (fun _ _ _ h => h) ?_ ?_ (by assumption) ?_
                rotate_left 2
                · simp only [List.getElem?_toArray, List.getElem?_cons_succ, List.getElem?_cons_zero]; exact rfl
                · rfl
                · intro w hSw; (try dsimp only at hSw); go_simp; try with_reducible rfl
                try simp only [Act.put]
                try simp only [List.setIfInBounds_toArray, List.set_cons_zero, List.set_cons_succ]
                refine reg_take 11 ?_ ?_ ?_ (by kernel_rfl) (by kernel_rfl) (by kernel_rfl) (fun _ _ _ h => h) ?_ ?_ (by assumption) ?_
                rotate_left 2
                · simp only [List.getElem?_toArray, List.getElem?_cons_succ, List.getElem?_cons_zero]; exact rfl
                · rfl
                · intro w hSw; (try dsimp only at hSw); go_simp; try with_reducible rfl
                try simp only [Act.put]
                try simp only [List.setIfInBounds_toArray, List.set_cons_zero, List.set_cons_succ]
                refine reg_take 12 ?_ ?_ ?_ (by kernel_rfl) (by kernel_rfl) (by kernel_rfl) (fun _ _ _ h => h) ?_ ?_ (by assumption) ?_
                rotate_left 2
                · simp only [List.getElem?_toArray, List.getElem?_cons_succ, List.getElem?_cons_zero]; exact rfl
                · rfl
                · intro w hSw; (try dsimp only at hSw); go_simp; try with_reducible rfl
                try simp only [Act.put]
                try simp only [List.setIfInBounds_toArray, List.set_cons_zero, List.set_cons_succ]
                refine reg_take 13 ?_ ?_ ?_ (by kernel_rfl) (by kernel_rfl) (by kernel_rfl) (fun _ _ _ h => h) ?_ ?_ (by assumption) ?_
                rotate_left 2
                · simp only [List.getElem?_toArray, List.getElem?_cons_succ, List.getElem?_cons_zero]; exact rfl
                · rfl
                · intro w hSw; (try dsimp only at hSw); go_simp; try with_reducible rfl
                try simp only [Act.put]
                try simp only [List.setIfInBounds_toArray, List.set_cons_zero, List.set_cons_succ]
                refine reg_take 14 ?_ ?_ ?_ (by kernel_rfl) (by kernel_rfl) (by kernel_rfl) (fun _ _ _ h => h) ?_ ?_ (by assumption) ?_
                rotate_left 2
                · simp only [List.getElem?_toArray, List.getElem?_cons_succ, List.getElem?_cons_zero]; exact rfl
                · rfl
                · intro w hSw; (try dsimp only at hSw); go_simp; try with_reducible rfl
                try simp only [Act.put]
                try simp only [List.setIfInBounds_toArray, List.set_cons_zero, List.set_cons_succ]
                refine reg_call 15 ?_ (by kernel_rfl) ?_ (fun K hK => ?_)
                rotate_left 1
                · simp only [List.getElem?_toArray, List.getElem?_cons_succ, List.getElem?_cons_zero]; exact rfl
                go_simp
                refine (CO.out _).mono ?_
                rintro e w4 ⟨rfl, hb4⟩
                have hR_4 := (hR_3.below (Below.refl _ _).drew').below hb4
                go_wp2_with fail
                refine hK.out _ _ (CC.out _ _ _ _ hR_4) (fun hHeld => ?_)
                clear hK K
                try simp only [Act.put]
                try simp only [List.setIfInBounds_toArray, List.set_cons_zero, List.set_cons_succ]
                refine wpAnyH_done (by kernel_rfl) ?_ _
                refine OnlyN.normal ?_
                have HEB := Lib.hid (show onE P (p0, p1) U i = false by unfold onE; rw [HSS.out]; rfl)
                gi_wp2
                go_roundw
                case rel =>
                  refine ⟨i + 1, by omega, by go_num, ?_, ?_, ?_⟩
                  · have e : cnP P U (p0, p1) (i + 1) = n + 1 := by unfold cnP; rw [HN.out, HSS.out]; rfl
                    (rw [e]) <;> go_num
                  · have e : cnZ P U (p0, p1) (i + 1) = z := by unfold cnZ; rw [HZ.out, HSS.out]; rfl
                    (rw [e]) <;> go_num
                  · have e : rsK P (p0, p1) U s (i + 1) = ⟨(rsK P (p0, p1) U s i).ins, (a : Int), (rsK P (p0, p1) U s i).e0, (rsK P (p0, p1) U s i).e1⟩ := by
                      show rsI P (p0, p1) U (rsK P (p0, p1) U s i) i = _
                      unfold rsI
                      rw [if_pos HEQ.out, HEB.out, HEA.out, HEBB.out]
                      rfl
                    rw [e]
                    exact hR_4
                case measure => simp [intOf]; omega
            · skip
              as_aux_lemma =>
                have hco := fun W => Orient_is a0 a1 b0 b1 p0 p1 HPA.out.1 HPA.out.2 HPB.out.1 HPB.out.2 HPP.out.1 HPP.out.2 (hsv.symm.trans hss) W
                have HSS := Lib.hid hss; have CO := Lib.hid hco
                clear hss hco
                refine rnd_region_held (S := fun w' => w'.cell? ⟨w.heap.size, 0, none⟩ = some (.pointer (some ⟨mb, 0, none⟩)) ∧ w'.cell? ⟨mb, 0, none⟩ = some (.slice (some ⟨pb, 0, none⟩) pn pc) ∧ w'.cell? ⟨yb, k1, none⟩ = some (.int .i64 (a : Int)) ∧ w'.cell? ⟨yb, k2, none⟩ = some (.int .i64 (b : Int)) ∧ w'.cell? ⟨pb, a * 2, none⟩ = some (.int .i64 a0) ∧ w'.cell? ⟨pb, a * 2 + 1, none⟩ = some (.int .i64 a1) ∧ w'.cell? ⟨pb, b * 2, none⟩ = some (.int .i64 b0) ∧ w'.cell? ⟨pb, b * 2 + 1, none⟩ = some (.int .i64 b1) ∧ w'.cell? ⟨w.heap.size + 1, 0, none⟩ = some (.int .i64 p0) ∧ w'.cell? ⟨w.heap.size + 1, 1, none⟩ = some (.int .i64 p1)) (by kernel_rfl) (by kernel_rfl) (CC.out _ _ _ _ (hR_3.below (Below.refl _ _).drew')) (fun hHeld => ?_)
                refine reg_take 0 ?_ ?_ ?_ (by kernel_rfl) (by kernel_rfl) (by kernel_rfl) (fun _ _ _ h => h) ?_ ?_ (by assumption) ?_
                rotate_left 2
                · simp only [List.getElem?_toArray, List.getElem?_cons_zero]; exact rfl
                · rfl
                · intro w hSw; (try dsimp only at hSw); go_simp; try with_reducible rfl
                try simp only [Act.put]
                try simp only [List.setIfInBounds_toArray, List.set_cons_zero, List.set_cons_succ]
                refine reg_take 1 ?_ ?_ ?_ (by kernel_rfl) (by kernel_rfl) (by kernel_rfl) (fun _ _ _ h => h) ?_ ?_ (by assumption) ?_
                rotate_left 2
                · simp only [List.getElem?_toArray, List.getElem?_cons_succ, List.getElem?_cons_zero]; exact rfl
                · rfl
                · intro w hSw; (try dsimp only at hSw); go_simp; try with_reducible rfl
                try simp only [Act.put]
                try simp only [List.setIfInBounds_toArray, List.set_cons_zero, List.set_cons_succ]
                refine reg_take 2 ?_ ?_ ?_ (by kernel_rfl) (by kernel_rfl) (by kernel_rfl) (fun _ _ _ h => h) ?_ ?_ (by assumption) ?_
                rotate_left 2
                · simp only [List.getElem?_toArray, List.getElem?_cons_succ, List.getElem?_cons_zero]; exact rfl
                · rfl
                · intro w hSw; (try dsimp only at hSw); go_simp; try with_reducible rfl
                try simp only [Act.put]
                try simp only [List.setIfInBounds_toArray, List.set_cons_zero, List.set_cons_succ]
                refine reg_take 3 ?_ ?_ ?_ (by kernel_rfl) (by kernel_rfl) (by kernel_rfl) (fun _ _ _ h => h) ?_ ?_ (by assumption) ?_
                rotate_left 2
                · simp only [List.getElem?_toArray, List.getElem?_cons_succ, List.getElem?_cons_zero]; exact rfl
                · rfl
                · intro w hSw; (try dsimp only at hSw); go_simp; try with_reducible rfl
                try simp only [Act.put]
                try simp only [List.setIfInBounds_toArray, List.set_cons_zero, List.set_cons_succ]
                refine reg_take 4 ?_ ?_ ?_ (by kernel_rfl) (by kernel_rfl) (by kernel_rfl) (fun _ _ _ h => h) ?_ ?_ (by assumption) ?_
                rotate_left 2
                · simp only [List.getElem?_toArray, List.getElem?_cons_succ, List.getElem?_cons_zero]; exact rfl
                · rfl
                · intro w hSw; (try dsimp only at hSw); go_simp; try with_reducible rfl
                try simp only [Act.put]
                try simp only [List.setIfInBounds_toArray, List.set_cons_zero, List.set_cons_succ]
                refine reg_take 5 ?_ ?_ ?_ (by kernel_rfl) (by kernel_rfl) (by kernel_rfl) (fun _ _ _ h => h) ?_ ?_ (by assumption) ?_
                rotate_left 2
                · simp only [List.getElem?_toArray, List.getElem?_cons_succ, List.getElem?_cons_zero]; exact rfl
                · rfl
                · intro w hSw; (try dsimp only at hSw); go_simp; try with_reducible rfl
                try simp only [Act.put]
                try simp only [List.setIfInBounds_toArray, List.set_cons_zero, List.set_cons_succ]
                refine reg_take 6 ?_ ?_ ?_ (by kernel_rfl) (by kernel_rfl) (by kernel_rfl) (fun _ _ _ h => h) ?_ ?_ (by assumption) ?_
                rotate_left 2
                · simp only [List.getElem?_toArray, List.getElem?_cons_succ, List.getElem?_cons_zero]; exact rfl
                · rfl
                · intro w hSw; (try dsimp only at hSw); go_simp; try with_reducible rfl
                try simp only [Act.put]
                try simp only [List.setIfInBounds_toArray, List.set_cons_zero, List.set_cons_succ]
                refine reg_take 7 ?_ ?_ ?_ (by kernel_rfl) (by kernel_rfl) (by kernel_rfl) (fun _ _ _ h => h) ?_ ?_ (by assumption) ?_
                rotate_left 2
                · simp only [List.getElem?_toArray, List.getElem?_cons_succ, List.getElem?_cons_zero]; exact rfl
                · rfl
                · intro w hSw; (try dsimp only at hSw); go_simp; try with_reducible rfl
                try simp only [Act.put]
                try simp only [List.setIfInBounds_toArray, List.set_cons_zero, List.set_cons_succ]
                refine reg_take 8 ?_ ?_ ?_ (by kernel_rfl) (by kernel_rfl) (by kernel_rfl) (fun _ _ _ h => h) ?_ ?_ (by assumption) ?_
                rotate_left 2
                · simp only [List.getElem?_toArray, List.getElem?_cons_succ, List.getElem?_cons_zero]; exact rfl
                · rfl
                · intro w hSw; (try dsimp only at hSw); go_simp; try with_reducible rfl
                try simp only [Act.put]
                try simp only [List.setIfInBounds_toArray, List.set_cons_zero, List.set_cons_succ]
                refine reg_take 9 ?_ ?_ ?_ (by kernel_rfl) (by kernel_rfl) (by kernel_rfl) (fun _ _ _ h => h) ?_ ?_ (by assumption) ?_
                rotate_left 2
                · simp only [List.getElem?_toArray, List.getElem?_cons_succ, List.getElem?_cons_zero]; exact rfl
                · rfl
                · intro w hSw; (try dsimp only at hSw); go_simp; try with_reducible rfl
                try simp only [Act.put]
                try simp only [List.setIfInBounds_toArray, List.set_cons_zero, List.set_cons_succ]
                refine reg_take 10 ?_ ?_ ?_ (by kernel_rfl) (by kernel_rfl) (by kernel_rfl) (fun _ _ _ h => h) ?_ ?_ (by assumption) ?_
                rotate_left 2
                · simp only [List.getElem?_toArray, List.getElem?_cons_succ, List.getElem?_cons_zero]; exact rfl
                · rfl
                · intro w hSw; (try dsimp only at hSw); go_simp; try with_reducible rfl
                try simp only [Act.put]
                try simp only [List.setIfInBounds_toArray, List.set_cons_zero, List.set_cons_succ]
                refine reg_take 11 ?_ ?_ ?_ (by kernel_rfl) (by kernel_rfl) (by kernel_rfl) (fun _ _ _ h => h) ?_ ?_ (by assumption) ?_
                rotate_left 2
                · simp only [List.getElem?_toArray, List.getElem?_cons_succ, List.getElem?_cons_zero]; exact rfl
                · rfl
                · intro w hSw; (try dsimp only at hSw); go_simp; try with_reducible rfl
                try simp only [Act.put]
                try simp only [List.setIfInBounds_toArray, List.set_cons_zero, List.set_cons_succ]
                refine reg_take 12 ?_ ?_ ?_ (by kernel_rfl) (by kernel_rfl) (by kernel_rfl) (fun _ _ _ h => h) ?_ ?_ (by assumption) ?_
                rotate_left 2
                · simp only [List.getElem?_toArray, List.getElem?_cons_succ, List.getElem?_cons_zero]; exact rfl
                · rfl
                · intro w hSw; (try dsimp only at hSw); go_simp; try with_reducible rfl
                try simp only [Act.put]
                try simp only [List.setIfInBounds_toArray, List.set_cons_zero, List.set_cons_succ]
                refine reg_take 13 ?_ ?_ ?_ (by kernel_rfl) (by kernel_rfl) (by kernel_rfl) (fun _ _ _ h => h) ?_ ?_ (by assumption) ?_
                rotate_left 2
                · simp only [List.getElem?_toArray, List.getElem?_cons_succ, List.getElem?_cons_zero]; exact rfl
                · rfl
                · intro w hSw; (try dsimp only at hSw); go_simp; try with_reducible rfl
                try simp only [Act.put]
                try simp only [List.setIfInBounds_toArray, List.set_cons_zero, List.set_cons_succ]
                refine reg_take 14 ?_ ?_ ?_ (by kernel_rfl) (by kernel_rfl) (by kernel_rfl) (fun _ _ _ h => h) ?_ ?_ (by assumption) ?_
                rotate_left 2
                · simp only [List.getElem?_toArray, List.getElem?_cons_succ, List.getElem?_cons_zero]; exact rfl
                · rfl
                · intro w hSw; (try dsimp only at hSw); go_simp; try with_reducible rfl
                try simp only [Act.put]
                try simp only [List.setIfInBounds_toArray, List.set_cons_zero, List.set_cons_succ]
                refine reg_call 15 ?_ (by kernel_rfl) ?_ (fun K hK => ?_)
                rotate_left 1
                · simp only [List.getElem?_toArray, List.getElem?_cons_succ, List.getElem?_cons_zero]; exact rfl
                go_simp
                refine (CO.out _).mono ?_
                rintro e w4 ⟨rfl, hb4⟩
                have hR_4 := (hR_3.below (Below.refl _ _).drew').below hb4
                go_wp2_with fail
                refine hK.out _ _ (CC.out _ _ _ _ hR_4) (fun hHeld => ?_)
                clear hK K
                try simp only [Act.put]
                try simp only [List.setIfInBounds_toArray, List.set_cons_zero, List.set_cons_succ]
                refine wpAnyH_done (by kernel_rfl) ?_ _
                refine OnlyN.normal ?_
                gi_wp2
                obtain ⟨bt, hbt⟩ : ∃ bt, betP (p0, p1) (a0, a1) (b0, b1) = bt := ⟨_, rfl⟩
                have hbc := fun W => Between_is p0 p1 a0 a1 b0 b1 HPP.out.1 HPP.out.2 HPA.out.1 HPA.out.2 HPB.out.1 HPB.out.2 bt hbt W
                have BC := Lib.hid hbc
                have HEB := Lib.hid (show onE P (p0, p1) U i = bt by unfold onE; rw [HSS.out, HTA.out, HTB.out, hbt]; rfl)
                clear hbc hbt
                cases bt with
                | true =>
                  refine rnd_region_held (S := fun w' => w'.cell? ⟨w.heap.size, 0, none⟩ = some (.pointer (some ⟨mb, 0, none⟩)) ∧ w'.cell? ⟨mb, 0, none⟩ = some (.slice (some ⟨pb, 0, none⟩) pn pc) ∧ w'.cell? ⟨yb, k1, none⟩ = some (.int .i64 (a : Int)) ∧ w'.cell? ⟨yb, k2, none⟩ = some (.int .i64 (b : Int)) ∧ w'.cell? ⟨pb, a * 2, none⟩ = some (.int .i64 a0) ∧ w'.cell? ⟨pb, a * 2 + 1, none⟩ = some (.int .i64 a1) ∧ w'.cell? ⟨pb, b * 2, none⟩ = some (.int .i64 b0) ∧ w'.cell? ⟨pb, b * 2 + 1, none⟩ = some (.int .i64 b1) ∧ w'.cell? ⟨w.heap.size + 1, 0, none⟩ = some (.int .i64 p0) ∧ w'.cell? ⟨w.heap.size + 1, 1, none⟩ = some (.int .i64 p1)) (by kernel_rfl) (by kernel_rfl) (CC.out _ _ _ _ (hR_4.below (Below.refl _ _).drew')) (fun hHeld => ?_)
                  refine reg_take 0 ?_ ?_ ?_ (by kernel_rfl) (by kernel_rfl) (by kernel_rfl) (fun _ _ _ h => h) ?_ ?_ (by assumption) ?_
                  rotate_left 2
                  · simp only [List.getElem?_toArray, List.getElem?_cons_zero]; exact rfl
                  · rfl
                  · intro w hSw; (try dsimp only at hSw); go_simp; try with_reducible rfl
                  try simp only [Act.put]
                  try simp only [List.setIfInBounds_toArray, List.set_cons_zero, List.set_cons_succ]
                  refine reg_take 1 ?_ ?_ ?_ (by kernel_rfl) (by kernel_rfl) (by kernel_rfl) (fun _ _ _ h => h) ?_ ?_ (by assumption) ?_
                  rotate_left 2
                  · simp only [List.getElem?_toArray, List.getElem?_cons_succ, List.getElem?_cons_zero]; exact rfl
                  · rfl
                  · intro w hSw; (try dsimp only at hSw); go_simp; try with_reducible rfl
                  try simp only [Act.put]
                  try simp only [List.setIfInBounds_toArray, List.set_cons_zero, List.set_cons_succ]
                  refine reg_take 2 ?_ ?_ ?_ (by kernel_rfl) (by kernel_rfl) (by kernel_rfl) (fun _ _ _ h => h) ?_ ?_ (by assumption) ?_
                  rotate_left 2
                  · simp only [List.getElem?_toArray, List.getElem?_cons_succ, List.getElem?_cons_zero]; exact rfl
                  · rfl
                  · intro w hSw; (try dsimp only at hSw); go_simp; try with_reducible rfl
                  try simp only [Act.put]
                  try simp only [List.setIfInBounds_toArray, List.set_cons_zero, List.set_cons_succ]
                  refine reg_take 3 ?_ ?_ ?_ (by kernel_rfl) (by kernel_rfl) (by kernel_rfl) (fun _ _ _ h => h) ?_ ?_ (by assumption) ?_
                  rotate_left 2
                  · simp only [List.getElem?_toArray, List.getElem?_cons_succ, List.getElem?_cons_zero]; exact rfl
                  · rfl
                  · intro w hSw; (try dsimp only at hSw); go_simp; try with_reducible rfl
                  try simp only [Act.put]
                  try simp only [List.setIfInBounds_toArray, List.set_cons_zero, List.set_cons_succ]
                  refine reg_take 4 ?_ ?_ ?_ (by kernel_rfl) (by kernel_rfl) (by kernel_rfl) (fun _ _ _ h => h) ?_ ?_ (by assumption) ?_
                  rotate_left 2
                  · simp only [List.getElem?_toArray, List.getElem?_cons_succ, List.getElem?_cons_zero]; exact rfl
                  · rfl
                  · intro w hSw; (try dsimp only at hSw); go_simp; try with_reducible rfl
                  try simp only [Act.put]
                  try simp only [List.setIfInBounds_toArray, List.set_cons_zero, List.set_cons_succ]
                  refine reg_take 5 ?_ ?_ ?_ (by kernel_rfl) (by kernel_rfl) (by kernel_rfl) (fun _ _ _ h => h) ?_ ?_ (by assumption) ?_
                  rotate_left 2
                  · simp only [List.getElem?_toArray, List.getElem?_cons_succ, List.getElem?_cons_zero]; exact rfl
                  · rfl
                  · intro w hSw; (try dsimp only at hSw); go_simp; try with_reducible rfl
                  try simp only [Act.put]
                  try simp only [List.setIfInBounds_toArray, List.set_cons_zero, List.set_cons_succ]
                  refine reg_take 6 ?_ ?_ ?_ (by kernel_rfl) (by kernel_rfl) (by kernel_rfl) (fun _ _ _ h => h) ?_ ?_ (by assumption) ?_
                  rotate_left 2
                  · simp only [List.getElem?_toArray, List.getElem?_cons_succ, List.getElem?_cons_zero]; exact rfl
                  · rfl
                  · intro w hSw; (try dsimp only at hSw); go_simp; try with_reducible rfl
                  try simp only [Act.put]
                  try simp only [List.setIfInBounds_toArray, List.set_cons_zero, List.set_cons_succ]
                  refine reg_take 7 ?_ ?_ ?_ (by kernel_rfl) (by kernel_rfl) (by kernel_rfl) (fun _ _ _ h => h) ?_ ?_ (by assumption) ?_
                  rotate_left 2
                  · simp only [List.getElem?_toArray, List.getElem?_cons_succ, List.getElem?_cons_zero]; exact rfl
                  · rfl
                  · intro w hSw; (try dsimp only at hSw); go_simp; try with_reducible rfl
                  try simp only [Act.put]
                  try simp only [List.setIfInBounds_toArray, List.set_cons_zero, List.set_cons_succ]
                  refine reg_take 8 ?_ ?_ ?_ (by kernel_rfl) (by kernel_rfl) (by kernel_rfl) (fun _ _ _ h => h) ?_ ?_ (by assumption) ?_
                  rotate_left 2
                  · simp only [List.getElem?_toArray, List.getElem?_cons_succ, List.getElem?_cons_zero]; exact rfl
                  · rfl
                  · intro w hSw; (try dsimp only at hSw); go_simp; try with_reducible rfl
                  try simp only [Act.put]
                  try simp only [List.setIfInBounds_toArray, List.set_cons_zero, List.set_cons_succ]
                  refine reg_take 9 ?_ ?_ ?_ (by kernel_rfl) (by kernel_rfl) (by kernel_rfl) (fun _ _ _ h => h) ?_ ?_ (by assumption) ?_
                  rotate_left 2
                  · simp only [List.getElem?_toArray, List.getElem?_cons_succ, List.getElem?_cons_zero]; exact rfl
                  · rfl
                  · intro w hSw; (try dsimp only at hSw); go_simp; try with_reducible rfl
                  try simp only [Act.put]
                  try simp only [List.setIfInBounds_toArray, List.set_cons_zero, List.set_cons_succ]
                  refine reg_take 10 ?_ ?_ ?_ (by kernel_rfl) (by kernel_rfl) (by kernel_rfl) (fun _ _ _ h => h) ?_ ?_ (by assumption) ?_
                  rotate_left 2
                  · simp only [List.getElem?_toArray, List.getElem?_cons_succ, List.getElem?_cons_zero]; exact rfl
                  · rfl
                  · intro w hSw; (try dsimp only at hSw); go_simp; try with_reducible rfl
                  try simp only [Act.put]
                  try simp only [List.setIfInBounds_toArray, List.set_cons_zero, List.set_cons_succ]
                  refine reg_take 11 ?_ ?_ ?_ (by kernel_rfl) (by kernel_rfl) (by kernel_rfl) (fun _ _ _ h => h) ?_ ?_ (by assumption) ?_
                  rotate_left 2
                  · simp only [List.getElem?_toArray, List.getElem?_cons_succ, List.getElem?_cons_zero]; exact rfl
                  · rfl
                  · intro w hSw; (try dsimp only at hSw); go_simp; try with_reducible rfl
                  try simp only [Act.put]
                  try simp only [List.setIfInBounds_toArray, List.set_cons_zero, List.set_cons_succ]
                  refine reg_take 12 ?_ ?_ ?_ (by kernel_rfl) (by kernel_rfl) (by kernel_rfl) (fun _ _ _ h => h) ?_ ?_ (by assumption) ?_
                  rotate_left 2
                  · simp only [List.getElem?_toArray, List.getElem?_cons_succ, List.getElem?_cons_zero]; exact rfl
                  · rfl
                  · intro w hSw; (try dsimp only at hSw); go_simp; try with_reducible rfl
                  try simp only [Act.put]
                  try simp only [List.setIfInBounds_toArray, List.set_cons_zero, List.set_cons_succ]
                  refine reg_take 13 ?_ ?_ ?_ (by kernel_rfl) (by kernel_rfl) (by kernel_rfl) (fun _ _ _ h => h) ?_ ?_ (by assumption) ?_
                  rotate_left 2
                  · simp only [List.getElem?_toArray, List.getElem?_cons_succ, List.getElem?_cons_zero]; exact rfl
                  · rfl
                  · intro w hSw; (try dsimp only at hSw); go_simp; try with_reducible rfl
                  try simp only [Act.put]
                  try simp only [List.setIfInBounds_toArray, List.set_cons_zero, List.set_cons_succ]
                  refine reg_take 14 ?_ ?_ ?_ (by kernel_rfl) (by kernel_rfl) (by kernel_rfl) (fun _ _ _ h => h) ?_ ?_ (by assumption) ?_
                  rotate_left 2
                  · simp only [List.getElem?_toArray, List.getElem?_cons_succ, List.getElem?_cons_zero]; exact rfl
                  · rfl
                  · intro w hSw; (try dsimp only at hSw); go_simp; try with_reducible rfl
                  try simp only [Act.put]
                  try simp only [List.setIfInBounds_toArray, List.set_cons_zero, List.set_cons_succ]
                  refine reg_call 15 ?_ (by kernel_rfl) ?_ (fun K hK => ?_)
                  rotate_left 1
                  · simp only [List.getElem?_toArray, List.getElem?_cons_succ, List.getElem?_cons_zero]; exact rfl
                  go_simp
                  refine (BC.out _).mono ?_
                  rintro e w5 ⟨rfl, hb5⟩
                  have hR_5 := (hR_4.below (Below.refl _ _).drew').below hb5
                  go_wp2_with fail
                  refine hK.out _ _ (CC.out _ _ _ _ hR_5) (fun hHeld => ?_)
                  clear hK K
                  try simp only [Act.put]
                  try simp only [List.setIfInBounds_toArray, List.set_cons_zero, List.set_cons_succ]
                  refine wpAnyH_done (by kernel_rfl) ?_ _
                  refine OnlyN.normal ?_
                  have hmn1 := HMM.out.1 a b
                  have hmn2 := HMM.out.2 a b
                  obtain ⟨y0, y1, y2, y3⟩ := hR_5.pe.open2
                  obtain ⟨y4, y5⟩ := hR_5.pe.put2 (.int .i64 (min (a : Int) (b : Int)))
                  obtain ⟨mn, hmn⟩ : ∃ mn, min (a : Int) (b : Int) = mn := ⟨_, rfl⟩
                  obtain ⟨mx, hmx⟩ : ∃ mx, max (a : Int) (b : Int) = mx := ⟨_, rfl⟩
                  rw [hmn] at hmn1 y4 y5
                  rw [hmx] at hmn2
                  have HMN := Lib.hid hmn; have HMX := Lib.hid hmx
                  clear hmn hmx
                  gi_wp2
                  clear hmn1 hmn2 y0 y1 y2 y3 y4 y5
                  go_roundw
                  case rel =>
                    refine ⟨i + 1, by omega, by go_num, ?_, ?_, ?_⟩
                    · have e : cnP P U (p0, p1) (i + 1) = n := by unfold cnP; rw [HN.out, HSS.out]; rfl
                      (rw [e]) <;> go_num
                    · have e : cnZ P U (p0, p1) (i + 1) = z + 1 := by unfold cnZ; rw [HZ.out, HSS.out]; rfl
                      (rw [e]) <;> go_num
                    · have e : rsK P (p0, p1) U s (i + 1) = ⟨(rsK P (p0, p1) U s i).ins, (a : Int), mn, mx⟩ := by
                        show rsI P (p0, p1) U (rsK P (p0, p1) U s i) i = _
                        unfold rsI
                        rw [if_pos HEQ.out, HEB.out, HEA.out, HEBB.out, HMN.out, HMX.out]
                        rfl
                      rw [e]
                      exact hR_5.setE _ _
                  case measure => simp [intOf]; omega
                | false =>
                  refine rnd_region_held (S := fun w' => w'.cell? ⟨w.heap.size, 0, none⟩ = some (.pointer (some ⟨mb, 0, none⟩)) ∧ w'.cell? ⟨mb, 0, none⟩ = some (.slice (some ⟨pb, 0, none⟩) pn pc) ∧ w'.cell? ⟨yb, k1, none⟩ = some (.int .i64 (a : Int)) ∧ w'.cell? ⟨yb, k2, none⟩ = some (.int .i64 (b : Int)) ∧ w'.cell? ⟨pb, a * 2, none⟩ = some (.int .i64 a0) ∧ w'.cell? ⟨pb, a * 2 + 1, none⟩ = some (.int .i64 a1) ∧ w'.cell? ⟨pb, b * 2, none⟩ = some (.int .i64 b0) ∧ w'.cell? ⟨pb, b * 2 + 1, none⟩ = some (.int .i64 b1) ∧ w'.cell? ⟨w.heap.size + 1, 0, none⟩ = some (.int .i64 p0) ∧ w'.cell? ⟨w.heap.size + 1, 1, none⟩ = some (.int .i64 p1)) (by kernel_rfl) (by kernel_rfl) (CC.out _ _ _ _ (hR_4.below (Below.refl _ _).drew')) (fun hHeld => ?_)
                  refine reg_take 0 ?_ ?_ ?_ (by kernel_rfl) (by kernel_rfl) (by kernel_rfl) (fun _ _ _ h => h) ?_ ?_ (by assumption) ?_
                  rotate_left 2
                  · simp only [List.getElem?_toArray, List.getElem?_cons_zero]; exact rfl
                  · rfl
                  · intro w hSw; (try dsimp only at hSw); go_simp; try with_reducible rfl
                  try simp only [Act.put]
                  try simp only [List.setIfInBounds_toArray, List.set_cons_zero, List.set_cons_succ]
                  refine reg_take 1 ?_ ?_ ?_ (by kernel_rfl) (by kernel_rfl) (by kernel_rfl) (fun _ _ _ h => h) ?_ ?_ (by assumption) ?_
                  rotate_left 2
                  · simp only [List.getElem?_toArray, List.getElem?_cons_succ, List.getElem?_cons_zero]; exact rfl
                  · rfl
                  · intro w hSw; (try dsimp only at hSw); go_simp; try with_reducible rfl
                  try simp only [Act.put]
                  try simp only [List.setIfInBounds_toArray, List.set_cons_zero, List.set_cons_succ]
                  refine reg_take 2 ?_ ?_ ?_ (by kernel_rfl) (by kernel_rfl) (by kernel_rfl) (fun _ _ _ h => h) ?_ ?_ (by assumption) ?_
                  rotate_left 2
                  · simp only [List.getElem?_toArray, List.getElem?_cons_succ, List.getElem?_cons_zero]; exact rfl
                  · rfl
                  · intro w hSw; (try dsimp only at hSw); go_simp; try with_reducible rfl
                  try simp only [Act.put]
                  try simp only [List.setIfInBounds_toArray, List.set_cons_zero, List.set_cons_succ]
                  refine reg_take 3 ?_ ?_ ?_ (by kernel_rfl) (by kernel_rfl) (by kernel_rfl) (fun _ _ _ h => h) ?_ ?_ (by assumption) ?_
                  rotate_left 2
                  · simp only [List.getElem?_toArray, List.getElem?_cons_succ, List.getElem?_cons_zero]; exact rfl
                  · rfl
                  · intro w hSw; (try dsimp only at hSw); go_simp; try with_reducible rfl
                  try simp only [Act.put]
                  try simp only [List.setIfInBounds_toArray, List.set_cons_zero, List.set_cons_succ]
                  refine reg_take 4 ?_ ?_ ?_ (by kernel_rfl) (by kernel_rfl) (by kernel_rfl) (fun _ _ _ h => h) ?_ ?_ (by assumption) ?_
                  rotate_left 2
                  · simp only [List.getElem?_toArray, List.getElem?_cons_succ, List.getElem?_cons_zero]; exact rfl
                  · rfl
                  · intro w hSw; (try dsimp only at hSw); go_simp; try with_reducible rfl
                  try simp only [Act.put]
                  try simp only [List.setIfInBounds_toArray, List.set_cons_zero, List.set_cons_succ]
                  refine reg_take 5 ?_ ?_ ?_ (by kernel_rfl) (by kernel_rfl) (by kernel_rfl) (fun _ _ _ h => h) ?_ ?_ (by assumption) ?_
                  rotate_left 2
                  · simp only [List.getElem?_toArray, List.getElem?_cons_succ, List.getElem?_cons_zero]; exact rfl
                  · rfl
                  · intro w hSw; (try dsimp only at hSw); go_simp; try with_reducible rfl
                  try simp only [Act.put]
                  try simp only [List.setIfInBounds_toArray, List.set_cons_zero, List.set_cons_succ]
                  refine reg_take 6 ?_ ?_ ?_ (by kernel_rfl) (by kernel_rfl) (by kernel_rfl) (fun _ _ _ h => h) ?_ ?_ (by assumption) ?_
                  rotate_left 2
                  · simp only [List.getElem?_toArray, List.getElem?_cons_succ, List.getElem?_cons_zero]; exact rfl
                  · rfl
                  · intro w hSw; (try dsimp only at hSw); go_simp; try with_reducible rfl
                  try simp only [Act.put]
                  try simp only [List.setIfInBounds_toArray, List.set_cons_zero, List.set_cons_succ]
                  refine reg_take 7 ?_ ?_ ?_ (by kernel_rfl) (by kernel_rfl) (by kernel_rfl) (fun _ _ _ h => h) ?_ ?_ (by assumption) ?_
                  rotate_left 2
                  · simp only [List.getElem?_toArray, List.getElem?_cons_succ, List.getElem?_cons_zero]; exact rfl
                  · rfl
                  · intro w hSw; (try dsimp only at hSw); go_simp; try with_reducible rfl
                  try simp only [Act.put]
                  try simp only [List.setIfInBounds_toArray, List.set_cons_zero, List.set_cons_succ]
                  refine reg_take 8 ?_ ?_ ?_ (by kernel_rfl) (by kernel_rfl) (by kernel_rfl) (fun _ _ _ h => h) ?_ ?_ (by assumption) ?_
                  rotate_left 2
                  · simp only [List.getElem?_toArray, List.getElem?_cons_succ, List.getElem?_cons_zero]; exact rfl
                  · rfl
                  · intro w hSw; (try dsimp only at hSw); go_simp; try with_reducible rfl
                  try simp only [Act.put]
                  try simp only [List.setIfInBounds_toArray, List.set_cons_zero, List.set_cons_succ]
                  refine reg_take 9 ?_ ?_ ?_ (by kernel_rfl) (by kernel_rfl) (by kernel_rfl) (fun _ _ _ h => h) ?_ ?_ (by assumption) ?_
                  rotate_left 2
                  · simp only [List.getElem?_toArray, List.getElem?_cons_succ, List.getElem?_cons_zero]; exact rfl
                  · rfl
                  · intro w hSw; (try dsimp only at hSw); go_simp; try with_reducible rfl
                  try simp only [Act.put]
                  try simp only [List.setIfInBounds_toArray, List.set_cons_zero, List.set_cons_succ]
                  refine reg_take 10 ?_ ?_ ?_ (by kernel_rfl) (by kernel_rfl) (by kernel_rfl) (fun _ _ _ h => h) ?_ ?_ (by assumption) ?_
                  rotate_left 2
                  · simp only [List.getElem?_toArray, List.getElem?_cons_succ, List.getElem?_cons_zero]; exact rfl
                  · rfl
                  · intro w hSw; (try dsimp only at hSw); go_simp; try with_reducible rfl
                  try simp only [Act.put]
                  try simp only [List.setIfInBounds_toArray, List.set_cons_zero, List.set_cons_succ]
                  refine reg_take 11 ?_ ?_ ?_ (by kernel_rfl) (by kernel_rfl) (by kernel_rfl) (fun _ _ _ h => h) ?_ ?_ (by assumption) ?_
                  rotate_left 2
                  · simp only [List.getElem?_toArray, List.getElem?_cons_succ, List.getElem?_cons_zero]; exact rfl
                  · rfl
                  · intro w hSw; (try dsimp only at hSw); go_simp; try with_reducible rfl
                  try simp only [Act.put]
                  try simp only [List.setIfInBounds_toArray, List.set_cons_zero, List.set_cons_succ]
                  refine reg_take 12 ?_ ?_ ?_ (by kernel_rfl) (by kernel_rfl) (by kernel_rfl) (fun _ _ _ h => h) ?_ ?_ (by assumption) ?_
                  rotate_left 2
                  · simp only [List.getElem?_toArray, List.getElem?_cons_succ, List.getElem?_cons_zero]; exact rfl
                  · rfl
                  · intro w hSw; (try dsimp only at hSw); go_simp; try with_reducible rfl
                  try simp only [Act.put]
                  try simp only [List.setIfInBounds_toArray, List.set_cons_zero, List.set_cons_succ]
                  refine reg_take 13 ?_ ?_ ?_ (by kernel_rfl) (by kernel_rfl) (by kernel_rfl) (fun _ _ _ h => h) ?_ ?_ (by assumption) ?_
                  rotate_left 2
                  · simp only [List.getElem?_toArray, List.getElem?_cons_succ, List.getElem?_cons_zero]; exact rfl
                  · rfl
                  · intro w hSw; (try dsimp only at hSw); go_simp; try with_reducible rfl
                  try simp only [Act.put]
                  try simp only [List.setIfInBounds_toArray, List.set_cons_zero, List.set_cons_succ]
                  refine reg_take 14 ?_ ?_ ?_ (by kernel_rfl) (by kernel_rfl) (by kernel_rfl) (fun _ _ _ h => h) ?_ ?_ (by assumption) ?_
                  rotate_left 2
                  · simp only [List.getElem?_toArray, List.getElem?_cons_succ, List.getElem?_cons_zero]; exact rfl
                  · rfl
                  · intro w hSw; (try dsimp only at hSw); go_simp; try with_reducible rfl
                  try simp only [Act.put]
                  try simp only [List.setIfInBounds_toArray, List.set_cons_zero, List.set_cons_succ]
                  refine reg_call 15 ?_ (by kernel_rfl) ?_ (fun K hK => ?_)
                  rotate_left 1
                  · simp only [List.getElem?_toArray, List.getElem?_cons_succ, List.getElem?_cons_zero]; exact rfl
                  go_simp
                  refine (BC.out _).mono ?_
                  rintro e w5 ⟨rfl, hb5⟩
                  have hR_5 := (hR_4.below (Below.refl _ _).drew').below hb5
                  go_wp2_with fail
                  refine hK.out _ _ (CC.out _ _ _ _ hR_5) (fun hHeld => ?_)
                  clear hK K
                  try simp only [Act.put]
                  try simp only [List.setIfInBounds_toArray, List.set_cons_zero, List.set_cons_succ]
                  refine wpAnyH_done (by kernel_rfl) ?_ _
                  refine OnlyN.normal ?_
                  gi_wp2
                  go_roundw
                  case rel =>
                    refine ⟨i + 1, by omega, by go_num, ?_, ?_, ?_⟩
                    · have e : cnP P U (p0, p1) (i + 1) = n := by unfold cnP; rw [HN.out, HSS.out]; rfl
                      (rw [e]) <;> go_num
                    · have e : cnZ P U (p0, p1) (i + 1) = z + 1 := by unfold cnZ; rw [HZ.out, HSS.out]; rfl
                      (rw [e]) <;> go_num
                    · have e : rsK P (p0, p1) U s (i + 1) = ⟨(rsK P (p0, p1) U s i).ins, (a : Int), (rsK P (p0, p1) U s i).e0, (rsK P (p0, p1) U s i).e1⟩ := by
                        show rsI P (p0, p1) U (rsK P (p0, p1) U s i) i = _
                        unfold rsI
                        rw [if_pos HEQ.out, HEB.out, HEA.out, HEBB.out]
                        rfl
                      rw [e]
                      exact hR_5
                  case measure => simp [intOf]; omega
            · skip
              as_aux_lemma =>
                have hco := fun W => Orient_is a0 a1 b0 b1 p0 p1 HPA.out.1 HPA.out.2 HPB.out.1 HPB.out.2 HPP.out.1 HPP.out.2 (hsv.symm.trans hss) W
                have HSS := Lib.hid hss; have CO := Lib.hid hco
                clear hss hco
                refine rnd_region_held (S := fun w' => w'.cell? ⟨w.heap.size, 0, none⟩ = some (.pointer (some ⟨mb, 0, none⟩)) ∧ w'.cell? ⟨mb, 0, none⟩ = some (.slice (some ⟨pb, 0, none⟩) pn pc) ∧ w'.cell? ⟨yb, k1, none⟩ = some (.int .i64 (a : Int)) ∧ w'.cell? ⟨yb, k2, none⟩ = some (.int .i64 (b : Int)) ∧ w'.cell? ⟨pb, a * 2, none⟩ = some (.int .i64 a0) ∧ w'.cell? ⟨pb, a * 2 + 1, none⟩ = some (.int .i64 a1) ∧ w'.cell? ⟨pb, b * 2, none⟩ = some (.int .i64 b0) ∧ w'.cell? ⟨pb, b * 2 + 1, none⟩ = some (.int .i64 b1) ∧ w'.cell? ⟨w.heap.size + 1, 0, none⟩ = some (.int .i64 p0) ∧ w'.cell? ⟨w.heap.size + 1, 1, none⟩ = some (.int .i64 p1)) (by kernel_rfl) (by kernel_rfl) (CC.out _ _ _ _ (hR_3.below (Below.refl _ _).drew')) (fun hHeld => ?_)
                refine reg_take 0 ?_ ?_ ?_ (by kernel_rfl) (by kernel_rfl) (by kernel_rfl) (fun _ _ _ h => h) ?_ ?_ (by assumption) ?_
                rotate_left 2
                · simp only [List.getElem?_toArray, List.getElem?_cons_zero]; exact rfl
                · rfl
                · intro w hSw; (try dsimp only at hSw); go_simp; try with_reducible rfl
                try simp only [Act.put]
                try simp only [List.setIfInBounds_toArray, List.set_cons_zero, List.set_cons_succ]
                refine reg_take 1 ?_ ?_ ?_ (by kernel_rfl) (by kernel_rfl) (by kernel_rfl) (fun _ _ _ h => h) ?_ ?_ (by assumption) ?_
                rotate_left 2
                · simp only [List.getElem?_toArray, List.getElem?_cons_succ, List.getElem?_cons_zero]; exact rfl
                · rfl
                · intro w hSw; (try dsimp only at hSw); go_simp; try with_reducible rfl
                try simp only [Act.put]
                try simp only [List.setIfInBounds_toArray, List.set_cons_zero, List.set_cons_succ]
                refine reg_take 2 ?_ ?_ ?_ (by kernel_rfl) (by kernel_rfl) (by kernel_rfl) (fun _ _ _ h => h) ?_ ?_ (by assumption) ?_
                rotate_left 2
                · simp only [List.getElem?_toArray, List.getElem?_cons_succ, List.getElem?_cons_zero]; exact rfl
                · rfl
                · intro w hSw; (try dsimp only at hSw); go_simp; try with_reducible rfl
                try simp only [Act.put]
                try simp only [List.setIfInBounds_toArray, List.set_cons_zero, List.set_cons_succ]
                refine reg_take 3 ?_ ?_ ?_ (by kernel_rfl) (by kernel_rfl) (by kernel_rfl) (fun _ _ _ h => h) ?_ ?_ (by assumption) ?_
                rotate_left 2
                · simp only [List.getElem?_toArray, List.getElem?_cons_succ, List.getElem?_cons_zero]; exact rfl
                · rfl
                · intro w hSw; (try dsimp only at hSw); go_simp; try with_reducible rfl
                try simp only [Act.put]
                try simp only [List.setIfInBounds_toArray, List.set_cons_zero, List.set_cons_succ]
                refine reg_take 4 ?_ ?_ ?_ (by kernel_rfl) (by kernel_rfl) (by kernel_rfl) (fun _ _ _ h => h) ?_ ?_ (by assumption) ?_
                rotate_left 2
                · simp only [List.getElem?_toArray, List.getElem?_cons_succ, List.getElem?_cons_zero]; exact rfl
                · rfl
                · intro w hSw; (try dsimp only at hSw); go_simp; try with_reducible rfl
                try simp only [Act.put]
                try simp only [List.setIfInBounds_toArray, List.set_cons_zero, List.set_cons_succ]
                refine reg_take 5 ?_ ?_ ?_ (by kernel_rfl) (by kernel_rfl) (by kernel_rfl) (fun _ _ _ h => h) ?_ ?_ (by assumption) ?_
                rotate_left 2
                · simp only [List.getElem?_toArray, List.getElem?_cons_succ, List.getElem?_cons_zero]; exact rfl
                · rfl
                · intro w hSw; (try dsimp only at hSw); go_simp; try with_reducible rfl
                try simp only [Act.put]
                try simp only [List.setIfInBounds_toArray, List.set_cons_zero, List.set_cons_succ]
                refine reg_take 6 ?_ ?_ ?_ (by kernel_rfl) (by kernel_rfl) (by kernel_rfl) (fun _ _ _ h => h) ?_ ?_ (by assumption) ?_
                rotate_left 2
                · simp only [List.getElem?_toArray, List.getElem?_cons_succ, List.getElem?_cons_zero]; exact rfl
                · rfl
                · intro w hSw; (try dsimp only at hSw); go_simp; try with_reducible rfl
                try simp only [Act.put]
                try simp only [List.setIfInBounds_toArray, List.set_cons_zero, List.set_cons_succ]
                refine reg_take 7 ?_ ?_ ?_ (by kernel_rfl) (by kernel_rfl) (by kernel_rfl) (fun _ _ _ h => h) ?_ ?_ (by assumption) ?_
                rotate_left 2
                · simp only [List.getElem?_toArray, List.getElem?_cons_succ, List.getElem?_cons_zero]; exact rfl
                · rfl
                · intro w hSw; (try dsimp only at hSw); go_simp; try with_reducible rfl
                try simp only [Act.put]
                try simp only [List.setIfInBounds_toArray, List.set_cons_zero, List.set_cons_succ]
                refine reg_take 8 ?_ ?_ ?_ (by kernel_rfl) (by kernel_rfl) (by kernel_rfl) (fun _ _ _ h => h) ?_ ?_ (by assumption) ?_
                rotate_left 2
                · simp only [List.getElem?_toArray, List.getElem?_cons_succ, List.getElem?_cons_zero]; exact rfl
                · rfl
                · intro w hSw; (try dsimp only at hSw); go_simp; try with_reducible rfl
                try simp only [Act.put]
                try simp only [List.setIfInBounds_toArray, List.set_cons_zero, List.set_cons_succ]
                refine reg_take 9 ?_ ?_ ?_ (by kernel_rfl) (by kernel_rfl) (by kernel_rfl) (fun _ _ _ h => h) ?_ ?_ (by assumption) ?_
                rotate_left 2
                · simp only [List.getElem?_toArray, List.getElem?_cons_succ, List.getElem?_cons_zero]; exact rfl
                · rfl
                · intro w hSw; (try dsimp only at hSw); go_simp; try with_reducible rfl
                try simp only [Act.put]
                try simp only [List.setIfInBounds_toArray, List.set_cons_zero, List.set_cons_succ]
                refine reg_take 10 ?_ ?_ ?_ (by kernel_rfl) (by kernel_rfl) (by kernel_rfl) (fun _ _ _ h => h) ?_ ?_ (by assumption) ?_
                rotate_left 2
                · simp only [List.getElem?_toArray, List.getElem?_cons_succ, List.getElem?_cons_zero]; exact rfl
                · rfl
                · intro w hSw; (try dsimp only at hSw); go_simp; try with_reducible rfl
                try simp only [Act.put]
                try simp only [List.setIfInBounds_toArray, List.set_cons_zero, List.set_cons_succ]
                refine reg_take 11 ?_ ?_ ?_ (by kernel_rfl) (by kernel_rfl) (by kernel_rfl) (fun _ _ _ h => h) ?_ ?_ (by assumption) ?_
                rotate_left 2
                · simp only [List.getElem?_toArray, List.getElem?_cons_succ, List.getElem?_cons_zero]; exact rfl
                · rfl
                · intro w hSw; (try dsimp only at hSw); go_simp; try with_reducible rfl
                try simp only [Act.put]
                try simp only [List.setIfInBounds_toArray, List.set_cons_zero, List.set_cons_succ]
                refine reg_take 12 ?_ ?_ ?_ (by kernel_rfl) (by kernel_rfl) (by kernel_rfl) (fun _ _ _ h => h) ?_ ?_ (by assumption) ?_
                rotate_left 2
                · simp only [List.getElem?_toArray, List.getElem?_cons_succ, List.getElem?_cons_zero]; exact rfl
                · rfl
                · intro w hSw; (try dsimp only at hSw); go_simp; try with_reducible rfl
                try simp only [Act.put]
                try simp only [List.setIfInBounds_toArray, List.set_cons_zero, List.set_cons_succ]
                refine reg_take 13 ?_ ?_ ?_ (by kernel_rfl) (by kernel_rfl) (by kernel_rfl) (fun _ _ _ h => h) ?_ ?_ (by assumption) ?_
                rotate_left 2
                · simp only [List.getElem?_toArray, List.getElem?_cons_succ, List.getElem?_cons_zero]; exact rfl
                · rfl
                · intro w hSw; (try dsimp only at hSw); go_simp; try with_reducible rfl
                try simp only [Act.put]
                try simp only [List.setIfInBounds_toArray, List.set_cons_zero, List.set_cons_succ]
                refine reg_take 14 ?_ ?_ ?_ (by kernel_rfl) (by kernel_rfl) (by kernel_rfl) (fun _ _ _ h => h) ?_ ?_ (by assumption) ?_
                rotate_left 2
                · simp only [List.getElem?_toArray, List.getElem?_cons_succ, List.getElem?_cons_zero]; exact rfl
                · rfl
                · intro w hSw; (try dsimp only at hSw); go_simp; try with_reducible rfl
                try simp only [Act.put]
                try simp only [List.setIfInBounds_toArray, List.set_cons_zero, List.set_cons_succ]
                refine reg_call 15 ?_ (by kernel_rfl) ?_ (fun K hK => ?_)
                rotate_left 1
                · simp only [List.getElem?_toArray, List.getElem?_cons_succ, List.getElem?_cons_zero]; exact rfl
                go_simp
                refine (CO.out _).mono ?_
                rintro e w4 ⟨rfl, hb4⟩
                have hR_4 := (hR_3.below (Below.refl _ _).drew').below hb4
                go_wp2_with fail
                refine hK.out _ _ (CC.out _ _ _ _ hR_4) (fun hHeld => ?_)
                clear hK K
                try simp only [Act.put]
                try simp only [List.setIfInBounds_toArray, List.set_cons_zero, List.set_cons_succ]
                refine wpAnyH_done (by kernel_rfl) ?_ _
                refine OnlyN.normal ?_
                have HEB := Lib.hid (show onE P (p0, p1) U i = false by unfold onE; rw [HSS.out]; rfl)
                gi_wp2
                go_roundw
                case rel =>
                  refine ⟨i + 1, by omega, by go_num, ?_, ?_, ?_⟩
                  · have e : cnP P U (p0, p1) (i + 1) = n := by unfold cnP; rw [HN.out, HSS.out]; rfl
                    (rw [e]) <;> go_num
                  · have e : cnZ P U (p0, p1) (i + 1) = z := by unfold cnZ; rw [HZ.out, HSS.out]; rfl
                    (rw [e]) <;> go_num
                  · have e : rsK P (p0, p1) U s (i + 1) = ⟨(rsK P (p0, p1) U s i).ins, (a : Int), (rsK P (p0, p1) U s i).e0, (rsK P (p0, p1) U s i).e1⟩ := by
                      show rsI P (p0, p1) U (rsK P (p0, p1) U s i) i = _
                      unfold rsI
                      rw [if_pos HEQ.out, HEB.out, HEA.out, HEBB.out]
                      rfl
                    rw [e]
                    exact hR_4
                case measure => simp [intOf]; omega
          · have heq : ∀ W : World, Sem.run Try.prog (binOp BinOp.eql 26 (Value.agg #[.int .i64 a0, .int .i64 a1]) (Value.agg #[.int .i64 p0, .int .i64 p1])) W = Result.ok (Value.bool false) W := fun W => by rw [eqPt_run, decide_eq_false hq]
            have HEQ := Lib.hid (show ¬ ptT P U ((i + 1) % 3) = (p0, p1) by rw [HTA.out]; intro e; apply hq; cases e; exact ⟨rfl, rfl⟩)
            clear hq
            refine rnd_region_held (S := fun w' => w'.cell? ⟨w.heap.size, 0, none⟩ = some (.pointer (some ⟨mb, 0, none⟩)) ∧ w'.cell? ⟨mb, 0, none⟩ = some (.slice (some ⟨pb, 0, none⟩) pn pc) ∧ w'.cell? ⟨yb, k1, none⟩ = some (.int .i64 (a : Int)) ∧ w'.cell? ⟨yb, k2, none⟩ = some (.int .i64 (b : Int)) ∧ w'.cell? ⟨pb, a * 2, none⟩ = some (.int .i64 a0) ∧ w'.cell? ⟨pb, a * 2 + 1, none⟩ = some (.int .i64 a1) ∧ w'.cell? ⟨pb, b * 2, none⟩ = some (.int .i64 b0) ∧ w'.cell? ⟨pb, b * 2 + 1, none⟩ = some (.int .i64 b1) ∧ w'.cell? ⟨w.heap.size + 1, 0, none⟩ = some (.int .i64 p0) ∧ w'.cell? ⟨w.heap.size + 1, 1, none⟩ = some (.int .i64 p1)) (by kernel_rfl) (by kernel_rfl) (CC.out _ _ _ _ (hR_1.below (Below.refl _ _).drew')) (fun hHeld => ?_)
            refine reg_take 0 ?_ ?_ ?_ (by kernel_rfl) (by kernel_rfl) (by kernel_rfl) (fun _ _ _ h => h) ?_ ?_ (by assumption) ?_
            rotate_left 2
            · simp only [List.getElem?_toArray, List.getElem?_cons_zero]; exact rfl
            · rfl
            · intro w hSw; (try dsimp only at hSw); go_simp; try with_reducible rfl
            try simp only [Act.put]
            try simp only [List.setIfInBounds_toArray, List.set_cons_zero, List.set_cons_succ]
            refine reg_take 1 ?_ ?_ ?_ (by kernel_rfl) (by kernel_rfl) (by kernel_rfl) (fun _ _ _ h => h) ?_ ?_ (by assumption) ?_
            rotate_left 2
            · simp only [List.getElem?_toArray, List.getElem?_cons_succ, List.getElem?_cons_zero]; exact rfl
            · rfl
            · intro w hSw; (try dsimp only at hSw); go_simp; try with_reducible rfl
            try simp only [Act.put]
            try simp only [List.setIfInBounds_toArray, List.set_cons_zero, List.set_cons_succ]
            refine reg_take 2 ?_ ?_ ?_ (by kernel_rfl) (by kernel_rfl) (by kernel_rfl) (fun _ _ _ h => h) ?_ ?_ (by assumption) ?_
            rotate_left 2
            · simp only [List.getElem?_toArray, List.getElem?_cons_succ, List.getElem?_cons_zero]; exact rfl
            · rfl
            · intro w hSw; (try dsimp only at hSw); go_simp; try with_reducible rfl
            try simp only [Act.put]
            try simp only [List.setIfInBounds_toArray, List.set_cons_zero, List.set_cons_succ]
            refine reg_take 3 ?_ ?_ ?_ (by kernel_rfl) (by kernel_rfl) (by kernel_rfl) (fun _ _ _ h => h) ?_ ?_ (by assumption) ?_
            rotate_left 2
            · simp only [List.getElem?_toArray, List.getElem?_cons_succ, List.getElem?_cons_zero]; exact rfl
            · rfl
            · intro w hSw; (try dsimp only at hSw); go_simp; try with_reducible rfl
            try simp only [Act.put]
            try simp only [List.setIfInBounds_toArray, List.set_cons_zero, List.set_cons_succ]
            refine reg_take 4 ?_ ?_ ?_ (by kernel_rfl) (by kernel_rfl) (by kernel_rfl) (fun _ _ _ h => h) ?_ ?_ (by assumption) ?_
            rotate_left 2
            · simp only [List.getElem?_toArray, List.getElem?_cons_succ, List.getElem?_cons_zero]; exact rfl
            · rfl
            · intro w hSw; (try dsimp only at hSw); go_simp; try with_reducible rfl
            try simp only [Act.put]
            try simp only [List.setIfInBounds_toArray, List.set_cons_zero, List.set_cons_succ]
            refine reg_take 5 ?_ ?_ ?_ (by kernel_rfl) (by kernel_rfl) (by kernel_rfl) (fun _ _ _ h => h) ?_ ?_ (by assumption) ?_
            rotate_left 2
            · simp only [List.getElem?_toArray, List.getElem?_cons_succ, List.getElem?_cons_zero]; exact rfl
            · rfl
            · intro w hSw; (try dsimp only at hSw); go_simp; try with_reducible rfl
            try simp only [Act.put]
            try simp only [List.setIfInBounds_toArray, List.set_cons_zero, List.set_cons_succ]
            refine reg_take 6 ?_ ?_ ?_ (by kernel_rfl) (by kernel_rfl) (by kernel_rfl) (fun _ _ _ h => h) ?_ ?_ (by assumption) ?_
            rotate_left 2
            · simp only [List.getElem?_toArray, List.getElem?_cons_succ, List.getElem?_cons_zero]; exact rfl
            · rfl
            · intro w hSw; (try dsimp only at hSw); go_simp; try with_reducible rfl
            try simp only [Act.put]
            try simp only [List.setIfInBounds_toArray, List.set_cons_zero, List.set_cons_succ]
            refine reg_take 7 ?_ ?_ ?_ (by kernel_rfl) (by kernel_rfl) (by kernel_rfl) (fun _ _ _ h => h) ?_ ?_ (by assumption) ?_
            rotate_left 2
            · simp only [List.getElem?_toArray, List.getElem?_cons_succ, List.getElem?_cons_zero]; exact rfl
            · rfl
            · intro w hSw; (try dsimp only at hSw); go_simp; try with_reducible rfl
            try simp only [Act.put]
            try simp only [List.setIfInBounds_toArray, List.set_cons_zero, List.set_cons_succ]
            refine reg_take 8 ?_ ?_ ?_ (by kernel_rfl) (by kernel_rfl) (by kernel_rfl) (fun _ _ _ h => h) ?_ ?_ (by assumption) ?_
            rotate_left 2
            · simp only [List.getElem?_toArray, List.getElem?_cons_succ, List.getElem?_cons_zero]; exact rfl
            · rfl
            · intro w hSw; (try dsimp only at hSw); go_simp; try with_reducible rfl
            try simp only [Act.put]
            try simp only [List.setIfInBounds_toArray, List.set_cons_zero, List.set_cons_succ]
            refine wpAnyH_done (by kernel_rfl) ?_ _
            refine OnlyN.normal ?_
            have hR_3 := hR_1.below (Below.refl _ _).drew'
            gi_wp2
            clear heq
            rcases side_three P U i (p0, p1) with hss | hss | hss
            · skip
              as_aux_lemma =>
                have hco := fun W => Orient_is a0 a1 b0 b1 p0 p1 HPA.out.1 HPA.out.2 HPB.out.1 HPB.out.2 HPP.out.1 HPP.out.2 (hsv.symm.trans hss) W
                have HSS := Lib.hid hss; have CO := Lib.hid hco
                clear hss hco
                refine rnd_region_held (S := fun w' => w'.cell? ⟨w.heap.size, 0, none⟩ = some (.pointer (some ⟨mb, 0, none⟩)) ∧ w'.cell? ⟨mb, 0, none⟩ = some (.slice (some ⟨pb, 0, none⟩) pn pc) ∧ w'.cell? ⟨yb, k1, none⟩ = some (.int .i64 (a : Int)) ∧ w'.cell? ⟨yb, k2, none⟩ = some (.int .i64 (b : Int)) ∧ w'.cell? ⟨pb, a * 2, none⟩ = some (.int .i64 a0) ∧ w'.cell? ⟨pb, a * 2 + 1, none⟩ = some (.int .i64 a1) ∧ w'.cell? ⟨pb, b * 2, none⟩ = some (.int .i64 b0) ∧ w'.cell? ⟨pb, b * 2 + 1, none⟩ = some (.int .i64 b1) ∧ w'.cell? ⟨w.heap.size + 1, 0, none⟩ = some (.int .i64 p0) ∧ w'.cell? ⟨w.heap.size + 1, 1, none⟩ = some (.int .i64 p1)) (by kernel_rfl) (by kernel_rfl) (CC.out _ _ _ _ (hR_3.below (Below.refl _ _).drew')) (fun hHeld => ?_)
                refine reg_take 0 ?_ ?_ ?_ (by kernel_rfl) (by kernel_rfl) (by kernel_rfl) (fun _ _ _ h => h) ?_ ?_ (by assumption) ?_
                rotate_left 2
                · simp only [List.getElem?_toArray, List.getElem?_cons_zero]; exact rfl
                · rfl
                · intro w hSw; (try dsimp only at hSw); go_simp; try with_reducible rfl
                try simp only [Act.put]
                try simp only [List.setIfInBounds_toArray, List.set_cons_zero, List.set_cons_succ]
                refine reg_take 1 ?_ ?_ ?_ (by kernel_rfl) (by kernel_rfl) (by kernel_rfl) (fun _ _ _ h => h) ?_ ?_ (by assumption) ?_
                rotate_left 2
                · simp only [List.getElem?_toArray, List.getElem?_cons_succ, List.getElem?_cons_zero]; exact rfl
                · rfl
                · intro w hSw; (try dsimp only at hSw); go_simp; try with_reducible rfl
                try simp only [Act.put]
                try simp only [List.setIfInBounds_toArray, List.set_cons_zero, List.set_cons_succ]
                refine reg_take 2 ?_ ?_ ?_ (by kernel_rfl) (by kernel_rfl) (by kernel_rfl) (fun _ _ _ h => h) ?_ ?_ (by assumption) ?_
                rotate_left 2
                · simp only [List.getElem?_toArray, List.getElem?_cons_succ, List.getElem?_cons_zero]; exact rfl
                · rfl
                · intro w hSw; (try dsimp only at hSw); go_simp; try with_reducible rfl
                try simp only [Act.put]
                try simp only [List.setIfInBounds_toArray, List.set_cons_zero, List.set_cons_succ]
                refine reg_take 3 ?_ ?_ ?_ (by kernel_rfl) (by kernel_rfl) (by kernel_rfl) (fun _ _ _ h => h) ?_ ?_ (by assumption) ?_
                rotate_left 2
                · simp only [List.getElem?_toArray, List.getElem?_cons_succ, List.getElem?_cons_zero]; exact rfl
                · rfl
                · intro w hSw; (try dsimp only at hSw); go_simp; try with_reducible rfl
                try simp only [Act.put]
                try simp only [List.setIfInBounds_toArray, List.set_cons_zero, List.set_cons_succ]
                refine reg_take 4 ?_ ?_ ?_ (by kernel_rfl) (by kernel_rfl) (by kernel_rfl) (fun _ _ _ h => h) ?_ ?_ (by assumption) ?_
                rotate_left 2
                · simp only [List.getElem?_toArray, List.getElem?_cons_succ, List.getElem?_cons_zero]; exact rfl
                · rfl
                · intro w hSw; (try dsimp only at hSw); go_simp; try with_reducible rfl
                try simp only [Act.put]
                try simp only [List.setIfInBounds_toArray, List.set_cons_zero, List.set_cons_succ]
                refine reg_take 5 ?_ ?_ ?_ (by kernel_rfl) (by kernel_rfl) (by kernel_rfl) (fun _ _ _ h => h) ?_ ?_ (by assumption) ?_
                rotate_left 2
                · simp only [List.getElem?_toArray, List.getElem?_cons_succ, List.getElem?_cons_zero]; exact rfl
                · rfl
                · intro w hSw; (try dsimp only at hSw); go_simp; try with_reducible rfl
                try simp only [Act.put]
                try simp only [List.setIfInBounds_toArray, List.set_cons_zero, List.set_cons_succ]
                refine reg_take 6 ?_ ?_ ?_ (by kernel_rfl) (by kernel_rfl) (by kernel_rfl) (fun _ _ _ h => h) ?_ ?_ (by assumption) ?_
                rotate_left 2
                · simp only [List.getElem?_toArray, List.getElem?_cons_succ, List.getElem?_cons_zero]; exact rfl
                · rfl
                · intro w hSw; (try dsimp only at hSw); go_simp; try with_reducible rfl
                try simp only [Act.put]
                try simp only [List.setIfInBounds_toArray, List.set_cons_zero, List.set_cons_succ]
                refine reg_take 7 ?_ ?_ ?_ (by kernel_rfl) (by kernel_rfl) (by kernel_rfl) (fun _ _ _ h => h) ?_ ?_ (by assumption) ?_
                rotate_left 2
                · simp only [List.getElem?_toArray, List.getElem?_cons_succ, List.getElem?_cons_zero]; exact rfl
                · rfl
                · intro w hSw; (try dsimp only at hSw); go_simp; try with_reducible rfl
                try simp only [Act.put]
                try simp only [List.setIfInBounds_toArray, List.set_cons_zero, List.set_cons_succ]
                refine reg_take 8 ?_ ?_ ?_ (by kernel_rfl) (by kernel_rfl) (by kernel_rfl) (fun _ _ _ h => h) ?_ ?_ (by assumption) ?_
                rotate_left 2
                · simp only [List.getElem?_toArray, List.getElem?_cons_succ, List.getElem?_cons_zero]; exact rfl
                · rfl
                · intro w hSw; (try dsimp only at hSw); go_simp; try with_reducible rfl
                try simp only [Act.put]
                try simp only [List.setIfInBounds_toArray, List.set_cons_zero, List.set_cons_succ]
                refine reg_take 9 ?_ ?_ ?_ (by kernel_rfl) (by kernel_rfl) (by kernel_rfl) (fun _ _ _ h => h) ?_ ?_ (by assumption) ?_
                rotate_left 2
                · simp only [List.getElem?_toArray, List.getElem?_cons_succ, List.getElem?_cons_zero]; exact rfl
                · rfl
                · intro w hSw; (try dsimp only at hSw); go_simp; try with_reducible rfl
                try simp only [Act.put]
                try simp only [List.setIfInBounds_toArray, List.set_cons_zero, List.set_cons_succ]
                refine reg_take 10 ?_ ?_ ?_ (by kernel_rfl) (by kernel_rfl) (by kernel_rfl) (fun _ _ _ h => h) ?_ ?_ (by assumption) ?_
                rotate_left 2
                · simp only [List.getElem?_toArray, List.getElem?_cons_succ, List.getElem?_cons_zero]; exact rfl
                · rfl
                · intro w hSw; (try dsimp only at hSw); go_simp; try with_reducible rfl
                try simp only [Act.put]
                try simp only [List.setIfInBounds_toArray, List.set_cons_zero, List.set_cons_succ]
                refine reg_take 11 ?_ ?_ ?_ (by kernel_rfl) (by kernel_rfl) (by kernel_rfl) (fun _ _ _ h => h) ?_ ?_ (by assumption) ?_
                rotate_left 2
                · simp only [List.getElem?_toArray, List.getElem?_cons_succ, List.getElem?_cons_zero]; exact rfl
                · rfl
                · intro w hSw; (try dsimp only at hSw); go_simp; try with_reducible rfl
                try simp only [Act.put]
                try simp only [List.setIfInBounds_toArray, List.set_cons_zero, List.set_cons_succ]
                refine reg_take 12 ?_ ?_ ?_ (by kernel_rfl) (by kernel_rfl) (by kernel_rfl) (fun _ _ _ h => h) ?_ ?_ (by assumption) ?_
                rotate_left 2
                · simp only [List.getElem?_toArray, List.getElem?_cons_succ, List.getElem?_cons_zero]; exact rfl
                · rfl
                · intro w hSw; (try dsimp only at hSw); go_simp; try with_reducible rfl
                try simp only [Act.put]
                try simp only [List.setIfInBounds_toArray, List.set_cons_zero, List.set_cons_succ]
                refine reg_take 13 ?_ ?_ ?_ (by kernel_rfl) (by kernel_rfl) (by kernel_rfl) (fun _ _ _ h => h) ?_ ?_ (by assumption) ?_
                rotate_left 2
                · simp only [List.getElem?_toArray, List.getElem?_cons_succ, List.getElem?_cons_zero]; exact rfl
                · rfl
                · intro w hSw; (try dsimp only at hSw); go_simp; try with_reducible rfl
                try simp only [Act.put]
                try simp only [List.setIfInBounds_toArray, List.set_cons_zero, List.set_cons_succ]
                refine reg_take 14 ?_ ?_ ?_ (by kernel_rfl) (by kernel_rfl) (by kernel_rfl) (fun _ _ _ h => h) ?_ ?_ (by assumption) ?_
                rotate_left 2
                · simp only [List.getElem?_toArray, List.getElem?_cons_succ, List.getElem?_cons_zero]; exact rfl
                · rfl
                · intro w hSw; (try dsimp only at hSw); go_simp; try with_reducible rfl
                try simp only [Act.put]
                try simp only [List.setIfInBounds_toArray, List.set_cons_zero, List.set_cons_succ]
                refine reg_call 15 ?_ (by kernel_rfl) ?_ (fun K hK => ?_)
                rotate_left 1
                · simp only [List.getElem?_toArray, List.getElem?_cons_succ, List.getElem?_cons_zero]; exact rfl
                go_simp
                refine (CO.out _).mono ?_
                rintro e w4 ⟨rfl, hb4⟩
                have hR_4 := (hR_3.below (Below.refl _ _).drew').below hb4
                go_wp2_with fail
                refine hK.out _ _ (CC.out _ _ _ _ hR_4) (fun hHeld => ?_)
                clear hK K
                try simp only [Act.put]
                try simp only [List.setIfInBounds_toArray, List.set_cons_zero, List.set_cons_succ]
                refine wpAnyH_done (by kernel_rfl) ?_ _
                refine OnlyN.normal ?_
                have HEB := Lib.hid (show onE P (p0, p1) U i = false by unfold onE; rw [HSS.out]; rfl)
                gi_wp2
                go_roundw
                case rel =>
                  refine ⟨i + 1, by omega, by go_num, ?_, ?_, ?_⟩
                  · have e : cnP P U (p0, p1) (i + 1) = n + 1 := by unfold cnP; rw [HN.out, HSS.out]; rfl
                    (rw [e]) <;> go_num
                  · have e : cnZ P U (p0, p1) (i + 1) = z := by unfold cnZ; rw [HZ.out, HSS.out]; rfl
                    (rw [e]) <;> go_num
                  · have e : rsK P (p0, p1) U s (i + 1) = ⟨(rsK P (p0, p1) U s i).ins, (rsK P (p0, p1) U s i).at_, (rsK P (p0, p1) U s i).e0, (rsK P (p0, p1) U s i).e1⟩ := by
                      show rsI P (p0, p1) U (rsK P (p0, p1) U s i) i = _
                      unfold rsI
                      rw [if_neg HEQ.out, HEB.out, HEA.out, HEBB.out]
                      rfl
                    rw [e]
                    exact hR_4
                case measure => simp [intOf]; omega
            · skip
              as_aux_lemma =>
                have hco := fun W => Orient_is a0 a1 b0 b1 p0 p1 HPA.out.1 HPA.out.2 HPB.out.1 HPB.out.2 HPP.out.1 HPP.out.2 (hsv.symm.trans hss) W
                have HSS := Lib.hid hss; have CO := Lib.hid hco
                clear hss hco
                refine rnd_region_held (S := fun w' => w'.cell? ⟨w.heap.size, 0, none⟩ = some (.pointer (some ⟨mb, 0, none⟩)) ∧ w'.cell? ⟨mb, 0, none⟩ = some (.slice (some ⟨pb, 0, none⟩) pn pc) ∧ w'.cell? ⟨yb, k1, none⟩ = some (.int .i64 (a : Int)) ∧ w'.cell? ⟨yb, k2, none⟩ = some (.int .i64 (b : Int)) ∧ w'.cell? ⟨pb, a * 2, none⟩ = some (.int .i64 a0) ∧ w'.cell? ⟨pb, a * 2 + 1, none⟩ = some (.int .i64 a1) ∧ w'.cell? ⟨pb, b * 2, none⟩ = some (.int .i64 b0) ∧ w'.cell? ⟨pb, b * 2 + 1, none⟩ = some (.int .i64 b1) ∧ w'.cell? ⟨w.heap.size + 1, 0, none⟩ = some (.int .i64 p0) ∧ w'.cell? ⟨w.heap.size + 1, 1, none⟩ = some (.int .i64 p1)) (by kernel_rfl) (by kernel_rfl) (CC.out _ _ _ _ (hR_3.below (Below.refl _ _).drew')) (fun hHeld => ?_)
                refine reg_take 0 ?_ ?_ ?_ (by kernel_rfl) (by kernel_rfl) (by kernel_rfl) (fun _ _ _ h => h) ?_ ?_ (by assumption) ?_
                rotate_left 2
                · simp only [List.getElem?_toArray, List.getElem?_cons_zero]; exact rfl
                · rfl
                · intro w hSw; (try dsimp only at hSw); go_simp; try with_reducible rfl
                try simp only [Act.put]
                try simp only [List.setIfInBounds_toArray, List.set_cons_zero, List.set_cons_succ]
                refine reg_take 1 ?_ ?_ ?_ (by kernel_rfl) (by kernel_rfl) (by kernel_rfl) (fun _ _ _ h => h) ?_ ?_ (by assumption) ?_
                rotate_left 2
                · simp only [List.getElem?_toArray, List.getElem?_cons_succ, List.getElem?_cons_zero]; exact rfl
                · rfl
                · intro w hSw; (try dsimp only at hSw); go_simp; try with_reducible rfl
                try simp only [Act.put]
                try simp only [List.setIfInBounds_toArray, List.set_cons_zero, List.set_cons_succ]
                refine reg_take 2 ?_ ?_ ?_ (by kernel_rfl) (by kernel_rfl) (by kernel_rfl) (fun _ _ _ h => h) ?_ ?_ (by assumption) ?_
                rotate_left 2
                · simp only [List.getElem?_toArray, List.getElem?_cons_succ, List.getElem?_cons_zero]; exact rfl
                · rfl
                · intro w hSw; (try dsimp only at hSw); go_simp; try with_reducible rfl
                try simp only [Act.put]
                try simp only [List.setIfInBounds_toArray, List.set_cons_zero, List.set_cons_succ]
                refine reg_take 3 ?_ ?_ ?_ (by kernel_rfl) (by kernel_rfl) (by kernel_rfl) (fun _ _ _ h => h) ?_ ?_ (by assumption) ?_
                rotate_left 2
                · simp only [List.getElem?_toArray, List.getElem?_cons_succ, List.getElem?_cons_zero]; exact rfl
                · rfl
                · intro w hSw; (try dsimp only at hSw); go_simp; try with_reducible rfl
                try simp only [Act.put]
                try simp only [List.setIfInBounds_toArray, List.set_cons_zero, List.set_cons_succ]
                refine reg_take 4 ?_ ?_ ?_ (by kernel_rfl) (by kernel_rfl) (by kernel_rfl) (fun _ _ _ h => h) ?_ ?_ (by assumption) ?_
                rotate_left 2
                · simp only [List.getElem?_toArray, List.getElem?_cons_succ, List.getElem?_cons_zero]; exact rfl
                · rfl
                · intro w hSw; (try dsimp only at hSw); go_simp; try with_reducible rfl
                try simp only [Act.put]
                try simp only [List.setIfInBounds_toArray, List.set_cons_zero, List.set_cons_succ]
                refine reg_take 5 ?_ ?_ ?_ (by kernel_rfl) (by kernel_rfl) (by kernel_rfl) (fun _ _ _ h => h) ?_ ?_ (by assumption) ?_
                rotate_left 2
                · simp only [List.getElem?_toArray, List.getElem?_cons_succ, List.getElem?_cons_zero]; exact rfl
                · rfl
                · intro w hSw; (try dsimp only at hSw); go_simp; try with_reducible rfl
                try simp only [Act.put]
                try simp only [List.setIfInBounds_toArray, List.set_cons_zero, List.set_cons_succ]
                refine reg_take 6 ?_ ?_ ?_ (by kernel_rfl) (by kernel_rfl) (by kernel_rfl) (fun _ _ _ h => h) ?_ ?_ (by assumption) ?_
                rotate_left 2
                · simp only [List.getElem?_toArray, List.getElem?_cons_succ, List.getElem?_cons_zero]; exact rfl
                · rfl
                · intro w hSw; (try dsimp only at hSw); go_simp; try with_reducible rfl
                try simp only [Act.put]
                try simp only [List.setIfInBounds_toArray, List.set_cons_zero, List.set_cons_succ]
                refine reg_take 7 ?_ ?_ ?_ (by kernel_rfl) (by kernel_rfl) (by kernel_rfl) (fun _ _ _ h => h) ?_ ?_ (by assumption) ?_
                rotate_left 2
                · simp only [List.getElem?_toArray, List.getElem?_cons_succ, List.getElem?_cons_zero]; exact rfl
                · rfl
                · intro w hSw; (try dsimp only at hSw); go_simp; try with_reducible rfl
                try simp only [Act.put]
                try simp only [List.setIfInBounds_toArray, List.set_cons_zero, List.set_cons_succ]
                refine reg_take 8 ?_ ?_ ?_ (by kernel_rfl) (by kernel_rfl) (by kernel_rfl) (fun _ _ _ h => h) ?_ ?_ (by assumption) ?_
                rotate_left 2
                · simp only [List.getElem?_toArray, List.getElem?_cons_succ, List.getElem?_cons_zero]; exact rfl
                · rfl
                · intro w hSw; (try dsimp only at hSw); go_simp; try with_reducible rfl
                try simp only [Act.put]
                try simp only [List.setIfInBounds_toArray, List.set_cons_zero, List.set_cons_succ]
                refine reg_take 9 ?_ ?_ ?_ (by kernel_rfl) (by kernel_rfl) (by kernel_rfl) (fun _ _ _ h => h) ?_ ?_ (by assumption) ?_
                rotate_left 2
                · simp only [List.getElem?_toArray, List.getElem?_cons_succ, List.getElem?_cons_zero]; exact rfl
                · rfl
                · intro w hSw; (try dsimp only at hSw); go_simp; try with_reducible rfl
                try simp only [Act.put]
                try simp only [List.setIfInBounds_toArray, List.set_cons_zero, List.set_cons_succ]
                refine reg_take 10 ?_ ?_ ?_ (by kernel_rfl) (by kernel_rfl) (by kernel_rfl) (fun _ _ _ h => h) ?_ ?_ (by assumption) ?_
                rotate_left 2
                · simp only [List.getElem?_toArray, List.getElem?_cons_succ, List.getElem?_cons_zero]; exact rfl
                · rfl
                · intro w hSw; (try dsimp only at hSw); go_simp; try with_reducible rfl
                try simp only [Act.put]
                try simp only [List.setIfInBounds_toArray, List.set_cons_zero, List.set_cons_succ]
                refine reg_take 11 ?_ ?_ ?_ (by kernel_rfl) (by kernel_rfl) (by kernel_rfl) (fun _ _ _ h => h) ?_ ?_ (by assumption) ?_
                rotate_left 2
                · simp only [List.getElem?_toArray, List.getElem?_cons_succ, List.getElem?_cons_zero]; exact rfl
                · rfl
                · intro w hSw; (try dsimp only at hSw); go_simp; try with_reducible rfl
                try simp only [Act.put]
                try simp only [List.setIfInBounds_toArray, List.set_cons_zero, List.set_cons_succ]
                refine reg_take 12 ?_ ?_ ?_ (by kernel_rfl) (by kernel_rfl) (by kernel_rfl) (fun _ _ _ h => h) ?_ ?_ (by assumption) ?_
                rotate_left 2
                · simp only [List.getElem?_toArray, List.getElem?_cons_succ, List.getElem?_cons_zero]; exact rfl
                · rfl
                · intro w hSw; (try dsimp only at hSw); go_simp; try with_reducible rfl
                try simp only [Act.put]
                try simp only [List.setIfInBounds_toArray, List.set_cons_zero, List.set_cons_succ]
                refine reg_take 13 ?_ ?_ ?_ (by kernel_rfl) (by kernel_rfl) (by kernel_rfl) (fun _ _ _ h => h) ?_ ?_ (by assumption) ?_
                rotate_left 2
                · simp only [List.getElem?_toArray, List.getElem?_cons_succ, List.getElem?_cons_zero]; exact rfl
                · rfl
                · intro w hSw; (try dsimp only at hSw); go_simp; try with_reducible rfl
                try simp only [Act.put]
                try simp only [List.setIfInBounds_toArray, List.set_cons_zero, List.set_cons_succ]
                refine reg_take 14 ?_ ?_ ?_ (by kernel_rfl) (by kernel_rfl) (by kernel_rfl) (fun _ _ _ h => h) ?_ ?_ (by assumption) ?_
                rotate_left 2
                · simp only [List.getElem?_toArray, List.getElem?_cons_succ, List.getElem?_cons_zero]; exact rfl
                · rfl
                · intro w hSw; (try dsimp only at hSw); go_simp; try with_reducible rfl
                try simp only [Act.put]
                try simp only [List.setIfInBounds_toArray, List.set_cons_zero, List.set_cons_succ]
                refine reg_call 15 ?_ (by kernel_rfl) ?_ (fun K hK => ?_)
                rotate_left 1
                · simp only [List.getElem?_toArray, List.getElem?_cons_succ, List.getElem?_cons_zero]; exact rfl
                go_simp
                refine (CO.out _).mono ?_
                rintro e w4 ⟨rfl, hb4⟩
                have hR_4 := (hR_3.below (Below.refl _ _).drew').below hb4
                go_wp2_with fail
                refine hK.out _ _ (CC.out _ _ _ _ hR_4) (fun hHeld => ?_)
                clear hK K
                try simp only [Act.put]
                try simp only [List.setIfInBounds_toArray, List.set_cons_zero, List.set_cons_succ]
                refine wpAnyH_done (by kernel_rfl) ?_ _
                refine OnlyN.normal ?_
                gi_wp2
                obtain ⟨bt, hbt⟩ : ∃ bt, betP (p0, p1) (a0, a1) (b0, b1) = bt := ⟨_, rfl⟩
                have hbc := fun W => Between_is p0 p1 a0 a1 b0 b1 HPP.out.1 HPP.out.2 HPA.out.1 HPA.out.2 HPB.out.1 HPB.out.2 bt hbt W
                have BC := Lib.hid hbc
                have HEB := Lib.hid (show onE P (p0, p1) U i = bt by unfold onE; rw [HSS.out, HTA.out, HTB.out, hbt]; rfl)
                clear hbc hbt
                cases bt with
                | true =>
                  refine rnd_region_held (S := fun w' => w'.cell? ⟨w.heap.size, 0, none⟩ = some (.pointer (some ⟨mb, 0, none⟩)) ∧ w'.cell? ⟨mb, 0, none⟩ = some (.slice (some ⟨pb, 0, none⟩) pn pc) ∧ w'.cell? ⟨yb, k1, none⟩ = some (.int .i64 (a : Int)) ∧ w'.cell? ⟨yb, k2, none⟩ = some (.int .i64 (b : Int)) ∧ w'.cell? ⟨pb, a * 2, none⟩ = some (.int .i64 a0) ∧ w'.cell? ⟨pb, a * 2 + 1, none⟩ = some (.int .i64 a1) ∧ w'.cell? ⟨pb, b * 2, none⟩ = some (.int .i64 b0) ∧ w'.cell? ⟨pb, b * 2 + 1, none⟩ = some (.int .i64 b1) ∧ w'.cell? ⟨w.heap.size + 1, 0, none⟩ = some (.int .i64 p0) ∧ w'.cell? ⟨w.heap.size + 1, 1, none⟩ = some (.int .i64 p1)) (by kernel_rfl) (by kernel_rfl) (CC.out _ _ _ _ (hR_4.below (Below.refl _ _).drew')) (fun hHeld => ?_)
                  refine reg_take 0 ?_ ?_ ?_ (by kernel_rfl) (by kernel_rfl) (by kernel_rfl) (fun _ _ _ h => h) ?_ ?_ (by assumption) ?_
                  rotate_left 2
                  · simp only [List.getElem?_toArray, List.getElem?_cons_zero]; exact rfl
                  · rfl
                  · intro w hSw; (try dsimp only at hSw); go_simp; try with_reducible rfl
                  try simp only [Act.put]
                  try simp only [List.setIfInBounds_toArray, List.set_cons_zero, List.set_cons_succ]
                  refine reg_take 1 ?_ ?_ ?_ (by kernel_rfl) (by kernel_rfl) (by kernel_rfl) (fun _ _ _ h => h) ?_ ?_ (by assumption) ?_
                  rotate_left 2
                  · simp only [List.getElem?_toArray, List.getElem?_cons_succ, List.getElem?_cons_zero]; exact rfl
                  · rfl
                  · intro w hSw; (try dsimp only at hSw); go_simp; try with_reducible rfl
                  try simp only [Act.put]
                  try simp only [List.setIfInBounds_toArray, List.set_cons_zero, List.set_cons_succ]
                  refine reg_take 2 ?_ ?_ ?_ (by kernel_rfl) (by kernel_rfl) (by kernel_rfl) (fun _ _ _ h => h) ?_ ?_ (by assumption) ?_
                  rotate_left 2
                  · simp only [List.getElem?_toArray, List.getElem?_cons_succ, List.getElem?_cons_zero]; exact rfl
                  · rfl
                  · intro w hSw; (try dsimp only at hSw); go_simp; try with_reducible rfl
                  try simp only [Act.put]
                  try simp only [List.setIfInBounds_toArray, List.set_cons_zero, List.set_cons_succ]
                  refine reg_take 3 ?_ ?_ ?_ (by kernel_rfl) (by kernel_rfl) (by kernel_rfl) (fun _ _ _ h => h) ?_ ?_ (by assumption) ?_
                  rotate_left 2
                  · simp only [List.getElem?_toArray, List.getElem?_cons_succ, List.getElem?_cons_zero]; exact rfl
                  · rfl
                  · intro w hSw; (try dsimp only at hSw); go_simp; try with_reducible rfl
                  try simp only [Act.put]
                  try simp only [List.setIfInBounds_toArray, List.set_cons_zero, List.set_cons_succ]
                  refine reg_take 4 ?_ ?_ ?_ (by kernel_rfl) (by kernel_rfl) (by kernel_rfl) (fun _ _ _ h => h) ?_ ?_ (by assumption) ?_
                  rotate_left 2
                  · simp only [List.getElem?_toArray, List.getElem?_cons_succ, List.getElem?_cons_zero]; exact rfl
                  · rfl
                  · intro w hSw; (try dsimp only at hSw); go_simp; try with_reducible rfl
                  try simp only [Act.put]
                  try simp only [List.setIfInBounds_toArray, List.set_cons_zero, List.set_cons_succ]
                  refine reg_take 5 ?_ ?_ ?_ (by kernel_rfl) (by kernel_rfl) (by kernel_rfl) (fun _ _ _ h => h) ?_ ?_ (by assumption) ?_
                  rotate_left 2
                  · simp only [List.getElem?_toArray, List.getElem?_cons_succ, List.getElem?_cons_zero]; exact rfl
                  · rfl
                  · intro w hSw; (try dsimp only at hSw); go_simp; try with_reducible rfl
                  try simp only [Act.put]
                  try simp only [List.setIfInBounds_toArray, List.set_cons_zero, List.set_cons_succ]
                  refine reg_take 6 ?_ ?_ ?_ (by kernel_rfl) (by kernel_rfl) (by kernel_rfl) (fun _ _ _ h => h) ?_ ?_ (by assumption) ?_
                  rotate_left 2
                  · simp only [List.getElem?_toArray, List.getElem?_cons_succ, List.getElem?_cons_zero]; exact rfl
                  · rfl
                  · intro w hSw; (try dsimp only at hSw); go_simp; try with_reducible rfl
                  try simp only [Act.put]
                  try simp only [List.setIfInBounds_toArray, List.set_cons_zero, List.set_cons_succ]
                  refine reg_take 7 ?_ ?_ ?_ (by kernel_rfl) (by kernel_rfl) (by kernel_rfl) (fun _ _ _ h => h) ?_ ?_ (by assumption) ?_
                  rotate_left 2
                  · simp only [List.getElem?_toArray, List.getElem?_cons_succ, List.getElem?_cons_zero]; exact rfl
                  · rfl
                  · intro w hSw; (try dsimp only at hSw); go_simp; try with_reducible rfl
                  try simp only [Act.put]
                  try simp only [List.setIfInBounds_toArray, List.set_cons_zero, List.set_cons_succ]
                  refine reg_take 8 ?_ ?_ ?_ (by kernel_rfl) (by kernel_rfl) (by kernel_rfl) (fun _ _ _ h => h) ?_ ?_ (by assumption) ?_
                  rotate_left 2
                  · simp only [List.getElem?_toArray, List.getElem?_cons_succ, List.getElem?_cons_zero]; exact rfl
                  · rfl
                  · intro w hSw; (try dsimp only at hSw); go_simp; try with_reducible rfl
                  try simp only [Act.put]
                  try simp only [List.setIfInBounds_toArray, List.set_cons_zero, List.set_cons_succ]
                  refine reg_take 9 ?_ ?_ ?_ (by kernel_rfl) (by kernel_rfl) (by kernel_rfl) (fun _ _ _ h => h) ?_ ?_ (by assumption) ?_
                  rotate_left 2
                  · simp only [List.getElem?_toArray, List.getElem?_cons_succ, List.getElem?_cons_zero]; exact rfl
                  · rfl
                  · intro w hSw; (try dsimp only at hSw); go_simp; try with_reducible rfl
                  try simp only [Act.put]
                  try simp only [List.setIfInBounds_toArray, List.set_cons_zero, List.set_cons_succ]
                  refine reg_take 10 ?_ ?_ ?_ (by kernel_rfl) (by kernel_rfl) (by kernel_rfl) (fun _ _ _ h => h) ?_ ?_ (by assumption) ?_
                  rotate_left 2
                  · simp only [List.getElem?_toArray, List.getElem?_cons_succ, List.getElem?_cons_zero]; exact rfl
                  · rfl
                  · intro w hSw; (try dsimp only at hSw); go_simp; try with_reducible rfl
                  try simp only [Act.put]
                  try simp only [List.setIfInBounds_toArray, List.set_cons_zero, List.set_cons_succ]
                  refine reg_take 11 ?_ ?_ ?_ (by kernel_rfl) (by kernel_rfl) (by kernel_rfl) (fun _ _ _ h => h) ?_ ?_ (by assumption) ?_
                  rotate_left 2
                  · simp only [List.getElem?_toArray, List.getElem?_cons_succ, List.getElem?_cons_zero]; exact rfl
                  · rfl
                  · intro w hSw; (try dsimp only at hSw); go_simp; try with_reducible rfl
                  try simp only [Act.put]
                  try simp only [List.setIfInBounds_toArray, List.set_cons_zero, List.set_cons_succ]
                  refine reg_take 12 ?_ ?_ ?_ (by kernel_rfl) (by kernel_rfl) (by kernel_rfl) (fun _ _ _ h => h) ?_ ?_ (by assumption) ?_
                  rotate_left 2
                  · simp only [List.getElem?_toArray, List.getElem?_cons_succ, List.getElem?_cons_zero]; exact rfl
                  · rfl
                  · intro w hSw; (try dsimp only at hSw); go_simp; try with_reducible rfl
                  try simp only [Act.put]
                  try simp only [List.setIfInBounds_toArray, List.set_cons_zero, List.set_cons_succ]
                  refine reg_take 13 ?_ ?_ ?_ (by kernel_rfl) (by kernel_rfl) (by kernel_rfl) (fun _ _ _ h => h) ?_ ?_ (by assumption) ?_
                  rotate_left 2
                  · simp only [List.getElem?_toArray, List.getElem?_cons_succ, List.getElem?_cons_zero]; exact rfl
                  · rfl
                  · intro w hSw; (try dsimp only at hSw); go_simp; try with_reducible rfl
                  try simp only [Act.put]
                  try simp only [List.setIfInBounds_toArray, List.set_cons_zero, List.set_cons_succ]
                  refine reg_take 14 ?_ ?_ ?_ (by kernel_rfl) (by kernel_rfl) (by kernel_rfl) (fun _ _ _ h => h) ?_ ?_ (by assumption) ?_
                  rotate_left 2
                  · simp only [List.getElem?_toArray, List.getElem?_cons_succ, List.getElem?_cons_zero]; exact rfl
                  · rfl
                  · intro w hSw; (try dsimp only at hSw); go_simp; try with_reducible rfl
                  try simp only [Act.put]
                  try simp only [List.setIfInBounds_toArray, List.set_cons_zero, List.set_cons_succ]
                  refine reg_call 15 ?_ (by kernel_rfl) ?_ (fun K hK => ?_)
                  rotate_left 1
                  · simp only [List.getElem?_toArray, List.getElem?_cons_succ, List.getElem?_cons_zero]; exact rfl
                  go_simp
                  refine (BC.out _).mono ?_
                  rintro e w5 ⟨rfl, hb5⟩
                  have hR_5 := (hR_4.below (Below.refl _ _).drew').below hb5
                  go_wp2_with fail
                  refine hK.out _ _ (CC.out _ _ _ _ hR_5) (fun hHeld => ?_)
                  clear hK K
                  try simp only [Act.put]
                  try simp only [List.setIfInBounds_toArray, List.set_cons_zero, List.set_cons_succ]
                  refine wpAnyH_done (by kernel_rfl) ?_ _
                  refine OnlyN.normal ?_
                  have hmn1 := HMM.out.1 a b
                  have hmn2 := HMM.out.2 a b
                  obtain ⟨y0, y1, y2, y3⟩ := hR_5.pe.open2
                  obtain ⟨y4, y5⟩ := hR_5.pe.put2 (.int .i64 (min (a : Int) (b : Int)))
                  obtain ⟨mn, hmn⟩ : ∃ mn, min (a : Int) (b : Int) = mn := ⟨_, rfl⟩
                  obtain ⟨mx, hmx⟩ : ∃ mx, max (a : Int) (b : Int) = mx := ⟨_, rfl⟩
                  rw [hmn] at hmn1 y4 y5
                  rw [hmx] at hmn2
                  have HMN := Lib.hid hmn; have HMX := Lib.hid hmx
                  clear hmn hmx
                  gi_wp2
                  clear hmn1 hmn2 y0 y1 y2 y3 y4 y5
                  go_roundw
                  case rel =>
                    refine ⟨i + 1, by omega, by go_num, ?_, ?_, ?_⟩
                    · have e : cnP P U (p0, p1) (i + 1) = n := by unfold cnP; rw [HN.out, HSS.out]; rfl
                      (rw [e]) <;> go_num
                    · have e : cnZ P U (p0, p1) (i + 1) = z + 1 := by unfold cnZ; rw [HZ.out, HSS.out]; rfl
                      (rw [e]) <;> go_num
                    · have e : rsK P (p0, p1) U s (i + 1) = ⟨(rsK P (p0, p1) U s i).ins, (rsK P (p0, p1) U s i).at_, mn, mx⟩ := by
                        show rsI P (p0, p1) U (rsK P (p0, p1) U s i) i = _
                        unfold rsI
                        rw [if_neg HEQ.out, HEB.out, HEA.out, HEBB.out, HMN.out, HMX.out]
                        rfl
                      rw [e]
                      exact hR_5.setE _ _
                  case measure => simp [intOf]; omega
                | false =>
                  refine rnd_region_held (S := fun w' => w'.cell? ⟨w.heap.size, 0, none⟩ = some (.pointer (some ⟨mb, 0, none⟩)) ∧ w'.cell? ⟨mb, 0, none⟩ = some (.slice (some ⟨pb, 0, none⟩) pn pc) ∧ w'.cell? ⟨yb, k1, none⟩ = some (.int .i64 (a : Int)) ∧ w'.cell? ⟨yb, k2, none⟩ = some (.int .i64 (b : Int)) ∧ w'.cell? ⟨pb, a * 2, none⟩ = some (.int .i64 a0) ∧ w'.cell? ⟨pb, a * 2 + 1, none⟩ = some (.int .i64 a1) ∧ w'.cell? ⟨pb, b * 2, none⟩ = some (.int .i64 b0) ∧ w'.cell? ⟨pb, b * 2 + 1, none⟩ = some (.int .i64 b1) ∧ w'.cell? ⟨w.heap.size + 1, 0, none⟩ = some (.int .i64 p0) ∧ w'.cell? ⟨w.heap.size + 1, 1, none⟩ = some (.int .i64 p1)) (by kernel_rfl) (by kernel_rfl) (CC.out _ _ _ _ (hR_4.below (Below.refl _ _).drew')) (fun hHeld => ?_)
                  refine reg_take 0 ?_ ?_ ?_ (by kernel_rfl) (by kernel_rfl) (by kernel_rfl) (fun _ _ _ h => h) ?_ ?_ (by assumption) ?_
                  rotate_left 2
                  · simp only [List.getElem?_toArray, List.getElem?_cons_zero]; exact rfl
                  · rfl
                  · intro w hSw; (try dsimp only at hSw); go_simp; try with_reducible rfl
                  try simp only [Act.put]
                  try simp only [List.setIfInBounds_toArray, List.set_cons_zero, List.set_cons_succ]
                  refine reg_take 1 ?_ ?_ ?_ (by kernel_rfl) (by kernel_rfl) (by kernel_rfl) (fun _ _ _ h => h) ?_ ?_ (by assumption) ?_
                  rotate_left 2
                  · simp only [List.getElem?_toArray, List.getElem?_cons_succ, List.getElem?_cons_zero]; exact rfl
                  · rfl
                  · intro w hSw; (try dsimp only at hSw); go_simp; try with_reducible rfl
                  try simp only [Act.put]
                  try simp only [List.setIfInBounds_toArray, List.set_cons_zero, List.set_cons_succ]
                  refine reg_take 2 ?_ ?_ ?_ (by kernel_rfl) (by kernel_rfl) (by kernel_rfl) (fun _ _ _ h => h) ?_ ?_ (by assumption) ?_
                  rotate_left 2
                  · simp only [List.getElem?_toArray, List.getElem?_cons_succ, List.getElem?_cons_zero]; exact rfl
                  · rfl
                  · intro w hSw; (try dsimp only at hSw); go_simp; try with_reducible rfl
                  try simp only [Act.put]
                  try simp only [List.setIfInBounds_toArray, List.set_cons_zero, List.set_cons_succ]
                  refine reg_take 3 ?_ ?_ ?_ (by kernel_rfl) (by kernel_rfl) (by kernel_rfl) (fun _ _ _ h => h) ?_ ?_ (by assumption) ?_
                  rotate_left 2
                  · simp only [List.getElem?_toArray, List.getElem?_cons_succ, List.getElem?_cons_zero]; exact rfl
                  · rfl
                  · intro w hSw; (try dsimp only at hSw); go_simp; try with_reducible rfl
                  try simp only [Act.put]
                  try simp only [List.setIfInBounds_toArray, List.set_cons_zero, List.set_cons_succ]
                  refine reg_take 4 ?_ ?_ ?_ (by kernel_rfl) (by kernel_rfl) (by kernel_rfl) (fun _ _ _ h => h) ?_ ?_ (by assumption) ?_
                  rotate_left 2
                  · simp only [List.getElem?_toArray, List.getElem?_cons_succ, List.getElem?_cons_zero]; exact rfl
                  · rfl
                  · intro w hSw; (try dsimp only at hSw); go_simp; try with_reducible rfl
                  try simp only [Act.put]
                  try simp only [List.setIfInBounds_toArray, List.set_cons_zero, List.set_cons_succ]
                  refine reg_take 5 ?_ ?_ ?_ (by kernel_rfl) (by kernel_rfl) (by kernel_rfl) (fun _ _ _ h => h) ?_ ?_ (by assumption) ?_
                  rotate_left 2
                  · simp only [List.getElem?_toArray, List.getElem?_cons_succ, List.getElem?_cons_zero]; exact rfl
                  · rfl
                  · intro w hSw; (try dsimp only at hSw); go_simp; try with_reducible rfl
                  try simp only [Act.put]
                  try simp only [List.setIfInBounds_toArray, List.set_cons_zero, List.set_cons_succ]
                  refine reg_take 6 ?_ ?_ ?_ (by kernel_rfl) (by kernel_rfl) (by kernel_rfl) (fun _ _ _ h => h) ?_ ?_ (by assumption) ?_
                  rotate_left 2
                  · simp only [List.getElem?_toArray, List.getElem?_cons_succ, List.getElem?_cons_zero]; exact rfl
                  · rfl
                  · intro w hSw; (try dsimp only at hSw); go_simp; try with_reducible rfl
                  try simp only [Act.put]
                  try simp only [List.setIfInBounds_toArray, List.set_cons_zero, List.set_cons_succ]
                  refine reg_take 7 ?_ ?_ ?_ (by kernel_rfl) (by kernel_rfl) (by kernel_rfl) (fun _ _ _ h => h) ?_ ?_ (by assumption) ?_
                  rotate_left 2
                  · simp only [List.getElem?_toArray, List.getElem?_cons_succ, List.getElem?_cons_zero]; exact rfl
                  · rfl
                  · intro w hSw; (try dsimp only at hSw); go_simp; try with_reducible rfl
                  try simp only [Act.put]
                  try simp only [List.setIfInBounds_toArray, List.set_cons_zero, List.set_cons_succ]
                  refine reg_take 8 ?_ ?_ ?_ (by kernel_rfl) (by kernel_rfl) (by kernel_rfl) (fun _ _ _ h => h) ?_ ?_ (by assumption) ?_
                  rotate_left 2
                  · simp only [List.getElem?_toArray, List.getElem?_cons_succ, List.getElem?_cons_zero]; exact rfl
                  · rfl
                  · intro w hSw; (try dsimp only at hSw); go_simp; try with_reducible rfl
                  try simp only [Act.put]
                  try simp only [List.setIfInBounds_toArray, List.set_cons_zero, List.set_cons_succ]
                  refine reg_take 9 ?_ ?_ ?_ (by kernel_rfl) (by kernel_rfl) (by kernel_rfl) (fun _ _ _ h => h) ?_ ?_ (by assumption) ?_
                  rotate_left 2
                  · simp only [List.getElem?_toArray, List.getElem?_cons_succ, List.getElem?_cons_zero]; exact rfl
                  · rfl
                  · intro w hSw; (try dsimp only at hSw); go_simp; try with_reducible rfl
                  try simp only [Act.put]
                  try simp only [List.setIfInBounds_toArray, List.set_cons_zero, List.set_cons_succ]
                  refine reg_take 10 ?_ ?_ ?_ (by kernel_rfl) (by kernel_rfl) (by kernel_rfl) (fun _ _ _ h => h) ?_ ?_ (by assumption) ?_
                  rotate_left 2
                  · simp only [List.getElem?_toArray, List.getElem?_cons_succ, List.getElem?_cons_zero]; exact rfl
                  · rfl
                  · intro w hSw; (try dsimp only at hSw); go_simp; try with_reducible rfl
                  try simp only [Act.put]
                  try simp only [List.setIfInBounds_toArray, List.set_cons_zero, List.set_cons_succ]
                  refine reg_take 11 ?_ ?_ ?_ (by kernel_rfl) (by kernel_rfl) (by kernel_rfl) (fun _ _ _ h => h) ?_ ?_ (by assumption) ?_
                  rotate_left 2
                  · simp only [List.getElem?_toArray, List.getElem?_cons_succ, List.getElem?_cons_zero]; exact rfl
                  · rfl
                  · intro w hSw; (try dsimp only at hSw); go_simp; try with_reducible rfl
                  try simp only [Act.put]
                  try simp only [List.setIfInBounds_toArray, List.set_cons_zero, List.set_cons_succ]
                  refine reg_take 12 ?_ ?_ ?_ (by kernel_rfl) (by kernel_rfl) (by kernel_rfl) (fun _ _ _ h => h) ?_ ?_ (by assumption) ?_
                  rotate_left 2
                  · simp only [List.getElem?_toArray, List.getElem?_cons_succ, List.getElem?_cons_zero]; exact rfl
                  · rfl
                  · intro w hSw; (try dsimp only at hSw); go_simp; try with_reducible rfl
                  try simp only [Act.put]
                  try simp only [List.setIfInBounds_toArray, List.set_cons_zero, List.set_cons_succ]
                  refine reg_take 13 ?_ ?_ ?_ (by kernel_rfl) (by kernel_rfl) (by kernel_rfl) (fun _ _ _ h => h) ?_ ?_ (by assumption) ?_
                  rotate_left 2
                  · simp only [List.getElem?_toArray, List.getElem?_cons_succ, List.getElem?_cons_zero]; exact rfl
                  · rfl
                  · intro w hSw; (try dsimp only at hSw); go_simp; try with_reducible rfl
                  try simp only [Act.put]
                  try simp only [List.setIfInBounds_toArray, List.set_cons_zero, List.set_cons_succ]
                  refine reg_take 14 ?_ ?_ ?_ (by kernel_rfl) (by kernel_rfl) (by kernel_rfl) (fun _ _ _ h => h) ?_ ?_ (by assumption) ?_
                  rotate_left 2
                  · simp only [List.getElem?_toArray, List.getElem?_cons_succ, List.getElem?_cons_zero]; exact rfl
                  · rfl
                  · intro w hSw; (try dsimp only at hSw); go_simp; try with_reducible rfl
                  try simp only [Act.put]
                  try simp only [List.setIfInBounds_toArray, List.set_cons_zero, List.set_cons_succ]
                  refine reg_call 15 ?_ (by kernel_rfl) ?_ (fun K hK => ?_)
                  rotate_left 1
                  · simp only [List.getElem?_toArray, List.getElem?_cons_succ, List.getElem?_cons_zero]; exact rfl
                  go_simp
                  refine (BC.out _).mono ?_
                  rintro e w5 ⟨rfl, hb5⟩
                  have hR_5 := (hR_4.below (Below.refl _ _).drew').below hb5
                  go_wp2_with fail
                  refine hK.out _ _ (CC.out _ _ _ _ hR_5) (fun hHeld => ?_)
                  clear hK K
                  try simp only [Act.put]
                  try simp only [List.setIfInBounds_toArray, List.set_cons_zero, List.set_cons_succ]
                  refine wpAnyH_done (by kernel_rfl) ?_ _
                  refine OnlyN.normal ?_
                  gi_wp2
                  go_roundw
                  case rel =>
                    refine ⟨i + 1, by omega, by go_num, ?_, ?_, ?_⟩
                    · have e : cnP P U (p0, p1) (i + 1) = n := by unfold cnP; rw [HN.out, HSS.out]; rfl
                      (rw [e]) <;> go_num
                    · have e : cnZ P U (p0, p1) (i + 1) = z + 1 := by unfold cnZ; rw [HZ.out, HSS.out]; rfl
                      (rw [e]) <;> go_num
                    · have e : rsK P (p0, p1) U s (i + 1) = ⟨(rsK P (p0, p1) U s i).ins, (rsK P (p0, p1) U s i).at_, (rsK P (p0, p1) U s i).e0, (rsK P (p0, p1) U s i).e1⟩ := by
                        show rsI P (p0, p1) U (rsK P (p0, p1) U s i) i = _
                        unfold rsI
                        rw [if_neg HEQ.out, HEB.out, HEA.out, HEBB.out]
                        rfl
                      rw [e]
                      exact hR_5
                  case measure => simp [intOf]; omega
            · skip
              as_aux_lemma =>
                have hco := fun W => Orient_is a0 a1 b0 b1 p0 p1 HPA.out.1 HPA.out.2 HPB.out.1 HPB.out.2 HPP.out.1 HPP.out.2 (hsv.symm.trans hss) W
                have HSS := Lib.hid hss; have CO := Lib.hid hco
                clear hss hco
                refine rnd_region_held (S := fun w' => w'.cell? ⟨w.heap.size, 0, none⟩ = some (.pointer (some ⟨mb, 0, none⟩)) ∧ w'.cell? ⟨mb, 0, none⟩ = some (.slice (some ⟨pb, 0, none⟩) pn pc) ∧ w'.cell? ⟨yb, k1, none⟩ = some (.int .i64 (a : Int)) ∧ w'.cell? ⟨yb, k2, none⟩ = some (.int .i64 (b : Int)) ∧ w'.cell? ⟨pb, a * 2, none⟩ = some (.int .i64 a0) ∧ w'.cell? ⟨pb, a * 2 + 1, none⟩ = some (.int .i64 a1) ∧ w'.cell? ⟨pb, b * 2, none⟩ = some (.int .i64 b0) ∧ w'.cell? ⟨pb, b * 2 + 1, none⟩ = some (.int .i64 b1) ∧ w'.cell? ⟨w.heap.size + 1, 0, none⟩ = some (.int .i64 p0) ∧ w'.cell? ⟨w.heap.size + 1, 1, none⟩ = some (.int .i64 p1)) (by kernel_rfl) (by kernel_rfl) (CC.out _ _ _ _ (hR_3.below (Below.refl _ _).drew')) (fun hHeld => ?_)
                refine reg_take 0 ?_ ?_ ?_ (by kernel_rfl) (by kernel_rfl) (by kernel_rfl) (fun _ _ _ h => h) ?_ ?_ (by assumption) ?_
                rotate_left 2
                · simp only [List.getElem?_toArray, List.getElem?_cons_zero]; exact rfl
                · rfl
                · intro w hSw; (try dsimp only at hSw); go_simp; try with_reducible rfl
                try simp only [Act.put]
                try simp only [List.setIfInBounds_toArray, List.set_cons_zero, List.set_cons_succ]
                refine reg_take 1 ?_ ?_ ?_ (by kernel_rfl) (by kernel_rfl) (by kernel_rfl) (fun _ _ _ h => h) ?_ ?_ (by assumption) ?_
                rotate_left 2
                · simp only [List.getElem?_toArray, List.getElem?_cons_succ, List.getElem?_cons_zero]; exact rfl
                · rfl
                · intro w hSw; (try dsimp only at hSw); go_simp; try with_reducible rfl
                try simp only [Act.put]
                try simp only [List.setIfInBounds_toArray, List.set_cons_zero, List.set_cons_succ]
                refine reg_take 2 ?_ ?_ ?_ (by kernel_rfl) (by kernel_rfl) (by kernel_rfl) (fun _ _ _ h => h) ?_ ?_ (by assumption) ?_
                rotate_left 2
                · simp only [List.getElem?_toArray, List.getElem?_cons_succ, List.getElem?_cons_zero]; exact rfl
                · rfl
                · intro w hSw; (try dsimp only at hSw); go_simp; try with_reducible rfl
                try simp only [Act.put]
                try simp only [List.setIfInBounds_toArray, List.set_cons_zero, List.set_cons_succ]
                refine reg_take 3 ?_ ?_ ?_ (by kernel_rfl) (by kernel_rfl) (by kernel_rfl) (fun _ _ _ h => h) ?_ ?_ (by assumption) ?_
                rotate_left 2
                · simp only [List.getElem?_toArray, List.getElem?_cons_succ, List.getElem?_cons_zero]; exact rfl
                · rfl
                · intro w hSw; (try dsimp only at hSw); go_simp; try with_reducible rfl
                try simp only [Act.put]
                try simp only [List.setIfInBounds_toArray, List.set_cons_zero, List.set_cons_succ]
                refine reg_take 4 ?_ ?_ ?_ (by kernel_rfl) (by kernel_rfl) (by kernel_rfl) (fun _ _ _ h => h) ?_ ?_ (by assumption) ?_
                rotate_left 2
                · simp only [List.getElem?_toArray, List.getElem?_cons_succ, List.getElem?_cons_zero]; exact rfl
                · rfl
                · intro w hSw; (try dsimp only at hSw); go_simp; try with_reducible rfl
                try simp only [Act.put]
                try simp only [List.setIfInBounds_toArray, List.set_cons_zero, List.set_cons_succ]
                refine reg_take 5 ?_ ?_ ?_ (by kernel_rfl) (by kernel_rfl) (by kernel_rfl) (fun _ _ _ h => h) ?_ ?_ (by assumption) ?_
                rotate_left 2
                · simp only [List.getElem?_toArray, List.getElem?_cons_succ, List.getElem?_cons_zero]; exact rfl
                · rfl
                · intro w hSw; (try dsimp only at hSw); go_simp; try with_reducible rfl
                try simp only [Act.put]
                try simp only [List.setIfInBounds_toArray, List.set_cons_zero, List.set_cons_succ]
                refine reg_take 6 ?_ ?_ ?_ (by kernel_rfl) (by kernel_rfl) (by kernel_rfl) (fun _ _ _ h => h) ?_ ?_ (by assumption) ?_
                rotate_left 2
                · simp only [List.getElem?_toArray, List.getElem?_cons_succ, List.getElem?_cons_zero]; exact rfl
                · rfl
                · intro w hSw; (try dsimp only at hSw); go_simp; try with_reducible rfl
                try simp only [Act.put]
                try simp only [List.setIfInBounds_toArray, List.set_cons_zero, List.set_cons_succ]
                refine reg_take 7 ?_ ?_ ?_ (by kernel_rfl) (by kernel_rfl) (by kernel_rfl) (fun _ _ _ h => h) ?_ ?_ (by assumption) ?_
                rotate_left 2
                · simp only [List.getElem?_toArray, List.getElem?_cons_succ, List.getElem?_cons_zero]; exact rfl
                · rfl
                · intro w hSw; (try dsimp only at hSw); go_simp; try with_reducible rfl
                try simp only [Act.put]
                try simp only [List.setIfInBounds_toArray, List.set_cons_zero, List.set_cons_succ]
                refine reg_take 8 ?_ ?_ ?_ (by kernel_rfl) (by kernel_rfl) (by kernel_rfl) (fun _ _ _ h => h) ?_ ?_ (by assumption) ?_
                rotate_left 2
                · simp only [List.getElem?_toArray, List.getElem?_cons_succ, List.getElem?_cons_zero]; exact rfl
                · rfl
                · intro w hSw; (try dsimp only at hSw); go_simp; try with_reducible rfl
                try simp only [Act.put]
                try simp only [List.setIfInBounds_toArray, List.set_cons_zero, List.set_cons_succ]
                refine reg_take 9 ?_ ?_ ?_ (by kernel_rfl) (by kernel_rfl) (by kernel_rfl) (fun _ _ _ h => h) ?_ ?_ (by assumption) ?_
                rotate_left 2
                · simp only [List.getElem?_toArray, List.getElem?_cons_succ, List.getElem?_cons_zero]; exact rfl
                · rfl
                · intro w hSw; (try dsimp only at hSw); go_simp; try with_reducible rfl
                try simp only [Act.put]
                try simp only [List.setIfInBounds_toArray, List.set_cons_zero, List.set_cons_succ]
                refine reg_take 10 ?_ ?_ ?_ (by kernel_rfl) (by kernel_rfl) (by kernel_rfl) (fun _ _ _ h => h) ?_ ?_ (by assumption) ?_
                rotate_left 2
                · simp only [List.getElem?_toArray, List.getElem?_cons_succ, List.getElem?_cons_zero]; exact rfl
                · rfl
                · intro w hSw; (try dsimp only at hSw); go_simp; try with_reducible rfl
                try simp only [Act.put]
                try simp only [List.setIfInBounds_toArray, List.set_cons_zero, List.set_cons_succ]
                refine reg_take 11 ?_ ?_ ?_ (by kernel_rfl) (by kernel_rfl) (by kernel_rfl) (fun _ _ _ h => h) ?_ ?_ (by assumption) ?_
                rotate_left 2
                · simp only [List.getElem?_toArray, List.getElem?_cons_succ, List.getElem?_cons_zero]; exact rfl
                · rfl
                · intro w hSw; (try dsimp only at hSw); go_simp; try with_reducible rfl
                try simp only [Act.put]
                try simp only [List.setIfInBounds_toArray, List.set_cons_zero, List.set_cons_succ]
                refine reg_take 12 ?_ ?_ ?_ (by kernel_rfl) (by kernel_rfl) (by kernel_rfl) (fun _ _ _ h => h) ?_ ?_ (by assumption) ?_
                rotate_left 2
                · simp only [List.getElem?_toArray, List.getElem?_cons_succ, List.getElem?_cons_zero]; exact rfl
                · rfl
                · intro w hSw; (try dsimp only at hSw); go_simp; try with_reducible rfl
                try simp only [Act.put]
                try simp only [List.setIfInBounds_toArray, List.set_cons_zero, List.set_cons_succ]
                refine reg_take 13 ?_ ?_ ?_ (by kernel_rfl) (by kernel_rfl) (by kernel_rfl) (fun _ _ _ h => h) ?_ ?_ (by assumption) ?_
                rotate_left 2
                · simp only [List.getElem?_toArray, List.getElem?_cons_succ, List.getElem?_cons_zero]; exact rfl
                · rfl
                · intro w hSw; (try dsimp only at hSw); go_simp; try with_reducible rfl
                try simp only [Act.put]
                try simp only [List.setIfInBounds_toArray, List.set_cons_zero, List.set_cons_succ]
                refine reg_take 14 ?_ ?_ ?_ (by kernel_rfl) (by kernel_rfl) (by kernel_rfl) (fun _ _ _ h => h) ?_ ?_ (by assumption) ?_
                rotate_left 2
                · simp only [List.getElem?_toArray, List.getElem?_cons_succ, List.getElem?_cons_zero]; exact rfl
                · rfl
                · intro w hSw; (try dsimp only at hSw); go_simp; try with_reducible rfl
                try simp only [Act.put]
                try simp only [List.setIfInBounds_toArray, List.set_cons_zero, List.set_cons_succ]
                refine reg_call 15 ?_ (by kernel_rfl) ?_ (fun K hK => ?_)
                rotate_left 1
                · simp only [List.getElem?_toArray, List.getElem?_cons_succ, List.getElem?_cons_zero]; exact rfl
                go_simp
                refine (CO.out _).mono ?_
                rintro e w4 ⟨rfl, hb4⟩
                have hR_4 := (hR_3.below (Below.refl _ _).drew').below hb4
                go_wp2_with fail
                refine hK.out _ _ (CC.out _ _ _ _ hR_4) (fun hHeld => ?_)
                clear hK K
                try simp only [Act.put]
                try simp only [List.setIfInBounds_toArray, List.set_cons_zero, List.set_cons_succ]
                refine wpAnyH_done (by kernel_rfl) ?_ _
                refine OnlyN.normal ?_
                have HEB := Lib.hid (show onE P (p0, p1) U i = false by unfold onE; rw [HSS.out]; rfl)
                gi_wp2
                go_roundw
                case rel =>
                  refine ⟨i + 1, by omega, by go_num, ?_, ?_, ?_⟩
                  · have e : cnP P U (p0, p1) (i + 1) = n := by unfold cnP; rw [HN.out, HSS.out]; rfl
                    (rw [e]) <;> go_num
                  · have e : cnZ P U (p0, p1) (i + 1) = z := by unfold cnZ; rw [HZ.out, HSS.out]; rfl
                    (rw [e]) <;> go_num
                  · have e : rsK P (p0, p1) U s (i + 1) = ⟨(rsK P (p0, p1) U s i).ins, (rsK P (p0, p1) U s i).at_, (rsK P (p0, p1) U s i).e0, (rsK P (p0, p1) U s i).e1⟩ := by
                      show rsI P (p0, p1) U (rsK P (p0, p1) U s i) i = _
                      unfold rsI
                      rw [if_neg HEQ.out, HEB.out, HEA.out, HEBB.out]
                      rfl
                    rw [e]
                    exact hR_4
                case measure => simp [intOf]; omega
        · obtain rfl : i = 3 := by omega
          obtain ⟨y0, y1⟩ := hR_0.pi.open1
          obtain ⟨ib, hib⟩ : ∃ ib, s.ins = ib := ⟨_, rfl⟩
          obtain ⟨hd, hhd⟩ : ∃ hd, holdsT P U (p0, p1) = hd := ⟨_, rfl⟩
          have hc3 := cn_three P U (p0, p1)
          rw [hn, hz, hhd] at hc3
          have hw : IntKind.i64.wrap ((n : Int) + (z : Int)) = ((n + z : Nat) : Int) := by rw [IntKind.wrap_i64]; omega
          have hbq : (((n + z : Nat) : Int) == 3) = hd := by rw [← hc3, Bool.eq_iff_iff, decide_eq_true_eq, beq_iff_eq]; omega
          have hbq' : ((n : Int) + (z : Int) == 3) = hd := by rw [← hc3, Bool.eq_iff_iff, decide_eq_true_eq, beq_iff_eq]; omega
          rw [hib] at y0
          have HR_0 := Lib.hid hR_0; have HIB := Lib.hid hib; have HHD := Lib.hid hhd
          clear hR_0 hib hhd hn hz hc3
          have fin : ∀ (BB : Nat) (aa : Act) (v : Bool), v = (ib || hd) → ownPostG BB (KeepB (RPb w.heap.size)) (fun pre W => (Box W (w.heap.size + 4) [.bool (rsL P (p0, p1) (pre.map (·.1))).ins] ∧ Box W (w.heap.size + 5) [.int .i64 (rsL P (p0, p1) (pre.map (·.1))).at_] ∧ Box W (w.heap.size + 6) [.int .i64 (rsL P (p0, p1) (pre.map (·.1))).e0, .int .i64 (rsL P (p0, p1) (pre.map (·.1))).e1]) ∧ KeepB (RPb w.heap.size) w9 W ∧ Below w.heap.size w W) (fun _ _ _ => False) (pre ++ [(⟨(y, U), hy1, hy2⟩ : RA S)]) W .normal aa (wr.setCell ⟨w.heap.size + 1 + 1 + 1 + 1, 0, none⟩ (.bool v)) := by
            intro BB aa v hv
            have h := HR_0.out.setI v
            have e : rsL P (p0, p1) ((pre ++ [(⟨(y, U), hy1, hy2⟩ : RA S)]).map (·.1)) = rsT P (p0, p1) s U := by rw [List.map_append, List.map_cons, List.map_nil, rsL_snoc, HS.out]
            refine ⟨h.ko.from _, h.kw, ⟨?_, ?_, ?_⟩, h.kb, h.bl⟩
            · rw [e]; unfold rsT; rw [HIB.out, HHD.out, ← hv]; exact h.pi
            · rw [e]; exact h.pa
            · rw [e]; exact h.pe
          cases ib with
          | true =>
            gi_wp2
            all_goals exact fin _ _ true rfl
          | false =>
            gi_wp2
            all_goals (try rw [hbq'])
            all_goals exact fin _ _ hd rfl
  case done =>
    rintro D xs W hD hS ⟨⟨pi, pa, pe⟩, hKB, hBW⟩ hK
    simp only [hS] at pi pa pe
    obtain ⟨s, hs⟩ : ∃ s, rsL P (p0, p1) (realsK S S.length) = s := ⟨_, rfl⟩
    rw [hs] at pi pa pe
    have hcase := HC.out
    rw [hs] at hcase
    have hmW := hm9.keep hin9 hKB
    have r0 : RPb w.heap.size w.heap.size := ⟨by omega, by omega, by omega, by omega⟩
    have r1 : RPb w.heap.size (w.heap.size + 1) := ⟨by omega, by omega, by omega, by omega⟩
    have r2 : RPb w.heap.size (w.heap.size + 1 + 1) := ⟨by omega, by omega, by omega, by omega⟩
    have r3 : RPb w.heap.size (w.heap.size + 1 + 1 + 1) := ⟨by omega, by omega, by omega, by omega⟩
    have pmW := box_keep pm9 hKB r0
    have ppW := box_keep pp9 hKB r1
    have pxW := box_keep px9 hKB r2
    have ptW := box_keep pt9 hKB r3
    have hDl : D < W.heap.size := (Array.getElem?_eq_some_iff.1 hK).1
    have hre := fun w' (hb : Below W.heap.size W w') => Real_any (t : Int) w' (hmW.below hb)
    have hrm : realM S (t : Int) = realT ⟨v0, v1, v2, n0, n1, n2, f0, f1, f2⟩ := by unfold realM; rw [getT_nat, HT.out]
    have HMW := Lib.hid hmW; have PM := Lib.hid pmW; have PP := Lib.hid ppW; have PX := Lib.hid pxW; have PT := Lib.hid ptW; have PI := Lib.hid pi; have PA := Lib.hid pa; have PE := Lib.hid pe
    have HK := Lib.hid hK; have HBW := Lib.hid hBW; have HRE := Lib.hid hre; have HRM := Lib.hid hrm
    rw [ha0]
    have y0 := pi.c0
    clear pi pa pe hmW pmW ppW pxW ptW hK hBW hre hrm r0 r1 r2 r3 hs
    have ret : ∀ w' : World, Below W.heap.size W w' → w'.heap[D]? = some (.deferred (some [])) ∧ Below w.heap.size w (w'.putObj D (.deferred none)) := by
      intro w' hb
      have h1 := (hb.block D hDl).trans HK.out
      have h2 := HBW.out.trans (hb.mono HBW.out.size)
      exact ⟨h1, h2.trans (belowK_b (w := w) (Nat.le_refl _) w' D _ _ (by omega) h1 rfl rfl)⟩
    have RET := Lib.hid ret
    clear ret
    rcases hcase with hok | ⟨hins, hrt, hxx, j, hj, hv1, hv2, hv3, hsd⟩
    · unfold okIn at hok
      simp only [Bool.and_eq_true] at hok
      obtain ⟨⟨hins, hrt⟩, hok⟩ := hok
      rw [hins] at y0
      have hre := HRE.out W (Below.refl _ _)
      rw [HRM.out, hrt] at hre
      have HREW := Lib.hid hre
      have y2 := PX.out.c1; have y5 := PM.out.c0
      clear hre
      gi_wp2
      go_wp2_with fail
      refine HREW.out.mono ?_
      rintro e w4 ⟨rfl, hd⟩
      have hb4 : Below W.heap.size W w4 := hd.below
      have z0 := (PA.out.below hb4).c0
      by_cases h0 : 0 ≤ s.at_
      · skip
        as_aux_lemma =>
          rw [if_pos h0] at hok
          simp only [Bool.and_eq_true, decide_eq_true_eq] at hok
          obtain ⟨⟨rfl, hx2, rfl⟩, hhas⟩ := hok
          obtain ⟨q, hq⟩ : ∃ q, s.at_ = q := ⟨_, rfl⟩
          rw [hq] at z0 h0 hx2 hhas
          subst hx2
          have q1 : decide (0 ≤ x2) = true := decide_eq_true h0
          have q2 : (x2 == x2) = true := by simp
          have z1 := (PX.out.below hb4).c0; have z2 := (PX.out.below hb4).c2; have z3 := (PX.out.below hb4).c3
          have hri := Right1_any x2 (w.heap.size + 1 + 1 + 1) ⟨v0, v1, v2, n0, n1, n2, f0, f1, f2⟩ w4 (PT.out.below hb4)
          rw [hhas] at hri
          have HRI := Lib.hid hri; have HB4 := Lib.hid hb4
          clear hri hb4 hd y0 y2 y5
          go_wp2_with fail
          refine HRI.out.mono ?_
          rintro e w5 ⟨rfl, rfl⟩
          obtain ⟨r1, r2⟩ := RET.out _ HB4.out
          go_wp2
          refine ⟨by simp, .inl ⟨_, _, rfl, run_takeDeferred r1, ?_⟩⟩
          exact ⟨_, results_tmp rfl _ _ _, rfl, r2⟩
      · rw [if_neg h0] at hok
        have q1 : decide (0 ≤ s.at_) = false := decide_eq_false h0
        obtain ⟨z4, z5, -, -⟩ := (PE.out.below hb4).open2
        by_cases he : ¬ (s.e0 = 0 ∧ s.e1 = 0)
        · skip
          as_aux_lemma =>
            rw [if_pos he] at hok
            simp only [Bool.and_eq_true, decide_eq_true_eq] at hok
            obtain ⟨⟨⟨rfl, hx2, hx3⟩, hh1⟩, hh2⟩ := hok
            obtain ⟨qa, hqa⟩ : ∃ q, s.e0 = q := ⟨_, rfl⟩
            obtain ⟨qb, hqb⟩ : ∃ q, s.e1 = q := ⟨_, rfl⟩
            rw [hqa] at z4 he hx2 hh1
            rw [hqb] at z5 he hx3 hh2
            subst hx2; subst hx3
            have hne : ∀ W' : World, Sem.run Try.prog (binOp BinOp.neq 48 (Value.agg #[.int .i64 x2, .int .i64 x3]) (Value.agg #[.int .i64 0, .int .i64 0])) W' = Result.ok (Value.bool true) W' := fun W' => by rw [neq2_run, decide_eq_false he]; rfl
            have heq : ∀ W' : World, Sem.run Try.prog (binOp BinOp.eql 48 (Value.agg #[.int .i64 x2, .int .i64 x3]) (Value.agg #[.int .i64 x2, .int .i64 x3])) W' = Result.ok (Value.bool true) W' := fun W' => by rw [eq2_run, decide_eq_true ⟨rfl, rfl⟩]
            have z1 := (PX.out.below hb4).c0; have z2 := (PX.out.below hb4).c2; have z3 := (PX.out.below hb4).c3
            have hr1 := Right1_any x2 (w.heap.size + 1 + 1 + 1) ⟨v0, v1, v2, n0, n1, n2, f0, f1, f2⟩ w4 (PT.out.below hb4)
            have hr2 := Right1_any x3 (w.heap.size + 1 + 1 + 1) ⟨v0, v1, v2, n0, n1, n2, f0, f1, f2⟩ w4 (PT.out.below hb4)
            rw [hh1] at hr1; rw [hh2] at hr2
            have HR1 := Lib.hid hr1; have HR2 := Lib.hid hr2; have HB4 := Lib.hid hb4
            clear hr1 hr2 hb4 hd y0 y2 y5
            go_wp2_with fail
            refine HR1.out.mono ?_
            rintro e w5 ⟨rfl, rfl⟩
            go_wp2_with fail
            refine HR2.out.mono ?_
            rintro e w5 ⟨rfl, rfl⟩
            obtain ⟨r1, r2⟩ := RET.out _ HB4.out
            go_wp2
            refine ⟨by simp, .inl ⟨_, _, rfl, run_takeDeferred r1, ?_⟩⟩
            exact ⟨_, results_tmp rfl _ _ _, rfl, r2⟩
        · skip
          as_aux_lemma =>
            rw [if_neg he] at hok
            simp only [Bool.and_eq_true, decide_eq_true_eq] at hok
            obtain ⟨⟨rfl, rfl, rfl⟩, ⟨hs2, hs0⟩, hs1⟩ := hok
            have he' : s.e0 = 0 ∧ s.e1 = 0 := Classical.byContradiction he
            rw [he'.1] at z4; rw [he'.2] at z5
            have hne : ∀ W' : World, Sem.run Try.prog (binOp BinOp.neq 48 (Value.agg #[.int .i64 0, .int .i64 0]) (Value.agg #[.int .i64 0, .int .i64 0])) W' = Result.ok (Value.bool false) W' := fun W' => by rw [neq2_run, decide_eq_true ⟨rfl, rfl⟩]; rfl
            have hv := (HL.out t _ HT.out).1 hrt
            obtain ⟨a, ea, la, ga⟩ := (hv 0 (by omega)).nat
            obtain ⟨b, eb, lb, gb⟩ := (hv 1 (by omega)).nat
            obtain ⟨c, ec, lc, gc⟩ := (hv 2 (by omega)).nat
            rw [ea] at ga; rw [eb] at gb; rw [ec] at gc
            rw [Int.toNat_natCast] at ga gb gc
            have ka := HPS.out _ (List.mem_of_getElem? ga); have kb := HPS.out _ (List.mem_of_getElem? gb); have kc := HPS.out _ (List.mem_of_getElem? gc)
            obtain ⟨⟨a0, a1⟩, hpa⟩ : ∃ q, ptA P a = q := ⟨_, rfl⟩
            obtain ⟨⟨b0, b1⟩, hpb⟩ : ∃ q, ptA P b = q := ⟨_, rfl⟩
            obtain ⟨⟨c0, c1⟩, hpc⟩ : ∃ q, ptA P c = q := ⟨_, rfl⟩
            rw [hpa] at ga ka; rw [hpb] at gb kb; rw [hpc] at gc kc
            simp only [] at ga gb gc ka kb kc
            have sg : ∀ (x : Int), 0 < x.sign → x.sign = 1 := fun x h => Int.sign_eq_one_of_pos (Int.sign_pos_iff.1 h)
            have e2 : sideT P ⟨v0, v1, v2, n0, n1, n2, f0, f1, f2⟩ 2 (p0, p1) = (crs a0 a1 b0 b1 p0 p1).sign := by unfold sideT; rw [show (2 + 1) % 3 = 0 from rfl, show (2 + 2) % 3 = 1 from rfl, ea, eb, Int.toNat_natCast, Int.toNat_natCast, hpa, hpb]
            have e0 : sideT P ⟨v0, v1, v2, n0, n1, n2, f0, f1, f2⟩ 0 (p0, p1) = (crs b0 b1 c0 c1 p0 p1).sign := by unfold sideT; rw [show (0 + 1) % 3 = 1 from rfl, show (0 + 2) % 3 = 2 from rfl, eb, ec, Int.toNat_natCast, Int.toNat_natCast, hpb, hpc]
            have e1 : sideT P ⟨v0, v1, v2, n0, n1, n2, f0, f1, f2⟩ 1 (p0, p1) = (crs c0 c1 a0 a1 p0 p1).sign := by unfold sideT; rw [show (1 + 1) % 3 = 2 from rfl, show (1 + 2) % 3 = 0 from rfl, ec, ea, Int.toNat_natCast, Int.toNat_natCast, hpc, hpa]
            have O1 := Lib.hid (fun W' => Orient_is a0 a1 b0 b1 p0 p1 ka.1 ka.2 kb.1 kb.2 HPP.out.1 HPP.out.2 (sg _ (e2 ▸ hs2)) W')
            have O2 := Lib.hid (fun W' => Orient_is b0 b1 c0 c1 p0 p1 kb.1 kb.2 kc.1 kc.2 HPP.out.1 HPP.out.2 (sg _ (e0 ▸ hs0)) W')
            have O3 := Lib.hid (fun W' => Orient_is c0 c1 a0 a1 p0 p1 kc.1 kc.2 ka.1 ka.2 HPP.out.1 HPP.out.2 (sg _ (e1 ▸ hs1)) W')
            obtain ⟨pn, hpn⟩ : ∃ pn, P.length = pn := ⟨_, rfl⟩
            rw [hpn] at la lb lc
            have ii1 : (0 : Int) ≤ (a : Int) := by omega
            have ii2 : (a : Int) < (pn : Int) := by omega
            have ii3 : (0 : Int) ≤ (b : Int) := by omega
            have ii4 : (b : Int) < (pn : Int) := by omega
            have ii5 : (0 : Int) ≤ (c : Int) := by omega
            have ii6 : (c : Int) < (pn : Int) := by omega
            have cc : ∀ w', Below W.heap.size W w' → w'.cell? ⟨w.heap.size, 0, none⟩ = some (.pointer (some ⟨mb, 0, none⟩)) ∧ w'.cell? ⟨mb, 0, none⟩ = some (.slice (some ⟨pb, 0, none⟩) pn pc) ∧ w'.cell? ⟨w.heap.size + 1 + 1 + 1, 0, none⟩ = some (.int .i64 (a : Int)) ∧ w'.cell? ⟨w.heap.size + 1 + 1 + 1, 1, none⟩ = some (.int .i64 (b : Int)) ∧ w'.cell? ⟨w.heap.size + 1 + 1 + 1, 2, none⟩ = some (.int .i64 (c : Int)) ∧ w'.cell? ⟨pb, a * 2, none⟩ = some (.int .i64 a0) ∧ w'.cell? ⟨pb, a * 2 + 1, none⟩ = some (.int .i64 a1) ∧ w'.cell? ⟨pb, b * 2, none⟩ = some (.int .i64 b0) ∧ w'.cell? ⟨pb, b * 2 + 1, none⟩ = some (.int .i64 b1) ∧ w'.cell? ⟨pb, c * 2, none⟩ = some (.int .i64 c0) ∧ w'.cell? ⟨pb, c * 2 + 1, none⟩ = some (.int .i64 c1) ∧ w'.cell? ⟨w.heap.size + 1, 0, none⟩ = some (.int .i64 p0) ∧ w'.cell? ⟨w.heap.size + 1, 1, none⟩ = some (.int .i64 p1) ∧ w'.cell? ⟨w.heap.size + 1 + 1, 0, none⟩ = some (.int .i64 0) ∧ w'.cell? ⟨w.heap.size + 1 + 1, 2, none⟩ = some (.int .i64 0) ∧ w'.cell? ⟨w.heap.size + 1 + 1, 3, none⟩ = some (.int .i64 0) := by
              intro w' hb
              have hm := HMW.out.below hb
              have k0 := hm.box.c0
              rw [hpn] at k0
              have pt := PT.out.below hb
              have t0 := pt.c 0 _ rfl; have t1 := pt.c 1 _ rfl; have t2 := pt.c 2 _ rfl
              have ea' : v0 = (a : Int) := ea
              have eb' : v1 = (b : Int) := eb
              have ec' : v2 = (c : Int) := ec

              rw [ea'] at t0; rw [eb'] at t1; rw [ec'] at t2
              have px := PX.out.below hb; have pp := PP.out.below hb
              exact ⟨(PM.out.below hb).c0, k0, t0, t1, t2, (hm.pt ga).1, (hm.pt ga).2, (hm.pt gb).1, (hm.pt gb).2, (hm.pt gc).1, (hm.pt gc).2, pp.c0, pp.c1, px.c0, px.c2, px.c3⟩
            have CC := Lib.hid cc; have HB4 := Lib.hid hb4
            clear cc hb4 hd y0 y2 y5 hv ea eb ec la lb lc ga gb gc ka kb kc hpa hpb hpc sg e0 e1 e2 hs0 hs1 hs2 he he' hpn
            go_wp2
            clear z0 z4 z5 hne
            dsimp only [List.append]
            have hb_0 := HB4.out.drew'
            refine wp_region_noPanic ?_
            refine wp_region_held_drew (S := fun w' => w'.cell? ⟨w.heap.size, 0, none⟩ = some (.pointer (some ⟨mb, 0, none⟩)) ∧ w'.cell? ⟨mb, 0, none⟩ = some (.slice (some ⟨pb, 0, none⟩) pn pc) ∧ w'.cell? ⟨w.heap.size + 1 + 1 + 1, 0, none⟩ = some (.int .i64 (a : Int)) ∧ w'.cell? ⟨w.heap.size + 1 + 1 + 1, 1, none⟩ = some (.int .i64 (b : Int)) ∧ w'.cell? ⟨w.heap.size + 1 + 1 + 1, 2, none⟩ = some (.int .i64 (c : Int)) ∧ w'.cell? ⟨pb, a * 2, none⟩ = some (.int .i64 a0) ∧ w'.cell? ⟨pb, a * 2 + 1, none⟩ = some (.int .i64 a1) ∧ w'.cell? ⟨pb, b * 2, none⟩ = some (.int .i64 b0) ∧ w'.cell? ⟨pb, b * 2 + 1, none⟩ = some (.int .i64 b1) ∧ w'.cell? ⟨pb, c * 2, none⟩ = some (.int .i64 c0) ∧ w'.cell? ⟨pb, c * 2 + 1, none⟩ = some (.int .i64 c1) ∧ w'.cell? ⟨w.heap.size + 1, 0, none⟩ = some (.int .i64 p0) ∧ w'.cell? ⟨w.heap.size + 1, 1, none⟩ = some (.int .i64 p1) ∧ w'.cell? ⟨w.heap.size + 1 + 1, 0, none⟩ = some (.int .i64 0) ∧ w'.cell? ⟨w.heap.size + 1 + 1, 2, none⟩ = some (.int .i64 0) ∧ w'.cell? ⟨w.heap.size + 1 + 1, 3, none⟩ = some (.int .i64 0)) (by kernel_rfl) (CC.out _ hb_0) (fun hHeld => ?_)
            refine reg_take 0 ?_ ?_ ?_ (by kernel_rfl) (by kernel_rfl) (by kernel_rfl) (fun _ _ _ h => h) ?_ ?_ (by assumption) ?_
            rotate_left 2
            · simp only [List.getElem?_toArray, List.getElem?_cons_zero]; exact rfl
            · rfl
            · intro w hSw; (try dsimp only at hSw); go_simp; try with_reducible rfl
            try simp only [Act.put]
            try simp only [List.setIfInBounds_toArray, List.set_cons_zero, List.set_cons_succ]
            refine reg_take 1 ?_ ?_ ?_ (by kernel_rfl) (by kernel_rfl) (by kernel_rfl) (fun _ _ _ h => h) ?_ ?_ (by assumption) ?_
            rotate_left 2
            · simp only [List.getElem?_toArray, List.getElem?_cons_succ, List.getElem?_cons_zero]; exact rfl
            · rfl
            · intro w hSw; (try dsimp only at hSw); go_simp; try with_reducible rfl
            try simp only [Act.put]
            try simp only [List.setIfInBounds_toArray, List.set_cons_zero, List.set_cons_succ]
            refine reg_take 2 ?_ ?_ ?_ (by kernel_rfl) (by kernel_rfl) (by kernel_rfl) (fun _ _ _ h => h) ?_ ?_ (by assumption) ?_
            rotate_left 2
            · simp only [List.getElem?_toArray, List.getElem?_cons_succ, List.getElem?_cons_zero]; exact rfl
            · rfl
            · intro w hSw; (try dsimp only at hSw); go_simp; try with_reducible rfl
            try simp only [Act.put]
            try simp only [List.setIfInBounds_toArray, List.set_cons_zero, List.set_cons_succ]
            refine reg_take 3 ?_ ?_ ?_ (by kernel_rfl) (by kernel_rfl) (by kernel_rfl) (fun _ _ _ h => h) ?_ ?_ (by assumption) ?_
            rotate_left 2
            · simp only [List.getElem?_toArray, List.getElem?_cons_succ, List.getElem?_cons_zero]; exact rfl
            · rfl
            · intro w hSw; (try dsimp only at hSw); go_simp; try with_reducible rfl
            try simp only [Act.put]
            try simp only [List.setIfInBounds_toArray, List.set_cons_zero, List.set_cons_succ]
            refine reg_take 4 ?_ ?_ ?_ (by kernel_rfl) (by kernel_rfl) (by kernel_rfl) (fun _ _ _ h => h) ?_ ?_ (by assumption) ?_
            rotate_left 2
            · simp only [List.getElem?_toArray, List.getElem?_cons_succ, List.getElem?_cons_zero]; exact rfl
            · rfl
            · intro w hSw; (try dsimp only at hSw); go_simp; try with_reducible rfl
            try simp only [Act.put]
            try simp only [List.setIfInBounds_toArray, List.set_cons_zero, List.set_cons_succ]
            refine reg_take 5 ?_ ?_ ?_ (by kernel_rfl) (by kernel_rfl) (by kernel_rfl) (fun _ _ _ h => h) ?_ ?_ (by assumption) ?_
            rotate_left 2
            · simp only [List.getElem?_toArray, List.getElem?_cons_succ, List.getElem?_cons_zero]; exact rfl
            · rfl
            · intro w hSw; (try dsimp only at hSw); go_simp; try with_reducible rfl
            try simp only [Act.put]
            try simp only [List.setIfInBounds_toArray, List.set_cons_zero, List.set_cons_succ]
            refine reg_take 6 ?_ ?_ ?_ (by kernel_rfl) (by kernel_rfl) (by kernel_rfl) (fun _ _ _ h => h) ?_ ?_ (by assumption) ?_
            rotate_left 2
            · simp only [List.getElem?_toArray, List.getElem?_cons_succ, List.getElem?_cons_zero]; exact rfl
            · rfl
            · intro w hSw; (try dsimp only at hSw); go_simp; try with_reducible rfl
            try simp only [Act.put]
            try simp only [List.setIfInBounds_toArray, List.set_cons_zero, List.set_cons_succ]
            refine reg_take 7 ?_ ?_ ?_ (by kernel_rfl) (by kernel_rfl) (by kernel_rfl) (fun _ _ _ h => h) ?_ ?_ (by assumption) ?_
            rotate_left 2
            · simp only [List.getElem?_toArray, List.getElem?_cons_succ, List.getElem?_cons_zero]; exact rfl
            · rfl
            · intro w hSw; (try dsimp only at hSw); go_simp; try with_reducible rfl
            try simp only [Act.put]
            try simp only [List.setIfInBounds_toArray, List.set_cons_zero, List.set_cons_succ]
            refine reg_take 8 ?_ ?_ ?_ (by kernel_rfl) (by kernel_rfl) (by kernel_rfl) (fun _ _ _ h => h) ?_ ?_ (by assumption) ?_
            rotate_left 2
            · simp only [List.getElem?_toArray, List.getElem?_cons_succ, List.getElem?_cons_zero]; exact rfl
            · rfl
            · intro w hSw; (try dsimp only at hSw); go_simp; try with_reducible rfl
            try simp only [Act.put]
            try simp only [List.setIfInBounds_toArray, List.set_cons_zero, List.set_cons_succ]
            refine reg_take 9 ?_ ?_ ?_ (by kernel_rfl) (by kernel_rfl) (by kernel_rfl) (fun _ _ _ h => h) ?_ ?_ (by assumption) ?_
            rotate_left 2
            · simp only [List.getElem?_toArray, List.getElem?_cons_succ, List.getElem?_cons_zero]; exact rfl
            · rfl
            · intro w hSw; (try dsimp only at hSw); go_simp; try with_reducible rfl
            try simp only [Act.put]
            try simp only [List.setIfInBounds_toArray, List.set_cons_zero, List.set_cons_succ]
            refine reg_take 10 ?_ ?_ ?_ (by kernel_rfl) (by kernel_rfl) (by kernel_rfl) (fun _ _ _ h => h) ?_ ?_ (by assumption) ?_
            rotate_left 2
            · simp only [List.getElem?_toArray, List.getElem?_cons_succ, List.getElem?_cons_zero]; exact rfl
            · rfl
            · intro w hSw; (try dsimp only at hSw); go_simp; try with_reducible rfl
            try simp only [Act.put]
            try simp only [List.setIfInBounds_toArray, List.set_cons_zero, List.set_cons_succ]
            refine reg_take 11 ?_ ?_ ?_ (by kernel_rfl) (by kernel_rfl) (by kernel_rfl) (fun _ _ _ h => h) ?_ ?_ (by assumption) ?_
            rotate_left 2
            · simp only [List.getElem?_toArray, List.getElem?_cons_succ, List.getElem?_cons_zero]; exact rfl
            · rfl
            · intro w hSw; (try dsimp only at hSw); go_simp; try with_reducible rfl
            try simp only [Act.put]
            try simp only [List.setIfInBounds_toArray, List.set_cons_zero, List.set_cons_succ]
            refine reg_take 12 ?_ ?_ ?_ (by kernel_rfl) (by kernel_rfl) (by kernel_rfl) (fun _ _ _ h => h) ?_ ?_ (by assumption) ?_
            rotate_left 2
            · simp only [List.getElem?_toArray, List.getElem?_cons_succ, List.getElem?_cons_zero]; exact rfl
            · rfl
            · intro w hSw; (try dsimp only at hSw); go_simp; try with_reducible rfl
            try simp only [Act.put]
            try simp only [List.setIfInBounds_toArray, List.set_cons_zero, List.set_cons_succ]
            refine reg_take 13 ?_ ?_ ?_ (by kernel_rfl) (by kernel_rfl) (by kernel_rfl) (fun _ _ _ h => h) ?_ ?_ (by assumption) ?_
            rotate_left 2
            · simp only [List.getElem?_toArray, List.getElem?_cons_succ, List.getElem?_cons_zero]; exact rfl
            · rfl
            · intro w hSw; (try dsimp only at hSw); go_simp; try with_reducible rfl
            try simp only [Act.put]
            try simp only [List.setIfInBounds_toArray, List.set_cons_zero, List.set_cons_succ]
            refine reg_take 14 ?_ ?_ ?_ (by kernel_rfl) (by kernel_rfl) (by kernel_rfl) (fun _ _ _ h => h) ?_ ?_ (by assumption) ?_
            rotate_left 2
            · simp only [List.getElem?_toArray, List.getElem?_cons_succ, List.getElem?_cons_zero]; exact rfl
            · rfl
            · intro w hSw; (try dsimp only at hSw); go_simp; try with_reducible rfl
            try simp only [Act.put]
            try simp only [List.setIfInBounds_toArray, List.set_cons_zero, List.set_cons_succ]
            refine reg_take 15 ?_ ?_ ?_ (by kernel_rfl) (by kernel_rfl) (by kernel_rfl) (fun _ _ _ h => h) ?_ ?_ (by assumption) ?_
            rotate_left 2
            · simp only [List.getElem?_toArray, List.getElem?_cons_succ, List.getElem?_cons_zero]; exact rfl
            · rfl
            · intro w hSw; (try dsimp only at hSw); go_simp; try with_reducible rfl
            try simp only [Act.put]
            try simp only [List.setIfInBounds_toArray, List.set_cons_zero, List.set_cons_succ]
            refine reg_take 16 ?_ ?_ ?_ (by kernel_rfl) (by kernel_rfl) (by kernel_rfl) (fun _ _ _ h => h) ?_ ?_ (by assumption) ?_
            rotate_left 2
            · simp only [List.getElem?_toArray, List.getElem?_cons_succ, List.getElem?_cons_zero]; exact rfl
            · rfl
            · intro w hSw; (try dsimp only at hSw); go_simp; try with_reducible rfl
            try simp only [Act.put]
            try simp only [List.setIfInBounds_toArray, List.set_cons_zero, List.set_cons_succ]
            refine reg_take 17 ?_ ?_ ?_ (by kernel_rfl) (by kernel_rfl) (by kernel_rfl) (fun _ _ _ h => h) ?_ ?_ (by assumption) ?_
            rotate_left 2
            · simp only [List.getElem?_toArray, List.getElem?_cons_succ, List.getElem?_cons_zero]; exact rfl
            · rfl
            · intro w hSw; (try dsimp only at hSw); go_simp; try with_reducible rfl
            try simp only [Act.put]
            try simp only [List.setIfInBounds_toArray, List.set_cons_zero, List.set_cons_succ]
            refine reg_take 18 ?_ ?_ ?_ (by kernel_rfl) (by kernel_rfl) (by kernel_rfl) (fun _ _ _ h => h) ?_ ?_ (by assumption) ?_
            rotate_left 2
            · simp only [List.getElem?_toArray, List.getElem?_cons_succ, List.getElem?_cons_zero]; exact rfl
            · rfl
            · intro w hSw; (try dsimp only at hSw); go_simp; try with_reducible rfl
            try simp only [Act.put]
            try simp only [List.setIfInBounds_toArray, List.set_cons_zero, List.set_cons_succ]
            refine reg_take 19 ?_ ?_ ?_ (by kernel_rfl) (by kernel_rfl) (by kernel_rfl) (fun _ _ _ h => h) ?_ ?_ (by assumption) ?_
            rotate_left 2
            · simp only [List.getElem?_toArray, List.getElem?_cons_succ, List.getElem?_cons_zero]; exact rfl
            · rfl
            · intro w hSw; (try dsimp only at hSw); go_simp; try with_reducible rfl
            try simp only [Act.put]
            try simp only [List.setIfInBounds_toArray, List.set_cons_zero, List.set_cons_succ]
            refine reg_take 20 ?_ ?_ ?_ (by kernel_rfl) (by kernel_rfl) (by kernel_rfl) (fun _ _ _ h => h) ?_ ?_ (by assumption) ?_
            rotate_left 2
            · simp only [List.getElem?_toArray, List.getElem?_cons_succ, List.getElem?_cons_zero]; exact rfl
            · rfl
            · intro w hSw; (try dsimp only at hSw); go_simp; try with_reducible rfl
            try simp only [Act.put]
            try simp only [List.setIfInBounds_toArray, List.set_cons_zero, List.set_cons_succ]
            refine reg_take 21 ?_ ?_ ?_ (by kernel_rfl) (by kernel_rfl) (by kernel_rfl) (fun _ _ _ h => h) ?_ ?_ (by assumption) ?_
            rotate_left 2
            · simp only [List.getElem?_toArray, List.getElem?_cons_succ, List.getElem?_cons_zero]; exact rfl
            · rfl
            · intro w hSw; (try dsimp only at hSw); go_simp; try with_reducible rfl
            try simp only [Act.put]
            try simp only [List.setIfInBounds_toArray, List.set_cons_zero, List.set_cons_succ]
            refine reg_take 22 ?_ ?_ ?_ (by kernel_rfl) (by kernel_rfl) (by kernel_rfl) (fun _ _ _ h => h) ?_ ?_ (by assumption) ?_
            rotate_left 2
            · simp only [List.getElem?_toArray, List.getElem?_cons_succ, List.getElem?_cons_zero]; exact rfl
            · rfl
            · intro w hSw; (try dsimp only at hSw); go_simp; try with_reducible rfl
            try simp only [Act.put]
            try simp only [List.setIfInBounds_toArray, List.set_cons_zero, List.set_cons_succ]
            refine reg_take 23 ?_ ?_ ?_ (by kernel_rfl) (by kernel_rfl) (by kernel_rfl) (fun _ _ _ h => h) ?_ ?_ (by assumption) ?_
            rotate_left 2
            · simp only [List.getElem?_toArray, List.getElem?_cons_succ, List.getElem?_cons_zero]; exact rfl
            · rfl
            · intro w hSw; (try dsimp only at hSw); go_simp; try with_reducible rfl
            try simp only [Act.put]
            try simp only [List.setIfInBounds_toArray, List.set_cons_zero, List.set_cons_succ]
            refine reg_take 24 ?_ ?_ ?_ (by kernel_rfl) (by kernel_rfl) (by kernel_rfl) (fun _ _ _ h => h) ?_ ?_ (by assumption) ?_
            rotate_left 2
            · simp only [List.getElem?_toArray, List.getElem?_cons_succ, List.getElem?_cons_zero]; exact rfl
            · rfl
            · intro w hSw; (try dsimp only at hSw); go_simp; try with_reducible rfl
            try simp only [Act.put]
            try simp only [List.setIfInBounds_toArray, List.set_cons_zero, List.set_cons_succ]
            refine reg_take 25 ?_ ?_ ?_ (by kernel_rfl) (by kernel_rfl) (by kernel_rfl) (fun _ _ _ h => h) ?_ ?_ (by assumption) ?_
            rotate_left 2
            · simp only [List.getElem?_toArray, List.getElem?_cons_succ, List.getElem?_cons_zero]; exact rfl
            · rfl
            · intro w hSw; (try dsimp only at hSw); go_simp; try with_reducible rfl
            try simp only [Act.put]
            try simp only [List.setIfInBounds_toArray, List.set_cons_zero, List.set_cons_succ]
            refine reg_take 26 ?_ ?_ ?_ (by kernel_rfl) (by kernel_rfl) (by kernel_rfl) (fun _ _ _ h => h) ?_ ?_ (by assumption) ?_
            rotate_left 2
            · simp only [List.getElem?_toArray, List.getElem?_cons_succ, List.getElem?_cons_zero]; exact rfl
            · rfl
            · intro w hSw; (try dsimp only at hSw); go_simp; try with_reducible rfl
            try simp only [Act.put]
            try simp only [List.setIfInBounds_toArray, List.set_cons_zero, List.set_cons_succ]
            refine reg_take 27 ?_ ?_ ?_ (by kernel_rfl) (by kernel_rfl) (by kernel_rfl) (fun _ _ _ h => h) ?_ ?_ (by assumption) ?_
            rotate_left 2
            · simp only [List.getElem?_toArray, List.getElem?_cons_succ, List.getElem?_cons_zero]; exact rfl
            · rfl
            · intro w hSw; (try dsimp only at hSw); go_simp; try with_reducible rfl
            try simp only [Act.put]
            try simp only [List.setIfInBounds_toArray, List.set_cons_zero, List.set_cons_succ]
            refine reg_take 28 ?_ ?_ ?_ (by kernel_rfl) (by kernel_rfl) (by kernel_rfl) (fun _ _ _ h => h) ?_ ?_ (by assumption) ?_
            rotate_left 2
            · simp only [List.getElem?_toArray, List.getElem?_cons_succ, List.getElem?_cons_zero]; exact rfl
            · rfl
            · intro w hSw; (try dsimp only at hSw); go_simp; try with_reducible rfl
            try simp only [Act.put]
            try simp only [List.setIfInBounds_toArray, List.set_cons_zero, List.set_cons_succ]
            refine reg_take 29 ?_ ?_ ?_ (by kernel_rfl) (by kernel_rfl) (by kernel_rfl) (fun _ _ _ h => h) ?_ ?_ (by assumption) ?_
            rotate_left 2
            · simp only [List.getElem?_toArray, List.getElem?_cons_succ, List.getElem?_cons_zero]; exact rfl
            · rfl
            · intro w hSw; (try dsimp only at hSw); go_simp; try with_reducible rfl
            try simp only [Act.put]
            try simp only [List.setIfInBounds_toArray, List.set_cons_zero, List.set_cons_succ]
            refine reg_take 30 ?_ ?_ ?_ (by kernel_rfl) (by kernel_rfl) (by kernel_rfl) (fun _ _ _ h => h) ?_ ?_ (by assumption) ?_
            rotate_left 2
            · simp only [List.getElem?_toArray, List.getElem?_cons_succ, List.getElem?_cons_zero]; exact rfl
            · rfl
            · intro w hSw; (try dsimp only at hSw); go_simp; try with_reducible rfl
            try simp only [Act.put]
            try simp only [List.setIfInBounds_toArray, List.set_cons_zero, List.set_cons_succ]
            refine reg_take 31 ?_ ?_ ?_ (by kernel_rfl) (by kernel_rfl) (by kernel_rfl) (fun _ _ _ h => h) ?_ ?_ (by assumption) ?_
            rotate_left 2
            · simp only [List.getElem?_toArray, List.getElem?_cons_succ, List.getElem?_cons_zero]; exact rfl
            · rfl
            · intro w hSw; (try dsimp only at hSw); go_simp; try with_reducible rfl
            try simp only [Act.put]
            try simp only [List.setIfInBounds_toArray, List.set_cons_zero, List.set_cons_succ]
            refine reg_take 32 ?_ ?_ ?_ (by kernel_rfl) (by kernel_rfl) (by kernel_rfl) (fun _ _ _ h => h) ?_ ?_ (by assumption) ?_
            rotate_left 2
            · simp only [List.getElem?_toArray, List.getElem?_cons_succ, List.getElem?_cons_zero]; exact rfl
            · rfl
            · intro w hSw; (try dsimp only at hSw); go_simp; try with_reducible rfl
            try simp only [Act.put]
            try simp only [List.setIfInBounds_toArray, List.set_cons_zero, List.set_cons_succ]
            refine reg_call 33 ?_ (by kernel_rfl) ?_ (fun K hK => ?_)
            rotate_left 1
            · simp only [List.getElem?_toArray, List.getElem?_cons_succ, List.getElem?_cons_zero]; exact rfl
            go_simp
            refine (O1.out _).mono ?_
            rintro e w5 ⟨rfl, hb_w5⟩
            have hb_1 := hb_0.trans (hb_w5.mono hb_0.size)
            go_wp2_with fail
            refine hK.out _ _ (CC.out _ hb_1) (fun hHeld => ?_)
            clear hK K
            try simp only [Act.put]
            try simp only [List.setIfInBounds_toArray, List.set_cons_zero, List.set_cons_succ]
            refine reg_take 34 ?_ ?_ ?_ (by kernel_rfl) (by kernel_rfl) (by kernel_rfl) (fun _ _ _ h => h) ?_ ?_ (by assumption) ?_
            rotate_left 2
            · simp only [List.getElem?_toArray, List.getElem?_cons_succ, List.getElem?_cons_zero]; exact rfl
            · rfl
            · intro w hSw; (try dsimp only at hSw); go_simp; try with_reducible rfl
            try simp only [Act.put]
            try simp only [List.setIfInBounds_toArray, List.set_cons_zero, List.set_cons_succ]
            refine reg_take 35 ?_ ?_ ?_ (by kernel_rfl) (by kernel_rfl) (by kernel_rfl) (fun _ _ _ h => h) ?_ ?_ (by assumption) ?_
            rotate_left 2
            · simp only [List.getElem?_toArray, List.getElem?_cons_succ, List.getElem?_cons_zero]; exact rfl
            · rfl
            · intro w hSw; (try dsimp only at hSw); go_simp; try with_reducible rfl
            try simp only [Act.put]
            try simp only [List.setIfInBounds_toArray, List.set_cons_zero, List.set_cons_succ]
            refine reg_take 36 ?_ ?_ ?_ (by kernel_rfl) (by kernel_rfl) (by kernel_rfl) (fun _ _ _ h => h) ?_ ?_ (by assumption) ?_
            rotate_left 2
            · simp only [List.getElem?_toArray, List.getElem?_cons_succ, List.getElem?_cons_zero]; exact rfl
            · rfl
            · intro w hSw; (try dsimp only at hSw); go_simp; try with_reducible rfl
            try simp only [Act.put]
            try simp only [List.setIfInBounds_toArray, List.set_cons_zero, List.set_cons_succ]
            refine reg_take 37 ?_ ?_ ?_ (by kernel_rfl) (by kernel_rfl) (by kernel_rfl) (fun _ _ _ h => h) ?_ ?_ (by assumption) ?_
            rotate_left 2
            · simp only [List.getElem?_toArray, List.getElem?_cons_succ, List.getElem?_cons_zero]; exact rfl
            · rfl
            · intro w hSw; (try dsimp only at hSw); go_simp; try with_reducible rfl
            try simp only [Act.put]
            try simp only [List.setIfInBounds_toArray, List.set_cons_zero, List.set_cons_succ]
            refine reg_take 38 ?_ ?_ ?_ (by kernel_rfl) (by kernel_rfl) (by kernel_rfl) (fun _ _ _ h => h) ?_ ?_ (by assumption) ?_
            rotate_left 2
            · simp only [List.getElem?_toArray, List.getElem?_cons_succ, List.getElem?_cons_zero]; exact rfl
            · rfl
            · intro w hSw; (try dsimp only at hSw); go_simp; try with_reducible rfl
            try simp only [Act.put]
            try simp only [List.setIfInBounds_toArray, List.set_cons_zero, List.set_cons_succ]
            refine reg_take 39 ?_ ?_ ?_ (by kernel_rfl) (by kernel_rfl) (by kernel_rfl) (fun _ _ _ h => h) ?_ ?_ (by assumption) ?_
            rotate_left 2
            · simp only [List.getElem?_toArray, List.getElem?_cons_succ, List.getElem?_cons_zero]; exact rfl
            · rfl
            · intro w hSw; (try dsimp only at hSw); go_simp; try with_reducible rfl
            try simp only [Act.put]
            try simp only [List.setIfInBounds_toArray, List.set_cons_zero, List.set_cons_succ]
            refine reg_take 40 ?_ ?_ ?_ (by kernel_rfl) (by kernel_rfl) (by kernel_rfl) (fun _ _ _ h => h) ?_ ?_ (by assumption) ?_
            rotate_left 2
            · simp only [List.getElem?_toArray, List.getElem?_cons_succ, List.getElem?_cons_zero]; exact rfl
            · rfl
            · intro w hSw; (try dsimp only at hSw); go_simp; try with_reducible rfl
            try simp only [Act.put]
            try simp only [List.setIfInBounds_toArray, List.set_cons_zero, List.set_cons_succ]
            refine reg_take 41 ?_ ?_ ?_ (by kernel_rfl) (by kernel_rfl) (by kernel_rfl) (fun _ _ _ h => h) ?_ ?_ (by assumption) ?_
            rotate_left 2
            · simp only [List.getElem?_toArray, List.getElem?_cons_succ, List.getElem?_cons_zero]; exact rfl
            · rfl
            · intro w hSw; (try dsimp only at hSw); go_simp; try with_reducible rfl
            try simp only [Act.put]
            try simp only [List.setIfInBounds_toArray, List.set_cons_zero, List.set_cons_succ]
            refine reg_take 42 ?_ ?_ ?_ (by kernel_rfl) (by kernel_rfl) (by kernel_rfl) (fun _ _ _ h => h) ?_ ?_ (by assumption) ?_
            rotate_left 2
            · simp only [List.getElem?_toArray, List.getElem?_cons_succ, List.getElem?_cons_zero]; exact rfl
            · rfl
            · intro w hSw; (try dsimp only at hSw); go_simp; try with_reducible rfl
            try simp only [Act.put]
            try simp only [List.setIfInBounds_toArray, List.set_cons_zero, List.set_cons_succ]
            refine reg_take 43 ?_ ?_ ?_ (by kernel_rfl) (by kernel_rfl) (by kernel_rfl) (fun _ _ _ h => h) ?_ ?_ (by assumption) ?_
            rotate_left 2
            · simp only [List.getElem?_toArray, List.getElem?_cons_succ, List.getElem?_cons_zero]; exact rfl
            · rfl
            · intro w hSw; (try dsimp only at hSw); go_simp; try with_reducible rfl
            try simp only [Act.put]
            try simp only [List.setIfInBounds_toArray, List.set_cons_zero, List.set_cons_succ]
            refine reg_take 44 ?_ ?_ ?_ (by kernel_rfl) (by kernel_rfl) (by kernel_rfl) (fun _ _ _ h => h) ?_ ?_ (by assumption) ?_
            rotate_left 2
            · simp only [List.getElem?_toArray, List.getElem?_cons_succ, List.getElem?_cons_zero]; exact rfl
            · rfl
            · intro w hSw; (try dsimp only at hSw); go_simp; try with_reducible rfl
            try simp only [Act.put]
            try simp only [List.setIfInBounds_toArray, List.set_cons_zero, List.set_cons_succ]
            refine reg_take 45 ?_ ?_ ?_ (by kernel_rfl) (by kernel_rfl) (by kernel_rfl) (fun _ _ _ h => h) ?_ ?_ (by assumption) ?_
            rotate_left 2
            · simp only [List.getElem?_toArray, List.getElem?_cons_succ, List.getElem?_cons_zero]; exact rfl
            · rfl
            · intro w hSw; (try dsimp only at hSw); go_simp; try with_reducible rfl
            try simp only [Act.put]
            try simp only [List.setIfInBounds_toArray, List.set_cons_zero, List.set_cons_succ]
            refine reg_take 46 ?_ ?_ ?_ (by kernel_rfl) (by kernel_rfl) (by kernel_rfl) (fun _ _ _ h => h) ?_ ?_ (by assumption) ?_
            rotate_left 2
            · simp only [List.getElem?_toArray, List.getElem?_cons_succ, List.getElem?_cons_zero]; exact rfl
            · rfl
            · intro w hSw; (try dsimp only at hSw); go_simp; try with_reducible rfl
            try simp only [Act.put]
            try simp only [List.setIfInBounds_toArray, List.set_cons_zero, List.set_cons_succ]
            refine reg_take 47 ?_ ?_ ?_ (by kernel_rfl) (by kernel_rfl) (by kernel_rfl) (fun _ _ _ h => h) ?_ ?_ (by assumption) ?_
            rotate_left 2
            · simp only [List.getElem?_toArray, List.getElem?_cons_succ, List.getElem?_cons_zero]; exact rfl
            · rfl
            · intro w hSw; (try dsimp only at hSw); go_simp; try with_reducible rfl
            try simp only [Act.put]
            try simp only [List.setIfInBounds_toArray, List.set_cons_zero, List.set_cons_succ]
            refine reg_take 48 ?_ ?_ ?_ (by kernel_rfl) (by kernel_rfl) (by kernel_rfl) (fun _ _ _ h => h) ?_ ?_ (by assumption) ?_
            rotate_left 2
            · simp only [List.getElem?_toArray, List.getElem?_cons_succ, List.getElem?_cons_zero]; exact rfl
            · rfl
            · intro w hSw; (try dsimp only at hSw); go_simp; try with_reducible rfl
            try simp only [Act.put]
            try simp only [List.setIfInBounds_toArray, List.set_cons_zero, List.set_cons_succ]
            refine reg_take 49 ?_ ?_ ?_ (by kernel_rfl) (by kernel_rfl) (by kernel_rfl) (fun _ _ _ h => h) ?_ ?_ (by assumption) ?_
            rotate_left 2
            · simp only [List.getElem?_toArray, List.getElem?_cons_succ, List.getElem?_cons_zero]; exact rfl
            · rfl
            · intro w hSw; (try dsimp only at hSw); go_simp; try with_reducible rfl
            try simp only [Act.put]
            try simp only [List.setIfInBounds_toArray, List.set_cons_zero, List.set_cons_succ]
            refine reg_take 50 ?_ ?_ ?_ (by kernel_rfl) (by kernel_rfl) (by kernel_rfl) (fun _ _ _ h => h) ?_ ?_ (by assumption) ?_
            rotate_left 2
            · simp only [List.getElem?_toArray, List.getElem?_cons_succ, List.getElem?_cons_zero]; exact rfl
            · rfl
            · intro w hSw; (try dsimp only at hSw); go_simp; try with_reducible rfl
            try simp only [Act.put]
            try simp only [List.setIfInBounds_toArray, List.set_cons_zero, List.set_cons_succ]
            refine reg_take 51 ?_ ?_ ?_ (by kernel_rfl) (by kernel_rfl) (by kernel_rfl) (fun _ _ _ h => h) ?_ ?_ (by assumption) ?_
            rotate_left 2
            · simp only [List.getElem?_toArray, List.getElem?_cons_succ, List.getElem?_cons_zero]; exact rfl
            · rfl
            · intro w hSw; (try dsimp only at hSw); go_simp; try with_reducible rfl
            try simp only [Act.put]
            try simp only [List.setIfInBounds_toArray, List.set_cons_zero, List.set_cons_succ]
            refine reg_take 52 ?_ ?_ ?_ (by kernel_rfl) (by kernel_rfl) (by kernel_rfl) (fun _ _ _ h => h) ?_ ?_ (by assumption) ?_
            rotate_left 2
            · simp only [List.getElem?_toArray, List.getElem?_cons_succ, List.getElem?_cons_zero]; exact rfl
            · rfl
            · intro w hSw; (try dsimp only at hSw); go_simp; try with_reducible rfl
            try simp only [Act.put]
            try simp only [List.setIfInBounds_toArray, List.set_cons_zero, List.set_cons_succ]
            refine reg_take 53 ?_ ?_ ?_ (by kernel_rfl) (by kernel_rfl) (by kernel_rfl) (fun _ _ _ h => h) ?_ ?_ (by assumption) ?_
            rotate_left 2
            · simp only [List.getElem?_toArray, List.getElem?_cons_succ, List.getElem?_cons_zero]; exact rfl
            · rfl
            · intro w hSw; (try dsimp only at hSw); go_simp; try with_reducible rfl
            try simp only [Act.put]
            try simp only [List.setIfInBounds_toArray, List.set_cons_zero, List.set_cons_succ]
            refine reg_take 54 ?_ ?_ ?_ (by kernel_rfl) (by kernel_rfl) (by kernel_rfl) (fun _ _ _ h => h) ?_ ?_ (by assumption) ?_
            rotate_left 2
            · simp only [List.getElem?_toArray, List.getElem?_cons_succ, List.getElem?_cons_zero]; exact rfl
            · rfl
            · intro w hSw; (try dsimp only at hSw); go_simp; try with_reducible rfl
            try simp only [Act.put]
            try simp only [List.setIfInBounds_toArray, List.set_cons_zero, List.set_cons_succ]
            refine reg_take 55 ?_ ?_ ?_ (by kernel_rfl) (by kernel_rfl) (by kernel_rfl) (fun _ _ _ h => h) ?_ ?_ (by assumption) ?_
            rotate_left 2
            · simp only [List.getElem?_toArray, List.getElem?_cons_succ, List.getElem?_cons_zero]; exact rfl
            · rfl
            · intro w hSw; (try dsimp only at hSw); go_simp; try with_reducible rfl
            try simp only [Act.put]
            try simp only [List.setIfInBounds_toArray, List.set_cons_zero, List.set_cons_succ]
            refine reg_call 56 ?_ (by kernel_rfl) ?_ (fun K hK => ?_)
            rotate_left 1
            · simp only [List.getElem?_toArray, List.getElem?_cons_succ, List.getElem?_cons_zero]; exact rfl
            go_simp
            refine (O2.out _).mono ?_
            rintro e w6 ⟨rfl, hb_w6⟩
            have hb_2 := hb_1.trans (hb_w6.mono hb_1.size)
            go_wp2_with fail
            refine hK.out _ _ (CC.out _ hb_2) (fun hHeld => ?_)
            clear hK K
            try simp only [Act.put]
            try simp only [List.setIfInBounds_toArray, List.set_cons_zero, List.set_cons_succ]
            refine reg_take 57 ?_ ?_ ?_ (by kernel_rfl) (by kernel_rfl) (by kernel_rfl) (fun _ _ _ h => h) ?_ ?_ (by assumption) ?_
            rotate_left 2
            · simp only [List.getElem?_toArray, List.getElem?_cons_succ, List.getElem?_cons_zero]; exact rfl
            · rfl
            · intro w hSw; (try dsimp only at hSw); go_simp; try with_reducible rfl
            try simp only [Act.put]
            try simp only [List.setIfInBounds_toArray, List.set_cons_zero, List.set_cons_succ]
            refine reg_take 58 ?_ ?_ ?_ (by kernel_rfl) (by kernel_rfl) (by kernel_rfl) (fun _ _ _ h => h) ?_ ?_ (by assumption) ?_
            rotate_left 2
            · simp only [List.getElem?_toArray, List.getElem?_cons_succ, List.getElem?_cons_zero]; exact rfl
            · rfl
            · intro w hSw; (try dsimp only at hSw); go_simp; try with_reducible rfl
            try simp only [Act.put]
            try simp only [List.setIfInBounds_toArray, List.set_cons_zero, List.set_cons_succ]
            refine reg_take 59 ?_ ?_ ?_ (by kernel_rfl) (by kernel_rfl) (by kernel_rfl) (fun _ _ _ h => h) ?_ ?_ (by assumption) ?_
            rotate_left 2
            · simp only [List.getElem?_toArray, List.getElem?_cons_succ, List.getElem?_cons_zero]; exact rfl
            · rfl
            · intro w hSw; (try dsimp only at hSw); go_simp; try with_reducible rfl
            try simp only [Act.put]
            try simp only [List.setIfInBounds_toArray, List.set_cons_zero, List.set_cons_succ]
            refine reg_take 60 ?_ ?_ ?_ (by kernel_rfl) (by kernel_rfl) (by kernel_rfl) (fun _ _ _ h => h) ?_ ?_ (by assumption) ?_
            rotate_left 2
            · simp only [List.getElem?_toArray, List.getElem?_cons_succ, List.getElem?_cons_zero]; exact rfl
            · rfl
            · intro w hSw; (try dsimp only at hSw); go_simp; try with_reducible rfl
            try simp only [Act.put]
            try simp only [List.setIfInBounds_toArray, List.set_cons_zero, List.set_cons_succ]
            refine reg_take 61 ?_ ?_ ?_ (by kernel_rfl) (by kernel_rfl) (by kernel_rfl) (fun _ _ _ h => h) ?_ ?_ (by assumption) ?_
            rotate_left 2
            · simp only [List.getElem?_toArray, List.getElem?_cons_succ, List.getElem?_cons_zero]; exact rfl
            · rfl
            · intro w hSw; (try dsimp only at hSw); go_simp; try with_reducible rfl
            try simp only [Act.put]
            try simp only [List.setIfInBounds_toArray, List.set_cons_zero, List.set_cons_succ]
            refine reg_take 62 ?_ ?_ ?_ (by kernel_rfl) (by kernel_rfl) (by kernel_rfl) (fun _ _ _ h => h) ?_ ?_ (by assumption) ?_
            rotate_left 2
            · simp only [List.getElem?_toArray, List.getElem?_cons_succ, List.getElem?_cons_zero]; exact rfl
            · rfl
            · intro w hSw; (try dsimp only at hSw); go_simp; try with_reducible rfl
            try simp only [Act.put]
            try simp only [List.setIfInBounds_toArray, List.set_cons_zero, List.set_cons_succ]
            refine reg_take 63 ?_ ?_ ?_ (by kernel_rfl) (by kernel_rfl) (by kernel_rfl) (fun _ _ _ h => h) ?_ ?_ (by assumption) ?_
            rotate_left 2
            · simp only [List.getElem?_toArray, List.getElem?_cons_succ, List.getElem?_cons_zero]; exact rfl
            · rfl
            · intro w hSw; (try dsimp only at hSw); go_simp; try with_reducible rfl
            try simp only [Act.put]
            try simp only [List.setIfInBounds_toArray, List.set_cons_zero, List.set_cons_succ]
            refine reg_take 64 ?_ ?_ ?_ (by kernel_rfl) (by kernel_rfl) (by kernel_rfl) (fun _ _ _ h => h) ?_ ?_ (by assumption) ?_
            rotate_left 2
            · simp only [List.getElem?_toArray, List.getElem?_cons_succ, List.getElem?_cons_zero]; exact rfl
            · rfl
            · intro w hSw; (try dsimp only at hSw); go_simp; try with_reducible rfl
            try simp only [Act.put]
            try simp only [List.setIfInBounds_toArray, List.set_cons_zero, List.set_cons_succ]
            refine reg_take 65 ?_ ?_ ?_ (by kernel_rfl) (by kernel_rfl) (by kernel_rfl) (fun _ _ _ h => h) ?_ ?_ (by assumption) ?_
            rotate_left 2
            · simp only [List.getElem?_toArray, List.getElem?_cons_succ, List.getElem?_cons_zero]; exact rfl
            · rfl
            · intro w hSw; (try dsimp only at hSw); go_simp; try with_reducible rfl
            try simp only [Act.put]
            try simp only [List.setIfInBounds_toArray, List.set_cons_zero, List.set_cons_succ]
            refine reg_take 66 ?_ ?_ ?_ (by kernel_rfl) (by kernel_rfl) (by kernel_rfl) (fun _ _ _ h => h) ?_ ?_ (by assumption) ?_
            rotate_left 2
            · simp only [List.getElem?_toArray, List.getElem?_cons_succ, List.getElem?_cons_zero]; exact rfl
            · rfl
            · intro w hSw; (try dsimp only at hSw); go_simp; try with_reducible rfl
            try simp only [Act.put]
            try simp only [List.setIfInBounds_toArray, List.set_cons_zero, List.set_cons_succ]
            refine reg_take 67 ?_ ?_ ?_ (by kernel_rfl) (by kernel_rfl) (by kernel_rfl) (fun _ _ _ h => h) ?_ ?_ (by assumption) ?_
            rotate_left 2
            · simp only [List.getElem?_toArray, List.getElem?_cons_succ, List.getElem?_cons_zero]; exact rfl
            · rfl
            · intro w hSw; (try dsimp only at hSw); go_simp; try with_reducible rfl
            try simp only [Act.put]
            try simp only [List.setIfInBounds_toArray, List.set_cons_zero, List.set_cons_succ]
            refine reg_take 68 ?_ ?_ ?_ (by kernel_rfl) (by kernel_rfl) (by kernel_rfl) (fun _ _ _ h => h) ?_ ?_ (by assumption) ?_
            rotate_left 2
            · simp only [List.getElem?_toArray, List.getElem?_cons_succ, List.getElem?_cons_zero]; exact rfl
            · rfl
            · intro w hSw; (try dsimp only at hSw); go_simp; try with_reducible rfl
            try simp only [Act.put]
            try simp only [List.setIfInBounds_toArray, List.set_cons_zero, List.set_cons_succ]
            refine reg_take 69 ?_ ?_ ?_ (by kernel_rfl) (by kernel_rfl) (by kernel_rfl) (fun _ _ _ h => h) ?_ ?_ (by assumption) ?_
            rotate_left 2
            · simp only [List.getElem?_toArray, List.getElem?_cons_succ, List.getElem?_cons_zero]; exact rfl
            · rfl
            · intro w hSw; (try dsimp only at hSw); go_simp; try with_reducible rfl
            try simp only [Act.put]
            try simp only [List.setIfInBounds_toArray, List.set_cons_zero, List.set_cons_succ]
            refine reg_take 70 ?_ ?_ ?_ (by kernel_rfl) (by kernel_rfl) (by kernel_rfl) (fun _ _ _ h => h) ?_ ?_ (by assumption) ?_
            rotate_left 2
            · simp only [List.getElem?_toArray, List.getElem?_cons_succ, List.getElem?_cons_zero]; exact rfl
            · rfl
            · intro w hSw; (try dsimp only at hSw); go_simp; try with_reducible rfl
            try simp only [Act.put]
            try simp only [List.setIfInBounds_toArray, List.set_cons_zero, List.set_cons_succ]
            refine reg_take 71 ?_ ?_ ?_ (by kernel_rfl) (by kernel_rfl) (by kernel_rfl) (fun _ _ _ h => h) ?_ ?_ (by assumption) ?_
            rotate_left 2
            · simp only [List.getElem?_toArray, List.getElem?_cons_succ, List.getElem?_cons_zero]; exact rfl
            · rfl
            · intro w hSw; (try dsimp only at hSw); go_simp; try with_reducible rfl
            try simp only [Act.put]
            try simp only [List.setIfInBounds_toArray, List.set_cons_zero, List.set_cons_succ]
            refine reg_take 72 ?_ ?_ ?_ (by kernel_rfl) (by kernel_rfl) (by kernel_rfl) (fun _ _ _ h => h) ?_ ?_ (by assumption) ?_
            rotate_left 2
            · simp only [List.getElem?_toArray, List.getElem?_cons_succ, List.getElem?_cons_zero]; exact rfl
            · rfl
            · intro w hSw; (try dsimp only at hSw); go_simp; try with_reducible rfl
            try simp only [Act.put]
            try simp only [List.setIfInBounds_toArray, List.set_cons_zero, List.set_cons_succ]
            refine reg_take 73 ?_ ?_ ?_ (by kernel_rfl) (by kernel_rfl) (by kernel_rfl) (fun _ _ _ h => h) ?_ ?_ (by assumption) ?_
            rotate_left 2
            · simp only [List.getElem?_toArray, List.getElem?_cons_succ, List.getElem?_cons_zero]; exact rfl
            · rfl
            · intro w hSw; (try dsimp only at hSw); go_simp; try with_reducible rfl
            try simp only [Act.put]
            try simp only [List.setIfInBounds_toArray, List.set_cons_zero, List.set_cons_succ]
            refine reg_take 74 ?_ ?_ ?_ (by kernel_rfl) (by kernel_rfl) (by kernel_rfl) (fun _ _ _ h => h) ?_ ?_ (by assumption) ?_
            rotate_left 2
            · simp only [List.getElem?_toArray, List.getElem?_cons_succ, List.getElem?_cons_zero]; exact rfl
            · rfl
            · intro w hSw; (try dsimp only at hSw); go_simp; try with_reducible rfl
            try simp only [Act.put]
            try simp only [List.setIfInBounds_toArray, List.set_cons_zero, List.set_cons_succ]
            refine reg_take 75 ?_ ?_ ?_ (by kernel_rfl) (by kernel_rfl) (by kernel_rfl) (fun _ _ _ h => h) ?_ ?_ (by assumption) ?_
            rotate_left 2
            · simp only [List.getElem?_toArray, List.getElem?_cons_succ, List.getElem?_cons_zero]; exact rfl
            · rfl
            · intro w hSw; (try dsimp only at hSw); go_simp; try with_reducible rfl
            try simp only [Act.put]
            try simp only [List.setIfInBounds_toArray, List.set_cons_zero, List.set_cons_succ]
            refine reg_take 76 ?_ ?_ ?_ (by kernel_rfl) (by kernel_rfl) (by kernel_rfl) (fun _ _ _ h => h) ?_ ?_ (by assumption) ?_
            rotate_left 2
            · simp only [List.getElem?_toArray, List.getElem?_cons_succ, List.getElem?_cons_zero]; exact rfl
            · rfl
            · intro w hSw; (try dsimp only at hSw); go_simp; try with_reducible rfl
            try simp only [Act.put]
            try simp only [List.setIfInBounds_toArray, List.set_cons_zero, List.set_cons_succ]
            refine reg_take 77 ?_ ?_ ?_ (by kernel_rfl) (by kernel_rfl) (by kernel_rfl) (fun _ _ _ h => h) ?_ ?_ (by assumption) ?_
            rotate_left 2
            · simp only [List.getElem?_toArray, List.getElem?_cons_succ, List.getElem?_cons_zero]; exact rfl
            · rfl
            · intro w hSw; (try dsimp only at hSw); go_simp; try with_reducible rfl
            try simp only [Act.put]
            try simp only [List.setIfInBounds_toArray, List.set_cons_zero, List.set_cons_succ]
            refine reg_take 78 ?_ ?_ ?_ (by kernel_rfl) (by kernel_rfl) (by kernel_rfl) (fun _ _ _ h => h) ?_ ?_ (by assumption) ?_
            rotate_left 2
            · simp only [List.getElem?_toArray, List.getElem?_cons_succ, List.getElem?_cons_zero]; exact rfl
            · rfl
            · intro w hSw; (try dsimp only at hSw); go_simp; try with_reducible rfl
            try simp only [Act.put]
            try simp only [List.setIfInBounds_toArray, List.set_cons_zero, List.set_cons_succ]
            refine reg_call 79 ?_ (by kernel_rfl) ?_ (fun K hK => ?_)
            rotate_left 1
            · simp only [List.getElem?_toArray, List.getElem?_cons_succ, List.getElem?_cons_zero]; exact rfl
            go_simp
            refine (O3.out _).mono ?_
            rintro e w7 ⟨rfl, hb_w7⟩
            have hb_3 := hb_2.trans (hb_w7.mono hb_2.size)
            go_wp2_with fail
            refine hK.out _ _ (CC.out _ hb_3) (fun hHeld => ?_)
            clear hK K
            try simp only [Act.put]
            try simp only [List.setIfInBounds_toArray, List.set_cons_zero, List.set_cons_succ]
            refine reg_take 80 ?_ ?_ ?_ (by kernel_rfl) (by kernel_rfl) (by kernel_rfl) (fun _ _ _ h => h) ?_ ?_ (by assumption) ?_
            rotate_left 2
            · simp only [List.getElem?_toArray, List.getElem?_cons_succ, List.getElem?_cons_zero]; exact rfl
            · rfl
            · intro w hSw; (try dsimp only at hSw); go_simp; try with_reducible rfl
            try simp only [Act.put]
            try simp only [List.setIfInBounds_toArray, List.set_cons_zero, List.set_cons_succ]
            refine reg_take 81 ?_ ?_ ?_ (by kernel_rfl) (by kernel_rfl) (by kernel_rfl) (fun _ _ _ h => h) ?_ ?_ (by assumption) ?_
            rotate_left 2
            · simp only [List.getElem?_toArray, List.getElem?_cons_succ, List.getElem?_cons_zero]; exact rfl
            · rfl
            · intro w hSw; (try dsimp only at hSw); go_simp; try with_reducible rfl
            try simp only [Act.put]
            try simp only [List.setIfInBounds_toArray, List.set_cons_zero, List.set_cons_succ]
            refine reg_take 82 ?_ ?_ ?_ (by kernel_rfl) (by kernel_rfl) (by kernel_rfl) (fun _ _ _ h => h) ?_ ?_ (by assumption) ?_
            rotate_left 2
            · simp only [List.getElem?_toArray, List.getElem?_cons_succ, List.getElem?_cons_zero]; exact rfl
            · rfl
            · intro w hSw; (try dsimp only at hSw); go_simp; try with_reducible rfl
            try simp only [Act.put]
            try simp only [List.setIfInBounds_toArray, List.set_cons_zero, List.set_cons_succ]
            refine wpAnyH_done (by kernel_rfl) ?_ _
            refine NoPanic.normal ?_
            obtain ⟨r1, r2⟩ := RET.out _ hb_3
            go_wp2
            refine ⟨by simp, .inl ⟨_, _, rfl, run_takeDeferred r1, ?_⟩⟩
            exact ⟨_, results_tmp rfl _ _ _, rfl, r2⟩
    · skip
      as_aux_lemma =>
        rw [hins] at y0
        simp only [Prod.mk.injEq] at hxx
        obtain ⟨rfl, -, rfl, rfl⟩ := hxx
        have y1 := PX.out.c0; have y2 := PX.out.c1; have y5 := PM.out.c0
        have hre := HRE.out W (Below.refl _ _)
        rw [HRM.out, hrt] at hre
        have HREW := Lib.hid hre
        clear hre
        gi_wp2
        go_wp2_with fail
        refine HREW.out.mono ?_
        rintro e w4 ⟨rfl, hd⟩
        have hb4 : Below W.heap.size W w4 := hd.below
        have z2 := (PX.out.below hb4).c2; have z3 := (PX.out.below hb4).c3
        have HB4 := Lib.hid hb4
        clear hb4 hd y0 y1 y2 y5
        go_wp2
        go_loopw [155] (fun iv wr => ∃ i : Nat, i ≤ j ∧ iv = .int .i64 (i : Int) ∧ wr = w4) (fun iv _ => 3 - (intOf iv).toNat)
        case atStart => exact ⟨0, Nat.zero_le _, rfl, rfl⟩
        case round =>
          obtain ⟨i, hi, rfl, rfl⟩ := hrel
          have hi3 : i < 3 := by omega
          have y0 := box9_at (T := ⟨v0, v1, v2, n0, n1, n2, f0, f1, f2⟩) (PT.out.below HB4.out) hi3
          have ia : (0 : Int) ≤ (i : Int) := by omega
          have ib : (i : Int) < 3 := by omega
          by_cases hij : i = j
          · subst hij
            rw [hv1] at y0
            have m1 := mod3_one hj
            have m2 := mod3_two hj
            have vb1 : InV P ((⟨v0, v1, v2, n0, n1, n2, f0, f1, f2⟩ : TriM).v ((i + 1) % 3)) ∧ InV P ((⟨v0, v1, v2, n0, n1, n2, f0, f1, f2⟩ : TriM).v ((i + 2) % 3)) := by
              have hpl : placeT ⟨v0, v1, v2, n0, n1, n2, f0, f1, f2⟩ (-1) = (i : Int) := place_ghost hj hv1 hv2 hv3
              exact (HL.out t _ HT.out).2 i hpl
            obtain ⟨a, ea, la, ga⟩ := vb1.1.nat
            obtain ⟨b, eb, lb, gb⟩ := vb1.2.nat
            obtain ⟨k1, hk1⟩ : ∃ k1, (i + 1) % 3 = k1 := ⟨_, rfl⟩
            obtain ⟨k2, hk2⟩ : ∃ k2, (i + 2) % 3 = k2 := ⟨_, rfl⟩
            unfold sideT at hsd
            rw [hk1] at m1 ea ga hsd; rw [hk2] at m2 eb gb hsd
            have hk13 : k1 < 3 := by omega
            have hk23 : k2 < 3 := by omega
            rw [ea] at ga hsd; rw [eb] at gb hsd
            rw [Int.toNat_natCast] at ga gb
            rw [Int.toNat_natCast, Int.toNat_natCast] at hsd
            have ka := HPS.out _ (List.mem_of_getElem? ga); have kb := HPS.out _ (List.mem_of_getElem? gb)
            obtain ⟨⟨a0, a1⟩, hpa⟩ : ∃ q, ptA P a = q := ⟨_, rfl⟩
            obtain ⟨⟨b0, b1⟩, hpb⟩ : ∃ q, ptA P b = q := ⟨_, rfl⟩
            rw [hpa] at ga ka hsd; rw [hpb] at gb kb hsd
            simp only [] at ga gb ka kb hsd
            have O1 := Lib.hid (fun W' => Orient_is a0 a1 b0 b1 p0 p1 ka.1 ka.2 kb.1 kb.2 HPP.out.1 HPP.out.2 (Int.sign_eq_one_of_pos (Int.sign_pos_iff.1 hsd)) W')
            obtain ⟨pn, hpn⟩ : ∃ pn, P.length = pn := ⟨_, rfl⟩
            rw [hpn] at la lb
            have ii1 : (0 : Int) ≤ (a : Int) := by omega
            have ii2 : (a : Int) < (pn : Int) := by omega
            have ii3 : (0 : Int) ≤ (b : Int) := by omega
            have ii4 : (b : Int) < (pn : Int) := by omega
            have i7 : (0 : Int) ≤ (k1 : Int) := by omega
            have i8 : (k1 : Int) < 3 := by omega
            have i9 : (0 : Int) ≤ (k2 : Int) := by omega
            have i10 : (k2 : Int) < 3 := by omega
            have ct : ∀ w', Below W.heap.size W w' → w'.cell? ⟨w.heap.size + 1 + 1 + 1, k1, none⟩ = some (.int .i64 (a : Int)) ∧ w'.cell? ⟨w.heap.size + 1 + 1 + 1, k2, none⟩ = some (.int .i64 (b : Int)) := by
              intro w' hb
              have pt := PT.out.below hb
              have t1 := box9_at (T := ⟨v0, v1, v2, n0, n1, n2, f0, f1, f2⟩) pt hk13; have t2 := box9_at (T := ⟨v0, v1, v2, n0, n1, n2, f0, f1, f2⟩) pt hk23
              rw [ea] at t1; rw [eb] at t2
              exact ⟨t1, t2⟩
            have co : ∀ w', Below W.heap.size W w' → w'.cell? ⟨w.heap.size, 0, none⟩ = some (.pointer (some ⟨mb, 0, none⟩)) ∧ w'.cell? ⟨mb, 0, none⟩ = some (.slice (some ⟨pb, 0, none⟩) pn pc) ∧ w'.cell? ⟨pb, a * 2, none⟩ = some (.int .i64 a0) ∧ w'.cell? ⟨pb, a * 2 + 1, none⟩ = some (.int .i64 a1) ∧ w'.cell? ⟨pb, b * 2, none⟩ = some (.int .i64 b0) ∧ w'.cell? ⟨pb, b * 2 + 1, none⟩ = some (.int .i64 b1) ∧ w'.cell? ⟨w.heap.size + 1, 0, none⟩ = some (.int .i64 p0) ∧ w'.cell? ⟨w.heap.size + 1, 1, none⟩ = some (.int .i64 p1) := by
              intro w' hb
              have hm := HMW.out.below hb
              have k0 := hm.box.c0
              rw [hpn] at k0
              have pp := PP.out.below hb
              exact ⟨(PM.out.below hb).c0, k0, (hm.pt ga).1, (hm.pt ga).2, (hm.pt gb).1, (hm.pt gb).2, pp.c0, pp.c1⟩
            have CT := Lib.hid ct; have CO := Lib.hid co
            clear ct co ea eb la lb ga gb ka kb hpa hpb hk1 hk2 hpn vb1 hsd hv1 hv2 hv3 z2 z3
            go_wp2
            clear y0
            have hb_0 := HB4.out.drew'
            refine wp_region_noPanic ?_
            refine wp_region_held_drew (S := fun w' => w'.cell? ⟨w.heap.size + 1 + 1 + 1, k1, none⟩ = some (.int .i64 (a : Int)) ∧ w'.cell? ⟨w.heap.size + 1 + 1 + 1, k2, none⟩ = some (.int .i64 (b : Int))) (by kernel_rfl) (CT.out _ hb_0) (fun hHeld => ?_)
            refine reg_take 0 ?_ ?_ ?_ (by kernel_rfl) (by kernel_rfl) (by kernel_rfl) (fun _ _ _ h => h) ?_ ?_ (by assumption) ?_
            rotate_left 2
            · simp only [List.getElem?_toArray, List.getElem?_cons_zero]; exact rfl
            · rfl
            · intro w hSw; (try dsimp only at hSw); go_simp; try with_reducible rfl
            try simp only [Act.put]
            try simp only [List.setIfInBounds_toArray, List.set_cons_zero, List.set_cons_succ]
            refine reg_take 1 ?_ ?_ ?_ (by kernel_rfl) (by kernel_rfl) (by kernel_rfl) (fun _ _ _ h => h) ?_ ?_ (by assumption) ?_
            rotate_left 2
            · simp only [List.getElem?_toArray, List.getElem?_cons_succ, List.getElem?_cons_zero]; exact rfl
            · rfl
            · intro w hSw; (try dsimp only at hSw); go_simp; try with_reducible rfl
            try simp only [Act.put]
            try simp only [List.setIfInBounds_toArray, List.set_cons_zero, List.set_cons_succ]
            refine reg_take 2 ?_ ?_ ?_ (by kernel_rfl) (by kernel_rfl) (by kernel_rfl) (fun _ _ _ h => h) ?_ ?_ (by assumption) ?_
            rotate_left 2
            · simp only [List.getElem?_toArray, List.getElem?_cons_succ, List.getElem?_cons_zero]; exact rfl
            · rfl
            · intro w hSw; (try dsimp only at hSw); go_simp; try with_reducible rfl
            try simp only [Act.put]
            try simp only [List.setIfInBounds_toArray, List.set_cons_zero, List.set_cons_succ]
            refine reg_take 3 ?_ ?_ ?_ (by kernel_rfl) (by kernel_rfl) (by kernel_rfl) (fun _ _ _ h => h) ?_ ?_ (by assumption) ?_
            rotate_left 2
            · simp only [List.getElem?_toArray, List.getElem?_cons_succ, List.getElem?_cons_zero]; exact rfl
            · rfl
            · intro w hSw; (try dsimp only at hSw); go_simp; try with_reducible rfl
            try simp only [Act.put]
            try simp only [List.setIfInBounds_toArray, List.set_cons_zero, List.set_cons_succ]
            refine reg_take 4 ?_ ?_ ?_ (by kernel_rfl) (by kernel_rfl) (by kernel_rfl) (fun _ _ _ h => h) ?_ ?_ (by assumption) ?_
            rotate_left 2
            · simp only [List.getElem?_toArray, List.getElem?_cons_succ, List.getElem?_cons_zero]; exact rfl
            · rfl
            · intro w hSw; (try dsimp only at hSw); go_simp; try with_reducible rfl
            try simp only [Act.put]
            try simp only [List.setIfInBounds_toArray, List.set_cons_zero, List.set_cons_succ]
            refine reg_take 5 ?_ ?_ ?_ (by kernel_rfl) (by kernel_rfl) (by kernel_rfl) (fun _ _ _ h => h) ?_ ?_ (by assumption) ?_
            rotate_left 2
            · simp only [List.getElem?_toArray, List.getElem?_cons_succ, List.getElem?_cons_zero]; exact rfl
            · rfl
            · intro w hSw; (try dsimp only at hSw); go_simp; try with_reducible rfl
            try simp only [Act.put]
            try simp only [List.setIfInBounds_toArray, List.set_cons_zero, List.set_cons_succ]
            refine reg_take 6 ?_ ?_ ?_ (by kernel_rfl) (by kernel_rfl) (by kernel_rfl) (fun _ _ _ h => h) ?_ ?_ (by assumption) ?_
            rotate_left 2
            · simp only [List.getElem?_toArray, List.getElem?_cons_succ, List.getElem?_cons_zero]; exact rfl
            · rfl
            · intro w hSw; (try dsimp only at hSw); go_simp; try with_reducible rfl
            try simp only [Act.put]
            try simp only [List.setIfInBounds_toArray, List.set_cons_zero, List.set_cons_succ]
            refine reg_take 7 ?_ ?_ ?_ (by kernel_rfl) (by kernel_rfl) (by kernel_rfl) (fun _ _ _ h => h) ?_ ?_ (by assumption) ?_
            rotate_left 2
            · simp only [List.getElem?_toArray, List.getElem?_cons_succ, List.getElem?_cons_zero]; exact rfl
            · rfl
            · intro w hSw; (try dsimp only at hSw); go_simp; try with_reducible rfl
            try simp only [Act.put]
            try simp only [List.setIfInBounds_toArray, List.set_cons_zero, List.set_cons_succ]
            refine reg_take 8 ?_ ?_ ?_ (by kernel_rfl) (by kernel_rfl) (by kernel_rfl) (fun _ _ _ h => h) ?_ ?_ (by assumption) ?_
            rotate_left 2
            · simp only [List.getElem?_toArray, List.getElem?_cons_succ, List.getElem?_cons_zero]; exact rfl
            · rfl
            · intro w hSw; (try dsimp only at hSw); go_simp; try with_reducible rfl
            try simp only [Act.put]
            try simp only [List.setIfInBounds_toArray, List.set_cons_zero, List.set_cons_succ]
            refine reg_take 9 ?_ ?_ ?_ (by kernel_rfl) (by kernel_rfl) (by kernel_rfl) (fun _ _ _ h => h) ?_ ?_ (by assumption) ?_
            rotate_left 2
            · simp only [List.getElem?_toArray, List.getElem?_cons_succ, List.getElem?_cons_zero]; exact rfl
            · rfl
            · intro w hSw; (try dsimp only at hSw); go_simp; try with_reducible rfl
            try simp only [Act.put]
            try simp only [List.setIfInBounds_toArray, List.set_cons_zero, List.set_cons_succ]
            refine reg_take 10 ?_ ?_ ?_ (by kernel_rfl) (by kernel_rfl) (by kernel_rfl) (fun _ _ _ h => h) ?_ ?_ (by assumption) ?_
            rotate_left 2
            · simp only [List.getElem?_toArray, List.getElem?_cons_succ, List.getElem?_cons_zero]; exact rfl
            · rfl
            · intro w hSw; (try dsimp only at hSw); go_simp; try with_reducible rfl
            try simp only [Act.put]
            try simp only [List.setIfInBounds_toArray, List.set_cons_zero, List.set_cons_succ]
            refine reg_take 11 ?_ ?_ ?_ (by kernel_rfl) (by kernel_rfl) (by kernel_rfl) (fun _ _ _ h => h) ?_ ?_ (by assumption) ?_
            rotate_left 2
            · simp only [List.getElem?_toArray, List.getElem?_cons_succ, List.getElem?_cons_zero]; exact rfl
            · rfl
            · intro w hSw; (try dsimp only at hSw); go_simp; try with_reducible rfl
            try simp only [Act.put]
            try simp only [List.setIfInBounds_toArray, List.set_cons_zero, List.set_cons_succ]
            refine reg_take 12 ?_ ?_ ?_ (by kernel_rfl) (by kernel_rfl) (by kernel_rfl) (fun _ _ _ h => h) ?_ ?_ (by assumption) ?_
            rotate_left 2
            · simp only [List.getElem?_toArray, List.getElem?_cons_succ, List.getElem?_cons_zero]; exact rfl
            · rfl
            · intro w hSw; (try dsimp only at hSw); go_simp; try with_reducible rfl
            try simp only [Act.put]
            try simp only [List.setIfInBounds_toArray, List.set_cons_zero, List.set_cons_succ]
            refine reg_take 13 ?_ ?_ ?_ (by kernel_rfl) (by kernel_rfl) (by kernel_rfl) (fun _ _ _ h => h) ?_ ?_ (by assumption) ?_
            rotate_left 2
            · simp only [List.getElem?_toArray, List.getElem?_cons_succ, List.getElem?_cons_zero]; exact rfl
            · rfl
            · intro w hSw; (try dsimp only at hSw); go_simp; try with_reducible rfl
            try simp only [Act.put]
            try simp only [List.setIfInBounds_toArray, List.set_cons_zero, List.set_cons_succ]
            refine wpAnyH_done (by kernel_rfl) ?_ _
            refine NoPanic.normal ?_
            go_wp2
            have hb_1 := hb_0.drew'
            refine wp_region_noPanic ?_
            refine wp_region_held_drew (S := fun w' => w'.cell? ⟨w.heap.size, 0, none⟩ = some (.pointer (some ⟨mb, 0, none⟩)) ∧ w'.cell? ⟨mb, 0, none⟩ = some (.slice (some ⟨pb, 0, none⟩) pn pc) ∧ w'.cell? ⟨pb, a * 2, none⟩ = some (.int .i64 a0) ∧ w'.cell? ⟨pb, a * 2 + 1, none⟩ = some (.int .i64 a1) ∧ w'.cell? ⟨pb, b * 2, none⟩ = some (.int .i64 b0) ∧ w'.cell? ⟨pb, b * 2 + 1, none⟩ = some (.int .i64 b1) ∧ w'.cell? ⟨w.heap.size + 1, 0, none⟩ = some (.int .i64 p0) ∧ w'.cell? ⟨w.heap.size + 1, 1, none⟩ = some (.int .i64 p1)) (by kernel_rfl) (CO.out _ hb_1) (fun hHeld => ?_)
            refine reg_take 0 ?_ ?_ ?_ (by kernel_rfl) (by kernel_rfl) (by kernel_rfl) (fun _ _ _ h => h) ?_ ?_ (by assumption) ?_
            rotate_left 2
            · simp only [List.getElem?_toArray, List.getElem?_cons_zero]; exact rfl
            · rfl
            · intro w hSw; (try dsimp only at hSw); go_simp; try with_reducible rfl
            try simp only [Act.put]
            try simp only [List.setIfInBounds_toArray, List.set_cons_zero, List.set_cons_succ]
            refine reg_take 1 ?_ ?_ ?_ (by kernel_rfl) (by kernel_rfl) (by kernel_rfl) (fun _ _ _ h => h) ?_ ?_ (by assumption) ?_
            rotate_left 2
            · simp only [List.getElem?_toArray, List.getElem?_cons_succ, List.getElem?_cons_zero]; exact rfl
            · rfl
            · intro w hSw; (try dsimp only at hSw); go_simp; try with_reducible rfl
            try simp only [Act.put]
            try simp only [List.setIfInBounds_toArray, List.set_cons_zero, List.set_cons_succ]
            refine reg_take 2 ?_ ?_ ?_ (by kernel_rfl) (by kernel_rfl) (by kernel_rfl) (fun _ _ _ h => h) ?_ ?_ (by assumption) ?_
            rotate_left 2
            · simp only [List.getElem?_toArray, List.getElem?_cons_succ, List.getElem?_cons_zero]; exact rfl
            · rfl
            · intro w hSw; (try dsimp only at hSw); go_simp; try with_reducible rfl
            try simp only [Act.put]
            try simp only [List.setIfInBounds_toArray, List.set_cons_zero, List.set_cons_succ]
            refine reg_take 3 ?_ ?_ ?_ (by kernel_rfl) (by kernel_rfl) (by kernel_rfl) (fun _ _ _ h => h) ?_ ?_ (by assumption) ?_
            rotate_left 2
            · simp only [List.getElem?_toArray, List.getElem?_cons_succ, List.getElem?_cons_zero]; exact rfl
            · rfl
            · intro w hSw; (try dsimp only at hSw); go_simp; try with_reducible rfl
            try simp only [Act.put]
            try simp only [List.setIfInBounds_toArray, List.set_cons_zero, List.set_cons_succ]
            refine reg_take 4 ?_ ?_ ?_ (by kernel_rfl) (by kernel_rfl) (by kernel_rfl) (fun _ _ _ h => h) ?_ ?_ (by assumption) ?_
            rotate_left 2
            · simp only [List.getElem?_toArray, List.getElem?_cons_succ, List.getElem?_cons_zero]; exact rfl
            · rfl
            · intro w hSw; (try dsimp only at hSw); go_simp; try with_reducible rfl
            try simp only [Act.put]
            try simp only [List.setIfInBounds_toArray, List.set_cons_zero, List.set_cons_succ]
            refine reg_take 5 ?_ ?_ ?_ (by kernel_rfl) (by kernel_rfl) (by kernel_rfl) (fun _ _ _ h => h) ?_ ?_ (by assumption) ?_
            rotate_left 2
            · simp only [List.getElem?_toArray, List.getElem?_cons_succ, List.getElem?_cons_zero]; exact rfl
            · rfl
            · intro w hSw; (try dsimp only at hSw); go_simp; try with_reducible rfl
            try simp only [Act.put]
            try simp only [List.setIfInBounds_toArray, List.set_cons_zero, List.set_cons_succ]
            refine reg_take 6 ?_ ?_ ?_ (by kernel_rfl) (by kernel_rfl) (by kernel_rfl) (fun _ _ _ h => h) ?_ ?_ (by assumption) ?_
            rotate_left 2
            · simp only [List.getElem?_toArray, List.getElem?_cons_succ, List.getElem?_cons_zero]; exact rfl
            · rfl
            · intro w hSw; (try dsimp only at hSw); go_simp; try with_reducible rfl
            try simp only [Act.put]
            try simp only [List.setIfInBounds_toArray, List.set_cons_zero, List.set_cons_succ]
            refine reg_take 7 ?_ ?_ ?_ (by kernel_rfl) (by kernel_rfl) (by kernel_rfl) (fun _ _ _ h => h) ?_ ?_ (by assumption) ?_
            rotate_left 2
            · simp only [List.getElem?_toArray, List.getElem?_cons_succ, List.getElem?_cons_zero]; exact rfl
            · rfl
            · intro w hSw; (try dsimp only at hSw); go_simp; try with_reducible rfl
            try simp only [Act.put]
            try simp only [List.setIfInBounds_toArray, List.set_cons_zero, List.set_cons_succ]
            refine reg_take 8 ?_ ?_ ?_ (by kernel_rfl) (by kernel_rfl) (by kernel_rfl) (fun _ _ _ h => h) ?_ ?_ (by assumption) ?_
            rotate_left 2
            · simp only [List.getElem?_toArray, List.getElem?_cons_succ, List.getElem?_cons_zero]; exact rfl
            · rfl
            · intro w hSw; (try dsimp only at hSw); go_simp; try with_reducible rfl
            try simp only [Act.put]
            try simp only [List.setIfInBounds_toArray, List.set_cons_zero, List.set_cons_succ]
            refine reg_take 9 ?_ ?_ ?_ (by kernel_rfl) (by kernel_rfl) (by kernel_rfl) (fun _ _ _ h => h) ?_ ?_ (by assumption) ?_
            rotate_left 2
            · simp only [List.getElem?_toArray, List.getElem?_cons_succ, List.getElem?_cons_zero]; exact rfl
            · rfl
            · intro w hSw; (try dsimp only at hSw); go_simp; try with_reducible rfl
            try simp only [Act.put]
            try simp only [List.setIfInBounds_toArray, List.set_cons_zero, List.set_cons_succ]
            refine reg_take 10 ?_ ?_ ?_ (by kernel_rfl) (by kernel_rfl) (by kernel_rfl) (fun _ _ _ h => h) ?_ ?_ (by assumption) ?_
            rotate_left 2
            · simp only [List.getElem?_toArray, List.getElem?_cons_succ, List.getElem?_cons_zero]; exact rfl
            · rfl
            · intro w hSw; (try dsimp only at hSw); go_simp; try with_reducible rfl
            try simp only [Act.put]
            try simp only [List.setIfInBounds_toArray, List.set_cons_zero, List.set_cons_succ]
            refine reg_take 11 ?_ ?_ ?_ (by kernel_rfl) (by kernel_rfl) (by kernel_rfl) (fun _ _ _ h => h) ?_ ?_ (by assumption) ?_
            rotate_left 2
            · simp only [List.getElem?_toArray, List.getElem?_cons_succ, List.getElem?_cons_zero]; exact rfl
            · rfl
            · intro w hSw; (try dsimp only at hSw); go_simp; try with_reducible rfl
            try simp only [Act.put]
            try simp only [List.setIfInBounds_toArray, List.set_cons_zero, List.set_cons_succ]
            refine reg_take 12 ?_ ?_ ?_ (by kernel_rfl) (by kernel_rfl) (by kernel_rfl) (fun _ _ _ h => h) ?_ ?_ (by assumption) ?_
            rotate_left 2
            · simp only [List.getElem?_toArray, List.getElem?_cons_succ, List.getElem?_cons_zero]; exact rfl
            · rfl
            · intro w hSw; (try dsimp only at hSw); go_simp; try with_reducible rfl
            try simp only [Act.put]
            try simp only [List.setIfInBounds_toArray, List.set_cons_zero, List.set_cons_succ]
            refine reg_take 13 ?_ ?_ ?_ (by kernel_rfl) (by kernel_rfl) (by kernel_rfl) (fun _ _ _ h => h) ?_ ?_ (by assumption) ?_
            rotate_left 2
            · simp only [List.getElem?_toArray, List.getElem?_cons_succ, List.getElem?_cons_zero]; exact rfl
            · rfl
            · intro w hSw; (try dsimp only at hSw); go_simp; try with_reducible rfl
            try simp only [Act.put]
            try simp only [List.setIfInBounds_toArray, List.set_cons_zero, List.set_cons_succ]
            refine reg_take 14 ?_ ?_ ?_ (by kernel_rfl) (by kernel_rfl) (by kernel_rfl) (fun _ _ _ h => h) ?_ ?_ (by assumption) ?_
            rotate_left 2
            · simp only [List.getElem?_toArray, List.getElem?_cons_succ, List.getElem?_cons_zero]; exact rfl
            · rfl
            · intro w hSw; (try dsimp only at hSw); go_simp; try with_reducible rfl
            try simp only [Act.put]
            try simp only [List.setIfInBounds_toArray, List.set_cons_zero, List.set_cons_succ]
            refine reg_call 15 ?_ (by kernel_rfl) ?_ (fun K hK => ?_)
            rotate_left 1
            · simp only [List.getElem?_toArray, List.getElem?_cons_succ, List.getElem?_cons_zero]; exact rfl
            go_simp
            refine (O1.out _).mono ?_
            rintro e w5 ⟨rfl, hb_w5⟩
            have hb_2 := hb_1.trans (hb_w5.mono hb_1.size)
            go_wp2_with fail
            refine hK.out _ _ (CO.out _ hb_2) (fun hHeld => ?_)
            clear hK K
            try simp only [Act.put]
            try simp only [List.setIfInBounds_toArray, List.set_cons_zero, List.set_cons_succ]
            refine reg_take 16 ?_ ?_ ?_ (by kernel_rfl) (by kernel_rfl) (by kernel_rfl) (fun _ _ _ h => h) ?_ ?_ (by assumption) ?_
            rotate_left 2
            · simp only [List.getElem?_toArray, List.getElem?_cons_succ, List.getElem?_cons_zero]; exact rfl
            · rfl
            · intro w hSw; (try dsimp only at hSw); go_simp; try with_reducible rfl
            try simp only [Act.put]
            try simp only [List.setIfInBounds_toArray, List.set_cons_zero, List.set_cons_succ]
            refine reg_take 17 ?_ ?_ ?_ (by kernel_rfl) (by kernel_rfl) (by kernel_rfl) (fun _ _ _ h => h) ?_ ?_ (by assumption) ?_
            rotate_left 2
            · simp only [List.getElem?_toArray, List.getElem?_cons_succ, List.getElem?_cons_zero]; exact rfl
            · rfl
            · intro w hSw; (try dsimp only at hSw); go_simp; try with_reducible rfl
            try simp only [Act.put]
            try simp only [List.setIfInBounds_toArray, List.set_cons_zero, List.set_cons_succ]
            refine wpAnyH_done (by kernel_rfl) ?_ _
            refine NoPanic.normal ?_
            obtain ⟨r1, r2⟩ := RET.out _ hb_2
            go_wp2
            refine ⟨by simp, .inl ⟨_, _, rfl, run_takeDeferred r1, ?_⟩⟩
            exact ⟨_, results_tmp rfl _ _ _, rfl, r2⟩
          · have hne : ((⟨v0, v1, v2, n0, n1, n2, f0, f1, f2⟩ : TriM).v i == -1) = false := by
              rcases three_of hj hi3 with e | e | e
              · exact absurd e hij
              · rw [e]; rw [beq_eq_false_iff_ne]; omega
              · rw [e]; rw [beq_eq_false_iff_ne]; omega
            obtain ⟨vi, hvi⟩ : ∃ vi, (⟨v0, v1, v2, n0, n1, n2, f0, f1, f2⟩ : TriM).v i = vi := ⟨_, rfl⟩
            rw [hvi] at hne y0
            clear z2 z3
            go_wp2
            go_roundw
            case rel => exact ⟨i + 1, by omega, by go_num, by first | rfl | trivial⟩
            case measure => simp [intOf]; omega
  case stop =>
    rintro D c pre W _ _ h _
    exact h.elim
end Go.Proofs.Ytaedaknkpfeipaa
/- The statements' fit (layer 9). -/
namespace Go.Proofs.Ytaedaknkpfeipaa
open Go.RowKit Go.MagM
theorem MeshO.sl {p e : TypeId} {w : World} {lo mb pb pc : Nat} {tv : Value} {P : List (Int × Int)} {S : List TriM} (h : MeshO p e w lo mb pb pc tv P S) (h0 : 0 < S.length) : ∃ tb tc, tv = .slice (some ⟨tb, 0, none⟩) S.length tc ∧ MeshR w mb pb pc (some ⟨tb, 0, none⟩) tc P S := by
  obtain ⟨t, ht⟩ : ∃ t, S[0]? = some t := ⟨_, List.getElem?_eq_getElem h0⟩
  obtain ⟨tb, tc, rfl⟩ := h.slot ht
  obtain ⟨ta, tc', e, hr⟩ := h.read
  simp only [Value.slice.injEq] at e
  obtain ⟨rfl, -, rfl⟩ := e
  exact ⟨tb, tc, rfl, hr⟩
end Go.Proofs.Ytaedaknkpfeipaa
/- The statements' fit (layer 10). -/
namespace Go.MagM
open Go.RowKit
def fitP : List (Int × Int) := [(0, 0), (3, 0), (0, 3)]
def fitS : List TriM := newM ((0 : Nat) : Int) ((1 : Nat) : Int) ((2 : Nat) : Int)
theorem fit_in : InPs fitP := by
  intro p hp
  simp [fitP] at hp
  rcases hp with rfl | rfl | rfl <;> (unfold InP; omega)
theorem fit_look : LookIn fitP fitS := by
  intro t T hT
  have hl : t < 4 := (List.getElem?_eq_some_iff.1 hT).1
  obtain rfl | rfl | rfl | rfl : t = 0 ∨ t = 1 ∨ t = 2 ∨ t = 3 := by omega
  all_goals
    simp only [fitS, newM, List.getElem?_cons_zero, List.getElem?_cons_succ, Option.some.injEq] at hT
    subst hT
    refine ⟨fun hr i hi => ?_, fun k hk => ?_⟩
    · first
      | (exact absurd hr (by decide))
      | (obtain rfl | rfl | rfl : i = 0 ∨ i = 1 ∨ i = 2 := by omega
         all_goals (unfold InV; decide))
    · have h3 : k < 3 := by
        rcases placeT_cases _ _ with e | e | e | e <;> (rw [e] at hk; omega)
      obtain rfl | rfl | rfl : k = 0 ∨ k = 1 ∨ k = 2 := by omega
      all_goals first
        | (exact absurd hk (by decide))
        | (unfold InV; decide)
theorem fit_one : lookM fitP fitS (1, 1) = (0, 0, 0, 0) := by decide
theorem fit_two : lookM fitP fitS (3, 3) = (3, 1, 0, 0) := by decide
end Go.MagM
namespace Go.Proofs.Ytaedaknkpfeipaa
open Go.RowKit Go.MagM
set_option maxRecDepth 100000 in
set_option maxHeartbeats 16000000 in
theorem fit10_any (w : World) : Calls Try.prog 24 #[] w fun e w' => e = .returned (.bool true) ∧ Below w.heap.size w w' := by
  obtain ⟨w1, hw1, pp, hb1, hs1⟩ := new_box w _ rfl [.int .i64 0, .int .i64 0, .int .i64 3, .int .i64 0, .int .i64 0, .int .i64 3] 26
  have hnew := New_yes (some ⟨w.heap.size, 0, none⟩) w.heap.size 3 3 fitP w1 rfl (by omega) (by omega) fit_in rfl (fun j u hj => by rw [Nat.zero_add]; exact pp.c j u hj) 0 1 2 (by rfl)
  have hnew' : Calls Try.prog 11 #[.slice (some ⟨w.heap.size, 0, none⟩) 3 3, .int .i64 0, .int .i64 1, .int .i64 2] w1 fun e w' => ∃ mb pb pc tv, e = .returned (.tuple #[.pointer (some ⟨mb, 0, none⟩), .bool true]) ∧ MeshO 26 37 w' w1.heap.size mb pb pc tv fitP fitS ∧ w1.heap.size ≤ pb ∧ Below w1.heap.size w1 w' := hnew
  have HN := Lib.hid hnew'
  have HB1 := Lib.hid hb1
  clear pp hb1 hs1 hnew hnew'
  go_enter Try.func24, Try.ntmps24
  go_wp2_with fail
  refine HN.out.mono ?_
  rintro e w2 ⟨mb, pb, pc, tv, rfl, hm, hpb, hb2⟩
  obtain ⟨tb, tc, rfl, hr⟩ := MeshO.sl hm (by show 0 < 4; omega)
  have hl1 := Look_any (1, 1) w2 hr fit_in ⟨by unfold InP; omega, by unfold InP; omega⟩ fit_look
  rw [fit_one] at hl1
  unfold placeV at hl1
  simp only [] at hl1
  have HR := Lib.hid hr; have HB2 := Lib.hid (HB1.out.trans (hb2.mono HB1.out.size)); have HL1 := Lib.hid hl1
  clear hm hpb hb2 hr hl1
  go_wp2_with fail
  refine HL1.out.mono ?_
  rintro e w3 ⟨rfl, hb3⟩
  have hr3 := HR.out.below hb3
  have hl2 := Look_any (3, 3) w3 hr3 fit_in ⟨by unfold InP; omega, by unfold InP; omega⟩ fit_look
  rw [fit_two] at hl2
  unfold placeV at hl2
  simp only [] at hl2
  have HR3 := Lib.hid hr3; have HB3 := Lib.hid (HB2.out.trans (hb3.mono HB2.out.size)); have HL2 := Lib.hid hl2
  clear hb3 hr3 hl2
  go_wp2_with fail
  refine HL2.out.mono ?_
  rintro e w4 ⟨rfl, hb4⟩
  have hr4 := HR3.out.below hb4
  have hb04 := HB3.out.trans (hb4.mono HB3.out.size)
  obtain ⟨w5, hw5, pa, hb5, hs5⟩ := new_box w4 _ rfl [.int .i64 0, .int .i64 0, .int .i64 0, .int .i64 0] 69
  obtain ⟨w6, hw6, pq, hb6, hs6⟩ := new_box w5 (w4.heap.size + 1) hs5 [.int .i64 0, .int .i64 0, .int .i64 0, .int .i64 0] 69
  have pa6 := pa.below (show Below w5.heap.size w5 w6 by rw [hs5]; exact hb6)
  obtain ⟨w7, hw7⟩ : ∃ w7, setAll w6 w4.heap.size 0 [.int .i64 0, .int .i64 0, .int .i64 0, .int .i64 0] = w7 := ⟨_, rfl⟩
  have pa7 : Box w7 w4.heap.size [.int .i64 0, .int .i64 0, .int .i64 0, .int .i64 0] := by rw [← hw7]; exact pa6.setAll [.int .i64 0, .int .i64 0, .int .i64 0, .int .i64 0] rfl
  have pb7 : Box w7 (w4.heap.size + 1) [.int .i64 0, .int .i64 0, .int .i64 0, .int .i64 0] := by rw [← hw7]; exact pq.farAll (by omega) [.int .i64 0, .int .i64 0, .int .i64 0, .int .i64 0]
  obtain ⟨w8, hw8⟩ : ∃ w8, setAll w7 (w4.heap.size + 1) 0 [.int .i64 3, .int .i64 1, .int .i64 0, .int .i64 0] = w8 := ⟨_, rfl⟩
  have pb8 : Box w8 (w4.heap.size + 1) [.int .i64 3, .int .i64 1, .int .i64 0, .int .i64 0] := by rw [← hw8]; exact pb7.setAll [.int .i64 3, .int .i64 1, .int .i64 0, .int .i64 0] rfl
  have pa8 : Box w8 w4.heap.size [.int .i64 0, .int .i64 0, .int .i64 0, .int .i64 0] := by rw [← hw8]; exact pa7.farAll (by omega) [.int .i64 3, .int .i64 1, .int .i64 0, .int .i64 0]
  have hb48 : Below w4.heap.size w4 w8 := by rw [← hw8, ← hw7]; exact below_setAll (below_setAll (hb5.trans (hb6.mono (by omega))) (Nat.le_refl _) _) (by omega) _
  have hr8 := hr4.below hb48
  have hb08 := hb04.trans (hb48.mono hb04.size)
  have hre := Real_any 0 w8 hr8
  have hrm : realM fitS 0 = true := by decide
  rw [hrm] at hre
  have x0 := pa8.c 0 _ rfl; have x1 := pa8.c 1 _ rfl; have y0 := pb8.c 0 _ rfl
  have PA := Lib.hid pa6; have PB := Lib.hid pb7; have W7 := Lib.hid hw7; have W8 := Lib.hid hw8; have HR8 := Lib.hid hr8; have HB8 := Lib.hid hb08; have HRE := Lib.hid hre; have PA8 := Lib.hid pa8
  clear hb4 hr4 hb04 pa hb5 pq hb6 hs6 pa6 hw7 pa7 pb7 hw8 pb8 pa8 hb48 hr8 hb08 hre hrm
  go_wp2_with (first | (with_reducible refine wpList_store_box rfl _ _ _ rfl [.int .i64 0, .int .i64 0, .int .i64 0, .int .i64 0] PA.out rfl rfl (by kernel_rfl) (by simp) rfl W7.out ?_) | (with_reducible refine wpList_store_box rfl _ _ _ rfl [.int .i64 3, .int .i64 1, .int .i64 0, .int .i64 0] PB.out rfl rfl (by kernel_rfl) (by simp) rfl W8.out ?_))
  refine HRE.out.mono ?_
  rintro e w9 ⟨rfl, hd⟩
  have hho := Holds_any 0 ⟨0, 1, 2, 1, 2, 3, false, false, false⟩ (0, 0) w9 (HR8.out.below hd.below) fit_in ⟨by unfold InP; omega, by unfold InP; omega⟩ rfl (fit_look 0 _ rfl).1
  have hhv : (realT ⟨0, 1, 2, 1, 2, 3, false, false, false⟩ && holdsT fitP ⟨0, 1, 2, 1, 2, 3, false, false, false⟩ (0, 0)) = true := by decide
  rw [hhv] at hho
  have hho' : Calls Try.prog 28 #[.pointer (some ⟨mb, 0, none⟩), .int .i64 0, .agg #[.int .i64 0, .int .i64 0]] w9 fun e w' => e = .returned (.bool true) ∧ Below w9.heap.size w9 w' := hho
  have x2 := (PA8.out.below hd.below).c 1 _ rfl
  have HHO := Lib.hid hho'; have HB9 := Lib.hid (HB8.out.trans (hd.below.mono HB8.out.size))
  clear hd hho hho' hhv x0 x1 y0
  go_wp2_with fail
  refine HHO.out.mono ?_
  rintro e w10 ⟨rfl, hb10⟩
  have HB10 := Lib.hid (HB9.out.trans (hb10.mono HB9.out.size))
  clear hb10 x2
  go_wp2
  go_ret
  exact ⟨rfl, HB10.out⟩
end Go.Proofs.Ytaedaknkpfeipaa
/- Sums of two and three, and of none. -/
namespace Go.Proofs.Ytaedaknkpfeipaa
open Go.RowKit Go.MagM
theorem Nums.drew {w : World} {ao : Option Addr} {l : List (Nat × Int)} (h : Nums w ao l) : Nums w.drew ao l := h
end Go.Proofs.Ytaedaknkpfeipaa
/- The statements' own Tame, fit; the closure of PredCrosses. -/
namespace Go.Proofs.Ytaedaknkpfeipaa
open Go.RowKit Go.MagM
/-- A coordinate made to be one that may be. -/
def tame (x : Int) : Int := if 2147483648 < (if x < -2147483648 then -2147483648 else x) then 2147483648 else (if x < -2147483648 then -2147483648 else x)
theorem tame_in (x : Int) : InP (tame x) := by unfold tame InP; split <;> split <;> omega
set_option maxHeartbeats 4000000 in
theorem Tame_w (a0 a1 x y s t : Int) (e1 : (if a0 < -2147483648 then -2147483648 else a0) = x) (e2 : (if a1 < -2147483648 then -2147483648 else a1) = y) (e3 : (if 2147483648 < x then 2147483648 else x) = s) (e4 : (if 2147483648 < y then 2147483648 else y) = t) (w : World) :
    Calls Try.prog 10 #[.agg #[.int .i64 a0, .int .i64 a1]] w fun e w' => e = .returned (.agg #[.int .i64 s, .int .i64 t]) ∧ Below w.heap.size w w' := by
  have hB_0 := Below.refl w.heap.size w
  have h1 := e1; have h2 := e2; have h3 := e3; have h4 := e4
  obtain ⟨w1, hw1, pa_0, hb1, hs1⟩ := new_box w (w.heap.size) rfl [.int .i64 a0, .int .i64 a1] 26
  have hb1' : Below w.heap.size w w1 := hb1.mono (by omega)
  clear hb1
  have hB_1 := hB_0.trans (hb1'.mono hB_0.size)
  clear hb1' hB_0
  obtain ⟨w2, hw2, pr_0, hb2, hs2⟩ := new_box w1 (w.heap.size + 1) hs1 [.int .i64 0, .int .i64 0] 26
  have hb2' : Below w1.heap.size w1 w2 := hb2.mono (by omega)
  clear hb2
  have hB_2 := hB_1.trans (hb2'.mono hB_1.size)
  have pa_1 := pa_0.below hb2'
  clear hb2' hB_1 pa_0
  go_enter Try.func10, Try.ntmps10
  obtain ⟨pae0, pae1, pae2, pae3⟩ := pa_1.open2
  obtain ⟨pre0, pre1, pre2, pre3⟩ := pr_0.open2
  obtain ⟨sf1a, sf1b, sf1c, sf1d⟩ := pr_0.open2
  obtain ⟨sg1a, sg1b⟩ := Box.put2 pr_0 (.int .i64 s)
  go_wp2
  clear pae0 pae1 pae2 pae3 pre0 pre1 pre2 pre3 sf1a sf1b sf1c sf1d sg1a sg1b
  have hB_3 := below_setAll hB_2 (g := w.heap.size + 1) (by omega) [.int .i64 s, .int .i64 t]
  have pa_2 := pa_1.farAll (g' := w.heap.size + 1) (by omega) [.int .i64 s, .int .i64 t]
  have pr_1 := pr_0.setAll [.int .i64 s, .int .i64 t] rfl
  simp only [setAll, Nat.zero_add] at hB_3 pa_2 pr_1
  clear hB_2 pa_1 pr_0
  generalize (World.setCell (World.setCell w2 ⟨w.heap.size + 1, 0, none⟩ (.int .i64 s)) ⟨w.heap.size + 1, 1, none⟩ (.int .i64 t)) = w3 at *
  go_wp2
  obtain ⟨pre0, pre1, pre2, pre3⟩ := pr_1.open2
  exact bodyPost_ret (v := .agg #[.int .i64 s, .int .i64 t]) (by simp [results, Try.results10, go_sem, pre0, pre1]) rfl ⟨rfl, hB_3⟩
theorem Tame_any (a0 a1 : Int) (w : World) : Calls Try.prog 10 #[.agg #[.int .i64 a0, .int .i64 a1]] w fun e w' => e = .returned (.agg #[.int .i64 (tame a0), .int .i64 (tame a1)]) ∧ Below w.heap.size w w' :=
  Tame_w a0 a1 _ _ _ _ rfl rfl rfl rfl w
end Go.Proofs.Ytaedaknkpfeipaa
/- WalkFinds: what the program answers. -/
namespace Go.Proofs.Ytaedaknkpfeipaa
open Go.RowKit Go.MagM
theorem GridIs.off {w : World} {B mb pb pc tb tc g W H bn : Nat} {F : Int → Int → Bool} {Bd : List (Nat × Nat)} {S : List TriM} (h : GridIs w B mb pb pc tb tc g W H bn F Bd S) {k : Nat} (hk : k < B) : MeshIn (fun b => b ≠ k) mb pb (some ⟨tb, 0, none⟩) := by
  refine ⟨by have := h.mesh.low.1; omega, by have := h.pts; omega, fun b hb => ?_⟩
  cases hb
  have := (h.mesh.row.lt tb rfl).1
  omega
theorem meshIn_le {n m mb pb : Nat} {ta : Option Addr} (h : MeshIn (fun b => b < n) mb pb ta) (hn : n ≤ m) : MeshIn (fun b => b < m) mb pb ta :=
  ⟨Nat.lt_of_lt_of_le h.m hn, Nat.lt_of_lt_of_le h.p hn, fun b hb => Nat.lt_of_lt_of_le (h.t b hb) hn⟩
end Go.Proofs.Ytaedaknkpfeipaa
/- One triangle: a point's place in it. Pure. -/
namespace Go.Proofs.Ytaedaknkpfeipaa
open Go.RowKit Go.MagM
theorem bet_of {A B C p : Int × Int} (hD : 0 < crP A B C) (h1 : 0 ≤ crP B C p) (h2 : 0 ≤ crP C A p) (h0 : crP A B p = 0) (hA : A ≠ p) (hB : B ≠ p) : betP p A B = true := by
  have s := bary_1s A B C p
  have e1 := bary_1 A B C p
  have e2 := bary_2 A B C p
  rw [h0, Int.add_zero] at s
  rw [h0, Int.zero_mul, Int.add_zero] at e1 e2
  have f1 : crP B C p * A.1 + crP C A p * B.1 + 0 * A.1 = crP A B C * p.1 := by rw [Int.zero_mul, Int.add_zero]; exact e1
  have f2 : crP B C p * A.2 + crP C A p * B.2 + 0 * A.2 = crP A B C * p.2 := by rw [Int.zero_mul, Int.add_zero]; exact e2
  have s' : crP B C p + crP C A p + 0 = crP A B C := by rw [Int.add_zero]; exact s
  have a1 := part_ge (m := min A.1 B.1) h1 h2 (Int.le_refl 0) hD s' f1 (Int.min_le_left _ _) (Int.min_le_right _ _) (Int.min_le_left _ _)
  have a2 := part_le (m := max A.1 B.1) h1 h2 (Int.le_refl 0) hD s' f1 (Int.le_max_left _ _) (Int.le_max_right _ _) (Int.le_max_left _ _)
  have b1 := part_ge (m := min A.2 B.2) h1 h2 (Int.le_refl 0) hD s' f2 (Int.min_le_left _ _) (Int.min_le_right _ _) (Int.min_le_left _ _)
  have b2 := part_le (m := max A.2 B.2) h1 h2 (Int.le_refl 0) hD s' f2 (Int.le_max_left _ _) (Int.le_max_right _ _) (Int.le_max_left _ _)
  unfold betP onP
  rw [Bool.and_eq_true, decide_eq_true_eq, decide_eq_true_eq]
  exact ⟨⟨fun e => hA (Prod.ext e.1.symm e.2.symm), fun e => hB (Prod.ext e.1.symm e.2.symm)⟩, ⟨h0, a1, a2⟩, b1, b2⟩
theorem corner_of {A B C p : Int × Int} (hD : 0 < crP A B C) (h0 : crP A B p = 0) (h1 : crP B C p = 0) : B = p := by
  have s := bary_1s A B C p
  have e1 := bary_1 A B C p
  have e2 := bary_2 A B C p
  rw [h0, h1] at s e1 e2
  simp only [Int.zero_mul, Int.add_zero, Int.zero_add] at s e1 e2
  rw [s] at e1 e2
  exact Prod.ext (Int.eq_of_mul_eq_mul_left (by omega) e1) (Int.eq_of_mul_eq_mul_left (by omega) e2)
theorem crP_apart {A B C : Int × Int} (hD : 0 < crP A B C) : A ≠ B ∧ B ≠ C ∧ C ≠ A := by
  refine ⟨?_, ?_, ?_⟩
  · rintro rfl; unfold crP crs at hD; grind
  · rintro rfl; unfold crP crs at hD; grind
  · rintro rfl; unfold crP crs at hD; grind
/-- A point that one triangle holds. -/
theorem one_in {P : List (Int × Int)} {T : TriM} {p : Int × Int} {t : Nat} (hr : realT T = true) (hD : 0 < crP (ptT P T 0) (ptT P T 1) (ptT P T 2)) (hh : holdsT P T p = true) : okIn P p (rsT P p rs0 T) T (withinT P T t p) = true := by
  obtain ⟨n01, n12, n20⟩ := crP_apart hD
  have hc := holdsT_iff.1 hh
  have g0 : 0 ≤ crP (ptT P T 1) (ptT P T 2) p := hc 0 (by omega)
  have g1 : 0 ≤ crP (ptT P T 2) (ptT P T 0) p := hc 1 (by omega)
  have g2 : 0 ≤ crP (ptT P T 0) (ptT P T 1) p := hc 2 (by omega)
  have hr' := of_decide_eq_true hr
  have r0 : 0 ≤ T.v 0 := hr'.1
  have r1 : 0 ≤ T.v 1 := hr'.2.1
  have r2 : 0 ≤ T.v 2 := hr'.2.2
  have m01 : T.v 0 ≠ T.v 1 := fun e => n01 (by unfold ptT; rw [e])
  have m12 : T.v 1 ≠ T.v 2 := fun e => n12 (by unfold ptT; rw [e])
  have m20 : T.v 2 ≠ T.v 0 := fun e => n20 (by unfold ptT; rw [e])
  have hat : (rsT P p rs0 T).at_ = if ptT P T 0 = p then T.v 0 else if ptT P T 2 = p then T.v 2 else if ptT P T 1 = p then T.v 1 else -1 := rfl
  have he0 : (rsT P p rs0 T).e0 = if onE P p T 2 = true then min (T.v 0) (T.v 1) else if onE P p T 1 = true then min (T.v 2) (T.v 0) else if onE P p T 0 = true then min (T.v 1) (T.v 2) else 0 := rfl
  have he1 : (rsT P p rs0 T).e1 = if onE P p T 2 = true then max (T.v 0) (T.v 1) else if onE P p T 1 = true then max (T.v 2) (T.v 0) else if onE P p T 0 = true then max (T.v 1) (T.v 2) else 0 := rfl
  have hin : (rsT P p rs0 T).ins = true := by show (false || holdsT P T p) = true; rw [hh]; rfl
  unfold okIn
  rw [hin, hr, hat, he0, he1]
  have hs : ∀ v : Int, v = T.v 0 ∨ v = T.v 1 ∨ v = T.v 2 → hasT T v = true := by
    intro v hv
    unfold hasT
    rcases hv with rfl | rfl | rfl
    · rw [show T.v 0 = T.v0 from rfl]; simp
    · rw [show T.v 1 = T.v1 from rfl]; simp
    · rw [show T.v 2 = T.v2 from rfl]; simp
  by_cases c0 : ptT P T 0 = p
  · rw [if_pos c0, if_pos r0, withinT_pt (k := 0) (by omega) c0 (fun j hj => by omega), hs _ (.inl rfl)]
    simp
  by_cases c1 : ptT P T 1 = p
  · have c2 : ptT P T 2 ≠ p := fun e => n12 (c1.trans e.symm)
    rw [if_neg c0, if_neg c2, if_pos c1, if_pos r1, withinT_pt (k := 1) (by omega) c1 (fun j hj => by obtain rfl : j = 0 := by omega
                                                                                                      exact c0), hs _ (.inr (.inl rfl))]
    simp
  by_cases c2 : ptT P T 2 = p
  · rw [if_neg c0, if_pos c2, if_pos r2, withinT_pt (k := 2) (by omega) c2 (fun j hj => by
      obtain rfl | rfl : j = 0 ∨ j = 1 := by omega
      · exact c0
      · exact c1), hs _ (.inr (.inr rfl))]
    simp
  rw [if_neg c0, if_neg c2, if_neg c1, if_neg (by omega)]
  have hall : ∀ j, j < 3 → ptA P (T.v j).toNat ≠ p := by
    intro j hj
    obtain rfl | rfl | rfl : j = 0 ∨ j = 1 ∨ j = 2 := by omega
    · exact c0
    · exact c1
    · exact c2
  have z0 : sideT P T 0 p = 0 ↔ crP (ptT P T 1) (ptT P T 2) p = 0 := by rw [sideT_is]; exact sign_zero
  have z1 : sideT P T 1 p = 0 ↔ crP (ptT P T 2) (ptT P T 0) p = 0 := by rw [sideT_is]; exact sign_zero
  have z2 : sideT P T 2 p = 0 ↔ crP (ptT P T 0) (ptT P T 1) p = 0 := by rw [sideT_is]; exact sign_zero
  have hD1 : 0 < crP (ptT P T 1) (ptT P T 2) (ptT P T 0) := by rw [crP_cyc]; exact hD
  have hD2 : 0 < crP (ptT P T 2) (ptT P T 0) (ptT P T 1) := by rw [crP_cyc, crP_cyc]; exact hD
  have off : ∀ i, sideT P T i p ≠ 0 → onE P p T i = false := fun i hi => by unfold onE; rw [decide_eq_false hi]; rfl
  by_cases e0 : sideT P T 0 p = 0
  · have k0 := z0.1 e0
    have k1 : sideT P T 1 p ≠ 0 := fun e => c2 (corner_of hD1 k0 (z1.1 e))
    have k2 : sideT P T 2 p ≠ 0 := fun e => c1 (corner_of hD (z2.1 e) k0)
    have on : onE P p T 0 = true := by unfold onE; rw [decide_eq_true e0, Bool.true_and]; exact bet_of hD1 g1 g2 k0 c1 c2
    rw [off 2 k2, off 1 k1, on]
    simp only [Bool.false_eq_true, if_false, if_true]
    rw [if_pos (by omega), withinT_edge (k := 0) (by omega) hall e0 (fun j hj => by omega)]
    have x1 : hasT T (min (T.v 1) (T.v 2)) = true := hs _ (by omega)
    have x2 : hasT T (max (T.v 1) (T.v 2)) = true := hs _ (by omega)
    rw [x1, x2]
    simp
  · by_cases e1 : sideT P T 1 p = 0
    · have k1 := z1.1 e1
      have k2 : sideT P T 2 p ≠ 0 := fun e => c0 (corner_of hD2 k1 (z2.1 e))
      have on : onE P p T 1 = true := by unfold onE; rw [decide_eq_true e1, Bool.true_and]; exact bet_of hD2 g2 g0 k1 c2 c0
      rw [off 2 k2, off 0 e0, on]
      simp only [Bool.false_eq_true, if_false, if_true]
      rw [if_pos (by omega), withinT_edge (k := 1) (by omega) hall e1 (fun j hj => by obtain rfl : j = 0 := by omega
                                                                                      exact e0)]
      have x1 : hasT T (min (T.v 2) (T.v 0)) = true := hs _ (by omega)
      have x2 : hasT T (max (T.v 2) (T.v 0)) = true := hs _ (by omega)
      rw [x1, x2]
      simp
    · by_cases e2 : sideT P T 2 p = 0
      · have on : onE P p T 2 = true := by unfold onE; rw [decide_eq_true e2, Bool.true_and]; exact bet_of hD g0 g1 (z2.1 e2) c0 c1
        rw [on]
        simp only [if_true]
        rw [if_pos (by omega), withinT_edge (k := 2) (by omega) hall e2 (fun j hj => by
          obtain rfl | rfl : j = 0 ∨ j = 1 := by omega
          · exact e0
          · exact e1)]
        have x1 : hasT T (min (T.v 0) (T.v 1)) = true := hs _ (by omega)
        have x2 : hasT T (max (T.v 0) (T.v 1)) = true := hs _ (by omega)
        rw [x1, x2]
        simp
      · rw [off 2 e2, off 1 e1, off 0 e0]
        simp only [Bool.false_eq_true, if_false]
        rw [if_neg (by simp), withinT_in hall (fun j hj => by
          obtain rfl | rfl | rfl : j = 0 ∨ j = 1 ∨ j = 2 := by omega
          · exact e0
          · exact e1
          · exact e2)]
        have q0 : 0 < sideT P T 0 p := by rw [sideT_is, sign_gt]; have := fun h => e0 (z0.2 h); show 0 < crP (ptT P T 1) (ptT P T 2) p; omega
        have q1 : 0 < sideT P T 1 p := by rw [sideT_is, sign_gt]; have := fun h => e1 (z1.2 h); show 0 < crP (ptT P T 2) (ptT P T 0) p; omega
        have q2 : 0 < sideT P T 2 p := by rw [sideT_is, sign_gt]; have := fun h => e2 (z2.2 h); show 0 < crP (ptT P T 0) (ptT P T 1) p; omega
        rw [decide_eq_true q0, decide_eq_true q1, decide_eq_true q2]
        simp
section
variable (a b c : Nat)
theorem one_reals : realsK (newM (a : Int) b c) (newM (a : Int) b c).length = [(0, ⟨(a : Int), b, c, 1, 2, 3, false, false, false⟩)] := by
  show realsK (newM (a : Int) b c) 4 = _
  have g : ∀ x y : Int, ∀ n0 n1 n2, realT ⟨x, y, -1, n0, n1, n2, false, false, false⟩ = false := fun x y n0 n1 n2 => by unfold realT; exact decide_eq_false (by simp)
  rw [realsK_no (k := 3) rfl (g _ _ _ _ _), realsK_no (k := 2) rfl (g _ _ _ _ _), realsK_no (k := 1) rfl (g _ _ _ _ _), realsK_yes (k := 0) rfl (by unfold realT; exact decide_eq_true ⟨by simp only []; omega, by simp only []; omega, by simp only []; omega⟩)]
  rfl
/-- Look's answer is right in a mesh of one triangle. -/
theorem one_right {P : List (Int × Int)} (hD : 0 < crP (ptA P a) (ptA P b) (ptA P c)) (p : Int × Int) : RightIs P (newM (a : Int) b c) p (lookM P (newM (a : Int) b c) p) := by
  obtain ⟨T, hT⟩ : ∃ T : TriM, (⟨(a : Int), b, c, 1, 2, 3, false, false, false⟩ : TriM) = T := ⟨_, rfl⟩
  have hS0 : (newM (a : Int) b c)[0]? = some T := by rw [← hT]; rfl
  have hr : realT T = true := by rw [← hT]; unfold realT; exact decide_eq_true ⟨by simp only []; omega, by simp only []; omega, by simp only []; omega⟩
  have hDT : 0 < crP (ptT P T 0) (ptT P T 1) (ptT P T 2) := by rw [← hT]; exact hD
  have hrs : rsL P p (realsK (newM (a : Int) b c) (newM (a : Int) b c).length) = rsT P p rs0 T := by rw [one_reals, hT]; rfl
  cases hh : holdsT P T p with
  | true =>
    rw [look_held hS0 (by rw [hr, hh]; rfl) (fun j hj => by omega)]
    obtain ⟨n1, -, -⟩ := within_no P T 0 p
    exact ⟨0, T, hS0, n1, .inl (by rw [hrs]; exact one_in hr hDT hh)⟩
  | false =>
    have hno : ∀ j, j < (newM (a : Int) b c).length → heldAt P (newM (a : Int) b c) p j = false := by
      intro j hj
      have hj4 : j < 4 := hj
      unfold heldAt
      obtain rfl | rfl | rfl | rfl : j = 0 ∨ j = 1 ∨ j = 2 ∨ j = 3 := by omega
      · rw [hS0]; simp only [hr, hh]; rfl
      all_goals (simp only [newM, List.getElem?_cons_succ, List.getElem?_cons_zero]; unfold realT; simp)
    rw [look_out hno]
    obtain ⟨i, hi, hs⟩ := holdsT_no hh
    have face : ∀ (k : Nat) (U : TriM), (newM (a : Int) b c)[k]? = some U → U.v2 = -1 → 0 ≤ U.v0 → 0 ≤ U.v1 → (facesT P U p = true ↔ 0 < crP (ptT P U 0) (ptT P U 1) p) ∧ placeT U (-1) = 2 := by
      intro k U hU e2 e0 e1
      have hp : placeT U (-1) = 2 := by unfold placeT; rw [if_neg (by omega), if_neg (by omega), if_pos e2.symm]
      refine ⟨?_, hp⟩
      unfold facesT
      rw [hp, Bool.and_eq_true, decide_eq_true_eq, decide_eq_true_eq, show (2 : Int).toNat = 2 from rfl, sideT_is, sign_gt]
      exact ⟨fun h => h.2, fun h => ⟨by omega, h⟩⟩
    obtain ⟨U1, hU1⟩ : ∃ U : TriM, (newM (a : Int) b c)[1]? = some U := ⟨_, rfl⟩
    obtain ⟨U2, hU2⟩ : ∃ U : TriM, (newM (a : Int) b c)[2]? = some U := ⟨_, rfl⟩
    obtain ⟨U3, hU3⟩ : ∃ U : TriM, (newM (a : Int) b c)[3]? = some U := ⟨_, rfl⟩
    have d1 : U1 = ⟨(c : Int), b, -1, 3, 2, 0, false, false, false⟩ := Option.some.inj (hU1.symm.trans rfl)
    have d2 : U2 = ⟨(a : Int), c, -1, 1, 3, 0, false, false, false⟩ := Option.some.inj (hU2.symm.trans rfl)
    have d3 : U3 = ⟨(b : Int), a, -1, 2, 1, 0, false, false, false⟩ := Option.some.inj (hU3.symm.trans rfl)
    have f1 := face 1 U1 hU1 (by rw [d1]) (by rw [d1]; simp only []; omega) (by rw [d1]; simp only []; omega)
    have f2 := face 2 U2 hU2 (by rw [d2]) (by rw [d2]; simp only []; omega) (by rw [d2]; simp only []; omega)
    have f3 := face 3 U3 hU3 (by rw [d3]) (by rw [d3]; simp only []; omega) (by rw [d3]; simp only []; omega)
    have c1 : crP (ptT P U1 0) (ptT P U1 1) p = -crP (ptA P b) (ptA P c) p := by rw [d1]; exact crP_swap _ _ _
    have c2 : crP (ptT P U2 0) (ptT P U2 1) p = -crP (ptA P c) (ptA P a) p := by rw [d2]; exact crP_swap _ _ _
    have c3 : crP (ptT P U3 0) (ptT P U3 1) p = -crP (ptA P a) (ptA P b) p := by rw [d3]; exact crP_swap _ _ _
    have hex : ∃ k, k < (newM (a : Int) b c).length ∧ faceAt P (newM (a : Int) b c) p k = true := by
      rw [← hT] at hs
      obtain rfl | rfl | rfl : i = 0 ∨ i = 1 ∨ i = 2 := by omega
      · have hs' : crP (ptA P b) (ptA P c) p < 0 := hs
        exact ⟨1, by show 1 < 4; omega, by unfold faceAt; rw [hU1]; exact f1.1.2 (by rw [c1]; omega)⟩
      · have hs' : crP (ptA P c) (ptA P a) p < 0 := hs
        exact ⟨2, by show 2 < 4; omega, by unfold faceAt; rw [hU2]; exact f2.1.2 (by rw [c2]; omega)⟩
      · have hs' : crP (ptA P a) (ptA P b) p < 0 := hs
        exact ⟨3, by show 3 < 4; omega, by unfold faceAt; rw [hU3]; exact f3.1.2 (by rw [c3]; omega)⟩
    obtain ⟨k, hk, hf⟩ := hex
    cases hff : firstN (faceAt P (newM (a : Int) b c) p) (newM (a : Int) b c).length with
    | none => exact absurd hff (firstN_some.firstN_ex hf hk)
    | some u =>
      obtain ⟨u1, u2, -⟩ := firstN_some hff
      have u4 : u < 4 := u1
      obtain ⟨U, hU⟩ : ∃ U, (newM (a : Int) b c)[u]? = some U := ⟨_, List.getElem?_eq_getElem u1⟩
      unfold faceAt at u2
      rw [hU] at u2
      simp only [] at u2
      have hcl : U.v2 = -1 ∧ 0 ≤ U.v0 ∧ 0 ≤ U.v1 := by
        obtain rfl | rfl | rfl | rfl : u = 0 ∨ u = 1 ∨ u = 2 ∨ u = 3 := by omega
        · exfalso
          rw [hS0] at hU
          cases hU
          rw [← hT] at u2
          unfold facesT placeT at u2
          rw [if_neg (by simp only []; omega), if_neg (by simp only []; omega), if_neg (by simp only []; omega)] at u2
          simp at u2
        · rw [hU1] at hU; cases hU; rw [d1]; exact ⟨rfl, by simp only []; omega, by simp only []; omega⟩
        · rw [hU2] at hU; cases hU; rw [d2]; exact ⟨rfl, by simp only []; omega, by simp only []; omega⟩
        · rw [hU3] at hU; cases hU; rw [d3]; exact ⟨rfl, by simp only []; omega, by simp only []; omega⟩
      obtain ⟨v2, v0, v1⟩ := hcl
      have fU := face u U hU v2 v0 v1
      refine ⟨u, U, hU, rfl, .inr ⟨?_, ?_, rfl, 2, by omega, v2, v0, v1, ?_⟩⟩
      · rw [hrs]; show (false || holdsT P T p) = false; rw [hh]; rfl
      · unfold realT; exact decide_eq_false (by omega)
      · rw [sideT_is, sign_gt]; exact fU.1.1 u2
end
end Go.Proofs.Ytaedaknkpfeipaa
