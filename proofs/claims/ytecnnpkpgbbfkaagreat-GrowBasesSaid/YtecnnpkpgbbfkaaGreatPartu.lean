/- Rows of right Spots, slices of them. Over any program. -/
import Derived.Test.YtecnnpkpgbbfkaaGreatPartk
import Derived.Test.YtecnnpkpgbbfkaaGreatPartt
import Derived.Test.YtecnnpkpgbbfkaaGreatPartp
import Derived.Test.YtecnnpkpgbbfkaaGreatParti
namespace Go.MagM
open Go.RowKit
/-- Cells that are Spots, six each. -/
def SrR (w : World) (L : Nat) (xs : List Value) (l : List (Rat × Rat)) : Prop :=
 (∀ u ∈ xs, u.oneCell' = true) ∧ (∀ u ∈ xs, NoWord u) ∧ xs.length = l.length * 6 ∧
 ∀ i x y, l[i]? = some (x, y) → ∃ m so sn sc tp tn tc m' so' sn' sc' tp' tn' tc', xs[i * 6]? = some (.bool m) ∧ xs[i * 6 + 1]? = some (.slice so sn sc) ∧ xs[i * 6 + 2]? = some (.slice tp tn tc) ∧
  xs[i * 6 + 3]? = some (.bool m') ∧ xs[i * 6 + 4]? = some (.slice so' sn' sc') ∧ xs[i * 6 + 5]? = some (.slice tp' tn' tc') ∧ RF w (.agg #[.bool m, .slice so sn sc, .slice tp tn tc]) L x ∧ RF w (.agg #[.bool m', .slice so' sn' sc', .slice tp' tn' tc']) L y
theorem SrR.kept {w w' : World} {L : Nat} {xs : List Value} {l : List (Rat × Rat)} (h : SrR w L xs l) (hk : Kept w w') : SrR w' L xs l :=
 ⟨h.1, h.2.1, h.2.2.1, fun i x y hi => by
  obtain ⟨m, so, sn, sc, tp, tn, tc, m', so', sn', sc', tp', tn', tc', h1, h2, h3, h4, h5, h6, h7, h8⟩ := h.2.2.2 i x y hi
  exact ⟨m, so, sn, sc, tp, tn, tc, m', so', sn', sc', tp', tn', tc', h1, h2, h3, h4, h5, h6, h7.kept hk, h8.kept hk⟩⟩
theorem SrR.below {w w' : World} {L : Nat} {xs : List Value} {l : List (Rat × Rat)} (h : SrR w L xs l) (hb : Below w.heap.size w w') : SrR w' L xs l := h.kept (Kept.below hb)
theorem SrR.drew {w : World} {L : Nat} {xs : List Value} {l : List (Rat × Rat)} (h : SrR w L xs l) : SrR w.drew L xs l := h
theorem SrR.nil (w : World) (L : Nat) : SrR w L [] [] := ⟨by simp, by simp, rfl, fun i x y hi => by simp at hi⟩
theorem SrR.one {w : World} {L : Nat} {m : Bool} {so : Option Addr} {sn sc : Nat} {tp : Option Addr} {tn tc : Nat} {m' : Bool} {so' : Option Addr} {sn' sc' : Nat} {tp' : Option Addr} {tn' tc' : Nat} {x y : Rat}
  (hx : RF w (.agg #[.bool m, .slice so sn sc, .slice tp tn tc]) L x) (hy : RF w (.agg #[.bool m', .slice so' sn' sc', .slice tp' tn' tc']) L y) : SrR w L [.bool m, .slice so sn sc, .slice tp tn tc, .bool m', .slice so' sn' sc', .slice tp' tn' tc'] [(x, y)] := by
 refine ⟨?_, noWord6 _ _ _ _ _ _ _ _ _ _ _ _ _ _, rfl, fun i a b hi => ?_⟩
 ·intro u hu; simp at hu; rcases hu with rfl | rfl | rfl | rfl | rfl | rfl <;> rfl
 ·have hi' := (List.getElem?_eq_some_iff.1 hi).1
  obtain rfl : i = 0 := by simpa using hi'
  simp at hi
  obtain ⟨rfl, rfl⟩ := hi
  exact ⟨_, _, _, _, _, _, _, _, _, _, _, _, _, _, rfl, rfl, rfl, rfl, rfl, rfl, hx, hy⟩
theorem SrR.append {w : World} {L : Nat} {xs ys : List Value} {l k : List (Rat × Rat)} (h : SrR w L xs l) (h' : SrR w L ys k) : SrR w L (xs ++ ys) (l ++ k) := by
 refine ⟨?_, ?_, ?_, fun i x y hi => ?_⟩
 ·intro u hu; rw [List.mem_append] at hu; rcases hu with hu | hu
  ·exact h.1 u hu
  ·exact h'.1 u hu
 ·intro u hu; rw [List.mem_append] at hu; rcases hu with hu | hu
  ·exact h.2.1 u hu
  ·exact h'.2.1 u hu
 ·rw [List.length_append, List.length_append, h.2.2.1, h'.2.2.1, Nat.add_mul]
 ·by_cases hlt : i < l.length
  ·rw [List.getElem?_append_left hlt] at hi
   have hl := h.2.2.1
   obtain ⟨m, so, sn, sc, tp, tn, tc, m', so', sn', sc', tp', tn', tc', h1, h2, h3, h4, h5, h6, h7⟩ := h.2.2.2 i x y hi
   refine ⟨m, so, sn, sc, tp, tn, tc, m', so', sn', sc', tp', tn', tc', ?_, ?_, ?_, ?_, ?_, ?_, h7⟩ <;> rw [List.getElem?_append_left (by omega)] <;> assumption
  ·rw [List.getElem?_append_right (by omega)] at hi
   have hl := h.2.2.1
   obtain ⟨m, so, sn, sc, tp, tn, tc, m', so', sn', sc', tp', tn', tc', h1, h2, h3, h4, h5, h6, h7⟩ := h'.2.2.2 _ x y hi
   refine ⟨m, so, sn, sc, tp, tn, tc, m', so', sn', sc', tp', tn', tc', ?_, ?_, ?_, ?_, ?_, ?_, h7⟩
   ·rw [List.getElem?_append_right (by omega), show i * 6 - xs.length = (i - l.length) * 6 by omega]; exact h1
   ·rw [List.getElem?_append_right (by omega), show i * 6 + 1 - xs.length = (i - l.length) * 6 + 1 by omega]; exact h2
   ·rw [List.getElem?_append_right (by omega), show i * 6 + 2 - xs.length = (i - l.length) * 6 + 2 by omega]; exact h3
   ·rw [List.getElem?_append_right (by omega), show i * 6 + 3 - xs.length = (i - l.length) * 6 + 3 by omega]; exact h4
   ·rw [List.getElem?_append_right (by omega), show i * 6 + 4 - xs.length = (i - l.length) * 6 + 4 by omega]; exact h5
   ·rw [List.getElem?_append_right (by omega), show i * 6 + 5 - xs.length = (i - l.length) * 6 + 5 by omega]; exact h6
/-- One of them, where it lies. -/
theorem SrR.at {w : World} {base : Nat} {e : TypeId} {v : Value} {n L : Nat} {xs : List Value} {l : List (Rat × Rat)} (h : SrR w L xs l) (hr : RowN w base e 6 v n xs) {i : Nat} {x y : Rat} (hi : l[i]? = some (x, y)) :
  ∃ g c m so sn sc tp tn tc m' so' sn' sc' tp' tn' tc', v = .slice (some ⟨g, 0, none⟩) n c ∧ At6 w g (i * 6) (.bool m) (.slice so sn sc) (.slice tp tn tc) (.bool m') (.slice so' sn' sc') (.slice tp' tn' tc') ∧
   RF w (.agg #[.bool m, .slice so sn sc, .slice tp tn tc]) L x ∧ RF w (.agg #[.bool m', .slice so' sn' sc', .slice tp' tn' tc']) L y := by
 obtain ⟨m, so, sn, sc, tp, tn, tc, m', so', sn', sc', tp', tn', tc', h1, h2, h3, h4, h5, h6, h7, h8⟩ := h.2.2.2 i x y hi
 have hl := (List.getElem?_eq_some_iff.1 h1).1
 rcases hr.2 with ⟨rfl, rfl⟩ | ⟨g, cap, cur, rfl, _⟩
 ·have := hr.1; omega
 ·exact ⟨g, cap, m, so, sn, sc, tp, tn, tc, m', so', sn', sc', tp', tn', tc', rfl, ⟨hr.cells rfl _ _ h1, hr.cells rfl _ _ h2, hr.cells rfl _ _ h3, hr.cells rfl _ _ h4, hr.cells rfl _ _ h5, hr.cells rfl _ _ h6⟩, h7, h8⟩
theorem SrR.more {w : World} {L L' : Nat} {xs : List Value} {l : List (Rat × Rat)} (h : SrR w L xs l) (hL : L ≤ L') : SrR w L' xs l :=
 ⟨h.1, h.2.1, h.2.2.1, fun i x y hi => by
  obtain ⟨m, so, sn, sc, tp, tn, tc, m', so', sn', sc', tp', tn', tc', h1, h2, h3, h4, h5, h6, h7, h8⟩ := h.2.2.2 i x y hi
  exact ⟨m, so, sn, sc, tp, tn, tc, m', so', sn', sc', tp', tn', tc', h1, h2, h3, h4, h5, h6, h7.more hL, h8.more hL⟩⟩
/-- The slice at ao holds right points; each coordinate has at most L words. -/
def SpotsR (w : World) (ao : Option Addr) (L : Nat) (l : List (Rat × Rat)) : Prop :=
 ∀ i x y, l[i]? = some (x, y) → ∃ b o m so sn sc tp tn tc m' so' sn' sc' tp' tn' tc', ao = some ⟨b, o, none⟩ ∧ At6 w b (o + i * 6) (.bool m) (.slice so sn sc) (.slice tp tn tc) (.bool m') (.slice so' sn' sc') (.slice tp' tn' tc') ∧
  RF w (.agg #[.bool m, .slice so sn sc, .slice tp tn tc]) L x ∧ RF w (.agg #[.bool m', .slice so' sn' sc', .slice tp' tn' tc']) L y
theorem SpotsR.below {w w' : World} {ao : Option Addr} {L : Nat} {l : List (Rat × Rat)} (h : SpotsR w ao L l) (hb : Below w.heap.size w w') : SpotsR w' ao L l := by
 intro i x y hi
 obtain ⟨b, o, m, so, sn, sc, tp, tn, tc, m', so', sn', sc', tp', tn', tc', h0, h1, h7, h8⟩ := h i x y hi
 exact ⟨b, o, m, so, sn, sc, tp, tn, tc, m', so', sn', sc', tp', tn', tc', h0, h1.below hb, h7.below hb, h8.below hb⟩
theorem SpotsR.drew {w : World} {ao : Option Addr} {L : Nat} {l : List (Rat × Rat)} (h : SpotsR w ao L l) : SpotsR w.drew ao L l := h.below (Below.refl _ _).drew'
theorem SpotsR.nil (w : World) (ao : Option Addr) (L : Nat) : SpotsR w ao L [] := fun i x y hi => by simp at hi
theorem SpotsR.more {w : World} {ao : Option Addr} {L L' : Nat} {l : List (Rat × Rat)} (h : SpotsR w ao L l) (hL : L ≤ L') : SpotsR w ao L' l := by
 intro i x y hi
 obtain ⟨b, o, m, so, sn, sc, tp, tn, tc, m', so', sn', sc', tp', tn', tc', h0, h1, h7, h8⟩ := h i x y hi
 exact ⟨b, o, m, so, sn, sc, tp, tn, tc, m', so', sn', sc', tp', tn', tc', h0, h1, h7.more hL, h8.more hL⟩
/-- Smaller numbers have fewer words. -/
theorem SpotsR.short {w : World} {ao : Option Addr} {L : Nat} {l : List (Rat × Rat)} (h : SpotsR w ao L l) {K : Nat} (hs : ∀ (i : Nat) (x y : Rat), l[i]? = some (x, y) → (x.num.natAbs < B ^ K ∧ x.den < B ^ K) ∧ (y.num.natAbs < B ^ K ∧ y.den < B ^ K)) : SpotsR w ao K l := by
 intro i x y hi
 obtain ⟨b, o, m, so, sn, sc, tp, tn, tc, m', so', sn', sc', tp', tn', tc', h0, h1, h7, h8⟩ := h i x y hi
 obtain ⟨⟨s1, s2⟩, s3, s4⟩ := hs i x y hi
 exact ⟨b, o, m, so, sn, sc, tp, tn, tc, m', so', sn', sc', tp', tn', tc', h0, h1, h7.short s1 s2, h8.short s3 s4⟩
/-- A call's answer is a slice of right points. -/
def AnsL (w w' : World) (e : Ending) (L : Nat) (l : List (Rat × Rat)) : Prop := ∃ ao c, e = .returned (.slice ao l.length c) ∧ SpotsR w' ao L l ∧ (∀ a, ao = some a → w.heap.size ≤ a.block) ∧ Below w.heap.size w w'
theorem AnsL.of {w w' : World} {e : Ending} {L L' : Nat} {l l' : List (Rat × Rat)} (h : AnsL w w' e L l) (hl : l = l') (hs : ∀ ao, SpotsR w' ao L l → SpotsR w' ao L' l) : AnsL w w' e L' l' := by
 subst hl; obtain ⟨ao, c, h1, h2, h3, h4⟩ := h; exact ⟨ao, c, h1, hs ao h2, h3, h4⟩
/-- The same, its length named. -/
def AnsM (w w' : World) (e : Ending) (L n : Nat) (l : List (Rat × Rat)) : Prop := ∃ ao c, e = .returned (.slice ao n c) ∧ SpotsR w' ao L l ∧ (∀ a, ao = some a → w.heap.size ≤ a.block) ∧ Below w.heap.size w w'
theorem AnsL.m {w w' : World} {e : Ending} {L n : Nat} {l : List (Rat × Rat)} (h : AnsL w w' e L l) (hl : l.length = n) : AnsM w w' e L n l := by subst hl; exact h
/-- Three cells hold these values. -/
structure At3 (w : World) (b o : Nat) (v0 v1 v2 : Value) : Prop where
 c0 : w.cell? ⟨b, o, none⟩ = some v0
 c1 : w.cell? ⟨b, o + 1, none⟩ = some v1
 c2 : w.cell? ⟨b, o + 2, none⟩ = some v2
theorem At3.below {w w' : World} {b o : Nat} {v0 v1 v2 : Value} (h : At3 w b o v0 v1 v2) (hb : Below w.heap.size w w') : At3 w' b o v0 v1 v2 := by
 have hlt := World.block_lt_of_cell? w _ h.c0
 exact ⟨(hb.cell (p := ⟨b, o, none⟩) hlt).trans h.c0, (hb.cell (p := ⟨b, o + 1, none⟩) hlt).trans h.c1, (hb.cell (p := ⟨b, o + 2, none⟩) hlt).trans h.c2⟩
theorem At3.drew {w : World} {b o : Nat} {v0 v1 v2 : Value} (h : At3 w b o v0 v1 v2) : At3 w.drew b o v0 v1 v2 := ⟨h.c0, h.c1, h.c2⟩
theorem At3.grown {w w' : World} {b o : Nat} {v0 v1 v2 : Value} {row : Option Nat} (h : At3 w b o v0 v1 v2) (hg : w.grownBy w' row) (hne : row ≠ some b) : At3 w' b o v0 v1 v2 := by
 have hl := World.block_lt_of_cell? w _ h.c0
 have e := hg.block b hl (fun k => hne k.symm)
 exact ⟨(World.cell?_of_block (a := ⟨b, o, none⟩) e).trans h.c0, (World.cell?_of_block (a := ⟨b, o + 1, none⟩) e).trans h.c1, (World.cell?_of_block (a := ⟨b, o + 2, none⟩) e).trans h.c2⟩
theorem At3.farFrom {b o : Nat} {v0 v1 v2 : Value} {g' : Nat} (hne : b ≠ g') : ∀ (xs : List Value) (i : Nat) {w : World}, At3 w b o v0 v1 v2 → At3 (Go.MagM.setAll w g' i xs) b o v0 v1 v2
 | [], _, _, h => h
 | x :: xs, i, w, h => by
  have e : ∀ j, (w.setCell ⟨g', i, none⟩ x).cell? ⟨b, j, none⟩ = w.cell? ⟨b, j, none⟩ := fun j => World.cell?_setCell_other _ _ _ _ (by intro k; injection k with h1; first | exact hne h1 | exact hne h1.symm)
  exact At3.farFrom hne xs (i + 1) ⟨(e _).trans h.c0, (e _).trans h.c1, (e _).trans h.c2⟩
theorem At3.farAll {w : World} {b o : Nat} {v0 v1 v2 : Value} (h : At3 w b o v0 v1 v2) {g' : Nat} (hne : b ≠ g') (xs : List Value) : At3 (Go.MagM.setAll w g' 0 xs) b o v0 v1 v2 := At3.farFrom hne xs 0 h
/-- One of a row's Fracs, where it lies. -/
theorem Fr.at {w : World} {base : Nat} {e : TypeId} {v : Value} {n L : Nat} {xs : List Value} {l : List Rat} (h : Fr w L xs l) (hr : RowN w base e 3 v n xs) {i : Nat} {q : Rat} (hi : l[i]? = some q) :
  ∃ g c m so sn sc tp tn tc, v = .slice (some ⟨g, 0, none⟩) n c ∧ At3 w g (i * 3) (.bool m) (.slice so sn sc) (.slice tp tn tc) ∧ RF w (.agg #[.bool m, .slice so sn sc, .slice tp tn tc]) L q := by
 obtain ⟨m, so, sn, sc, tp, tn, tc, h1, h2, h3, h4⟩ := h i q hi
 have hl := (List.getElem?_eq_some_iff.1 h1).1
 rcases hr.2 with ⟨rfl, rfl⟩ | ⟨g, cap, cur, rfl, _⟩
 ·have := hr.1; omega
 ·exact ⟨g, cap, m, so, sn, sc, tp, tn, tc, rfl, ⟨hr.cells rfl _ _ h1, hr.cells rfl _ _ h2, hr.cells rfl _ _ h3⟩, h4⟩
section
variable {P : Program}
end
end Go.MagM
/- The statements' own tame, flat, turned; calls on polygons of small half-planes. -/
namespace Go.Proofs.YtecnnpkpgbbfkaaGreat
open Go.RowKit Go.MagM
theorem Sml.seven {q : Rat} (h : Sml q) : q.num.natAbs < B ^ 7 ∧ q.den < B ^ 7 := by
  have : B ^ 1 ≤ B ^ 7 := Nat.pow_le_pow_right B_pos (by omega)
  rw [Nat.pow_one] at this
  exact ⟨by have := h.1; omega, by have := h.2; omega⟩
end Go.Proofs.YtecnnpkpgbbfkaaGreat
/- The calls of clip: Cell. -/
namespace Go.Proofs.YtecnnpkpgbbfkaaGreat
open Go.RowKit Go.MagM
end Go.Proofs.YtecnnpkpgbbfkaaGreat
namespace Go.MagM
open Go.RowKit
theorem take_at {l : List (Rat × Rat)} {k : Nat} {p : Rat × Rat} (h : l[k]? = some p) : l.take (k + 1) = l.take k ++ [p] := by
 rw [List.take_succ_eq_append_getElem (List.getElem?_eq_some_iff.1 h).1, (List.getElem?_eq_some_iff.1 h).2]
/-- The cells of a slice of right Spots, as a row. -/
theorem SpotsR.cells {w : World} {g o L : Nat} {l : List (Rat × Rat)} (h : SpotsR w (some ⟨g, o, none⟩) L l) : ∀ k, k ≤ l.length → ∃ xs, SrR w L xs (l.take k) ∧ ∀ j u, xs[j]? = some u → w.cell? ⟨g, o + j, none⟩ = some u
 | 0, _ => ⟨[], SrR.nil _ _, fun j u hu => by simp at hu⟩
 | k + 1, hk => by
  obtain ⟨xs, h1, h2⟩ := SpotsR.cells h k (by omega)
  obtain ⟨⟨x, y⟩, hlk⟩ : ∃ p, l[k]? = some p := ⟨_, List.getElem?_eq_getElem (by omega)⟩
  obtain ⟨b, o', m1x, o1x, n1x, c1x, p1x, k1x, d1x, m1y, o1y, n1y, c1y, p1y, k1y, d1y, hao, dd, hx, hy⟩ := h k x y hlk
  simp at hao
  obtain ⟨rfl, rfl⟩ := hao
  refine ⟨xs ++ [.bool m1x, .slice o1x n1x c1x, .slice p1x k1x d1x, .bool m1y, .slice o1y n1y c1y, .slice p1y k1y d1y], by rw [take_at hlk]; exact h1.append (SrR.one hx hy), fun j u hu => ?_⟩
  have hl := h1.2.2.1
  rw [List.length_take, Nat.min_eq_left (by omega)] at hl
  by_cases hj : j < xs.length
  ·rw [List.getElem?_append_left hj] at hu; exact h2 j u hu
  ·rw [List.getElem?_append_right (by omega)] at hu
   have hj6 := (List.getElem?_eq_some_iff.1 hu).1
   simp at hj6
   obtain ⟨r, hr⟩ : ∃ r, j = xs.length + r := ⟨j - xs.length, by omega⟩
   subst hr
   rw [Nat.add_sub_cancel_left] at hu
   have hr6 : r < 6 := by omega
   rw [hl]
   obtain rfl | rfl | rfl | rfl | rfl | rfl : r = 0 ∨ r = 1 ∨ r = 2 ∨ r = 3 ∨ r = 4 ∨ r = 5 := by omega
   ·simp at hu; subst hu; exact dd.c0
   ·simp at hu; subst hu; exact dd.c1
   ·simp at hu; subst hu; exact dd.c2
   ·simp at hu; subst hu; exact dd.c3
   ·simp at hu; subst hu; exact dd.c4
   ·simp at hu; subst hu; exact dd.c5
/-- The slice at ao holds these points. -/
def PtsAt (w : World) (ao : Option Addr) (l : List (Int × Int)) : Prop :=
 ∀ i x y, l[i]? = some (x, y) → ∃ b o, ao = some ⟨b, o, none⟩ ∧ w.cell? ⟨b, o + i * 2, none⟩ = some (.int .i64 x) ∧ w.cell? ⟨b, o + i * 2 + 1, none⟩ = some (.int .i64 y)
theorem PtsAt.below {w w' : World} {ao : Option Addr} {l : List (Int × Int)} (h : PtsAt w ao l) (hb : Below w.heap.size w w') : PtsAt w' ao l := by
 intro i x y hi
 obtain ⟨b, o, h0, h1, h2⟩ := h i x y hi
 have hlt := World.block_lt_of_cell? w _ h1
 exact ⟨b, o, h0, (hb.cell (p := ⟨b, o + i * 2, none⟩) hlt).trans h1, (hb.cell (p := ⟨b, o + i * 2 + 1, none⟩) hlt).trans h2⟩
end Go.MagM
namespace Go.Proofs.YtecnnpkpgbbfkaaGreat
open Go.RowKit Go.MagM
end Go.Proofs.YtecnnpkpgbbfkaaGreat
