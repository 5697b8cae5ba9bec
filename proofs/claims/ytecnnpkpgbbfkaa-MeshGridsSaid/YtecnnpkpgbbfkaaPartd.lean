/- Bits moved up and down. -/
import Derived.Test.YtecnnpkpgbbfkaaPartc
import Derived.Lib.TrailingZeros
import Derived.Lib.Tables
import Derived.Handy
import Derived.StillTailTactics
import Derived.BigRegion
import Derived.Test.YtecnnpkpgbbfkaaKit
namespace Go.Proofs.Ytecnnpkpgbbfkaa
open Go.RowKit Go.MagM
theorem up_lt (x : Nat) {y n : Nat} (hy : y < B) (h : n ≤ 64) : x * 2 ^ n % B + y * 2 ^ n / B < B := by
  have h1 := shl_div_lt (n := n) hy
  rw [shl_mod x n h]
  have h2 : x % 2 ^ (64 - n) + 1 ≤ 2 ^ (64 - n) := Nat.mod_lt _ (Nat.pow_pos (by omega))
  have h3 := Nat.mul_le_mul_left (2 ^ n) h2
  rw [Nat.mul_add, Nat.mul_comm (2 ^ n) (2 ^ (64 - n)), ← B_pow n h] at h3
  omega
end Go.Proofs.Ytecnnpkpgbbfkaa
/- Plain mathematics of one division of two words by one, half a word of the quotient at a time. No program. -/
namespace Go.MagM
/-- Half a word. -/
def H : Nat := 4294967296
/-- What holds of a guess of a quotient's half: un H + u1 by y = y1 H + y0. -/
structure Half (y1 y0 un u1 q1 rh : Nat) : Prop where
 b0 : y0 < H
 b1 : u1 < H
 b2 : y1 < H
 lt : un < y1 * H + y0
 sum : q1 * y1 + rh = un
 ge : (un * H + u1) / (y1 * H + y0) ≤ q1
theorem half_mul (q1 y1 y0 : Nat) : q1 * (y1 * H + y0) = q1 * y1 * H + q1 * y0 := by rw [Nat.mul_add, Nat.mul_assoc]
theorem Half.quot_lt {y1 y0 un u1 q1 rh : Nat} (h : Half y1 y0 un u1 q1 rh) : (un * H + u1) / (y1 * H + y0) < H := by
 apply Nat.div_lt_of_lt_mul
 have h1 := Nat.mul_le_mul_right H (show un + 1 ≤ y1 * H + y0 from h.lt)
 have := h.b1
 rw [Nat.add_mul] at h1; omega
theorem Half.start {y1 y0 un u1 : Nat} (h0 : y0 < H) (h1 : u1 < H) (h2 : y1 < H) (h3 : 0 < y1) (hl : un < y1 * H + y0) : Half y1 y0 un u1 (un / y1) (un % y1) := by
 refine ⟨h0, h1, h2, hl, by have := Nat.div_add_mod un y1; rw [Nat.mul_comm] at this; exact this, ?_⟩
 have e : un / y1 = (un * H + u1) / (y1 * H) := by
  rw [Nat.mul_comm y1 H, ← Nat.div_div_eq_div_mul, Nat.mul_comm un H, Nat.mul_add_div (by unfold H; omega), Nat.div_eq_of_lt h1, Nat.add_zero]
 rw [e]
 exact Nat.div_le_div_left (by omega) (Nat.mul_pos h3 (by unfold H; omega))
theorem Half.next {y1 y0 un u1 q1 rh : Nat} (h : Half y1 y0 un u1 q1 rh) (hc : H ≤ q1 ∨ rh * H + u1 < q1 * y0) : 1 ≤ q1 ∧ Half y1 y0 un u1 (q1 - 1) (rh + y1) := by
 have hq : (un * H + u1) / (y1 * H + y0) < q1 := by
  rcases hc with hc | hc
  ·have := h.quot_lt; omega
  ·have hy : 0 < y1 * H + y0 := by have := h.lt; omega
   rw [Nat.div_lt_iff_lt_mul hy, half_mul]
   have h1 : q1 * y1 * H + rh * H = un * H := by rw [← Nat.add_mul, h.sum]
   omega
 have h1 : 1 ≤ q1 := Nat.lt_of_le_of_lt (Nat.zero_le _) hq
 refine ⟨h1, h.b0, h.b1, h.b2, h.lt, ?_, Nat.le_sub_one_of_lt hq⟩
 have e : (q1 - 1) * y1 + y1 = q1 * y1 := by
  obtain ⟨d, rfl⟩ : ∃ d, q1 = d + 1 := ⟨q1 - 1, by omega⟩
  rw [Nat.add_mul]; simp
 have := h.sum; omega
theorem Half.done {y1 y0 un u1 q1 rh : Nat} (h : Half y1 y0 un u1 q1 rh) (hc : H ≤ rh ∨ (q1 < H ∧ q1 * y0 ≤ rh * H + u1)) : q1 = (un * H + u1) / (y1 * H + y0) := by
 apply Nat.le_antisymm _ h.ge
 have hy : 0 < y1 * H + y0 := by have := h.lt; omega
 rw [Nat.le_div_iff_mul_le hy, half_mul]
 have h1 : q1 * y1 * H + rh * H = un * H := by rw [← Nat.add_mul, h.sum]
 rcases hc with hc | hc
 ·have hq : q1 < H := by
   rcases Nat.lt_or_ge q1 H with a | a
   ·exact a
   ·exfalso
    have h2 := Nat.mul_le_mul_right y1 a
    have h3 := h.sum; have h4 := h.lt; have h5 := h.b0
    rw [Nat.mul_comm H y1] at h2; omega
  have h2 := Nat.mul_le_mul_right H hc
  have h3 := Nat.mul_le_mul (show q1 ≤ H by omega) (show y0 ≤ H by have := h.b0; omega)
  omega
 ·omega
end Go.MagM
/- Plain mathematics of long division: the guess, one word of the quotient, the whole. No program. -/
namespace Go.MagM
/-- What holds of a guess of a quotient's word: un B + u1 by y = y1 B + y0. -/
structure Full (y1 y0 un u1 q1 rh : Nat) : Prop where
 b0 : y0 < B
 b1 : u1 < B
 b2 : y1 < B
 lt : un < y1 * B + y0
 sum : q1 * y1 + rh = un
 ge : (un * B + u1) / (y1 * B + y0) ≤ q1
theorem full_mul (q1 y1 y0 : Nat) : q1 * (y1 * B + y0) = q1 * y1 * B + q1 * y0 := by rw [Nat.mul_add, Nat.mul_assoc]
theorem Full.quot_lt {y1 y0 un u1 q1 rh : Nat} (h : Full y1 y0 un u1 q1 rh) : (un * B + u1) / (y1 * B + y0) < B := by
 apply Nat.div_lt_of_lt_mul
 have h1 := Nat.mul_le_mul_right B (show un + 1 ≤ y1 * B + y0 from h.lt)
 have := h.b1
 rw [Nat.add_mul] at h1; omega
theorem Full.start {y1 y0 un u1 : Nat} (h0 : y0 < B) (h1 : u1 < B) (h2 : y1 < B) (h3 : 0 < y1) (hl : un < y1 * B + y0) : Full y1 y0 un u1 (un / y1) (un % y1) := by
 refine ⟨h0, h1, h2, hl, by have := Nat.div_add_mod un y1; rw [Nat.mul_comm] at this; exact this, ?_⟩
 have e : un / y1 = (un * B + u1) / (y1 * B) := by
  rw [Nat.mul_comm y1 B, ← Nat.div_div_eq_div_mul, Nat.mul_comm un B, Nat.mul_add_div (by unfold B; omega), Nat.div_eq_of_lt h1, Nat.add_zero]
 rw [e]
 exact Nat.div_le_div_left (by omega) (Nat.mul_pos h3 (by unfold B; omega))
theorem Full.next {y1 y0 un u1 q1 rh : Nat} (h : Full y1 y0 un u1 q1 rh) (hc : B ≤ q1 ∨ rh * B + u1 < q1 * y0) : 1 ≤ q1 ∧ Full y1 y0 un u1 (q1 - 1) (rh + y1) := by
 have hq : (un * B + u1) / (y1 * B + y0) < q1 := by
  rcases hc with hc | hc
  ·have := h.quot_lt; omega
  ·have hy : 0 < y1 * B + y0 := by have := h.lt; omega
   rw [Nat.div_lt_iff_lt_mul hy, full_mul]
   have h1 : q1 * y1 * B + rh * B = un * B := by rw [← Nat.add_mul, h.sum]
   omega
 have h1 : 1 ≤ q1 := Nat.lt_of_le_of_lt (Nat.zero_le _) hq
 refine ⟨h1, h.b0, h.b1, h.b2, h.lt, ?_, Nat.le_sub_one_of_lt hq⟩
 have e : (q1 - 1) * y1 + y1 = q1 * y1 := by
  obtain ⟨d, rfl⟩ : ∃ d, q1 = d + 1 := ⟨q1 - 1, by omega⟩
  rw [Nat.add_mul]; simp
 have := h.sum; omega
theorem Full.done {y1 y0 un u1 q1 rh : Nat} (h : Full y1 y0 un u1 q1 rh) (hc : B ≤ rh ∨ (q1 < B ∧ q1 * y0 ≤ rh * B + u1)) : q1 = (un * B + u1) / (y1 * B + y0) := by
 apply Nat.le_antisymm _ h.ge
 have hy : 0 < y1 * B + y0 := by have := h.lt; omega
 rw [Nat.le_div_iff_mul_le hy, full_mul]
 have h1 : q1 * y1 * B + rh * B = un * B := by rw [← Nat.add_mul, h.sum]
 rcases hc with hc | hc
 ·have hq : q1 < B := by
   rcases Nat.lt_or_ge q1 B with a | a
   ·exact a
   ·exfalso
    have h2 := Nat.mul_le_mul_right y1 a
    have h3 := h.sum; have h4 := h.lt; have h5 := h.b0
    rw [Nat.mul_comm B y1] at h2; omega
  have h2 := Nat.mul_le_mul_right B hc
  have h3 := Nat.mul_le_mul (show q1 ≤ B by omega) (show y0 ≤ B by have := h.b0; omega)
  omega
 ·omega
/-- The lowest word, and the others. -/
theorem V_low (f : Nat → Nat) (k m : Nat) : V (fun i => f (k + i)) (m + 1) = f k + B * V (fun i => f (k + 1 + i)) m := by
 have := V_split (fun i => f (k + i)) 1 m
 rw [Nat.add_comm 1 m, V_one, Nat.pow_one] at this
 simp only [Nat.add_zero] at this
 rw [this]; simp only [Nat.add_assoc]
end Go.MagM
/- Numbers with a sign: what a value is; boxes of two values. Over any program. -/
namespace Go.RowKit
theorem Below.drew' {M : Nat} {w w' : World} (h : Below M w w') : Below M w w'.drew := ⟨h.os, h.tape, h.output, h.size, h.block⟩
end Go.RowKit
namespace Go.MagM
open Go.RowKit
/-- The number of a sign and a magnitude. -/
def sgn (m : Bool) (N : Nat) : Int := if m then -(N : Int) else (N : Int)
/-- WHAT A NUM IS: a sign and a slice of at most L words, which together are X. -/
def Num (w : World) (v : Value) (L : Nat) (X : Int) : Prop := ∃ m vm N, v = .agg #[.bool m, vm] ∧ Mag w vm L N ∧ X = sgn m N
/-- The same, and it is right. -/
def RNum (w : World) (v : Value) (L : Nat) (X : Int) : Prop := ∃ m vm N, v = .agg #[.bool m, vm] ∧ RMag w vm L N ∧ X = sgn m N ∧ (m = true → N ≠ 0)
theorem Num.below {w w' : World} {v : Value} {L : Nat} {X : Int} (h : Num w v L X) (hb : Below w.heap.size w w') : Num w' v L X := by
 obtain ⟨m, vm, N, h1, h2, h3⟩ := h; exact ⟨m, vm, N, h1, h2.below hb, h3⟩
theorem RNum.below {w w' : World} {v : Value} {L : Nat} {X : Int} (h : RNum w v L X) (hb : Below w.heap.size w w') : RNum w' v L X := by
 obtain ⟨m, vm, N, h1, h2, h3, h4⟩ := h; exact ⟨m, vm, N, h1, h2.below hb, h3, h4⟩
theorem RNum.num {w : World} {v : Value} {L : Nat} {X : Int} (h : RNum w v L X) : Num w v L X := by
 obtain ⟨m, vm, N, h1, h2, h3, h4⟩ := h; exact ⟨m, vm, N, h1, h2.mag, h3⟩
theorem Num.more {w : World} {v : Value} {L L' : Nat} {X : Int} (h : Num w v L X) (hL : L ≤ L') : Num w v L' X := by
 obtain ⟨m, vm, N, h1, h2, h3⟩ := h; exact ⟨m, vm, N, h1, h2.more hL, h3⟩
theorem RNum.more {w : World} {v : Value} {L L' : Nat} {X : Int} (h : RNum w v L X) (hL : L ≤ L') : RNum w v L' X := by
 obtain ⟨m, vm, N, h1, h2, h3, h4⟩ := h; exact ⟨m, vm, N, h1, h2.more hL, h3, h4⟩
theorem RNum.of {w : World} {v : Value} {L : Nat} {X Y : Int} (h : RNum w v L X) (e : X = Y) : RNum w v L Y := e ▸ h
/-- Block g is a box of two values, which may be written. -/
structure Box2 (w : World) (g : Nat) (u v : Value) : Prop where
 c0 : w.cell? ⟨g, 0, none⟩ = some u
 c1 : w.cell? ⟨g, 1, none⟩ = some v
 f0 : w.frozen? ⟨g, 0, none⟩ = false
 f1 : w.frozen? ⟨g, 1, none⟩ = false
theorem Box2.below {w w' : World} {g : Nat} {u v : Value} (h : Box2 w g u v) (hb : Below w.heap.size w w') : Box2 w' g u v := by
 have h0 := World.block_lt_of_cell? w _ h.c0
 exact ⟨(hb.cell (p := ⟨g, 0, none⟩) h0).trans h.c0, (hb.cell (p := ⟨g, 1, none⟩) h0).trans h.c1, (hb.frozen (p := ⟨g, 0, none⟩) h0).trans h.f0, (hb.frozen (p := ⟨g, 1, none⟩) h0).trans h.f1⟩
theorem Box2.far {w : World} {g g' : Nat} {u v : Value} (h : Box2 w g u v) (hne : g ≠ g') (o : Nat) (x : Value) : Box2 (w.setCell ⟨g', o, none⟩ x) g u v := by
 have ne : ∀ i j, (⟨g', i, none⟩ : Addr) ≠ ⟨g, j, none⟩ := by intro i j e; injection e with e1; exact hne e1.symm
 have ne' : ∀ i j, (⟨g, i, none⟩ : Addr) ≠ ⟨g', j, none⟩ := by intro i j e; injection e with e1; exact hne e1
 refine ⟨?_, ?_, (World.frozen?_setCell _ _ _ _).trans h.f0, (World.frozen?_setCell _ _ _ _).trans h.f1⟩
 ·rw [World.cell?_setCell_other _ _ _ _ (by first | exact ne _ _ | exact ne' _ _)]; exact h.c0
 ·rw [World.cell?_setCell_other _ _ _ _ (by first | exact ne _ _ | exact ne' _ _)]; exact h.c1
theorem Box2.drewN {w : World} {g : Nat} {u v : Value} (h : Box2 w g u v) (n : Nat) : Box2 (w.drewN n) g u v := ⟨h.c0, h.c1, h.f0, h.f1⟩
theorem Box2.drew {w : World} {g : Nat} {u v : Value} (h : Box2 w g u v) : Box2 w.drew g u v := ⟨h.c0, h.c1, h.f0, h.f1⟩
theorem Mag.drew {w : World} {v : Value} {L N : Nat} (h : Mag w v L N) : Mag w.drew v L N := h
theorem Box2.alloc {w : World} {g : Nat} {u v : Value} (h : Box2 w g u v) (o : Obj) : Box2 (w.alloc o) g u v := h.below ((Below.refl _ _).alloc (Nat.le_refl _) _)
theorem Num.drew {w : World} {v : Value} {L : Nat} {X : Int} (h : Num w v L X) : Num w.drew v L X := h
theorem RNum.drew {w : World} {v : Value} {L : Nat} {X : Int} (h : RNum w v L X) : RNum w.drew v L X := h
theorem RMag.drew {w : World} {v : Value} {L N : Nat} (h : RMag w v L N) : RMag w.drew v L N := h
/-- No integer. -/
def NoInt (u : Value) : Prop := ∀ k x, u ≠ .int k x
theorem NoInt.bool (b : Bool) : NoInt (.bool b) := fun _ _ h => by cases h
theorem NoInt.slice (a : Option Addr) (n c : Nat) : NoInt (.slice a n c) := fun _ _ h => by cases h
/-- Words stay where something else is written. -/
theorem Reads.setCell {w : World} {ao : Option Addr} {n : Nat} {f : Nat → Nat} (hr : Reads w ao n f) {a : Addr} {u : Value} (hc : w.cell? a = some u) (hu : NoInt u) (v : Value) : Reads (w.setCell a v) ao n f := by
 intro i hi
 obtain ⟨b, o, e, h1, h2⟩ := hr i hi
 refine ⟨b, o, e, ?_, h2⟩
 have ne : a ≠ ⟨b, o + i, none⟩ := by
  intro h; rw [h, h1] at hc
  exact hu _ _ (Option.some.inj hc).symm
 rw [World.cell?_setCell_other _ _ _ _ (by first | exact ne | exact ne.symm)]; exact h1
theorem Mag.setCell {w : World} {v : Value} {L N : Nat} (h : Mag w v L N) {a : Addr} {u : Value} (hc : w.cell? a = some u) (hu : NoInt u) (x : Value) : Mag (w.setCell a x) v L N := by
 obtain ⟨ao, n, c, f, h1, h2, h3, h4, h5⟩ := h; exact ⟨ao, n, c, f, h1, h2, h3, h4.setCell hc hu x, h5⟩
theorem RMag.setCell {w : World} {v : Value} {L N : Nat} (h : RMag w v L N) {a : Addr} {u : Value} (hc : w.cell? a = some u) (hu : NoInt u) (x : Value) : RMag (w.setCell a x) v L N := by
 obtain ⟨ao, n, c, f, h1, h2, h3, h4, h5⟩ := h; exact ⟨ao, n, c, f, h1, h2, h3, h4.setCell hc hu x, h5⟩
theorem Num.setCell {w : World} {v : Value} {L : Nat} {N : Int} (h : Num w v L N) {a : Addr} {u : Value} (hc : w.cell? a = some u) (hu : NoInt u) (x : Value) : Num (w.setCell a x) v L N := by
 obtain ⟨m, vm, M, h1, h2, h3⟩ := h; exact ⟨m, vm, M, h1, h2.setCell hc hu x, h3⟩
theorem RNum.setCell {w : World} {v : Value} {L : Nat} {N : Int} (h : RNum w v L N) {a : Addr} {u : Value} (hc : w.cell? a = some u) (hu : NoInt u) (x : Value) : RNum (w.setCell a x) v L N := by
 obtain ⟨m, vm, M, h1, h2, h3⟩ := h; exact ⟨m, vm, M, h1, h2.setCell hc hu x, h3⟩
theorem Mag.slice {w : World} {v : Value} {L N : Nat} (h : Mag w v L N) : ∃ ao n c, v = .slice ao n c := by
 obtain ⟨ao, n, c, f, h1, _⟩ := h; exact ⟨ao, n, c, h1⟩
theorem RMag.slice {w : World} {v : Value} {L N : Nat} (h : RMag w v L N) : ∃ ao n c, v = .slice ao n c := h.mag.slice
end Go.MagM
