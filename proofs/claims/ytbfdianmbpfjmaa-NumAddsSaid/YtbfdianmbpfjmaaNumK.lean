/- Numbers with a sign: what a value is; boxes of two values. Over any program. -/
import Derived.Test.YtbfdianmbpfjmaaKit
namespace Go.RowKit
theorem Below.drewN' {M : Nat} {w w' : World} (h : Below M w w') (n : Nat) : Below M w (w'.drewN n) := ⟨h.os, h.tape, h.output, h.size, h.block⟩
theorem Below.drew' {M : Nat} {w w' : World} (h : Below M w w') : Below M w w'.drew := ⟨h.os, h.tape, h.output, h.size, h.block⟩
end Go.RowKit
namespace Go.MagM
open Go.RowKit
/-- The number of a sign and a magnitude. -/
def sgn (m : Bool) (N : Nat) : Int := if m then -(N : Int) else (N : Int)
/-- WHAT A NUM IS: a sign and a slice of at most L words, which together are X. -/
def Num (w : World) (v : Value) (L : Nat) (X : Int) : Prop := ∃ m vm N, v = .agg #[.bool m, vm] ∧ Mag w vm L N ∧ X = sgn m N
/-- The same, and it is right. -/
def RNum (w : World) (v : Value) (L : Nat) (X : Int) : Prop := ∃ m vm N, v = .agg #[.bool m, vm] ∧ RMag w vm L N ∧ X = sgn m N ∧ (m = true → N ≠ 0)
theorem Num.below {w w' : World} {v : Value} {L : Nat} {X : Int} (h : Num w v L X) (hb : Below w.heap.size w w') : Num w' v L X := by
  obtain ⟨m, vm, N, h1, h2, h3⟩ := h; exact ⟨m, vm, N, h1, h2.below hb, h3⟩
theorem RNum.below {w w' : World} {v : Value} {L : Nat} {X : Int} (h : RNum w v L X) (hb : Below w.heap.size w w') : RNum w' v L X := by
  obtain ⟨m, vm, N, h1, h2, h3, h4⟩ := h; exact ⟨m, vm, N, h1, h2.below hb, h3, h4⟩
theorem RNum.num {w : World} {v : Value} {L : Nat} {X : Int} (h : RNum w v L X) : Num w v L X := by
  obtain ⟨m, vm, N, h1, h2, h3, h4⟩ := h; exact ⟨m, vm, N, h1, h2.mag, h3⟩
theorem Num.more {w : World} {v : Value} {L L' : Nat} {X : Int} (h : Num w v L X) (hL : L ≤ L') : Num w v L' X := by
  obtain ⟨m, vm, N, h1, h2, h3⟩ := h; exact ⟨m, vm, N, h1, h2.more hL, h3⟩
theorem RNum.more {w : World} {v : Value} {L L' : Nat} {X : Int} (h : RNum w v L X) (hL : L ≤ L') : RNum w v L' X := by
  obtain ⟨m, vm, N, h1, h2, h3, h4⟩ := h; exact ⟨m, vm, N, h1, h2.more hL, h3, h4⟩
theorem RNum.of {w : World} {v : Value} {L : Nat} {X Y : Int} (h : RNum w v L X) (e : X = Y) : RNum w v L Y := e ▸ h
/-- Block g is a box of two values, which may be written. -/
structure Box2 (w : World) (g : Nat) (u v : Value) : Prop where
  c0 : w.cell? ⟨g, 0, none⟩ = some u
  c1 : w.cell? ⟨g, 1, none⟩ = some v
  f0 : w.frozen? ⟨g, 0, none⟩ = false
  f1 : w.frozen? ⟨g, 1, none⟩ = false
theorem Box2.below {w w' : World} {g : Nat} {u v : Value} (h : Box2 w g u v) (hb : Below w.heap.size w w') : Box2 w' g u v := by
  have h0 := World.block_lt_of_cell? w _ h.c0
  exact ⟨(hb.cell (p := ⟨g, 0, none⟩) h0).trans h.c0, (hb.cell (p := ⟨g, 1, none⟩) h0).trans h.c1, (hb.frozen (p := ⟨g, 0, none⟩) h0).trans h.f0, (hb.frozen (p := ⟨g, 1, none⟩) h0).trans h.f1⟩
theorem Box2.set0 {w : World} {g : Nat} {u v : Value} (h : Box2 w g u v) (x : Value) : Box2 (w.setCell ⟨g, 0, none⟩ x) g x v :=
  ⟨World.cell?_setCell_same _ _ _ h.c0, (World.cell?_setCell_other _ _ _ _ (by simp)).trans h.c1, (World.frozen?_setCell _ _ _ _).trans h.f0, (World.frozen?_setCell _ _ _ _).trans h.f1⟩
theorem Box2.set1 {w : World} {g : Nat} {u v : Value} (h : Box2 w g u v) (x : Value) : Box2 (w.setCell ⟨g, 1, none⟩ x) g u x :=
  ⟨(World.cell?_setCell_other _ _ _ _ (by simp)).trans h.c0, World.cell?_setCell_same _ _ _ h.c1, (World.frozen?_setCell _ _ _ _).trans h.f0, (World.frozen?_setCell _ _ _ _).trans h.f1⟩
theorem Box2.far {w : World} {g g' : Nat} {u v : Value} (h : Box2 w g u v) (hne : g ≠ g') (o : Nat) (x : Value) : Box2 (w.setCell ⟨g', o, none⟩ x) g u v := by
  have ne : ∀ i j, (⟨g', i, none⟩ : Addr) ≠ ⟨g, j, none⟩ := by intro i j e; injection e with e1; exact hne e1.symm
  have ne' : ∀ i j, (⟨g, i, none⟩ : Addr) ≠ ⟨g', j, none⟩ := by intro i j e; injection e with e1; exact hne e1
  refine ⟨?_, ?_, (World.frozen?_setCell _ _ _ _).trans h.f0, (World.frozen?_setCell _ _ _ _).trans h.f1⟩
  · rw [World.cell?_setCell_other _ _ _ _ (by first | exact ne _ _ | exact ne' _ _)]; exact h.c0
  · rw [World.cell?_setCell_other _ _ _ _ (by first | exact ne _ _ | exact ne' _ _)]; exact h.c1
theorem Box2.drewN {w : World} {g : Nat} {u v : Value} (h : Box2 w g u v) (n : Nat) : Box2 (w.drewN n) g u v := ⟨h.c0, h.c1, h.f0, h.f1⟩
theorem Box2.drew {w : World} {g : Nat} {u v : Value} (h : Box2 w g u v) : Box2 w.drew g u v := ⟨h.c0, h.c1, h.f0, h.f1⟩
theorem Mag.drew {w : World} {v : Value} {L N : Nat} (h : Mag w v L N) : Mag w.drew v L N := h
theorem alloc_box (w : World) (u v : Value) (T : TypeId) : Box2 (w.alloc (.cells #[u, v] T)) w.heap.size u v := by
  constructor <;> simp [go_sem]
theorem Box2.alloc {w : World} {g : Nat} {u v : Value} (h : Box2 w g u v) (o : Obj) : Box2 (w.alloc o) g u v := h.below ((Below.refl _ _).alloc (Nat.le_refl _) _)
theorem alloc_size (w : World) (o : Obj) : (w.alloc o).heap.size = w.heap.size + 1 := by simp
theorem boxed1 (w : World) (u0 u1 : Value) (T : TypeId) : Box2 (w.alloc (.cells #[u0, u1] T)) w.heap.size u0 u1 ∧ Below w.heap.size w (w.alloc (.cells #[u0, u1] T)) :=
  ⟨alloc_box _ _ _ _, (Below.refl _ _).alloc (Nat.le_refl _) _⟩
theorem boxed2 (w : World) (u0 u1 v0 v1 : Value) (T : TypeId) :
    Box2 ((w.alloc (.cells #[u0, u1] T)).alloc (.cells #[v0, v1] T)) w.heap.size u0 u1 ∧ Box2 ((w.alloc (.cells #[u0, u1] T)).alloc (.cells #[v0, v1] T)) (w.heap.size + 1) v0 v1 ∧
      Below w.heap.size w ((w.alloc (.cells #[u0, u1] T)).alloc (.cells #[v0, v1] T)) := by
  have h := alloc_box (w.alloc (.cells #[u0, u1] T)) v0 v1 T
  rw [alloc_size] at h
  exact ⟨(alloc_box _ _ _ _).alloc _, h, ((Below.refl _ _).alloc (Nat.le_refl _) _).alloc (by simp) _⟩
theorem boxed3 (w : World) (u0 u1 v0 v1 x0 x1 : Value) (T : TypeId) :
    Box2 (((w.alloc (.cells #[u0, u1] T)).alloc (.cells #[v0, v1] T)).alloc (.cells #[x0, x1] T)) w.heap.size u0 u1 ∧ Box2 (((w.alloc (.cells #[u0, u1] T)).alloc (.cells #[v0, v1] T)).alloc (.cells #[x0, x1] T)) (w.heap.size + 1) v0 v1 ∧
      Box2 (((w.alloc (.cells #[u0, u1] T)).alloc (.cells #[v0, v1] T)).alloc (.cells #[x0, x1] T)) (w.heap.size + 1 + 1) x0 x1 ∧
      Below w.heap.size w (((w.alloc (.cells #[u0, u1] T)).alloc (.cells #[v0, v1] T)).alloc (.cells #[x0, x1] T)) := by
  obtain ⟨h1, h2, h3⟩ := boxed2 w u0 u1 v0 v1 T
  have h := alloc_box ((w.alloc (.cells #[u0, u1] T)).alloc (.cells #[v0, v1] T)) x0 x1 T
  rw [alloc_size, alloc_size] at h
  exact ⟨h1.alloc _, h2.alloc _, h, h3.alloc (by simp; omega) _⟩
theorem boxed4 (w : World) (u0 u1 v0 v1 x0 x1 y0 y1 : Value) (T : TypeId) :
    Box2 ((((w.alloc (.cells #[u0, u1] T)).alloc (.cells #[v0, v1] T)).alloc (.cells #[x0, x1] T)).alloc (.cells #[y0, y1] T)) w.heap.size u0 u1 ∧ Box2 ((((w.alloc (.cells #[u0, u1] T)).alloc (.cells #[v0, v1] T)).alloc (.cells #[x0, x1] T)).alloc (.cells #[y0, y1] T)) (w.heap.size + 1) v0 v1 ∧
      Box2 ((((w.alloc (.cells #[u0, u1] T)).alloc (.cells #[v0, v1] T)).alloc (.cells #[x0, x1] T)).alloc (.cells #[y0, y1] T)) (w.heap.size + 1 + 1) x0 x1 ∧
      Box2 ((((w.alloc (.cells #[u0, u1] T)).alloc (.cells #[v0, v1] T)).alloc (.cells #[x0, x1] T)).alloc (.cells #[y0, y1] T)) (w.heap.size + 1 + 1 + 1) y0 y1 ∧
      Below w.heap.size w ((((w.alloc (.cells #[u0, u1] T)).alloc (.cells #[v0, v1] T)).alloc (.cells #[x0, x1] T)).alloc (.cells #[y0, y1] T)) := by
  obtain ⟨h1, h2, h3, h4⟩ := boxed3 w u0 u1 v0 v1 x0 x1 T
  have h := alloc_box (((w.alloc (.cells #[u0, u1] T)).alloc (.cells #[v0, v1] T)).alloc (.cells #[x0, x1] T)) y0 y1 T
  rw [alloc_size, alloc_size, alloc_size] at h
  exact ⟨h1.alloc _, h2.alloc _, h3.alloc _, h, h4.alloc (by simp; omega) _⟩
theorem Num.drew {w : World} {v : Value} {L : Nat} {X : Int} (h : Num w v L X) : Num w.drew v L X := h
theorem RNum.drew {w : World} {v : Value} {L : Nat} {X : Int} (h : RNum w v L X) : RNum w.drew v L X := h
theorem RMag.drew {w : World} {v : Value} {L N : Nat} (h : RMag w v L N) : RMag w.drew v L N := h
/-- No integer. -/
def NoInt (u : Value) : Prop := ∀ k x, u ≠ .int k x
theorem NoInt.bool (b : Bool) : NoInt (.bool b) := fun _ _ h => by cases h
theorem NoInt.slice (a : Option Addr) (n c : Nat) : NoInt (.slice a n c) := fun _ _ h => by cases h
/-- Words stay where something else is written. -/
theorem Reads.setCell {w : World} {ao : Option Addr} {n : Nat} {f : Nat → Nat} (hr : Reads w ao n f) {a : Addr} {u : Value} (hc : w.cell? a = some u) (hu : NoInt u) (v : Value) : Reads (w.setCell a v) ao n f := by
  intro i hi
  obtain ⟨b, o, e, h1, h2⟩ := hr i hi
  refine ⟨b, o, e, ?_, h2⟩
  have ne : a ≠ ⟨b, o + i, none⟩ := by
    intro h; rw [h, h1] at hc
    exact hu _ _ (Option.some.inj hc).symm
  rw [World.cell?_setCell_other _ _ _ _ (by first | exact ne | exact ne.symm)]; exact h1
theorem Mag.setCell {w : World} {v : Value} {L N : Nat} (h : Mag w v L N) {a : Addr} {u : Value} (hc : w.cell? a = some u) (hu : NoInt u) (x : Value) : Mag (w.setCell a x) v L N := by
  obtain ⟨ao, n, c, f, h1, h2, h3, h4, h5⟩ := h; exact ⟨ao, n, c, f, h1, h2, h3, h4.setCell hc hu x, h5⟩
theorem RMag.setCell {w : World} {v : Value} {L N : Nat} (h : RMag w v L N) {a : Addr} {u : Value} (hc : w.cell? a = some u) (hu : NoInt u) (x : Value) : RMag (w.setCell a x) v L N := by
  obtain ⟨ao, n, c, f, h1, h2, h3, h4, h5⟩ := h; exact ⟨ao, n, c, f, h1, h2, h3, h4.setCell hc hu x, h5⟩
theorem Num.setCell {w : World} {v : Value} {L : Nat} {N : Int} (h : Num w v L N) {a : Addr} {u : Value} (hc : w.cell? a = some u) (hu : NoInt u) (x : Value) : Num (w.setCell a x) v L N := by
  obtain ⟨m, vm, M, h1, h2, h3⟩ := h; exact ⟨m, vm, M, h1, h2.setCell hc hu x, h3⟩
theorem RNum.setCell {w : World} {v : Value} {L : Nat} {N : Int} (h : RNum w v L N) {a : Addr} {u : Value} (hc : w.cell? a = some u) (hu : NoInt u) (x : Value) : RNum (w.setCell a x) v L N := by
  obtain ⟨m, vm, M, h1, h2, h3⟩ := h; exact ⟨m, vm, M, h1, h2.setCell hc hu x, h3⟩
/-- A box is written whole. -/
theorem RNum.set2 {w : World} {v : Value} {L : Nat} {N : Int} (h : RNum w v L N) {g : Nat} {b : Bool} {ao : Option Addr} {n c : Nat} (hb : Box2 w g (.bool b) (.slice ao n c)) (x y : Value) :
    RNum ((w.setCell ⟨g, 0, none⟩ x).setCell ⟨g, 1, none⟩ y) v L N :=
  (h.setCell hb.c0 (NoInt.bool _) x).setCell (hb.set0 x).c1 (NoInt.slice _ _ _) y
theorem Num.set2 {w : World} {v : Value} {L : Nat} {N : Int} (h : Num w v L N) {g : Nat} {b : Bool} {ao : Option Addr} {n c : Nat} (hb : Box2 w g (.bool b) (.slice ao n c)) (x y : Value) :
    Num ((w.setCell ⟨g, 0, none⟩ x).setCell ⟨g, 1, none⟩ y) v L N :=
  (h.setCell hb.c0 (NoInt.bool _) x).setCell (hb.set0 x).c1 (NoInt.slice _ _ _) y
theorem Mag.set2 {w : World} {v : Value} {L N : Nat} (h : Mag w v L N) {g : Nat} {b : Bool} {ao : Option Addr} {n c : Nat} (hb : Box2 w g (.bool b) (.slice ao n c)) (x y : Value) :
    Mag ((w.setCell ⟨g, 0, none⟩ x).setCell ⟨g, 1, none⟩ y) v L N :=
  (h.setCell hb.c0 (NoInt.bool _) x).setCell (hb.set0 x).c1 (NoInt.slice _ _ _) y
theorem Mag.slice {w : World} {v : Value} {L N : Nat} (h : Mag w v L N) : ∃ ao n c, v = .slice ao n c := by
  obtain ⟨ao, n, c, f, h1, _⟩ := h; exact ⟨ao, n, c, h1⟩
theorem RMag.slice {w : World} {v : Value} {L N : Nat} (h : RMag w v L N) : ∃ ao n c, v = .slice ao n c := h.mag.slice
theorem Box2.set2 {w : World} {g : Nat} {u v : Value} (h : Box2 w g u v) (x y : Value) : Box2 ((w.setCell ⟨g, 0, none⟩ x).setCell ⟨g, 1, none⟩ y) g x y := (h.set0 x).set1 y
theorem Box2.far2 {w : World} {g g' : Nat} {u v : Value} (h : Box2 w g u v) (hne : g ≠ g') (x y : Value) : Box2 ((w.setCell ⟨g', 0, none⟩ x).setCell ⟨g', 1, none⟩ y) g u v := (h.far hne 0 x).far hne 1 y
theorem below_set2 {M : Nat} {w w' : World} (h : Below M w w') {g : Nat} (hg : M ≤ g) (x y : Value) : Below M w ((w'.setCell ⟨g, 0, none⟩ x).setCell ⟨g, 1, none⟩ y) := (h.setCell (p := ⟨g, 0, none⟩) hg x).setCell (p := ⟨g, 1, none⟩) hg y
theorem sgn_neg (m : Bool) (N : Nat) : sgn (!m) N = -sgn m N := by cases m <;> simp [sgn]
theorem sgn_mul (m k : Bool) (N M : Nat) : sgn (m != k) (N * M) = sgn m N * sgn k M := by
  cases m <;> cases k <;> simp [sgn, Int.natCast_mul, Int.neg_mul, Int.mul_neg]
theorem sgn_add (m : Bool) (N M : Nat) : sgn m (N + M) = sgn m N + sgn m M := by
  cases m <;> simp only [sgn, if_true, if_false, Bool.false_eq_true] <;> omega
theorem sgn_sub (m : Bool) (N M : Nat) (h : M ≤ N) : sgn m (N - M) = sgn m N + sgn (!m) M := by
  cases m <;> simp only [sgn, if_true, if_false, Bool.false_eq_true, Bool.not_true, Bool.not_false] <;> omega
theorem sgn_flip (m : Bool) (N M : Nat) (h : N ≤ M) : sgn (!m) (M - N) = sgn m N + sgn (!m) M := by
  cases m <;> simp only [sgn, if_true, if_false, Bool.false_eq_true, Bool.not_true, Bool.not_false] <;> omega
theorem sgn_abs (m : Bool) (N : Nat) : (N : Int) = ((sgn m N).natAbs : Int) := by cases m <;> simp [sgn]
theorem sgn_false (N : Nat) : sgn false N = (N : Int) := rfl
theorem sgn_true (N : Nat) : sgn true N = -(N : Int) := rfl
end Go.MagM
