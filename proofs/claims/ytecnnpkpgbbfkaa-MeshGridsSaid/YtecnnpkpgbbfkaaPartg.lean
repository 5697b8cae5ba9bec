/- From the form of the rows to the walks of layer 2: what an argument reads as. -/
import Derived.Test.YtecnnpkpgbbfkaaRows
import Derived.Test.YtecnnpkpgbbfkaaParte
import Derived.ProofKit
import Derived.ChangeVars
import Derived.JoinedOf
import Derived.RowKitTokens
import Derived.Lib.SmallJoins
import Derived.Test.YtecnnpkpgbbfkaaMath
import Derived.Test.YtecnnpkpgbbfkaaPartd
import Derived.Test.YtecnnpkpgbbfkaaPartc
import Derived.Deep.DeepCutAuto
import Derived.Deep.CutBlock
namespace Go.Proofs.Ytecnnpkpgbbfkaa
open Go.ChangeShapes Go.WideShapes Go.RowKit Go.MagM
theorem own0 : ownKnob Try.prog.godebug = none := by kernel_rfl
theorem laidOut0 : laidOutB Try.prog = true := by kernel_rfl
end Go.Proofs.Ytecnnpkpgbbfkaa
/- Points with whole coordinates: how three turn, the power of a fourth one, what lies on a line: pure. -/
namespace Go.MagM
/-- How three points turn: twice their area. -/
def crs (ax ay bx by' cx cy : Int) : Int := (bx - ax) * (cy - ay) - (by' - ay) * (cx - ax)
/-- The square of a distance. -/
def sqd (ax ay bx by' : Int) : Int := (ax - bx) * (ax - bx) + (ay - by') * (ay - by')
theorem crs_cyc (ax ay bx by' cx cy : Int) : crs bx by' cx cy ax ay = crs ax ay bx by' cx cy := by unfold crs; grind
end Go.MagM
/- Boxes of any number of cells. Over any program. -/
namespace Go.MagM
open Go.RowKit
/-- Block g is a box that holds vs, and may be written. -/
structure Box (w : World) (g : Nat) (vs : List Value) : Prop where
 c : ∀ i v, vs[i]? = some v → w.cell? ⟨g, i, none⟩ = some v
 f : ∀ i v, vs[i]? = some v → w.frozen? ⟨g, i, none⟩ = false
theorem Box.below {w w' : World} {g : Nat} {vs : List Value} (h : Box w g vs) (hb : Below w.heap.size w w') : Box w' g vs :=
 ⟨fun i v hi => (hb.cell (p := ⟨g, i, none⟩) (World.block_lt_of_cell? w _ (h.c i v hi))).trans (h.c i v hi),
  fun i v hi => (hb.frozen (p := ⟨g, i, none⟩) (World.block_lt_of_cell? w _ (h.c i v hi))).trans (h.f i v hi)⟩
theorem Box.drew {w : World} {g : Nat} {vs : List Value} (h : Box w g vs) : Box w.drew g vs := ⟨h.c, h.f⟩
theorem Box.drewN {w : World} {g : Nat} {vs : List Value} (h : Box w g vs) (n : Nat) : Box (w.drewN n) g vs := ⟨h.c, h.f⟩
theorem Box.lt {w : World} {g : Nat} {v : Value} {vs : List Value} (h : Box w g (v :: vs)) : g < w.heap.size := World.block_lt_of_cell? w _ (h.c 0 v rfl)
theorem Box.set {w : World} {g : Nat} {vs : List Value} (h : Box w g vs) (i : Nat) (x : Value) : Box (w.setCell ⟨g, i, none⟩ x) g (vs.set i x) := by
 refine ⟨fun j v hj => ?_, fun j v hj => ?_⟩
 ·rw [List.getElem?_set] at hj
  by_cases e : i = j
  ·subst e
   rw [if_pos rfl] at hj
   split at hj
   ·next hl =>
    simp at hj; subst hj
    exact World.cell?_setCell_same _ _ _ (h.c i _ (List.getElem?_eq_getElem hl))
   ·cases hj
  ·rw [if_neg e] at hj
   have ne : (⟨g, i, none⟩ : Addr) ≠ ⟨g, j, none⟩ := by intro k; injection k with k1 k2; exact e k2
   rw [World.cell?_setCell_other _ _ _ _ (by first | exact ne | exact ne.symm)]; exact h.c j v hj
 ·rw [World.frozen?_setCell]
  rw [List.getElem?_set] at hj
  by_cases e : i = j
  ·subst e
   rw [if_pos rfl] at hj
   split at hj
   ·next hl => exact h.f i _ (List.getElem?_eq_getElem hl)
   ·cases hj
  ·rw [if_neg e] at hj; exact h.f j v hj
theorem Box.far {w : World} {g g' : Nat} {vs : List Value} (h : Box w g vs) (hne : g ≠ g') (i : Nat) (x : Value) : Box (w.setCell ⟨g', i, none⟩ x) g vs := by
 refine ⟨fun j v hj => ?_, fun j v hj => (World.frozen?_setCell _ _ _ _).trans (h.f j v hj)⟩
 have ne : (⟨g', i, none⟩ : Addr) ≠ ⟨g, j, none⟩ := by intro k; injection k with k1; exact hne k1.symm
 rw [World.cell?_setCell_other _ _ _ _ (by first | exact ne | exact ne.symm)]; exact h.c j v hj
theorem box_new (w : World) (vs : List Value) (T : TypeId) : Box (w.alloc (.cells vs.toArray T)) w.heap.size vs := by
 refine ⟨fun i v hi => ?_, fun i v hi => ?_⟩
 ·simp [go_sem, hi]
 ·simp [go_sem]
theorem Box.two {w : World} {g : Nat} {u v : Value} (h : Box w g [u, v]) : Box2 w g u v := ⟨h.c 0 _ rfl, h.c 1 _ rfl, h.f 0 _ rfl, h.f 1 _ rfl⟩
end Go.MagM
/- Boxes of any number of cells, written whole; what stays where a box is written. Over any program. -/
namespace Go.MagM
open Go.RowKit
/-- Cells i, i + 1, .. of block g are written. -/
def setAll (w : World) (g : Nat) : Nat → List Value → World
 | _, [] => w
 | i, x :: xs => setAll (w.setCell ⟨g, i, none⟩ x) g (i + 1) xs
theorem new_box (w : World) (n : Nat) (hn : w.heap.size = n) (vs : List Value) (T : TypeId) :
  ∃ w1, w.alloc (.cells vs.toArray T) = w1 ∧ Box w1 n vs ∧ Below n w w1 ∧ w1.heap.size = n + 1 := by
 subst hn
 exact ⟨_, rfl, box_new w vs T, (Below.refl _ _).alloc (Nat.le_refl _) _, by simp⟩
theorem Box.c0 {w : World} {g : Nat} {u : Value} {l : List Value} (h : Box w g (u :: l)) : w.cell? ⟨g, 0, none⟩ = some u := h.c 0 _ rfl
theorem Box.c1 {w : World} {g : Nat} {u0 u : Value} {l : List Value} (h : Box w g (u0 :: u :: l)) : w.cell? ⟨g, 1, none⟩ = some u := h.c 1 _ rfl
theorem Box.c2 {w : World} {g : Nat} {u0 u1 u : Value} {l : List Value} (h : Box w g (u0 :: u1 :: u :: l)) : w.cell? ⟨g, 2, none⟩ = some u := h.c 2 _ rfl
theorem Box.c3 {w : World} {g : Nat} {u0 u1 u2 u : Value} {l : List Value} (h : Box w g (u0 :: u1 :: u2 :: u :: l)) : w.cell? ⟨g, 3, none⟩ = some u := h.c 3 _ rfl
theorem Box.c4 {w : World} {g : Nat} {u0 u1 u2 u3 u : Value} {l : List Value} (h : Box w g (u0 :: u1 :: u2 :: u3 :: u :: l)) : w.cell? ⟨g, 4, none⟩ = some u := h.c 4 _ rfl
theorem Box.c5 {w : World} {g : Nat} {u0 u1 u2 u3 u4 u : Value} {l : List Value} (h : Box w g (u0 :: u1 :: u2 :: u3 :: u4 :: u :: l)) : w.cell? ⟨g, 5, none⟩ = some u := h.c 5 _ rfl
theorem Box.open1 {w : World} {g : Nat} {u0 : Value} (h : Box w g [u0]) : w.cell? ⟨g, 0, none⟩ = some u0 ∧ w.frozen? ⟨g, 0, none⟩ = false := ⟨h.c 0 _ rfl, h.f 0 _ rfl⟩
theorem Box.open2 {w : World} {g : Nat} {u0 u1 : Value} (h : Box w g [u0, u1]) : w.cell? ⟨g, 0, none⟩ = some u0 ∧ w.cell? ⟨g, 1, none⟩ = some u1 ∧ w.frozen? ⟨g, 0, none⟩ = false ∧ w.frozen? ⟨g, 1, none⟩ = false := ⟨h.c 0 _ rfl, h.c 1 _ rfl, h.f 0 _ rfl, h.f 1 _ rfl⟩
theorem Box.open3 {w : World} {g : Nat} {u0 u1 u2 : Value} (h : Box w g [u0, u1, u2]) : w.cell? ⟨g, 0, none⟩ = some u0 ∧ w.cell? ⟨g, 1, none⟩ = some u1 ∧ w.cell? ⟨g, 2, none⟩ = some u2 ∧ w.frozen? ⟨g, 0, none⟩ = false ∧ w.frozen? ⟨g, 1, none⟩ = false ∧ w.frozen? ⟨g, 2, none⟩ = false :=
 ⟨h.c 0 _ rfl, h.c 1 _ rfl, h.c 2 _ rfl, h.f 0 _ rfl, h.f 1 _ rfl, h.f 2 _ rfl⟩
/-- What a store of two cells wants behind its first one. -/
theorem Box.put2 {w : World} {g : Nat} {u0 u1 : Value} (h : Box w g [u0, u1]) (x0 : Value) : (w.setCell ⟨g, 0, none⟩ x0).cell? ⟨g, 1, none⟩ = some u1 ∧ (w.setCell ⟨g, 0, none⟩ x0).frozen? ⟨g, 1, none⟩ = false :=
 ⟨(h.set 0 x0).c 1 _ rfl, (h.set 0 x0).f 1 _ rfl⟩
theorem Box.setTail {g : Nat} : ∀ (xs : List Value) (pre vs : List Value) (w : World), vs.length = xs.length → Box w g (pre ++ vs) → Box (setAll w g pre.length xs) g (pre ++ xs)
 | [], pre, vs, w, hl, h => by
  have : vs = [] := List.length_eq_zero_iff.1 hl
  subst this; exact h
 | x :: xs, pre, [], w, hl, h => by simp at hl
 | x :: xs, pre, v :: vs, w, hl, h => by
  have e : (pre ++ v :: vs).set pre.length x = (pre ++ [x]) ++ vs := by simp
  have h1 := h.set pre.length x
  rw [e] at h1
  have := Box.setTail xs (pre ++ [x]) vs _ (by simpa using hl) h1
  simpa [setAll] using this
/-- A box is written whole. -/
theorem Box.setAll {w : World} {g : Nat} {vs : List Value} (h : Box w g vs) (xs : List Value) (hl : vs.length = xs.length) : Box (setAll w g 0 xs) g xs := Box.setTail xs [] vs w hl h
theorem Box.farFrom {g g' : Nat} (hne : g ≠ g') : ∀ (xs : List Value) (i : Nat) {w : World} {vs : List Value}, Box w g vs → Box (Go.MagM.setAll w g' i xs) g vs
 | [], _, _, _, h => h
 | x :: xs, i, _, _, h => Box.farFrom hne xs (i + 1) (h.far hne i x)
theorem Box.farAll {w : World} {g : Nat} {vs : List Value} (h : Box w g vs) {g' : Nat} (hne : g ≠ g') (xs : List Value) : Box (Go.MagM.setAll w g' 0 xs) g vs := Box.farFrom hne xs 0 h
theorem below_setFrom {M g : Nat} (hg : M ≤ g) {w : World} : ∀ (xs : List Value) (i : Nat) {w' : World}, Below M w w' → Below M w (setAll w' g i xs)
 | [], _, _, h => h
 | x :: xs, i, _, h => below_setFrom hg xs (i + 1) (h.setCell (p := ⟨g, i, none⟩) hg x)
theorem below_setAll {M : Nat} {w w' : World} (h : Below M w w') {g : Nat} (hg : M ≤ g) (xs : List Value) : Below M w (setAll w' g 0 xs) := below_setFrom hg xs 0 h
/-- No word. -/
def NoWord (u : Value) : Prop := ∀ x, u ≠ .int .u64 x
theorem NoWord.bool (b : Bool) : NoWord (.bool b) := fun _ h => by cases h
theorem NoWord.slice (a : Option Addr) (n c : Nat) : NoWord (.slice a n c) := fun _ h => by cases h
theorem NoWord.int (x : Int) : NoWord (.int .i64 x) := fun _ h => by cases h
theorem Reads.setOne {w : World} {ao : Option Addr} {n : Nat} {f : Nat → Nat} (hr : Reads w ao n f) {a : Addr} {u : Value} (hc : w.cell? a = some u) (hu : NoWord u) (v : Value) : Reads (w.setCell a v) ao n f := by
 intro i hi
 obtain ⟨b, o, e, h1, h2⟩ := hr i hi
 refine ⟨b, o, e, ?_, h2⟩
 have ne : a ≠ ⟨b, o + i, none⟩ := by
  intro h; rw [h, h1] at hc
  exact hu _ (Option.some.inj hc).symm
 rw [World.cell?_setCell_other _ _ _ _ (by first | exact ne | exact ne.symm)]; exact h1
/-- Words stay where a box that holds none is written whole. -/
theorem Reads.setTail {ao : Option Addr} {n g : Nat} {f : Nat → Nat} : ∀ (xs : List Value) (pre vs : List Value) {w : World}, vs.length = xs.length → (∀ u ∈ vs, NoWord u) → Box w g (pre ++ vs) → Reads w ao n f → Reads (Go.MagM.setAll w g pre.length xs) ao n f
 | [], _, _, _, _, _, _, h => h
 | x :: xs, pre, [], _, hl, _, _, _ => by simp at hl
 | x :: xs, pre, v :: vs, w, hl, hv, hb, h => by
  have e : (pre ++ v :: vs).set pre.length x = (pre ++ [x]) ++ vs := by simp
  have h1 := hb.set pre.length x
  rw [e] at h1
  have hc : w.cell? ⟨g, pre.length, none⟩ = some v := hb.c pre.length _ (by simp)
  have := Reads.setTail xs (pre ++ [x]) vs (by simpa using hl) (fun u hu => hv u (by simp [hu])) h1 (h.setOne hc (hv v (by simp)) x)
  simpa [Go.MagM.setAll] using this
theorem Reads.setAll {w : World} {ao : Option Addr} {n g : Nat} {f : Nat → Nat} (h : Reads w ao n f) {vs : List Value} (hb : Box w g vs) (hv : ∀ u ∈ vs, NoWord u) (xs : List Value) (hl : vs.length = xs.length) : Reads (Go.MagM.setAll w g 0 xs) ao n f :=
 Reads.setTail xs [] vs hl hv hb h
theorem Mag.setAll {w : World} {v : Value} {L N g : Nat} (h : Mag w v L N) {vs : List Value} (hb : Box w g vs) (hv : ∀ u ∈ vs, NoWord u) (xs : List Value) (hl : vs.length = xs.length) : Mag (Go.MagM.setAll w g 0 xs) v L N := by
 obtain ⟨ao, n, c, f, h1, h2, h3, h4, h5⟩ := h; exact ⟨ao, n, c, f, h1, h2, h3, h4.setAll hb hv xs hl, h5⟩
theorem RMag.setAll {w : World} {v : Value} {L N g : Nat} (h : RMag w v L N) {vs : List Value} (hb : Box w g vs) (hv : ∀ u ∈ vs, NoWord u) (xs : List Value) (hl : vs.length = xs.length) : RMag (Go.MagM.setAll w g 0 xs) v L N := by
 obtain ⟨ao, n, c, f, h1, h2, h3, h4, h5⟩ := h; exact ⟨ao, n, c, f, h1, h2, h3, h4.setAll hb hv xs hl, h5⟩
theorem Num.setAll {w : World} {v : Value} {L g : Nat} {N : Int} (h : Num w v L N) {vs : List Value} (hb : Box w g vs) (hv : ∀ u ∈ vs, NoWord u) (xs : List Value) (hl : vs.length = xs.length) : Num (Go.MagM.setAll w g 0 xs) v L N := by
 obtain ⟨m, vm, M, h1, h2, h3⟩ := h; exact ⟨m, vm, M, h1, h2.setAll hb hv xs hl, h3⟩
theorem RNum.setAll {w : World} {v : Value} {L g : Nat} {N : Int} (h : RNum w v L N) {vs : List Value} (hb : Box w g vs) (hv : ∀ u ∈ vs, NoWord u) (xs : List Value) (hl : vs.length = xs.length) : RNum (Go.MagM.setAll w g 0 xs) v L N := by
 obtain ⟨m, vm, M, h1, h2, h3⟩ := h; exact ⟨m, vm, M, h1, h2.setAll hb hv xs hl, h3⟩
theorem Mag.setOne {w : World} {v : Value} {L N : Nat} (h : Mag w v L N) {a : Addr} {u : Value} (hc : w.cell? a = some u) (hu : NoWord u) (x : Value) : Mag (w.setCell a x) v L N := by
 obtain ⟨ao, n, c, f, h1, h2, h3, h4, h5⟩ := h; exact ⟨ao, n, c, f, h1, h2, h3, h4.setOne hc hu x, h5⟩
theorem RMag.setOne {w : World} {v : Value} {L N : Nat} (h : RMag w v L N) {a : Addr} {u : Value} (hc : w.cell? a = some u) (hu : NoWord u) (x : Value) : RMag (w.setCell a x) v L N := by
 obtain ⟨ao, n, c, f, h1, h2, h3, h4, h5⟩ := h; exact ⟨ao, n, c, f, h1, h2, h3, h4.setOne hc hu x, h5⟩
theorem Num.setOne {w : World} {v : Value} {L : Nat} {N : Int} (h : Num w v L N) {a : Addr} {u : Value} (hc : w.cell? a = some u) (hu : NoWord u) (x : Value) : Num (w.setCell a x) v L N := by
 obtain ⟨m, vm, M, h1, h2, h3⟩ := h; exact ⟨m, vm, M, h1, h2.setOne hc hu x, h3⟩
theorem RNum.setOne {w : World} {v : Value} {L : Nat} {N : Int} (h : RNum w v L N) {a : Addr} {u : Value} (hc : w.cell? a = some u) (hu : NoWord u) (x : Value) : RNum (w.setCell a x) v L N := by
 obtain ⟨m, vm, M, h1, h2, h3⟩ := h; exact ⟨m, vm, M, h1, h2.setOne hc hu x, h3⟩
theorem Mag.num {w : World} {v : Value} {L N : Nat} (h : Mag w v L N) : Num w (.agg #[.bool false, v]) L (N : Int) := ⟨false, v, N, rfl, h, rfl⟩
/-- A cell holds a word. -/
structure WCell (w : World) (b o x : Nat) : Prop where
 c : w.cell? ⟨b, o, none⟩ = some (.int .u64 ((x : Nat) : Int))
theorem WCell.below {w w' : World} {b o x : Nat} (h : WCell w b o x) (hb : Below w.heap.size w w') : WCell w' b o x :=
 ⟨(hb.cell (p := ⟨b, o, none⟩) (World.block_lt_of_cell? w _ h.c)).trans h.c⟩
theorem WCell.drew {w : World} {b o x : Nat} (h : WCell w b o x) : WCell w.drew b o x := ⟨h.c⟩
theorem WCell.setOne {w : World} {b o x : Nat} (h : WCell w b o x) {a : Addr} {u : Value} (hc : w.cell? a = some u) (hu : NoWord u) (v : Value) : WCell (w.setCell a v) b o x := by
 refine ⟨?_⟩
 have ne : a ≠ ⟨b, o, none⟩ := by
  intro e; rw [e, h.c] at hc
  exact hu _ (Option.some.inj hc).symm
 rw [World.cell?_setCell_other _ _ _ _ (by first | exact ne | exact ne.symm)]; exact h.c
theorem WCell.setTail {g b o y : Nat} : ∀ (xs : List Value) (pre vs : List Value) {w : World}, vs.length = xs.length → (∀ u ∈ vs, NoWord u) → Box w g (pre ++ vs) → WCell w b o y → WCell (Go.MagM.setAll w g pre.length xs) b o y
 | [], _, _, _, _, _, _, h => h
 | x :: xs, pre, [], _, hl, _, _, _ => by simp at hl
 | x :: xs, pre, v :: vs, w, hl, hv, hb, h => by
  have e : (pre ++ v :: vs).set pre.length x = (pre ++ [x]) ++ vs := by simp
  have h1 := hb.set pre.length x
  rw [e] at h1
  have hc : w.cell? ⟨g, pre.length, none⟩ = some v := hb.c pre.length _ (by simp)
  have := WCell.setTail xs (pre ++ [x]) vs (by simpa using hl) (fun u hu => hv u (by simp [hu])) h1 (h.setOne hc (hv v (by simp)) x)
  simpa [Go.MagM.setAll] using this
theorem WCell.setAll {w : World} {b o x g : Nat} (h : WCell w b o x) {vs : List Value} (hb : Box w g vs) (hv : ∀ u ∈ vs, NoWord u) (xs : List Value) (hl : vs.length = xs.length) : WCell (Go.MagM.setAll w g 0 xs) b o x :=
 WCell.setTail xs [] vs hl hv hb h
/-- WHAT A FRAC IS: a number with a sign, and what it is divided by. -/
def FD (w : World) (v : Value) (L : Nat) (X : Int) (D : Nat) : Prop := ∃ m ao n c bo k d, v = .agg #[.bool m, .slice ao n c, .slice bo k d] ∧ Num w (.agg #[.bool m, .slice ao n c]) L X ∧ Mag w (.slice bo k d) L D
/-- The same, and it is right: a rational number. -/
def RF (w : World) (v : Value) (L : Nat) (q : Rat) : Prop := ∃ m ao n c bo k d, v = .agg #[.bool m, .slice ao n c, .slice bo k d] ∧ RNum w (.agg #[.bool m, .slice ao n c]) L q.num ∧ RMag w (.slice bo k d) L q.den
theorem FD.below {w w' : World} {v : Value} {L : Nat} {X : Int} {D : Nat} (h : FD w v L X D) (hb : Below w.heap.size w w') : FD w' v L X D := by
 obtain ⟨m, ao, n, c, bo, k, d, h1, h2, h3⟩ := h; exact ⟨m, ao, n, c, bo, k, d, h1, h2.below hb, h3.below hb⟩
theorem RF.below {w w' : World} {v : Value} {L : Nat} {q : Rat} (h : RF w v L q) (hb : Below w.heap.size w w') : RF w' v L q := by
 obtain ⟨m, ao, n, c, bo, k, d, h1, h2, h3⟩ := h; exact ⟨m, ao, n, c, bo, k, d, h1, h2.below hb, h3.below hb⟩
theorem FD.drew {w : World} {v : Value} {L : Nat} {X : Int} {D : Nat} (h : FD w v L X D) : FD w.drew v L X D := h
theorem RF.drew {w : World} {v : Value} {L : Nat} {q : Rat} (h : RF w v L q) : RF w.drew v L q := h
theorem FD.setOne {w : World} {v : Value} {L : Nat} {X : Int} {D : Nat} (h : FD w v L X D) {a : Addr} {u : Value} (hc : w.cell? a = some u) (hu : NoWord u) (x : Value) : FD (w.setCell a x) v L X D := by
 obtain ⟨m, ao, n, c, bo, k, d, h1, h2, h3⟩ := h; exact ⟨m, ao, n, c, bo, k, d, h1, h2.setOne hc hu x, h3.setOne hc hu x⟩
theorem RF.setOne {w : World} {v : Value} {L : Nat} {q : Rat} (h : RF w v L q) {a : Addr} {u : Value} (hc : w.cell? a = some u) (hu : NoWord u) (x : Value) : RF (w.setCell a x) v L q := by
 obtain ⟨m, ao, n, c, bo, k, d, h1, h2, h3⟩ := h; exact ⟨m, ao, n, c, bo, k, d, h1, h2.setOne hc hu x, h3.setOne hc hu x⟩
theorem FD.setAll {w : World} {v : Value} {L g : Nat} {X : Int} {D : Nat} (h : FD w v L X D) {vs : List Value} (hb : Box w g vs) (hv : ∀ u ∈ vs, NoWord u) (xs : List Value) (hl : vs.length = xs.length) : FD (Go.MagM.setAll w g 0 xs) v L X D := by
 obtain ⟨m, ao, n, c, bo, k, d, h1, h2, h3⟩ := h; exact ⟨m, ao, n, c, bo, k, d, h1, h2.setAll hb hv xs hl, h3.setAll hb hv xs hl⟩
theorem RF.setAll {w : World} {v : Value} {L g : Nat} {q : Rat} (h : RF w v L q) {vs : List Value} (hb : Box w g vs) (hv : ∀ u ∈ vs, NoWord u) (xs : List Value) (hl : vs.length = xs.length) : RF (Go.MagM.setAll w g 0 xs) v L q := by
 obtain ⟨m, ao, n, c, bo, k, d, h1, h2, h3⟩ := h; exact ⟨m, ao, n, c, bo, k, d, h1, h2.setAll hb hv xs hl, h3.setAll hb hv xs hl⟩
theorem FD.more {w : World} {v : Value} {L L' : Nat} {X : Int} {D : Nat} (h : FD w v L X D) (hL : L ≤ L') : FD w v L' X D := by
 obtain ⟨m, ao, n, c, bo, k, d, h1, h2, h3⟩ := h; exact ⟨m, ao, n, c, bo, k, d, h1, h2.more hL, h3.more hL⟩
theorem RF.more {w : World} {v : Value} {L L' : Nat} {q : Rat} (h : RF w v L q) (hL : L ≤ L') : RF w v L' q := by
 obtain ⟨m, ao, n, c, bo, k, d, h1, h2, h3⟩ := h; exact ⟨m, ao, n, c, bo, k, d, h1, h2.more hL, h3.more hL⟩
theorem RF.fd {w : World} {v : Value} {L : Nat} {q : Rat} (h : RF w v L q) : FD w v L q.num q.den := by
 obtain ⟨m, ao, n, c, bo, k, d, h1, h2, h3⟩ := h; exact ⟨m, ao, n, c, bo, k, d, h1, h2.num, h3.mag⟩
theorem RF.of {w : World} {v : Value} {L : Nat} {p q : Rat} (h : RF w v L p) (e : p = q) : RF w v L q := e ▸ h
/-- What a number is divided by: 1, if that is 0. -/
def den1 (D : Nat) : Nat := if D = 0 then 1 else D
theorem den1_of {D : Nat} (h : D ≠ 0) : den1 D = D := if_neg h
/-- The number that a Frac counts. -/
def qv (X : Int) (D : Nat) : Rat := mkRat X (den1 D)
theorem qv_self (q : Rat) : qv q.num q.den = q := by unfold qv; rw [den1_of q.den_nz]; exact Rat.mkRat_self q
/-- What is read as a Frac counts q, right or not. -/
def FQ (w : World) (v : Value) (L : Nat) (q : Rat) : Prop := ∃ X D, FD w v L X D ∧ qv X D = q
theorem FD.q {w : World} {v : Value} {L : Nat} {X : Int} {D : Nat} (h : FD w v L X D) : FQ w v L (qv X D) := ⟨X, D, h, rfl⟩
theorem RF.q {w : World} {v : Value} {L : Nat} {q : Rat} (h : RF w v L q) : FQ w v L q := ⟨_, _, h.fd, qv_self q⟩
theorem FQ.below {w w' : World} {v : Value} {L : Nat} {q : Rat} (h : FQ w v L q) (hb : Below w.heap.size w w') : FQ w' v L q := by
 obtain ⟨X, D, h1, h2⟩ := h; exact ⟨X, D, h1.below hb, h2⟩
theorem FQ.drew {w : World} {v : Value} {L : Nat} {q : Rat} (h : FQ w v L q) : FQ w.drew v L q := h
theorem FQ.more {w : World} {v : Value} {L L' : Nat} {q : Rat} (h : FQ w v L q) (hL : L ≤ L') : FQ w v L' q := by
 obtain ⟨X, D, h1, h2⟩ := h; exact ⟨X, D, h1.more hL, h2⟩
theorem FQ.setOne {w : World} {v : Value} {L : Nat} {q : Rat} (h : FQ w v L q) {a : Addr} {u : Value} (hc : w.cell? a = some u) (hu : NoWord u) (x : Value) : FQ (w.setCell a x) v L q := by
 obtain ⟨X, D, h1, h2⟩ := h; exact ⟨X, D, h1.setOne hc hu x, h2⟩
theorem FQ.setAll {w : World} {v : Value} {L g : Nat} {q : Rat} (h : FQ w v L q) {vs : List Value} (hb : Box w g vs) (hv : ∀ u ∈ vs, NoWord u) (xs : List Value) (hl : vs.length = xs.length) : FQ (Go.MagM.setAll w g 0 xs) v L q := by
 obtain ⟨X, D, h1, h2⟩ := h; exact ⟨X, D, h1.setAll hb hv xs hl, h2⟩
/-- A call's answer is a right Frac of at most L words, q. -/
def AnsF (w w' : World) (e : Ending) (L : Nat) (q : Rat) : Prop := ∃ m ao n c bo k d, e = .returned (.agg #[.bool m, .slice ao n c, .slice bo k d]) ∧ RF w' (.agg #[.bool m, .slice ao n c, .slice bo k d]) L q ∧ Below w.heap.size w w'
theorem AnsF.of {w w' : World} {e : Ending} {L L' : Nat} {p q : Rat} (h : AnsF w w' e L p) (hL : L ≤ L') (he : p = q) : AnsF w w' e L' q := by
 subst he; obtain ⟨m, ao, n, c, bo, k, d, h1, h2, h3⟩ := h; exact ⟨m, ao, n, c, bo, k, d, h1, h2.more hL, h3⟩
theorem FD.num {w : World} {m : Bool} {ao : Option Addr} {n c : Nat} {bo : Option Addr} {k d L D : Nat} {X : Int} (h : FD w (.agg #[.bool m, .slice ao n c, .slice bo k d]) L X D) : Num w (.agg #[.bool m, .slice ao n c]) L X := by
 obtain ⟨_, _, _, _, _, _, _, e, h1, h2⟩ := h
 simp at e
 obtain ⟨rfl, ⟨rfl, rfl, rfl⟩, rfl, rfl, rfl⟩ := e
 exact h1
theorem FD.mag {w : World} {m : Bool} {ao : Option Addr} {n c : Nat} {bo : Option Addr} {k d L D : Nat} {X : Int} (h : FD w (.agg #[.bool m, .slice ao n c, .slice bo k d]) L X D) : Mag w (.slice bo k d) L D := by
 obtain ⟨_, _, _, _, _, _, _, e, h1, h2⟩ := h
 simp at e
 obtain ⟨rfl, ⟨rfl, rfl, rfl⟩, rfl, rfl, rfl⟩ := e
 exact h2
theorem Num.part {w : World} {m : Bool} {vm : Value} {L : Nat} {X : Int} (h : Num w (.agg #[.bool m, vm]) L X) : ∃ N, Mag w vm L N ∧ X = sgn m N := by
 obtain ⟨m', vm', N, e, h1, h2⟩ := h
 simp at e
 obtain ⟨rfl, rfl⟩ := e
 exact ⟨N, h1, h2⟩
theorem RNum.part {w : World} {m : Bool} {vm : Value} {L : Nat} {X : Int} (h : RNum w (.agg #[.bool m, vm]) L X) : ∃ N, RMag w vm L N ∧ X = sgn m N ∧ (m = true → N ≠ 0) := by
 obtain ⟨m', vm', N, e, h1, h2⟩ := h
 simp at e
 obtain ⟨rfl, rfl⟩ := e
 exact ⟨N, h1, h2⟩
theorem FD.make {w : World} (m : Bool) {ao : Option Addr} {n c : Nat} {bo : Option Addr} {k d L N D : Nat} (h : Mag w (.slice ao n c) (max L 1) N) (h2 : Mag w (.slice bo k d) L D) : FD w (.agg #[.bool m, .slice ao n c, .slice bo k d]) (max L 1) (sgn m N) D :=
 ⟨_, _, _, _, _, _, _, rfl, ⟨m, _, N, rfl, h, rfl⟩, h2.more (by omega)⟩
/-- The same, and it is right. -/
def AnsRMag (w w' : World) (e : Ending) (L N : Nat) : Prop := ∃ ao n c, e = .returned (.slice ao n c) ∧ RMag w' (.slice ao n c) L N ∧ Below w.heap.size w w'
theorem AnsRMag.of {w w' : World} {e : Ending} {L N : Nat} (h : ∃ v, e = .returned v ∧ RMag w' v L N ∧ Below w.heap.size w w') : AnsRMag w w' e L N := by
 obtain ⟨v, rfl, h1, h2⟩ := h
 obtain ⟨ao, n, c, rfl⟩ := h1.slice
 exact ⟨ao, n, c, rfl, h1, h2⟩
end Go.MagM
/- Whole numbers of 128 bits: the two words of an integer, and what sums, differences, products of words are. Over any program. -/
namespace Go.MagM
open Go.RowKit
/-- The high word of a whole number, modulo 2 to 128. -/
def wh (z : Int) : Nat := (z / 18446744073709551616 % 18446744073709551616).toNat
/-- The low word. -/
def wl (z : Int) : Nat := (z % 18446744073709551616).toNat
/-- A number of 128 bits. -/
def InW (z : Int) : Prop := -170141183460469231731687303715884105728 ≤ z ∧ z < 170141183460469231731687303715884105728
instance (z : Int) : Decidable (InW z) := by unfold InW; exact inferInstance
theorem wh_lt (z : Int) : wh z < B := by unfold wh B; omega
theorem wl_lt (z : Int) : wl z < B := by unfold wl B; omega
theorem w_mod (z : Int) : ((wh z : Nat) : Int) * 18446744073709551616 + ((wl z : Nat) : Int) = z % 340282366920938463463374607431768211456 := by unfold wh wl; omega
/-- The words of a number are those that make it up, modulo 2 to 128. -/
theorem w_of {z : Int} {h l : Nat} (hh : h < B) (hl : l < B) (k : Int) (e : (h : Int) * 18446744073709551616 + (l : Int) = z + k * 340282366920938463463374607431768211456) : h = wh z ∧ l = wl z := by
 have := w_mod z; have h1 := wh_lt z; have h2 := wl_lt z
 unfold B at *
 omega
theorem wh_zero : wh 0 = 0 := by decide
theorem wl_zero : wl 0 = 0 := by decide
/-- Differences, word by word. -/
theorem w_sub (x y : Int) : (wh x + B - wh y - (if wl x < wl y + 0 then 1 else 0)) % B = wh (x - y) ∧ (wl x + B - wl y - 0) % B = wl (x - y) := by
 have a := w_mod x; have b := w_mod y; have h1 := wh_lt x; have h2 := wl_lt x; have h3 := wh_lt y; have h4 := wl_lt y
 simp only [B_eq] at *
 generalize wh x = h at *; generalize wl x = l at *; generalize wh y = h' at *; generalize wl y = l' at *
 by_cases c : l < l' + 0
 ·rw [if_pos c]
  by_cases d : h < h' + 1
  ·exact w_of (by rw [B_eq]; omega) (by rw [B_eq]; omega) (1 - x / 340282366920938463463374607431768211456 + y / 340282366920938463463374607431768211456) (by omega)
  ·exact w_of (by rw [B_eq]; omega) (by rw [B_eq]; omega) (- (x / 340282366920938463463374607431768211456) + y / 340282366920938463463374607431768211456) (by omega)
 ·rw [if_neg c]
  by_cases d : h < h'
  ·exact w_of (by rw [B_eq]; omega) (by rw [B_eq]; omega) (1 - x / 340282366920938463463374607431768211456 + y / 340282366920938463463374607431768211456) (by omega)
  ·exact w_of (by rw [B_eq]; omega) (by rw [B_eq]; omega) (- (x / 340282366920938463463374607431768211456) + y / 340282366920938463463374607431768211456) (by omega)
theorem w_neg {z : Int} (h : InW z) : (9223372036854775808 ≤ wh z) ↔ z < 0 := by
 have := w_mod z; have h1 := wh_lt z; have h2 := wl_lt z; unfold InW B at *; omega
/-- The words of an int. -/
theorem w_int_neg {n : Int} (h : -9223372036854775808 ≤ n) (h0 : n < 0) : wh n = 18446744073709551615 ∧ ((wl n : Nat) : Int) = IntKind.u64.wrap n := by
 rw [IntKind.wrap_u64]; unfold wh wl; omega
theorem w_int_pos {n : Int} (h : n < 9223372036854775808) (h0 : 0 ≤ n) : wh n = 0 ∧ ((wl n : Nat) : Int) = IntKind.u64.wrap n := by
 rw [IntKind.wrap_u64]; unfold wh wl; omega
theorem w_abs_int {n : Int} (h : -9223372036854775808 ≤ n) (h1 : n < 9223372036854775808) : wl (n.natAbs : Int) = n.natAbs ∧ n.natAbs < B := by
 unfold wl B; omega
end Go.MagM
/- Points, and boxes of six and eight cells. Over any program. -/
namespace Go.MagM
open Go.RowKit
theorem Box.c6 {w : World} {g : Nat} {u0 u1 u2 u3 u4 u5 u : Value} {l : List Value} (h : Box w g (u0 :: u1 :: u2 :: u3 :: u4 :: u5 :: u :: l)) : w.cell? ⟨g, 6, none⟩ = some u := h.c 6 _ rfl
theorem Box.c7 {w : World} {g : Nat} {u0 u1 u2 u3 u4 u5 u6 u : Value} {l : List Value} (h : Box w g (u0 :: u1 :: u2 :: u3 :: u4 :: u5 :: u6 :: u :: l)) : w.cell? ⟨g, 7, none⟩ = some u := h.c 7 _ rfl
/-- A coordinate that may be. -/
def InP (x : Int) : Prop := -2147483648 ≤ x ∧ x ≤ 2147483648
theorem InP.wrap {x y : Int} (hx : InP x) (hy : InP y) : IntKind.i64.wrap (x - y) = x - y := by
 unfold InP at hx hy; rw [IntKind.wrap_i64]; omega
theorem InP.lo {x y : Int} (hx : InP x) (hy : InP y) : -9223372036854775808 ≤ x - y := by unfold InP at hx hy; omega
theorem InP.hi {x y : Int} (hx : InP x) (hy : InP y) : x - y < 9223372036854775808 := by unfold InP at hx hy; omega
theorem InP.hi' {x y : Int} (hx : InP x) (hy : InP y) : -(x - y) < 9223372036854775808 := by unfold InP at hx hy; omega
theorem abs_prod {x y : Int} {M N : Nat} (hx : x.natAbs ≤ M) (hy : y.natAbs ≤ N) : (x * y).natAbs ≤ M * N := by rw [Int.natAbs_mul]; exact Nat.mul_le_mul hx hy
/-- The determinant of differences has 128 bits. -/
theorem inW_dets {p q r s : Int} (hp : p.natAbs ≤ 4294967296) (hq : q.natAbs ≤ 4294967296) (hr : r.natAbs ≤ 4294967296) (hs : s.natAbs ≤ 4294967296) : InW (p * s - q * r) := by
 have h1 := abs_prod hp hs; have h2 := abs_prod hq hr
 unfold InW; omega
theorem InP.abs {x y : Int} (hx : InP x) (hy : InP y) : (x - y).natAbs ≤ 4294967296 := by unfold InP at hx hy; omega
theorem inW_crs {ax ay bx by' cx cy : Int} (h1 : InP ax) (h2 : InP ay) (h3 : InP bx) (h4 : InP by') (h5 : InP cx) (h6 : InP cy) : InW (crs ax ay bx by' cx cy) :=
 inW_dets (h3.abs h1) (h4.abs h2) (h5.abs h1) (h6.abs h2)
end Go.MagM
/- What two, and three, ints read as. -/
namespace Go.Proofs.Ytecnnpkpgbbfkaa
open Go.ChangeShapes Go.WideShapes Go.RowKit Go.MagM
theorem mintCell1 : Try.prog.cellsOf 3 = 1 := by kernel_rfl
theorem twoCells : Try.prog.cellsOf 22 = 2 := by kernel_rfl
theorem marray2_of {α : Type} {a : Array α} (h : a.size = 2) : ∃ x0 x1, a = #[x0, x1] := by
 obtain ⟨l⟩ := a
 simp only [List.size_toArray] at h
 match l, h with
 | [x0, x1], _ => exact ⟨x0, x1, rfl⟩
set_option maxRecDepth 100000 in
theorem view_two {H : Type} {enc : TypeId × Value → H} {W : World} {b0 : Nat} {v : Value} {d : DataW H} {p : List MemPlace} (hv : Value.okWide Try.prog W .any b0 22 v)
  (h : DataW.Trod enc Try.prog W 0 (fun _ => true) true 22 v d p) :
  ∃ x0 x1 : Int, v = .agg #[.int .i64 x0, .int .i64 x1] := by
 obtain ⟨cs, rfl, hsz, _⟩ : ∃ cs, v = .agg cs ∧ cs.size = Try.prog.cellsOf 22 ∧ Row.okWide Try.prog W .any b0 22 cs := by
  simpa [Value.okWide, Try.underlying22] using hv
 rw [twoCells] at hsz
 obtain ⟨c0, c1, rfl⟩ := marray2_of hsz
 obtain ⟨fuel, hf⟩ := h
 obtain ⟨xs, m, rfl, hx, hl, hn, hi⟩ := DataW.trod_array Try.underlying22 hf
 have h0 := hi 0 (by decide)
 have h1 := hi 1 (by decide)
 rw [mintCell1] at h0 h1
 rw [List.getElem?_eq_getElem (by omega)] at h0 h1
 obtain ⟨x0, e0, _, w0⟩ := DataW.trod_int Try.underlying3 h0
 obtain ⟨x1, e1, _, w1⟩ := DataW.trod_int Try.underlying3 h1
 simp [Value.cells] at e0 e1
 subst e0 e1
 exact ⟨x0, x1, rfl⟩
end Go.Proofs.Ytecnnpkpgbbfkaa
/- Points with rational coordinates, and boxes of nine and eighteen cells. Over any program. -/
namespace Go.MagM
open Go.RowKit
theorem Box.c8 {w : World} {g : Nat} {u0 u1 u2 u3 u4 u5 u6 u7 u : Value} {l : List Value} (h : Box w g (u0 :: u1 :: u2 :: u3 :: u4 :: u5 :: u6 :: u7 :: u :: l)) : w.cell? ⟨g, 8, none⟩ = some u := h.c 8 _ rfl
theorem Box.c9 {w : World} {g : Nat} {u0 u1 u2 u3 u4 u5 u6 u7 u8 u : Value} {l : List Value} (h : Box w g (u0 :: u1 :: u2 :: u3 :: u4 :: u5 :: u6 :: u7 :: u8 :: u :: l)) : w.cell? ⟨g, 9, none⟩ = some u := h.c 9 _ rfl
theorem noWord6 (b : Bool) (ao : Option Addr) (n c : Nat) (bo : Option Addr) (k d : Nat) (b' : Bool) (ao' : Option Addr) (n' c' : Nat) (bo' : Option Addr) (k' d' : Nat) : ∀ u ∈ [.bool b, .slice ao n c, .slice bo k d, .bool b', .slice ao' n' c', .slice bo' k' d'], NoWord u := by
 intro u hu; simp at hu; rcases hu with rfl | rfl | rfl | rfl | rfl | rfl
 ·exact NoWord.bool _
 ·exact NoWord.slice _ _ _
 ·exact NoWord.slice _ _ _
 ·exact NoWord.bool _
 ·exact NoWord.slice _ _ _
 ·exact NoWord.slice _ _ _
/-- What was a word is that word. -/
def Kept (w w' : World) : Prop := ∀ (a : Addr) (x : Int), w.cell? a = some (.int .u64 x) → w'.cell? a = some (.int .u64 x)
theorem Kept.refl (w : World) : Kept w w := fun _ _ h => h
theorem Kept.trans {a b c : World} (h : Kept a b) (k : Kept b c) : Kept a c := fun p x e => k p x (h p x e)
theorem Kept.below {w w' : World} (hb : Below w.heap.size w w') : Kept w w' := fun a _ h => (hb.cell (World.block_lt_of_cell? w a h)).trans h
theorem Kept.setOne {w : World} {a : Addr} {u : Value} (hc : w.cell? a = some u) (hu : NoWord u) (v : Value) : Kept w (w.setCell a v) := by
 intro b x h
 have ne : a ≠ b := by
  intro e; rw [e, h] at hc; exact hu _ (Option.some.inj hc).symm
 rw [World.cell?_setCell_other _ _ _ _ (by first | exact ne | exact ne.symm)]; exact h
theorem Reads.kept {w w' : World} {ao : Option Addr} {n : Nat} {f : Nat → Nat} (h : Reads w ao n f) (k : Kept w w') : Reads w' ao n f := by
 intro i hi; obtain ⟨b, o, e, h1, h2⟩ := h i hi; exact ⟨b, o, e, k _ _ h1, h2⟩
theorem Mag.kept {w w' : World} {v : Value} {L N : Nat} (h : Mag w v L N) (k : Kept w w') : Mag w' v L N := by
 obtain ⟨ao, n, c, f, h1, h2, h3, h4, h5⟩ := h; exact ⟨ao, n, c, f, h1, h2, h3, h4.kept k, h5⟩
theorem RMag.kept {w w' : World} {v : Value} {L N : Nat} (h : RMag w v L N) (k : Kept w w') : RMag w' v L N := by
 obtain ⟨ao, n, c, f, h1, h2, h3, h4, h5⟩ := h; exact ⟨ao, n, c, f, h1, h2, h3, h4.kept k, h5⟩
theorem Num.kept {w w' : World} {v : Value} {L : Nat} {N : Int} (h : Num w v L N) (k : Kept w w') : Num w' v L N := by
 obtain ⟨m, vm, M, h1, h2, h3⟩ := h; exact ⟨m, vm, M, h1, h2.kept k, h3⟩
theorem RNum.kept {w w' : World} {v : Value} {L : Nat} {N : Int} (h : RNum w v L N) (k : Kept w w') : RNum w' v L N := by
 obtain ⟨m, vm, M, h1, h2, h3⟩ := h; exact ⟨m, vm, M, h1, h2.kept k, h3⟩
theorem FD.kept {w w' : World} {v : Value} {L : Nat} {X : Int} {D : Nat} (h : FD w v L X D) (k : Kept w w') : FD w' v L X D := by
 obtain ⟨m, ao, n, c, bo, k', d, h1, h2, h3⟩ := h; exact ⟨m, ao, n, c, bo, k', d, h1, h2.kept k, h3.kept k⟩
theorem RF.kept {w w' : World} {v : Value} {L : Nat} {q : Rat} (h : RF w v L q) (k : Kept w w') : RF w' v L q := by
 obtain ⟨m, ao, n, c, bo, k', d, h1, h2, h3⟩ := h; exact ⟨m, ao, n, c, bo, k', d, h1, h2.kept k, h3.kept k⟩
theorem FQ.kept {w w' : World} {v : Value} {L : Nat} {q : Rat} (h : FQ w v L q) (k : Kept w w') : FQ w' v L q := by
 obtain ⟨X, D, h1, h2⟩ := h; exact ⟨X, D, h1.kept k, h2⟩
theorem FQ.of {w : World} {v : Value} {L : Nat} {p q : Rat} (h : FQ w v L p) (e : p = q) : FQ w v L q := e ▸ h
/-- A call's answer is a Spot: two right Fracs of at most L words. -/
def AnsS (w w' : World) (e : Ending) (L : Nat) (p q : Rat) : Prop := ∃ m ao n c bo k d m2 ao2 n2 c2 bo2 k2 d2, e = .returned (.agg #[.bool m, .slice ao n c, .slice bo k d, .bool m2, .slice ao2 n2 c2, .slice bo2 k2 d2]) ∧
 RF w' (.agg #[.bool m, .slice ao n c, .slice bo k d]) L p ∧ RF w' (.agg #[.bool m2, .slice ao2 n2 c2, .slice bo2 k2 d2]) L q ∧ Below w.heap.size w w'
theorem AnsS.of {w w' : World} {e : Ending} {L L' : Nat} {p q p' q' : Rat} (h : AnsS w w' e L p q) (hL : L ≤ L') (hp : p = p') (hq : q = q') : AnsS w w' e L' p' q' := by
 subst hp hq; obtain ⟨m, ao, n, c, bo, k, d, m2, ao2, n2, c2, bo2, k2, d2, h1, h2, h3, h4⟩ := h; exact ⟨m, ao, n, c, bo, k, d, m2, ao2, n2, c2, bo2, k2, d2, h1, h2.more hL, h3.more hL, h4⟩
end Go.MagM
/- A leap of Euclid's steps (Lehmer's way): the mathematics. -/
namespace Go.MagG
/-- Where a leap stands: a, b are what is left of the heads A0, B0; x, y are the factors; s: after steps (else none has been gone). -/
structure Leap (A0 B0 a b x0 x1 y0 y1 : Nat) (odd : Bool) : Prop where
 detA : y1 * a + y0 * b = A0
 detB : x1 * a + x0 * b = B0
 even : odd = false → x0 * y1 = x1 * y0 + 1
 odds : odd = true → y0 * x1 = x0 * y1 + 1
 gone : (y0 = 0 ∧ x0 = 1 ∧ x1 = 0 ∧ y1 = 1 ∧ b ≤ a) ∨ (1 ≤ y0 ∧ 1 ≤ x1 ∧ x0 ≤ y0 ∧ x1 ≤ y1 ∧ y1 ≤ b ∧ y0 + y1 + b ≤ a)
theorem Leap.start {A0 B0 : Nat} (h : B0 ≤ A0) : Leap A0 B0 A0 B0 1 0 0 1 false :=
 ⟨by simp, by simp, fun _ => rfl, fun h => by simp at h, .inl ⟨rfl, rfl, rfl, rfl, h⟩⟩
theorem Leap.le {A0 B0 a b x0 x1 y0 y1 : Nat} {odd : Bool} (h : Leap A0 B0 a b x0 x1 y0 y1 odd) : b ≤ a := by
 rcases h.gone with h | h <;> omega
theorem det_step (q y0 y1 a b r A : Nat) (h3 : a = b * q + r) (h : y1 * a + y0 * b = A) : (y0 + q * y1) * b + y1 * r = A := by grind
theorem det_flip (q x0 x1 y0 y1 : Nat) (h : x0 * y1 = x1 * y0 + 1) : y1 * (x0 + q * x1) = x1 * (y0 + q * y1) + 1 := by grind
theorem det_flop (q x0 x1 y0 y1 : Nat) (h : y0 * x1 = x0 * y1 + 1) : x1 * (y0 + q * y1) = (x0 + q * x1) * y1 + 1 := by grind
/-- One step: the next factors fit in a word, if the numbers do. -/
theorem Leap.next {A0 B0 a b x0 x1 y0 y1 : Nat} {odd : Bool} (h : Leap A0 B0 a b x0 x1 y0 y1 odd) (hb : b ≠ 0) :
  y0 + a / b * y1 ≤ A0 ∧ x0 + a / b * x1 ≤ B0 ∧ (y0 + a / b * y1 ≤ a % b → y1 + (y0 + a / b * y1) ≤ A0) := by
 have e := (Nat.div_add_mod a b).symm
 have h1 := det_step (a / b) y0 y1 a b (a % b) A0 e h.detA
 have h2 := det_step (a / b) x0 x1 a b (a % b) B0 e h.detB
 have hb1 : 1 ≤ b := by omega
 have h3 := Nat.mul_le_mul_left (y0 + a / b * y1) hb1
 have h4 := Nat.mul_le_mul_left (x0 + a / b * x1) hb1
 rw [Nat.mul_one] at h3 h4
 refine ⟨by omega, by omega, fun hr => ?_⟩
 have hny : 1 ≤ y0 + a / b * y1 := by
  rcases h.gone with ⟨g1, _, _, g2, g3⟩ | ⟨g1, _⟩
  ·have : 1 ≤ a / b := (Nat.one_le_div_iff (by omega)).2 g3
   rw [g2]; omega
  ·omega
 have h5 := Nat.mul_le_mul_left y1 (show 1 ≤ a % b by omega)
 rw [Nat.mul_one] at h5
 omega
theorem Leap.step {A0 B0 a b x0 x1 y0 y1 : Nat} {odd : Bool} (h : Leap A0 B0 a b x0 x1 y0 y1 odd) (hb : b ≠ 0)
  (h1 : y0 + a / b * y1 ≤ a % b) (h2 : y1 + (y0 + a / b * y1) ≤ b - a % b) :
  Leap A0 B0 b (a % b) x1 (x0 + a / b * x1) y1 (y0 + a / b * y1) (!odd) := by
 have e := (Nat.div_add_mod a b).symm
 have hr : a % b < b := Nat.mod_lt _ (by omega)
 refine ⟨det_step _ _ _ _ _ _ _ e h.detA, det_step _ _ _ _ _ _ _ e h.detB, fun ho => ?_, fun ho => ?_, .inr ?_⟩
 ·have : odd = true := by simpa using ho
  exact det_flop _ _ _ _ _ (h.odds this)
 ·have : odd = false := by simpa using ho
  exact det_flip _ _ _ _ _ (h.even this)
 ·have hq : 1 ≤ a / b := (Nat.one_le_div_iff (by omega)).2 h.le
  rcases h.gone with ⟨g1, g2, g3, g4, g5⟩ | ⟨g1, g2, g3, g4, g5, g6⟩
  ·subst g1; subst g2; subst g3; subst g4
   simp only [Nat.mul_zero, Nat.mul_one, Nat.zero_add, Nat.add_zero] at h1 h2 ⊢
   omega
  ·have h5 := Nat.mul_le_mul_left (a / b) g4
   have h6 := Nat.mul_le_mul_right x1 hq
   omega
theorem sum_even (A0 B0 a b x0 x1 y0 y1 S lA lB P Q : Nat) (hA : y1 * a + y0 * b = A0) (hB : x1 * a + x0 * b = B0) (hd : x0 * y1 = x1 * y0 + 1)
  (hP : P + y0 * lB = a * S + x0 * lA) (hQ : Q + x1 * lA = b * S + y1 * lB) :
  P + y0 * (B0 * S + lB) = x0 * (A0 * S + lA) ∧ Q + x1 * (A0 * S + lA) = y1 * (B0 * S + lB) ∧ A0 * S + lA = y1 * P + y0 * Q ∧ B0 * S + lB = x1 * P + x0 * Q := by
 subst hA; subst hB
 refine ⟨?_, ?_, ?_, ?_⟩ <;> grind
theorem sum_odd (A0 B0 a b x0 x1 y0 y1 S lA lB P Q : Nat) (hA : y1 * a + y0 * b = A0) (hB : x1 * a + x0 * b = B0) (hd : y0 * x1 = x0 * y1 + 1)
  (hP : P + x0 * lA = a * S + y0 * lB) (hQ : Q + y1 * lB = b * S + x1 * lA) :
  P + x0 * (A0 * S + lA) = y0 * (B0 * S + lB) ∧ Q + y1 * (B0 * S + lB) = x1 * (A0 * S + lA) ∧ A0 * S + lA = y1 * P + y0 * Q ∧ B0 * S + lB = x1 * P + x0 * Q := by
 subst hA; subst hB
 refine ⟨?_, ?_, ?_, ?_⟩ <;> grind
/-- A pair with the same divisors: from A, B to P, Q. -/
theorem gcd_mix (A B P Q x0 x1 y0 y1 : Nat) (h1 : P + y0 * B = x0 * A) (h2 : Q + x1 * A = y1 * B) (h3 : A = y1 * P + y0 * Q) (h4 : B = x1 * P + x0 * Q) : Nat.gcd P Q = Nat.gcd A B := by
 apply Nat.dvd_antisymm
 ·apply Nat.dvd_gcd
  ·rw [h3]; exact Nat.dvd_add (Nat.dvd_mul_left_of_dvd (Nat.gcd_dvd_left _ _) _) (Nat.dvd_mul_left_of_dvd (Nat.gcd_dvd_right _ _) _)
  ·rw [h4]; exact Nat.dvd_add (Nat.dvd_mul_left_of_dvd (Nat.gcd_dvd_left _ _) _) (Nat.dvd_mul_left_of_dvd (Nat.gcd_dvd_right _ _) _)
 ·apply Nat.dvd_gcd
  ·have := Nat.dvd_mul_left_of_dvd (Nat.gcd_dvd_left A B) x0
   rw [← h1] at this
   exact (Nat.dvd_add_iff_left (Nat.dvd_mul_left_of_dvd (Nat.gcd_dvd_right A B) y0)).2 this
  ·have := Nat.dvd_mul_left_of_dvd (Nat.gcd_dvd_right A B) y1
   rw [← h2] at this
   exact (Nat.dvd_add_iff_left (Nat.dvd_mul_left_of_dvd (Nat.gcd_dvd_left A B) x1)).2 this
theorem gcd_mox (A B P Q x0 x1 y0 y1 : Nat) (h1 : P + x0 * A = y0 * B) (h2 : Q + y1 * B = x1 * A) (h3 : A = y1 * P + y0 * Q) (h4 : B = x1 * P + x0 * Q) : Nat.gcd P Q = Nat.gcd A B := by
 rw [Nat.gcd_comm A B]
 refine gcd_mix B A P Q y0 y1 x0 x1 h1 h2 h4 h3
theorem sub_room {c u l S t : Nat} (h : c ≤ t) (hl : l < S) : c * l ≤ t * S + u := by
 have := Nat.mul_le_mul h (Nat.le_of_lt hl); omega
/-- What the leap's end tells of the numbers whose heads they were: the new pair. -/
theorem Leap.pair {A0 B0 a b x0 x1 y0 y1 : Nat} {odd : Bool} (h : Leap A0 B0 a b x0 x1 y0 y1 odd) (hy : y0 ≠ 0) (S lA lB : Nat) (hlA : lA < S) (hlB : lB < S) :
  ∃ P Q, (odd = false → P + y0 * (B0 * S + lB) = x0 * (A0 * S + lA) ∧ Q + x1 * (A0 * S + lA) = y1 * (B0 * S + lB)) ∧
   (odd = true → P + x0 * (A0 * S + lA) = y0 * (B0 * S + lB) ∧ Q + y1 * (B0 * S + lB) = x1 * (A0 * S + lA)) ∧
   Q ≤ P ∧ Nat.gcd P Q = Nat.gcd (A0 * S + lA) (B0 * S + lB) ∧ A0 * S + lA = y1 * P + y0 * Q ∧ B0 * S + lB = x1 * P + x0 * Q ∧ 1 ≤ y0 ∧ 1 ≤ x1 ∧ x1 ≤ y1 := by
 obtain ⟨g1, g2, g3, g4, g5, g6⟩ := h.gone.resolve_left (fun g => hy g.1)
 have hab : (y0 + y1) * S + b * S ≤ a * S := by rw [← Nat.add_mul]; exact Nat.mul_le_mul_right S g6
 have e1 : y0 * lB ≤ a * S + x0 * lA := sub_room (by omega) hlB
 have e2 : x1 * lA ≤ b * S + y1 * lB := sub_room (by omega) hlA
 have e3 : x0 * lA ≤ a * S + y0 * lB := sub_room (by omega) hlA
 have e4 : y1 * lB ≤ b * S + x1 * lA := sub_room (by omega) hlB
 have m1 : (y0 + y1) * lB ≤ (y0 + y1) * S := Nat.mul_le_mul_left _ (Nat.le_of_lt hlB)
 have m2 : (x0 + x1) * lA ≤ (y0 + y1) * S := Nat.mul_le_mul (by omega) (Nat.le_of_lt hlA)
 rw [Nat.add_mul] at m1 m2
 cases odd with
 | false =>
  obtain ⟨P, hP⟩ : ∃ P, P + y0 * lB = a * S + x0 * lA := ⟨a * S + x0 * lA - y0 * lB, by omega⟩
  obtain ⟨Q, hQ⟩ : ∃ Q, Q + x1 * lA = b * S + y1 * lB := ⟨b * S + y1 * lB - x1 * lA, by omega⟩
  obtain ⟨r1, r2, r3, r4⟩ := sum_even A0 B0 a b x0 x1 y0 y1 S lA lB P Q h.detA h.detB (h.even rfl) hP hQ
  exact ⟨P, Q, fun _ => ⟨r1, r2⟩, fun h => (by cases h), by omega, gcd_mix _ _ _ _ _ _ _ _ r1 r2 r3 r4, r3, r4, g1, g2, g4⟩
 | true =>
  obtain ⟨P, hP⟩ : ∃ P, P + x0 * lA = a * S + y0 * lB := ⟨a * S + y0 * lB - x0 * lA, by omega⟩
  obtain ⟨Q, hQ⟩ : ∃ Q, Q + y1 * lB = b * S + x1 * lA := ⟨b * S + x1 * lA - y1 * lB, by omega⟩
  obtain ⟨r1, r2, r3, r4⟩ := sum_odd A0 B0 a b x0 x1 y0 y1 S lA lB P Q h.detA h.detB (h.odds rfl) hP hQ
  exact ⟨P, Q, fun h => (by cases h), fun _ => ⟨r1, r2⟩, by omega, gcd_mox _ _ _ _ _ _ _ _ r1 r2 r3 r4, r3, r4, g1, g2, g4⟩
end Go.MagG
/- The parts of Gcd: gcdWords, at, head. -/
namespace Go.Proofs.Ytecnnpkpgbbfkaa
open Go.RowKit Go.MagM
/-- A word of a number, 0 beyond its end. -/
def zx (f : Nat → Nat) (n i : Nat) : Nat := if i < n then f i else 0
theorem zx_lt {f : Nat → Nat} {n : Nat} (h : ∀ i, i < n → f i < B) (i : Nat) : zx f n i < B := by
  unfold zx; split
  · exact h i (by omega)
  · exact B_pos
end Go.Proofs.Ytecnnpkpgbbfkaa
/- What head tells: the number over the last bits, rounded down. -/
namespace Go.Proofs.Ytecnnpkpgbbfkaa
open Go.RowKit Go.MagM
theorem zx_V (f : Nat → Nat) {n k : Nat} (hk : n ≤ k) : V (zx f n) k = V f n := by
 obtain ⟨d, rfl⟩ : ∃ d, k = n + d := ⟨k - n, by omega⟩
 rw [V_split, V_congr (f := zx f n) (g := f) (n := n) (fun i hi => if_pos hi), V_none (f := fun i => zx f n (n + i)) (fun i _ => if_neg (by omega))]; simp
theorem head_val (f : Nat → Nat) (n t s : Nat) (hf : ∀ i, i < n → f i < B) (hn : n ≤ t + 2) (hs : s ≤ 63) (htop : zx f n (t + 1) * 2 ^ s < B) :
  zx f n (t + 1) * 2 ^ s % B + zx f n t * 2 ^ s / B = V f n / (B ^ t * 2 ^ (64 - s)) := by
 have hz : ∀ i, zx f n i < B := zx_lt hf
 have h1 : V f n / B ^ t = zx f n t + zx f n (t + 1) * B := by
  rw [← zx_V f hn]
  have h2 := V_high (zx f n) (k := t) (n := 2) (fun i _ => hz i)
  rw [← h2, show (2 : Nat) = 1 + 1 from rfl, V_succ, V_one, Nat.pow_one]; rfl
 rw [← Nat.div_div_eq_div_mul, h1, Nat.mod_eq_of_lt htop, ← shr_eq _ s (by omega)]
 rw [show zx f n (t + 1) * B = 2 ^ (64 - s) * (zx f n (t + 1) * 2 ^ s) by rw [B_pow s (by omega), Nat.mul_left_comm]]
 rw [Nat.add_mul_div_left _ _ (Nat.pow_pos (by omega)), Nat.add_comm]
end Go.Proofs.Ytecnnpkpgbbfkaa
/- nearer. -/
namespace Go.Proofs.Ytecnnpkpgbbfkaa
open Go.RowKit Go.MagM Go.MagG
/-- The heads of two numbers, and what is below. -/
theorem heads {f g : Nat → Nat} {n m T t s : Nat} (hf : ∀ i, i < n → f i < B) (hg : ∀ i, i < m → g i < B) (hn : n = T + 1) (hT : T = t + 1) (hmn : m ≤ n) (hle : V g m ≤ V f n) (h0 : f T ≠ 0) (hs : s = 64 - bl (f T)) :
  s ≤ 63 ∧ zx f n T * 2 ^ s % B + zx f n t * 2 ^ s / B = V f n / (B ^ t * 2 ^ (64 - s)) ∧ zx g m T * 2 ^ s % B + zx g m t * 2 ^ s / B = V g m / (B ^ t * 2 ^ (64 - s)) ∧
   zx f n T * 2 ^ s % B + zx f n t * 2 ^ s / B < B ∧ zx g m T * 2 ^ s % B + zx g m t * 2 ^ s / B < B := by
 have hb1 := bl_pos h0
 have hs63 : s ≤ 63 := by omega
 have hxB : f T < B := hf T (by omega)
 have hbl : bl (f T) ≤ 64 := by
  rcases Nat.lt_or_ge 64 (bl (f T)) with h | h
  ·exfalso
   have h1 := bl_ge h0
   have h2 : 2 ^ 64 ≤ 2 ^ (bl (f T) - 1) := Nat.pow_le_pow_right (by omega) (by omega)
   have h3 : B = 2 ^ 64 := rfl
   omega
  ·exact h
 have hzf : zx f n T = f T := if_pos (by omega)
 have htop : zx f n T * 2 ^ s < B := by
  rw [hzf]
  have h1 := bl_lt (f T)
  have h2 : f T * 2 ^ s < 2 ^ bl (f T) * 2 ^ s := Nat.mul_lt_mul_of_pos_right h1 (Nat.pow_pos (by omega))
  rw [← Nat.pow_add, show bl (f T) + s = 64 by omega] at h2
  exact h2
 have hcmp : zx g m T ≤ zx f n T := by
  rcases Nat.lt_or_ge (zx f n T) (zx g m T) with h | h
  ·exfalso
   have h1 : V (zx g m) (T + 1) = V g m := zx_V g (by omega)
   have h2 : V (zx f n) (T + 1) = V f n := zx_V f (by omega)
   rw [V_succ] at h1 h2
   have h3 : V (zx f n) T < B ^ T := V_lt (fun i _ => zx_lt hf i)
   have h4 := Nat.mul_le_mul_right (B ^ T) (show zx f n T + 1 ≤ zx g m T by omega)
   rw [Nat.add_mul, Nat.one_mul] at h4
   omega
  ·exact h
 have htop2 : zx g m T * 2 ^ s < B := Nat.lt_of_le_of_lt (Nat.mul_le_mul_right _ hcmp) htop
 have l1 := up_lt (zx f n T) (zx_lt hf t) (show s ≤ 64 by omega)
 have l2 := up_lt (zx g m T) (zx_lt hg t) (show s ≤ 64 by omega)
 subst hT
 exact ⟨hs63, head_val f n t s hf (by omega) hs63 htop, head_val g m t s hg (by omega) hs63 htop2, l1, l2⟩
end Go.Proofs.Ytecnnpkpgbbfkaa
/- Rational numbers: what the calls of frac answer. Over no program. -/
namespace Go.MagM
open Go.RowKit
theorem sgn_natAbs (m : Bool) (N : Nat) : (sgn m N).natAbs = N := by cases m <;> simp [sgn]
theorem qnum (m : Bool) (N D : Nat) (h : D ≠ 0) : (mkRat (sgn m N) D).num = sgn m (N / Nat.gcd N D) := by
 rw [Rat.num_mkRat, if_neg h, sgn_natAbs, Nat.gcd_comm D N]
 have hd : Nat.gcd N D ∣ N := Nat.gcd_dvd_left _ _
 cases m <;> simp only [sgn, if_true, if_false, Bool.false_eq_true]
 ·exact (Int.natCast_ediv _ _).symm
 ·rw [Int.neg_ediv_of_dvd (Int.natCast_dvd_natCast.2 hd), Int.natCast_ediv]
theorem qden (m : Bool) (N D : Nat) (h : D ≠ 0) : (mkRat (sgn m N) D).den = D / Nat.gcd N D := by
 rw [Rat.den_mkRat, if_neg h, sgn_natAbs, Nat.gcd_comm D N]
theorem low_any {w : World} {m : Bool} {ao bo : Option Addr} {n c k d L N D : Nat} (h : D ≠ 0) (h1 : RMag w (.slice ao n c) L (N / Nat.gcd N D)) (hm : m = true → N ≠ 0) (h2 : RMag w (.slice bo k d) L (D / Nat.gcd N D)) :
  RF w (.agg #[.bool m, .slice ao n c, .slice bo k d]) L (mkRat (sgn m N) D) := by
 refine ⟨m, ao, n, c, bo, k, d, rfl, ⟨m, _, N / Nat.gcd N D, rfl, h1, qnum m N D h, fun e => ?_⟩, by rw [qden m N D h]; exact h2⟩
 have := hm e
 exact Nat.ne_of_gt (Nat.div_pos (Nat.le_of_dvd (by omega) (Nat.gcd_dvd_left _ _)) (Nat.gcd_pos_of_pos_left _ (by omega)))
theorem low_lone {w : World} {m : Bool} {ao bo : Option Addr} {n c k d L D : Nat} {X : Int} (h : D ≠ 0) (hg : Nat.gcd X.natAbs D = 1) (h1 : RNum w (.agg #[.bool m, .slice ao n c]) L X) (h2 : RMag w (.slice bo k d) L D) :
  RF w (.agg #[.bool m, .slice ao n c, .slice bo k d]) L (mkRat X D) := by
 obtain ⟨N, h3, rfl, h4⟩ := h1.part
 rw [sgn_natAbs] at hg
 exact low_any h (by rw [hg, Nat.div_one]; exact h3) h4 (by rw [hg, Nat.div_one]; exact h2)
theorem low_one {w : World} {m : Bool} {ao bo : Option Addr} {n c k d L : Nat} {X : Int} (h1 : RNum w (.agg #[.bool m, .slice ao n c]) L X) (h2 : RMag w (.slice bo k d) L 1) :
  RF w (.agg #[.bool m, .slice ao n c, .slice bo k d]) L (mkRat X 1) := low_lone (by omega) (Nat.gcd_one_right _) h1 h2
end Go.MagM
/- Rational numbers, on: sums, products, quotients, order, the greatest whole number below. Over no program. -/
namespace Go.MagM
open Go.RowKit
open Go.Proofs.Ytecnnpkpgbbfkaa (icmp icmp_lt icmp_gt icmp_self)
theorem mkRat_one_int (X : Int) : mkRat X 1 = (X : Rat) := by rw [Rat.mkRat_eq_div, Rat.div_def, show ((1 : Nat) : Rat)⁻¹ = 1 from Rat.inv_eq_of_mul_eq_one (Rat.mul_one 1), Rat.mul_one]
end Go.MagM
