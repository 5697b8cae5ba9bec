/- From the form of the rows to the walks of layer 2: what an argument reads as. -/
import Derived.Test.YtkigfccbhkcedaaRows
import Derived.Test.YtkigfccbhkcedaaParth
import Derived.ProofKit
import Derived.ChangeVars
import Derived.JoinedOf
import Derived.RowKitTokens
import Derived.Lib.SmallJoins
import Derived.Test.YtkigfccbhkcedaaPartg
namespace Go.Proofs.Ytkigfccbhkcedaa
open Go.ChangeShapes Go.WideShapes Go.RowKit Go.MagM
theorem own0 : ownKnob Try.prog.godebug = none := by kernel_rfl
theorem laidOut0 : laidOutB Try.prog = true := by kernel_rfl
theorem cells42 : Try.prog.cellsOf 22 = 1 := by kernel_rfl
/-- What a list of words reads as: words. -/
theorem view_words {H : Type} {enc : TypeId × Value → H} {W : World} {fuel : Nat} {v : Value} {x : DataW H × List MemPlace}
    (hf : DataW.trod enc Try.prog W 0 (fun _ => true) true fuel 27 [v] = some x) :
    ∃ a0 len cap, v = .slice a0 len cap ∧ len ≤ cap ∧ ∃ f, Reads W a0 len f := by
  obtain ⟨d, p⟩ := x
  rcases open_ints Try.underlying27 Try.underlying22 cells42 hf with ⟨hcs, hx⟩ | ⟨a, len', cap', zs, hcs, _, hl, hm, hz, hx, hcell, hwz⟩
  · simp at hcs
    subst hcs
    exact ⟨_, _, _, rfl, Nat.le_refl _, fun _ => 0, Reads.nil _ _ _⟩
  · simp at hcs
    subst hcs
    simp only [if_true] at hz
    refine ⟨_, _, _, rfl, hl, fun i => (zs.getD i 0).toNat, ?_⟩
    intro i hi
    have hc := hcell i (by omega)
    have hsp := World.cell?_spot (hcell 0 (by omega))
    obtain ⟨b, o, sp⟩ := a
    have hsp' : sp = none := by simpa [Addr.add] using hsp
    subst hsp'
    have hmem : zs.getD i 0 ∈ zs := by
      rw [List.getD_eq_getElem?_getD, List.getElem?_eq_getElem (by omega)]; exact List.getElem_mem _
    have hw := hwz _ hmem
    have hadd : (⟨b, o, none⟩ : Addr).add i = ⟨b, o + i, none⟩ := by unfold Addr.add; split <;> simp_all
    rw [hadd] at hc
    show ∃ b' o', _ ∧ W.cell? ⟨b', o' + i, none⟩ = some (.int .u64 (((zs.getD i 0).toNat : Nat) : Int)) ∧ (zs.getD i 0).toNat < B
    generalize zs.getD i 0 = z at *
    have hr : 0 ≤ z ∧ z < 18446744073709551616 := by
      simp only [Lit.wf, IntKind.min, IntKind.max, IntKind.signed, IntKind.bits, Bool.and_eq_true] at hw
      simp at hw
      omega
    refine ⟨b, o, rfl, ?_, by unfold B; omega⟩
    rw [hc]
    congr 2
    omega
set_option maxRecDepth 100000 in
/-- What a Num reads as: a sign and words. -/
theorem view_num {H : Type} {enc : TypeId × Value → H} {W : World} {b0 : Nat} {v : Value} {d : DataW H} {p : List MemPlace} (hv : Value.okWide Try.prog W .any b0 29 v)
    (h : DataW.Trod enc Try.prog W 0 (fun _ => true) true 29 v d p) :
    ∃ m ao n c f, v = .agg #[.bool m, .slice ao n c] ∧ n ≤ c ∧ Reads W ao n f := by
  obtain ⟨v0, v1, y0, y1, k, rfl, _, _, h0, h1⟩ := Joins.open_agg2 Try.underlying29 (by kernel_rfl) (by kernel_rfl) hv h
  obtain ⟨m, hm, _⟩ := DataW.trod_bool Try.underlying4 h0
  simp at hm
  subst hm
  obtain ⟨ao, n, c, rfl, hc, f, hr⟩ := view_words h1
  exact ⟨m, ao, n, c, f, rfl, hc, hr⟩
theorem int_range {x : Int} (h : (Lit.int .i64 x).wf = true) : -9223372036854775808 ≤ x ∧ x < 9223372036854775808 := by
  simp only [Lit.wf, IntKind.min, IntKind.max, IntKind.signed, IntKind.bits, Bool.and_eq_true, decide_eq_true_eq] at h
  simp at h
  omega
end Go.Proofs.Ytkigfccbhkcedaa
/- Boxes of any number of cells. Over any program. -/
namespace Go.MagM
open Go.RowKit
/-- Block g is a box that holds vs, and may be written. -/
structure Box (w : World) (g : Nat) (vs : List Value) : Prop where
  c : ∀ i v, vs[i]? = some v → w.cell? ⟨g, i, none⟩ = some v
  f : ∀ i v, vs[i]? = some v → w.frozen? ⟨g, i, none⟩ = false
theorem Box.below {w w' : World} {g : Nat} {vs : List Value} (h : Box w g vs) (hb : Below w.heap.size w w') : Box w' g vs :=
  ⟨fun i v hi => (hb.cell (p := ⟨g, i, none⟩) (World.block_lt_of_cell? w _ (h.c i v hi))).trans (h.c i v hi),
    fun i v hi => (hb.frozen (p := ⟨g, i, none⟩) (World.block_lt_of_cell? w _ (h.c i v hi))).trans (h.f i v hi)⟩
theorem Box.drew {w : World} {g : Nat} {vs : List Value} (h : Box w g vs) : Box w.drew g vs := ⟨h.c, h.f⟩
theorem Box.drewN {w : World} {g : Nat} {vs : List Value} (h : Box w g vs) (n : Nat) : Box (w.drewN n) g vs := ⟨h.c, h.f⟩
theorem Box.lt {w : World} {g : Nat} {v : Value} {vs : List Value} (h : Box w g (v :: vs)) : g < w.heap.size := World.block_lt_of_cell? w _ (h.c 0 v rfl)
theorem Box.set {w : World} {g : Nat} {vs : List Value} (h : Box w g vs) (i : Nat) (x : Value) : Box (w.setCell ⟨g, i, none⟩ x) g (vs.set i x) := by
  refine ⟨fun j v hj => ?_, fun j v hj => ?_⟩
  · rw [List.getElem?_set] at hj
    by_cases e : i = j
    · subst e
      rw [if_pos rfl] at hj
      split at hj
      · next hl =>
        simp at hj; subst hj
        exact World.cell?_setCell_same _ _ _ (h.c i _ (List.getElem?_eq_getElem hl))
      · cases hj
    · rw [if_neg e] at hj
      have ne : (⟨g, i, none⟩ : Addr) ≠ ⟨g, j, none⟩ := by intro k; injection k with k1 k2; exact e k2
      rw [World.cell?_setCell_other _ _ _ _ (by first | exact ne | exact ne.symm)]; exact h.c j v hj
  · rw [World.frozen?_setCell]
    rw [List.getElem?_set] at hj
    by_cases e : i = j
    · subst e
      rw [if_pos rfl] at hj
      split at hj
      · next hl => exact h.f i _ (List.getElem?_eq_getElem hl)
      · cases hj
    · rw [if_neg e] at hj; exact h.f j v hj
theorem Box.far {w : World} {g g' : Nat} {vs : List Value} (h : Box w g vs) (hne : g ≠ g') (i : Nat) (x : Value) : Box (w.setCell ⟨g', i, none⟩ x) g vs := by
  refine ⟨fun j v hj => ?_, fun j v hj => (World.frozen?_setCell _ _ _ _).trans (h.f j v hj)⟩
  have ne : (⟨g', i, none⟩ : Addr) ≠ ⟨g, j, none⟩ := by intro k; injection k with k1; exact hne k1.symm
  rw [World.cell?_setCell_other _ _ _ _ (by first | exact ne | exact ne.symm)]; exact h.c j v hj
theorem box_new (w : World) (vs : List Value) (T : TypeId) : Box (w.alloc (.cells vs.toArray T)) w.heap.size vs := by
  refine ⟨fun i v hi => ?_, fun i v hi => ?_⟩
  · simp [go_sem, hi]
  · simp [go_sem]
theorem Box.two {w : World} {g : Nat} {u v : Value} (h : Box w g [u, v]) : Box2 w g u v := ⟨h.c 0 _ rfl, h.c 1 _ rfl, h.f 0 _ rfl, h.f 1 _ rfl⟩
end Go.MagM
/- Boxes of any number of cells, written whole; what stays where a box is written. Over any program. -/
namespace Go.MagM
open Go.RowKit
/-- Cells i, i + 1, .. of block g are written. -/
def setAll (w : World) (g : Nat) : Nat → List Value → World
  | _, [] => w
  | i, x :: xs => setAll (w.setCell ⟨g, i, none⟩ x) g (i + 1) xs
theorem new_box (w : World) (n : Nat) (hn : w.heap.size = n) (vs : List Value) (T : TypeId) :
    ∃ w1, w.alloc (.cells vs.toArray T) = w1 ∧ Box w1 n vs ∧ Below n w w1 ∧ w1.heap.size = n + 1 := by
  subst hn
  exact ⟨_, rfl, box_new w vs T, (Below.refl _ _).alloc (Nat.le_refl _) _, by simp⟩
theorem Box.c0 {w : World} {g : Nat} {u : Value} {l : List Value} (h : Box w g (u :: l)) : w.cell? ⟨g, 0, none⟩ = some u := h.c 0 _ rfl
theorem Box.c1 {w : World} {g : Nat} {u0 u : Value} {l : List Value} (h : Box w g (u0 :: u :: l)) : w.cell? ⟨g, 1, none⟩ = some u := h.c 1 _ rfl
theorem Box.c2 {w : World} {g : Nat} {u0 u1 u : Value} {l : List Value} (h : Box w g (u0 :: u1 :: u :: l)) : w.cell? ⟨g, 2, none⟩ = some u := h.c 2 _ rfl
theorem Box.c3 {w : World} {g : Nat} {u0 u1 u2 u : Value} {l : List Value} (h : Box w g (u0 :: u1 :: u2 :: u :: l)) : w.cell? ⟨g, 3, none⟩ = some u := h.c 3 _ rfl
theorem Box.c4 {w : World} {g : Nat} {u0 u1 u2 u3 u : Value} {l : List Value} (h : Box w g (u0 :: u1 :: u2 :: u3 :: u :: l)) : w.cell? ⟨g, 4, none⟩ = some u := h.c 4 _ rfl
theorem Box.c5 {w : World} {g : Nat} {u0 u1 u2 u3 u4 u : Value} {l : List Value} (h : Box w g (u0 :: u1 :: u2 :: u3 :: u4 :: u :: l)) : w.cell? ⟨g, 5, none⟩ = some u := h.c 5 _ rfl
theorem Box.open1 {w : World} {g : Nat} {u0 : Value} (h : Box w g [u0]) : w.cell? ⟨g, 0, none⟩ = some u0 ∧ w.frozen? ⟨g, 0, none⟩ = false := ⟨h.c 0 _ rfl, h.f 0 _ rfl⟩
theorem Box.open2 {w : World} {g : Nat} {u0 u1 : Value} (h : Box w g [u0, u1]) : w.cell? ⟨g, 0, none⟩ = some u0 ∧ w.cell? ⟨g, 1, none⟩ = some u1 ∧ w.frozen? ⟨g, 0, none⟩ = false ∧ w.frozen? ⟨g, 1, none⟩ = false := ⟨h.c 0 _ rfl, h.c 1 _ rfl, h.f 0 _ rfl, h.f 1 _ rfl⟩
theorem Box.open3 {w : World} {g : Nat} {u0 u1 u2 : Value} (h : Box w g [u0, u1, u2]) : w.cell? ⟨g, 0, none⟩ = some u0 ∧ w.cell? ⟨g, 1, none⟩ = some u1 ∧ w.cell? ⟨g, 2, none⟩ = some u2 ∧ w.frozen? ⟨g, 0, none⟩ = false ∧ w.frozen? ⟨g, 1, none⟩ = false ∧ w.frozen? ⟨g, 2, none⟩ = false :=
  ⟨h.c 0 _ rfl, h.c 1 _ rfl, h.c 2 _ rfl, h.f 0 _ rfl, h.f 1 _ rfl, h.f 2 _ rfl⟩
/-- What a store of two cells wants behind its first one. -/
theorem Box.put2 {w : World} {g : Nat} {u0 u1 : Value} (h : Box w g [u0, u1]) (x0 : Value) : (w.setCell ⟨g, 0, none⟩ x0).cell? ⟨g, 1, none⟩ = some u1 ∧ (w.setCell ⟨g, 0, none⟩ x0).frozen? ⟨g, 1, none⟩ = false :=
  ⟨(h.set 0 x0).c 1 _ rfl, (h.set 0 x0).f 1 _ rfl⟩
theorem Box.put3 {w : World} {g : Nat} {u0 u1 u2 : Value} (h : Box w g [u0, u1, u2]) (x0 x1 : Value) : (w.setCell ⟨g, 0, none⟩ x0).cell? ⟨g, 1, none⟩ = some u1 ∧ (w.setCell ⟨g, 0, none⟩ x0).frozen? ⟨g, 1, none⟩ = false ∧
    ((w.setCell ⟨g, 0, none⟩ x0).setCell ⟨g, 1, none⟩ x1).cell? ⟨g, 2, none⟩ = some u2 ∧ ((w.setCell ⟨g, 0, none⟩ x0).setCell ⟨g, 1, none⟩ x1).frozen? ⟨g, 2, none⟩ = false :=
  ⟨(h.set 0 x0).c 1 _ rfl, (h.set 0 x0).f 1 _ rfl, ((h.set 0 x0).set 1 x1).c 2 _ rfl, ((h.set 0 x0).set 1 x1).f 2 _ rfl⟩
theorem Box.setTail {g : Nat} : ∀ (xs : List Value) (pre vs : List Value) (w : World), vs.length = xs.length → Box w g (pre ++ vs) → Box (setAll w g pre.length xs) g (pre ++ xs)
  | [], pre, vs, w, hl, h => by
    have : vs = [] := List.length_eq_zero_iff.1 hl
    subst this; exact h
  | x :: xs, pre, [], w, hl, h => by simp at hl
  | x :: xs, pre, v :: vs, w, hl, h => by
    have e : (pre ++ v :: vs).set pre.length x = (pre ++ [x]) ++ vs := by simp
    have h1 := h.set pre.length x
    rw [e] at h1
    have := Box.setTail xs (pre ++ [x]) vs _ (by simpa using hl) h1
    simpa [setAll] using this
/-- A box is written whole. -/
theorem Box.setAll {w : World} {g : Nat} {vs : List Value} (h : Box w g vs) (xs : List Value) (hl : vs.length = xs.length) : Box (setAll w g 0 xs) g xs := Box.setTail xs [] vs w hl h
theorem Box.farFrom {g g' : Nat} (hne : g ≠ g') : ∀ (xs : List Value) (i : Nat) {w : World} {vs : List Value}, Box w g vs → Box (Go.MagM.setAll w g' i xs) g vs
  | [], _, _, _, h => h
  | x :: xs, i, _, _, h => Box.farFrom hne xs (i + 1) (h.far hne i x)
theorem Box.farAll {w : World} {g : Nat} {vs : List Value} (h : Box w g vs) {g' : Nat} (hne : g ≠ g') (xs : List Value) : Box (Go.MagM.setAll w g' 0 xs) g vs := Box.farFrom hne xs 0 h
theorem below_setFrom {M g : Nat} (hg : M ≤ g) {w : World} : ∀ (xs : List Value) (i : Nat) {w' : World}, Below M w w' → Below M w (setAll w' g i xs)
  | [], _, _, h => h
  | x :: xs, i, _, h => below_setFrom hg xs (i + 1) (h.setCell (p := ⟨g, i, none⟩) hg x)
theorem below_setAll {M : Nat} {w w' : World} (h : Below M w w') {g : Nat} (hg : M ≤ g) (xs : List Value) : Below M w (setAll w' g 0 xs) := below_setFrom hg xs 0 h
/-- No word. -/
def NoWord (u : Value) : Prop := ∀ x, u ≠ .int .u64 x
theorem NoWord.bool (b : Bool) : NoWord (.bool b) := fun _ h => by cases h
theorem NoWord.slice (a : Option Addr) (n c : Nat) : NoWord (.slice a n c) := fun _ h => by cases h
theorem NoWord.int (x : Int) : NoWord (.int .i64 x) := fun _ h => by cases h
theorem Reads.setOne {w : World} {ao : Option Addr} {n : Nat} {f : Nat → Nat} (hr : Reads w ao n f) {a : Addr} {u : Value} (hc : w.cell? a = some u) (hu : NoWord u) (v : Value) : Reads (w.setCell a v) ao n f := by
  intro i hi
  obtain ⟨b, o, e, h1, h2⟩ := hr i hi
  refine ⟨b, o, e, ?_, h2⟩
  have ne : a ≠ ⟨b, o + i, none⟩ := by
    intro h; rw [h, h1] at hc
    exact hu _ (Option.some.inj hc).symm
  rw [World.cell?_setCell_other _ _ _ _ (by first | exact ne | exact ne.symm)]; exact h1
/-- Words stay where a box that holds none is written whole. -/
theorem Reads.setTail {ao : Option Addr} {n g : Nat} {f : Nat → Nat} : ∀ (xs : List Value) (pre vs : List Value) {w : World}, vs.length = xs.length → (∀ u ∈ vs, NoWord u) → Box w g (pre ++ vs) → Reads w ao n f → Reads (Go.MagM.setAll w g pre.length xs) ao n f
  | [], _, _, _, _, _, _, h => h
  | x :: xs, pre, [], _, hl, _, _, _ => by simp at hl
  | x :: xs, pre, v :: vs, w, hl, hv, hb, h => by
    have e : (pre ++ v :: vs).set pre.length x = (pre ++ [x]) ++ vs := by simp
    have h1 := hb.set pre.length x
    rw [e] at h1
    have hc : w.cell? ⟨g, pre.length, none⟩ = some v := hb.c pre.length _ (by simp)
    have := Reads.setTail xs (pre ++ [x]) vs (by simpa using hl) (fun u hu => hv u (by simp [hu])) h1 (h.setOne hc (hv v (by simp)) x)
    simpa [Go.MagM.setAll] using this
theorem Reads.setAll {w : World} {ao : Option Addr} {n g : Nat} {f : Nat → Nat} (h : Reads w ao n f) {vs : List Value} (hb : Box w g vs) (hv : ∀ u ∈ vs, NoWord u) (xs : List Value) (hl : vs.length = xs.length) : Reads (Go.MagM.setAll w g 0 xs) ao n f :=
  Reads.setTail xs [] vs hl hv hb h
theorem Mag.setAll {w : World} {v : Value} {L N g : Nat} (h : Mag w v L N) {vs : List Value} (hb : Box w g vs) (hv : ∀ u ∈ vs, NoWord u) (xs : List Value) (hl : vs.length = xs.length) : Mag (Go.MagM.setAll w g 0 xs) v L N := by
  obtain ⟨ao, n, c, f, h1, h2, h3, h4, h5⟩ := h; exact ⟨ao, n, c, f, h1, h2, h3, h4.setAll hb hv xs hl, h5⟩
theorem RMag.setAll {w : World} {v : Value} {L N g : Nat} (h : RMag w v L N) {vs : List Value} (hb : Box w g vs) (hv : ∀ u ∈ vs, NoWord u) (xs : List Value) (hl : vs.length = xs.length) : RMag (Go.MagM.setAll w g 0 xs) v L N := by
  obtain ⟨ao, n, c, f, h1, h2, h3, h4, h5⟩ := h; exact ⟨ao, n, c, f, h1, h2, h3, h4.setAll hb hv xs hl, h5⟩
theorem Num.setAll {w : World} {v : Value} {L g : Nat} {N : Int} (h : Num w v L N) {vs : List Value} (hb : Box w g vs) (hv : ∀ u ∈ vs, NoWord u) (xs : List Value) (hl : vs.length = xs.length) : Num (Go.MagM.setAll w g 0 xs) v L N := by
  obtain ⟨m, vm, M, h1, h2, h3⟩ := h; exact ⟨m, vm, M, h1, h2.setAll hb hv xs hl, h3⟩
theorem RNum.setAll {w : World} {v : Value} {L g : Nat} {N : Int} (h : RNum w v L N) {vs : List Value} (hb : Box w g vs) (hv : ∀ u ∈ vs, NoWord u) (xs : List Value) (hl : vs.length = xs.length) : RNum (Go.MagM.setAll w g 0 xs) v L N := by
  obtain ⟨m, vm, M, h1, h2, h3⟩ := h; exact ⟨m, vm, M, h1, h2.setAll hb hv xs hl, h3⟩
theorem Mag.setOne {w : World} {v : Value} {L N : Nat} (h : Mag w v L N) {a : Addr} {u : Value} (hc : w.cell? a = some u) (hu : NoWord u) (x : Value) : Mag (w.setCell a x) v L N := by
  obtain ⟨ao, n, c, f, h1, h2, h3, h4, h5⟩ := h; exact ⟨ao, n, c, f, h1, h2, h3, h4.setOne hc hu x, h5⟩
theorem RMag.setOne {w : World} {v : Value} {L N : Nat} (h : RMag w v L N) {a : Addr} {u : Value} (hc : w.cell? a = some u) (hu : NoWord u) (x : Value) : RMag (w.setCell a x) v L N := by
  obtain ⟨ao, n, c, f, h1, h2, h3, h4, h5⟩ := h; exact ⟨ao, n, c, f, h1, h2, h3, h4.setOne hc hu x, h5⟩
theorem Num.setOne {w : World} {v : Value} {L : Nat} {N : Int} (h : Num w v L N) {a : Addr} {u : Value} (hc : w.cell? a = some u) (hu : NoWord u) (x : Value) : Num (w.setCell a x) v L N := by
  obtain ⟨m, vm, M, h1, h2, h3⟩ := h; exact ⟨m, vm, M, h1, h2.setOne hc hu x, h3⟩
theorem RNum.setOne {w : World} {v : Value} {L : Nat} {N : Int} (h : RNum w v L N) {a : Addr} {u : Value} (hc : w.cell? a = some u) (hu : NoWord u) (x : Value) : RNum (w.setCell a x) v L N := by
  obtain ⟨m, vm, M, h1, h2, h3⟩ := h; exact ⟨m, vm, M, h1, h2.setOne hc hu x, h3⟩
theorem Mag.num {w : World} {v : Value} {L N : Nat} (h : Mag w v L N) : Num w (.agg #[.bool false, v]) L (N : Int) := ⟨false, v, N, rfl, h, rfl⟩
/-- A cell holds a word. -/
structure WCell (w : World) (b o x : Nat) : Prop where
  c : w.cell? ⟨b, o, none⟩ = some (.int .u64 ((x : Nat) : Int))
theorem WCell.below {w w' : World} {b o x : Nat} (h : WCell w b o x) (hb : Below w.heap.size w w') : WCell w' b o x :=
  ⟨(hb.cell (p := ⟨b, o, none⟩) (World.block_lt_of_cell? w _ h.c)).trans h.c⟩
theorem WCell.drew {w : World} {b o x : Nat} (h : WCell w b o x) : WCell w.drew b o x := ⟨h.c⟩
theorem WCell.setOne {w : World} {b o x : Nat} (h : WCell w b o x) {a : Addr} {u : Value} (hc : w.cell? a = some u) (hu : NoWord u) (v : Value) : WCell (w.setCell a v) b o x := by
  refine ⟨?_⟩
  have ne : a ≠ ⟨b, o, none⟩ := by
    intro e; rw [e, h.c] at hc
    exact hu _ (Option.some.inj hc).symm
  rw [World.cell?_setCell_other _ _ _ _ (by first | exact ne | exact ne.symm)]; exact h.c
theorem WCell.setTail {g b o y : Nat} : ∀ (xs : List Value) (pre vs : List Value) {w : World}, vs.length = xs.length → (∀ u ∈ vs, NoWord u) → Box w g (pre ++ vs) → WCell w b o y → WCell (Go.MagM.setAll w g pre.length xs) b o y
  | [], _, _, _, _, _, _, h => h
  | x :: xs, pre, [], _, hl, _, _, _ => by simp at hl
  | x :: xs, pre, v :: vs, w, hl, hv, hb, h => by
    have e : (pre ++ v :: vs).set pre.length x = (pre ++ [x]) ++ vs := by simp
    have h1 := hb.set pre.length x
    rw [e] at h1
    have hc : w.cell? ⟨g, pre.length, none⟩ = some v := hb.c pre.length _ (by simp)
    have := WCell.setTail xs (pre ++ [x]) vs (by simpa using hl) (fun u hu => hv u (by simp [hu])) h1 (h.setOne hc (hv v (by simp)) x)
    simpa [Go.MagM.setAll] using this
theorem WCell.setAll {w : World} {b o x g : Nat} (h : WCell w b o x) {vs : List Value} (hb : Box w g vs) (hv : ∀ u ∈ vs, NoWord u) (xs : List Value) (hl : vs.length = xs.length) : WCell (Go.MagM.setAll w g 0 xs) b o x :=
  WCell.setTail xs [] vs hl hv hb h
/-- The word on top of a number that isn't 0. -/
theorem RMag.top {w : World} {ao : Option Addr} {n c L N : Nat} (h : RMag w (.slice ao n c) L N) (h0 : N ≠ 0) : ∃ b o k x, ao = some ⟨b, o, none⟩ ∧ n = k + 1 ∧ k + 1 ≤ L ∧ x ≠ 0 ∧ WCell w b (o + k) x := by
  obtain ⟨ao', n', c', f, e, _, h3, h4, h5, h6⟩ := h
  simp at e
  obtain ⟨rfl, rfl, rfl⟩ := e
  cases n with
  | zero => exact absurd h5.symm h0
  | succ k =>
    obtain ⟨b, o, h7, h8, h9⟩ := h4 k (by omega)
    exact ⟨b, o, k, f k, h7, rfl, h3, h6 k rfl, ⟨h8⟩⟩
/-- A number of one word. -/
theorem RMag.lone {w : World} {ao : Option Addr} {n c L N : Nat} (h : RMag w (.slice ao n c) L N) (h0 : N ≠ 0) (hB : N < B) : ∃ b o, ao = some ⟨b, o, none⟩ ∧ n = 1 ∧ WCell w b o N := by
  obtain ⟨ao', n', c', f, e, _, h3, h4, h5, h6⟩ := h
  simp at e
  obtain ⟨rfl, rfl, rfl⟩ := e
  cases n with
  | zero => exact absurd h5.symm h0
  | succ k =>
    have h11 := len_le_of_lt (L := 1) h6 (by rw [h5]; simpa using hB)
    obtain rfl : k = 0 := by omega
    obtain ⟨b, o, h7, h8, h9⟩ := h4 0 (by omega)
    refine ⟨b, o, h7, rfl, ⟨?_⟩⟩
    rw [V_succ, V_zero] at h5
    have : f 0 = N := by simpa using h5
    rw [← this]
    exact h8
theorem noWord2 (b : Bool) (ao : Option Addr) (n c : Nat) : ∀ u ∈ [.bool b, .slice ao n c], NoWord u := by
  intro u hu; simp at hu; rcases hu with rfl | rfl
  · exact NoWord.bool _
  · exact NoWord.slice _ _ _
theorem noWord3 (b : Bool) (ao : Option Addr) (n c : Nat) (bo : Option Addr) (k d : Nat) : ∀ u ∈ [.bool b, .slice ao n c, .slice bo k d], NoWord u := by
  intro u hu; simp at hu; rcases hu with rfl | rfl | rfl
  · exact NoWord.bool _
  · exact NoWord.slice _ _ _
  · exact NoWord.slice _ _ _
theorem Box.two_of {w : World} {g : Nat} {u v : Value} (h : Box2 w g u v) : Box w g [u, v] := by
  refine ⟨fun i x hi => ?_, fun i x hi => ?_⟩
  · match i, hi with
    | 0, hi => simp at hi; subst hi; exact h.c0
    | 1, hi => simp at hi; subst hi; exact h.c1
  · match i, hi with
    | 0, hi => exact h.f0
    | 1, hi => exact h.f1
/-- WHAT A FRAC IS: a number with a sign, and what it is divided by. -/
def FD (w : World) (v : Value) (L : Nat) (X : Int) (D : Nat) : Prop := ∃ m ao n c bo k d, v = .agg #[.bool m, .slice ao n c, .slice bo k d] ∧ Num w (.agg #[.bool m, .slice ao n c]) L X ∧ Mag w (.slice bo k d) L D
/-- The same, and it is right: a rational number. -/
def RF (w : World) (v : Value) (L : Nat) (q : Rat) : Prop := ∃ m ao n c bo k d, v = .agg #[.bool m, .slice ao n c, .slice bo k d] ∧ RNum w (.agg #[.bool m, .slice ao n c]) L q.num ∧ RMag w (.slice bo k d) L q.den
theorem FD.below {w w' : World} {v : Value} {L : Nat} {X : Int} {D : Nat} (h : FD w v L X D) (hb : Below w.heap.size w w') : FD w' v L X D := by
  obtain ⟨m, ao, n, c, bo, k, d, h1, h2, h3⟩ := h; exact ⟨m, ao, n, c, bo, k, d, h1, h2.below hb, h3.below hb⟩
theorem RF.below {w w' : World} {v : Value} {L : Nat} {q : Rat} (h : RF w v L q) (hb : Below w.heap.size w w') : RF w' v L q := by
  obtain ⟨m, ao, n, c, bo, k, d, h1, h2, h3⟩ := h; exact ⟨m, ao, n, c, bo, k, d, h1, h2.below hb, h3.below hb⟩
theorem FD.drew {w : World} {v : Value} {L : Nat} {X : Int} {D : Nat} (h : FD w v L X D) : FD w.drew v L X D := h
theorem RF.drew {w : World} {v : Value} {L : Nat} {q : Rat} (h : RF w v L q) : RF w.drew v L q := h
theorem FD.setOne {w : World} {v : Value} {L : Nat} {X : Int} {D : Nat} (h : FD w v L X D) {a : Addr} {u : Value} (hc : w.cell? a = some u) (hu : NoWord u) (x : Value) : FD (w.setCell a x) v L X D := by
  obtain ⟨m, ao, n, c, bo, k, d, h1, h2, h3⟩ := h; exact ⟨m, ao, n, c, bo, k, d, h1, h2.setOne hc hu x, h3.setOne hc hu x⟩
theorem RF.setOne {w : World} {v : Value} {L : Nat} {q : Rat} (h : RF w v L q) {a : Addr} {u : Value} (hc : w.cell? a = some u) (hu : NoWord u) (x : Value) : RF (w.setCell a x) v L q := by
  obtain ⟨m, ao, n, c, bo, k, d, h1, h2, h3⟩ := h; exact ⟨m, ao, n, c, bo, k, d, h1, h2.setOne hc hu x, h3.setOne hc hu x⟩
theorem FD.setAll {w : World} {v : Value} {L g : Nat} {X : Int} {D : Nat} (h : FD w v L X D) {vs : List Value} (hb : Box w g vs) (hv : ∀ u ∈ vs, NoWord u) (xs : List Value) (hl : vs.length = xs.length) : FD (Go.MagM.setAll w g 0 xs) v L X D := by
  obtain ⟨m, ao, n, c, bo, k, d, h1, h2, h3⟩ := h; exact ⟨m, ao, n, c, bo, k, d, h1, h2.setAll hb hv xs hl, h3.setAll hb hv xs hl⟩
theorem RF.setAll {w : World} {v : Value} {L g : Nat} {q : Rat} (h : RF w v L q) {vs : List Value} (hb : Box w g vs) (hv : ∀ u ∈ vs, NoWord u) (xs : List Value) (hl : vs.length = xs.length) : RF (Go.MagM.setAll w g 0 xs) v L q := by
  obtain ⟨m, ao, n, c, bo, k, d, h1, h2, h3⟩ := h; exact ⟨m, ao, n, c, bo, k, d, h1, h2.setAll hb hv xs hl, h3.setAll hb hv xs hl⟩
theorem FD.more {w : World} {v : Value} {L L' : Nat} {X : Int} {D : Nat} (h : FD w v L X D) (hL : L ≤ L') : FD w v L' X D := by
  obtain ⟨m, ao, n, c, bo, k, d, h1, h2, h3⟩ := h; exact ⟨m, ao, n, c, bo, k, d, h1, h2.more hL, h3.more hL⟩
theorem RF.more {w : World} {v : Value} {L L' : Nat} {q : Rat} (h : RF w v L q) (hL : L ≤ L') : RF w v L' q := by
  obtain ⟨m, ao, n, c, bo, k, d, h1, h2, h3⟩ := h; exact ⟨m, ao, n, c, bo, k, d, h1, h2.more hL, h3.more hL⟩
theorem RF.fd {w : World} {v : Value} {L : Nat} {q : Rat} (h : RF w v L q) : FD w v L q.num q.den := by
  obtain ⟨m, ao, n, c, bo, k, d, h1, h2, h3⟩ := h; exact ⟨m, ao, n, c, bo, k, d, h1, h2.num, h3.mag⟩
theorem RF.of {w : World} {v : Value} {L : Nat} {p q : Rat} (h : RF w v L p) (e : p = q) : RF w v L q := e ▸ h
/-- What a number is divided by: 1, if that is 0. -/
def den1 (D : Nat) : Nat := if D = 0 then 1 else D
theorem den1_pos (D : Nat) : 0 < den1 D := by unfold den1; split <;> omega
theorem den1_ne (D : Nat) : den1 D ≠ 0 := Nat.ne_of_gt (den1_pos D)
theorem den1_of {D : Nat} (h : D ≠ 0) : den1 D = D := if_neg h
/-- The number that a Frac counts. -/
def qv (X : Int) (D : Nat) : Rat := mkRat X (den1 D)
theorem qv_self (q : Rat) : qv q.num q.den = q := by unfold qv; rw [den1_of q.den_nz]; exact Rat.mkRat_self q
/-- What is read as a Frac counts q, right or not. -/
def FQ (w : World) (v : Value) (L : Nat) (q : Rat) : Prop := ∃ X D, FD w v L X D ∧ qv X D = q
theorem FD.q {w : World} {v : Value} {L : Nat} {X : Int} {D : Nat} (h : FD w v L X D) : FQ w v L (qv X D) := ⟨X, D, h, rfl⟩
theorem RF.q {w : World} {v : Value} {L : Nat} {q : Rat} (h : RF w v L q) : FQ w v L q := ⟨_, _, h.fd, qv_self q⟩
theorem FQ.below {w w' : World} {v : Value} {L : Nat} {q : Rat} (h : FQ w v L q) (hb : Below w.heap.size w w') : FQ w' v L q := by
  obtain ⟨X, D, h1, h2⟩ := h; exact ⟨X, D, h1.below hb, h2⟩
theorem FQ.drew {w : World} {v : Value} {L : Nat} {q : Rat} (h : FQ w v L q) : FQ w.drew v L q := h
theorem FQ.more {w : World} {v : Value} {L L' : Nat} {q : Rat} (h : FQ w v L q) (hL : L ≤ L') : FQ w v L' q := by
  obtain ⟨X, D, h1, h2⟩ := h; exact ⟨X, D, h1.more hL, h2⟩
theorem FQ.setOne {w : World} {v : Value} {L : Nat} {q : Rat} (h : FQ w v L q) {a : Addr} {u : Value} (hc : w.cell? a = some u) (hu : NoWord u) (x : Value) : FQ (w.setCell a x) v L q := by
  obtain ⟨X, D, h1, h2⟩ := h; exact ⟨X, D, h1.setOne hc hu x, h2⟩
theorem FQ.setAll {w : World} {v : Value} {L g : Nat} {q : Rat} (h : FQ w v L q) {vs : List Value} (hb : Box w g vs) (hv : ∀ u ∈ vs, NoWord u) (xs : List Value) (hl : vs.length = xs.length) : FQ (Go.MagM.setAll w g 0 xs) v L q := by
  obtain ⟨X, D, h1, h2⟩ := h; exact ⟨X, D, h1.setAll hb hv xs hl, h2⟩
/-- A call's answer is a right Frac of at most L words, q. -/
def AnsF (w w' : World) (e : Ending) (L : Nat) (q : Rat) : Prop := ∃ m ao n c bo k d, e = .returned (.agg #[.bool m, .slice ao n c, .slice bo k d]) ∧ RF w' (.agg #[.bool m, .slice ao n c, .slice bo k d]) L q ∧ Below w.heap.size w w'
theorem AnsF.of {w w' : World} {e : Ending} {L L' : Nat} {p q : Rat} (h : AnsF w w' e L p) (hL : L ≤ L') (he : p = q) : AnsF w w' e L' q := by
  subst he; obtain ⟨m, ao, n, c, bo, k, d, h1, h2, h3⟩ := h; exact ⟨m, ao, n, c, bo, k, d, h1, h2.more hL, h3⟩
theorem FD.num {w : World} {m : Bool} {ao : Option Addr} {n c : Nat} {bo : Option Addr} {k d L D : Nat} {X : Int} (h : FD w (.agg #[.bool m, .slice ao n c, .slice bo k d]) L X D) : Num w (.agg #[.bool m, .slice ao n c]) L X := by
  obtain ⟨_, _, _, _, _, _, _, e, h1, h2⟩ := h
  simp at e
  obtain ⟨rfl, ⟨rfl, rfl, rfl⟩, rfl, rfl, rfl⟩ := e
  exact h1
theorem FD.mag {w : World} {m : Bool} {ao : Option Addr} {n c : Nat} {bo : Option Addr} {k d L D : Nat} {X : Int} (h : FD w (.agg #[.bool m, .slice ao n c, .slice bo k d]) L X D) : Mag w (.slice bo k d) L D := by
  obtain ⟨_, _, _, _, _, _, _, e, h1, h2⟩ := h
  simp at e
  obtain ⟨rfl, ⟨rfl, rfl, rfl⟩, rfl, rfl, rfl⟩ := e
  exact h2
theorem Num.part {w : World} {m : Bool} {vm : Value} {L : Nat} {X : Int} (h : Num w (.agg #[.bool m, vm]) L X) : ∃ N, Mag w vm L N ∧ X = sgn m N := by
  obtain ⟨m', vm', N, e, h1, h2⟩ := h
  simp at e
  obtain ⟨rfl, rfl⟩ := e
  exact ⟨N, h1, h2⟩
theorem RNum.part {w : World} {m : Bool} {vm : Value} {L : Nat} {X : Int} (h : RNum w (.agg #[.bool m, vm]) L X) : ∃ N, RMag w vm L N ∧ X = sgn m N ∧ (m = true → N ≠ 0) := by
  obtain ⟨m', vm', N, e, h1, h2⟩ := h
  simp at e
  obtain ⟨rfl, rfl⟩ := e
  exact ⟨N, h1, h2⟩
theorem FD.neg {w : World} {m : Bool} {ao : Option Addr} {n c : Nat} {bo : Option Addr} {k d L D : Nat} {X : Int} (h : FD w (.agg #[.bool m, .slice ao n c, .slice bo k d]) L X D) : FD w (.agg #[.bool (!m), .slice ao n c, .slice bo k d]) L (-X) D := by
  obtain ⟨N, h1, rfl⟩ := h.num.part
  exact ⟨_, _, _, _, _, _, _, rfl, ⟨!m, _, N, rfl, h1, (sgn_neg m N).symm⟩, h.mag⟩
theorem FD.make {w : World} (m : Bool) {ao : Option Addr} {n c : Nat} {bo : Option Addr} {k d L N D : Nat} (h : Mag w (.slice ao n c) (max L 1) N) (h2 : Mag w (.slice bo k d) L D) : FD w (.agg #[.bool m, .slice ao n c, .slice bo k d]) (max L 1) (sgn m N) D :=
  ⟨_, _, _, _, _, _, _, rfl, ⟨m, _, N, rfl, h, rfl⟩, h2.more (by omega)⟩
/-- A call's answer is a slice of words that count N. -/
def AnsMag (w w' : World) (e : Ending) (L N : Nat) : Prop := ∃ ao n c, e = .returned (.slice ao n c) ∧ Mag w' (.slice ao n c) L N ∧ Below w.heap.size w w'
/-- The same, and it is right. -/
def AnsRMag (w w' : World) (e : Ending) (L N : Nat) : Prop := ∃ ao n c, e = .returned (.slice ao n c) ∧ RMag w' (.slice ao n c) L N ∧ Below w.heap.size w w'
theorem AnsRMag.of {w w' : World} {e : Ending} {L N : Nat} (h : ∃ v, e = .returned v ∧ RMag w' v L N ∧ Below w.heap.size w w') : AnsRMag w w' e L N := by
  obtain ⟨v, rfl, h1, h2⟩ := h
  obtain ⟨ao, n, c, rfl⟩ := h1.slice
  exact ⟨ao, n, c, rfl, h1, h2⟩
end Go.MagM
/- Whole numbers of 128 bits: the two words of an integer, and what sums, differences, products of words are. Over any program. -/
namespace Go.MagM
open Go.RowKit
/-- The high word of a whole number, modulo 2 to 128. -/
def wh (z : Int) : Nat := (z / 18446744073709551616 % 18446744073709551616).toNat
/-- The low word. -/
def wl (z : Int) : Nat := (z % 18446744073709551616).toNat
/-- A number of 128 bits. -/
def InW (z : Int) : Prop := -170141183460469231731687303715884105728 ≤ z ∧ z < 170141183460469231731687303715884105728
instance (z : Int) : Decidable (InW z) := by unfold InW; exact inferInstance
/-- What a number of 128 bits is, as a value. -/
def WV (z : Int) : Value := .agg #[.int .u64 ((wh z : Nat) : Int), .int .u64 ((wl z : Nat) : Int)]
theorem wh_lt (z : Int) : wh z < B := by unfold wh B; omega
theorem wl_lt (z : Int) : wl z < B := by unfold wl B; omega
theorem w_mod (z : Int) : ((wh z : Nat) : Int) * 18446744073709551616 + ((wl z : Nat) : Int) = z % 340282366920938463463374607431768211456 := by unfold wh wl; omega
/-- The words of a number are those that make it up, modulo 2 to 128. -/
theorem w_of {z : Int} {h l : Nat} (hh : h < B) (hl : l < B) (k : Int) (e : (h : Int) * 18446744073709551616 + (l : Int) = z + k * 340282366920938463463374607431768211456) : h = wh z ∧ l = wl z := by
  have := w_mod z; have h1 := wh_lt z; have h2 := wl_lt z
  unfold B at *
  omega
theorem w_eq {x y : Int} (hx : InW x) (hy : InW y) (h1 : wh x = wh y) (h2 : wl x = wl y) : x = y := by
  have a := w_mod x; have b := w_mod y; rw [h1, h2] at a; unfold InW at *; omega
theorem w_beq {x y : Int} (hx : InW x) (hy : InW y) : (((wh x : Nat) : Int) == ((wh y : Nat) : Int) && ((wl x : Nat) : Int) == ((wl y : Nat) : Int)) = decide (x = y) := by
  by_cases h : x = y
  · subst h; simp
  · simp only [h, decide_false, Bool.and_eq_false_iff, beq_eq_false_iff_ne]
    by_cases h1 : wh x = wh y
    · right; intro h2; exact h (w_eq hx hy h1 (by omega))
    · left; omega
theorem wh_zero : wh 0 = 0 := by decide
theorem wl_zero : wl 0 = 0 := by decide
theorem wh_least : wh (-170141183460469231731687303715884105728) = 9223372036854775808 := by decide
theorem wl_least : wl (-170141183460469231731687303715884105728) = 0 := by decide
/-- Any two words are those of a number of 128 bits. -/
theorem w_some (h l : Nat) (hh : h < B) (hl : l < B) : ∃ z, InW z ∧ wh z = h ∧ wl z = l := by
  have c : h < 9223372036854775808 ∨ 9223372036854775808 ≤ h := by omega
  unfold B at *
  rcases c with c | c
  · obtain ⟨a, b⟩ := w_of (z := (h : Int) * 18446744073709551616 + (l : Int)) hh hl 0 (by omega)
    exact ⟨_, by unfold InW; omega, a.symm, b.symm⟩
  · obtain ⟨a, b⟩ := w_of (z := (h : Int) * 18446744073709551616 + (l : Int) - 340282366920938463463374607431768211456) hh hl 1 (by omega)
    exact ⟨_, by unfold InW; omega, a.symm, b.symm⟩
/-- Sums, word by word. -/
theorem w_add (x y : Int) : (wh x + wh y + (wl x + wl y + 0) / B) % B = wh (x + y) ∧ (wl x + wl y + 0) % B = wl (x + y) := by
  have a := w_mod x; have b := w_mod y; have h1 := wh_lt x; have h2 := wl_lt x; have h3 := wh_lt y; have h4 := wl_lt y
  simp only [B_eq] at *
  refine w_of (by rw [B_eq]; omega) (by rw [B_eq]; omega) (-(((wh x + wh y + (wl x + wl y + 0) / 18446744073709551616) / 18446744073709551616 : Nat) : Int) - x / 340282366920938463463374607431768211456 - y / 340282366920938463463374607431768211456) ?_
  omega
/-- Differences, word by word. -/
theorem w_sub (x y : Int) : (wh x + B - wh y - (if wl x < wl y + 0 then 1 else 0)) % B = wh (x - y) ∧ (wl x + B - wl y - 0) % B = wl (x - y) := by
  have a := w_mod x; have b := w_mod y; have h1 := wh_lt x; have h2 := wl_lt x; have h3 := wh_lt y; have h4 := wl_lt y
  simp only [B_eq] at *
  generalize wh x = h at *; generalize wl x = l at *; generalize wh y = h' at *; generalize wl y = l' at *
  by_cases c : l < l' + 0
  · rw [if_pos c]
    by_cases d : h < h' + 1
    · exact w_of (by rw [B_eq]; omega) (by rw [B_eq]; omega) (1 - x / 340282366920938463463374607431768211456 + y / 340282366920938463463374607431768211456) (by omega)
    · exact w_of (by rw [B_eq]; omega) (by rw [B_eq]; omega) (- (x / 340282366920938463463374607431768211456) + y / 340282366920938463463374607431768211456) (by omega)
  · rw [if_neg c]
    by_cases d : h < h'
    · exact w_of (by rw [B_eq]; omega) (by rw [B_eq]; omega) (1 - x / 340282366920938463463374607431768211456 + y / 340282366920938463463374607431768211456) (by omega)
    · exact w_of (by rw [B_eq]; omega) (by rw [B_eq]; omega) (- (x / 340282366920938463463374607431768211456) + y / 340282366920938463463374607431768211456) (by omega)
theorem w_neg {z : Int} (h : InW z) : (9223372036854775808 ≤ wh z) ↔ z < 0 := by
  have := w_mod z; have h1 := wh_lt z; have h2 := wl_lt z; unfold InW B at *; omega
theorem w_pos {z : Int} (h : InW z) (h0 : 0 ≤ z) : (wh z : Int) * 18446744073709551616 + (wl z : Int) = z := by
  have := w_mod z; unfold InW at *; omega
theorem w_size {z : Int} (h : InW z) : ((wh (z.natAbs : Int) : Nat) : Int) * 18446744073709551616 + ((wl (z.natAbs : Int) : Nat) : Int) = (z.natAbs : Int) := by
  have := w_mod (z.natAbs : Int); unfold InW at *; omega
/-- The words of an int. -/
theorem w_int_neg {n : Int} (h : -9223372036854775808 ≤ n) (h0 : n < 0) : wh n = 18446744073709551615 ∧ ((wl n : Nat) : Int) = IntKind.u64.wrap n := by
  rw [IntKind.wrap_u64]; unfold wh wl; omega
theorem w_int_pos {n : Int} (h : n < 9223372036854775808) (h0 : 0 ≤ n) : wh n = 0 ∧ ((wl n : Nat) : Int) = IntKind.u64.wrap n := by
  rw [IntKind.wrap_u64]; unfold wh wl; omega
theorem w_abs_int {n : Int} (h : -9223372036854775808 ≤ n) (h1 : n < 9223372036854775808) : wl (n.natAbs : Int) = n.natAbs ∧ n.natAbs < B := by
  unfold wl B; omega
end Go.MagM
/- From the form of the rows to the walks of layer 5: what an argument reads as. -/
namespace Go.Proofs.Ytkigfccbhkcedaa
open Go.ChangeShapes Go.WideShapes Go.RowKit Go.MagM
theorem word_range {x : Int} (h : (Lit.int .u64 x).wf = true) : 0 ≤ x ∧ x < 18446744073709551616 := by
  simp only [Lit.wf, IntKind.min, IntKind.max, IntKind.signed, IntKind.bits, Bool.and_eq_true] at h
  simp at h
  omega
set_option maxRecDepth 100000 in
/-- What a Wide reads as: a number of 128 bits. -/
theorem view_wide {H : Type} {enc : TypeId × Value → H} {W : World} {b0 : Nat} {v : Value} {d : DataW H} {p : List MemPlace} (hv : Value.okWide Try.prog W .any b0 24 v)
    (h : DataW.Trod enc Try.prog W 0 (fun _ => true) true 24 v d p) :
    ∃ z, v = .agg #[.int .u64 ((wh z : Nat) : Int), .int .u64 ((wl z : Nat) : Int)] ∧ InW z := by
  obtain ⟨v0, v1, y0, y1, k, rfl, _, _, h0, h1⟩ := Joins.open_agg2 Try.underlying24 (by kernel_rfl) (by kernel_rfl) hv h
  obtain ⟨x, e0, _, w0⟩ := DataW.trod_int Try.underlying22 h0
  obtain ⟨y, e1, _, w1⟩ := DataW.trod_int Try.underlying22 h1
  simp at e0 e1
  subst e0 e1
  have r0 := word_range w0
  have r1 := word_range w1
  obtain ⟨z, hz, q0, q1⟩ := w_some x.toNat y.toNat (by unfold B; omega) (by unfold B; omega)
  refine ⟨z, ?_, hz⟩
  rw [q0, q1, Int.toNat_of_nonneg r0.1, Int.toNat_of_nonneg r1.1]
end Go.Proofs.Ytkigfccbhkcedaa
/- The calls of wide: below, less, across, size, Of, Sign. -/
namespace Go.Proofs.Ytkigfccbhkcedaa
open Go.RowKit Go.MagM
/-- A call's answer is a number of 128 bits. -/
def AnsW (w w' : World) (e : Ending) (z : Int) : Prop := e = .returned (.agg #[.int .u64 ((wh z : Nat) : Int), .int .u64 ((wl z : Nat) : Int)]) ∧ Below w.heap.size w w'
set_option maxHeartbeats 4000000 in
theorem below_walk (ah al : Nat) (b : Bool) (w : World) (hb : (bits .and .u64 (ah : Int) 9223372036854775808 != 0) = b) :
    Calls Try.prog 31 #[.agg #[.int .u64 ((ah : Nat) : Int), .int .u64 ((al : Nat) : Int)]] w fun e w' => e = .returned (.bool b) ∧ Below w.heap.size w w' := by
  have hB_0 := Below.refl w.heap.size w
  obtain ⟨w1, hw1, pa_0, hb1, hs1⟩ := new_box w (w.heap.size) rfl [.int .u64 ((ah : Nat) : Int), .int .u64 ((al : Nat) : Int)] 24
  have hb1' : Below w.heap.size w w1 := hb1.mono (by omega)
  clear hb1
  have hB_1 := hB_0.trans (hb1'.mono hB_0.size)
  clear hb1' hB_0
  go_enter Try.func31, Try.ntmps31
  obtain ⟨pae0, pae1, pae2, pae3⟩ := pa_0.open2
  go_wp2
  go_ret
  exact ⟨rfl, hB_1⟩
set_option maxHeartbeats 4000000 in
theorem less_walk (ah al : Nat) (bh bl : Nat) (H L k : Nat) (w : World) (h1 : (al + B - bl - 0) % B = L) (h2 : bor al bl 0 = k) (h3 : (ah + B - bh - k) % B = H) (hk : k ≤ 1) :
    Calls Try.prog 33 #[.agg #[.int .u64 ((ah : Nat) : Int), .int .u64 ((al : Nat) : Int)], .agg #[.int .u64 ((bh : Nat) : Int), .int .u64 ((bl : Nat) : Int)]] w fun e w' => e = .returned (.agg #[.int .u64 ((H : Nat) : Int), .int .u64 ((L : Nat) : Int)]) ∧ Below w.heap.size w w' := by
  have hB_0 := Below.refl w.heap.size w
  have hsub1 := fun w => sub64_run al bl 0 (by omega) w
  have hsub2 := fun w => sub64_run ah bh k (by omega) w
  simp only [h1, h2] at hsub1
  simp only [h3] at hsub2
  have hs1 : ∀ w, (callFunc 48 #[.int .u64 al, .int .u64 bl, .int .u64 0]).run Try.prog w = .ok (.value (.tuple #[.int .u64 L, .int .u64 k])) w := hsub1
  clear hsub1 h1 h2 h3
  obtain ⟨w1, hw1, pa_0, hb1, hs1⟩ := new_box w (w.heap.size) rfl [.int .u64 ((ah : Nat) : Int), .int .u64 ((al : Nat) : Int)] 24
  have hb1' : Below w.heap.size w w1 := hb1.mono (by omega)
  clear hb1
  have hB_1 := hB_0.trans (hb1'.mono hB_0.size)
  clear hb1' hB_0
  obtain ⟨w2, hw2, pb_0, hb2, hs2⟩ := new_box w1 (w.heap.size + 1) hs1 [.int .u64 ((bh : Nat) : Int), .int .u64 ((bl : Nat) : Int)] 24
  have hb2' : Below w1.heap.size w1 w2 := hb2.mono (by omega)
  clear hb2
  have hB_2 := hB_1.trans (hb2'.mono hB_1.size)
  have pa_1 := pa_0.below hb2'
  clear hb2' hB_1 pa_0
  obtain ⟨w3, hw3, pr_0, hb3, hs3⟩ := new_box w2 (w.heap.size + 1 + 1) hs2 [.int .u64 0, .int .u64 0] 24
  have hb3' : Below w2.heap.size w2 w3 := hb3.mono (by omega)
  clear hb3
  have hB_3 := hB_2.trans (hb3'.mono hB_2.size)
  have pa_2 := pa_1.below hb3'
  have pb_1 := pb_0.below hb3'
  clear hb3' hB_2 pa_1 pb_0
  go_enter Try.func33, Try.ntmps33
  obtain ⟨pae0, pae1, pae2, pae3⟩ := pa_2.open2
  obtain ⟨pbe0, pbe1, pbe2, pbe3⟩ := pb_1.open2
  obtain ⟨pre0, pre1, pre2, pre3⟩ := pr_0.open2
  obtain ⟨sf1a, sf1b, sf1c, sf1d⟩ := pr_0.open2
  obtain ⟨sg1a, sg1b⟩ := Box.put2 pr_0 (.int .u64 ((H : Nat) : Int))
  go_wp2
  clear pae0 pae1 pae2 pae3 pbe0 pbe1 pbe2 pbe3 pre0 pre1 pre2 pre3 sf1a sf1b sf1c sf1d sg1a sg1b
  have hB_4 := below_setAll hB_3 (g := w.heap.size + 1 + 1) (by omega) [.int .u64 ((H : Nat) : Int), .int .u64 ((L : Nat) : Int)]
  have pa_3 := pa_2.farAll (g' := w.heap.size + 1 + 1) (by omega) [.int .u64 ((H : Nat) : Int), .int .u64 ((L : Nat) : Int)]
  have pb_2 := pb_1.farAll (g' := w.heap.size + 1 + 1) (by omega) [.int .u64 ((H : Nat) : Int), .int .u64 ((L : Nat) : Int)]
  have pr_1 := pr_0.setAll [.int .u64 ((H : Nat) : Int), .int .u64 ((L : Nat) : Int)] rfl
  simp only [setAll, Nat.zero_add] at hB_4 pa_3 pb_2 pr_1
  clear hB_3 pa_2 pb_1 pr_0
  generalize (World.setCell (World.setCell w3 ⟨w.heap.size + 1 + 1, 0, none⟩ (.int .u64 ((H : Nat) : Int))) ⟨w.heap.size + 1 + 1, 1, none⟩ (.int .u64 ((L : Nat) : Int))) = w4 at *
  go_wp2
  obtain ⟨pre0, pre1, pre2, pre3⟩ := pr_1.open2
  exact bodyPost_ret (v := .agg #[.int .u64 ((H : Nat) : Int), .int .u64 ((L : Nat) : Int)]) (by simp [results, Try.results33, go_sem, pre0, pre1]) rfl ⟨rfl, hB_4⟩
theorem high_and (h : Nat) (hB : h < B) : h &&& 9223372036854775808 = if 9223372036854775808 ≤ h then 9223372036854775808 else 0 := by
  have e : (9223372036854775808 : Nat) = 2 ^ 63 := by decide
  unfold B at hB
  apply Nat.eq_of_testBit_eq
  intro i
  rw [Nat.testBit_and]
  split
  · rename_i c
    rw [e, Nat.testBit_two_pow]
    by_cases hi : 63 = i
    · subst hi
      have : h / 2 ^ 63 % 2 = 1 := by omega
      simp [Nat.testBit_eq_decide_div_mod_eq, this]
    · simp [hi]
  · rename_i c
    rw [e, Nat.testBit_two_pow, Nat.zero_testBit]
    by_cases hi : 63 = i
    · subst hi
      rw [Nat.testBit_lt_two_pow (by omega)]; rfl
    · simp [hi]
theorem below_bit {z : Int} (hz : InW z) : (bits .and .u64 ((wh z : Nat) : Int) 9223372036854775808 != 0) = decide (z < 0) := by
  have h2 : bits .and .u64 ((wh z : Nat) : Int) 9223372036854775808 = ((wh z &&& 9223372036854775808 : Nat) : Int) := bits_and_u64_nat (wh z) 9223372036854775808 (by have := wh_lt z; unfold B at this; omega) (by omega)
  rw [h2, high_and _ (wh_lt z)]
  have h3 := w_neg hz
  by_cases c : z < 0
  · rw [if_pos (h3.2 c)]; simp [c]
  · rw [if_neg (mt h3.1 c)]; simp [c]
theorem wbelow_any (z : Int) (hz : InW z) (w : World) : Calls Try.prog 31 #[.agg #[.int .u64 ((wh (z) : Nat) : Int), .int .u64 ((wl (z) : Nat) : Int)]] w fun e w' => e = .returned (.bool (decide (z < 0))) ∧ Below w.heap.size w w' :=
  below_walk _ _ _ w (below_bit hz)
theorem less_any (x y : Int) (w : World) : Calls Try.prog 33 #[.agg #[.int .u64 ((wh (x) : Nat) : Int), .int .u64 ((wl (x) : Nat) : Int)], .agg #[.int .u64 ((wh (y) : Nat) : Int), .int .u64 ((wl (y) : Nat) : Int)]] w fun e w' => AnsW w w' e (x - y) := by
  obtain ⟨h1, h2⟩ := w_sub x y
  exact less_walk _ _ _ _ _ _ _ w h2 rfl h1 (bor_le _ _ _)
theorem less_zero (y : Int) (w : World) : Calls Try.prog 33 #[.agg #[.int .u64 0, .int .u64 0], .agg #[.int .u64 ((wh (y) : Nat) : Int), .int .u64 ((wl (y) : Nat) : Int)]] w fun e w' => AnsW w w' e (-y) := by
  have h := less_any 0 y w
  rw [Int.zero_sub] at h
  exact h
set_option maxHeartbeats 4000000 in
theorem across_any (z : Int) (w : World) :
    Calls Try.prog 34 #[.agg #[.int .u64 ((wh (z) : Nat) : Int), .int .u64 ((wl (z) : Nat) : Int)]] w fun e w' => AnsW w w' e (-z) := by
  have hB_0 := Below.refl w.heap.size w
  obtain ⟨w1, hw1, pa_0, hb1, hs1⟩ := new_box w (w.heap.size) rfl [.int .u64 ((wh (z) : Nat) : Int), .int .u64 ((wl (z) : Nat) : Int)] 24
  have hb1' : Below w.heap.size w w1 := hb1.mono (by omega)
  clear hb1
  have hB_1 := hB_0.trans (hb1'.mono hB_0.size)
  clear hb1' hB_0
  obtain ⟨w2, hw2, pr_0, hb2, hs2⟩ := new_box w1 (w.heap.size + 1) hs1 [.int .u64 0, .int .u64 0] 24
  have hb2' : Below w1.heap.size w1 w2 := hb2.mono (by omega)
  clear hb2
  have hB_2 := hB_1.trans (hb2'.mono hB_1.size)
  have pa_1 := pa_0.below hb2'
  clear hb2' hB_1 pa_0
  go_enter Try.func34, Try.ntmps34
  obtain ⟨pae0, pae1, pae2, pae3⟩ := pa_1.open2
  obtain ⟨pre0, pre1, pre2, pre3⟩ := pr_0.open2
  go_wp2_with fail
  refine (less_zero z _).mono ?_
  rintro e w3 ⟨rfl, hb3⟩
  clear pae0 pae1 pae2 pae3 pre0 pre1 pre2 pre3
  have hB_3 := hB_2.trans (hb3.mono hB_2.size)
  have pa_2 := pa_1.below hb3
  have pr_1 := pr_0.below hb3
  clear hb3 hB_2 pa_1 pr_0
  obtain ⟨pae0, pae1, pae2, pae3⟩ := pa_2.open2
  obtain ⟨pre0, pre1, pre2, pre3⟩ := pr_1.open2
  obtain ⟨sf1a, sf1b, sf1c, sf1d⟩ := pr_1.open2
  obtain ⟨sg1a, sg1b⟩ := Box.put2 pr_1 (.int .u64 ((wh (-z) : Nat) : Int))
  go_wp2
  clear pae0 pae1 pae2 pae3 pre0 pre1 pre2 pre3 sf1a sf1b sf1c sf1d sg1a sg1b
  have hB_4 := below_setAll hB_3 (g := w.heap.size + 1) (by omega) [.int .u64 ((wh (-z) : Nat) : Int), .int .u64 ((wl (-z) : Nat) : Int)]
  have pa_3 := pa_2.farAll (g' := w.heap.size + 1) (by omega) [.int .u64 ((wh (-z) : Nat) : Int), .int .u64 ((wl (-z) : Nat) : Int)]
  have pr_2 := pr_1.setAll [.int .u64 ((wh (-z) : Nat) : Int), .int .u64 ((wl (-z) : Nat) : Int)] rfl
  simp only [setAll, Nat.zero_add] at hB_4 pa_3 pr_2
  clear hB_3 pa_2 pr_1
  generalize (World.setCell (World.setCell w3 ⟨w.heap.size + 1, 0, none⟩ (.int .u64 ((wh (-z) : Nat) : Int))) ⟨w.heap.size + 1, 1, none⟩ (.int .u64 ((wl (-z) : Nat) : Int))) = w4 at *
  go_wp2
  obtain ⟨pre0, pre1, pre2, pre3⟩ := pr_2.open2
  exact bodyPost_ret (v := .agg #[.int .u64 ((wh (-z) : Nat) : Int), .int .u64 ((wl (-z) : Nat) : Int)]) (by simp [results, Try.results34, go_sem, pre0, pre1]) rfl ⟨rfl, hB_4⟩
set_option maxHeartbeats 4000000 in
theorem size_neg (z : Int) (w : World) (hz : InW z) (h0 : z < 0) :
    Calls Try.prog 29 #[.agg #[.int .u64 ((wh (z) : Nat) : Int), .int .u64 ((wl (z) : Nat) : Int)]] w fun e w' => AnsW w w' e (-z) := by
  have hbel : ∀ w, Calls Try.prog 31 #[.agg #[.int .u64 ((wh (z) : Nat) : Int), .int .u64 ((wl (z) : Nat) : Int)]] w fun e w' => e = .returned (.bool true) ∧ Below w.heap.size w w' := by
    intro w; have := wbelow_any z hz w; simpa only [h0, decide_true] using this
  have hB_0 := Below.refl w.heap.size w
  obtain ⟨w1, hw1, pa_0, hb1, hs1⟩ := new_box w (w.heap.size) rfl [.int .u64 ((wh (z) : Nat) : Int), .int .u64 ((wl (z) : Nat) : Int)] 24
  have hb1' : Below w.heap.size w w1 := hb1.mono (by omega)
  clear hb1
  have hB_1 := hB_0.trans (hb1'.mono hB_0.size)
  clear hb1' hB_0
  obtain ⟨w2, hw2, pr_0, hb2, hs2⟩ := new_box w1 (w.heap.size + 1) hs1 [.int .u64 0, .int .u64 0] 24
  have hb2' : Below w1.heap.size w1 w2 := hb2.mono (by omega)
  clear hb2
  have hB_2 := hB_1.trans (hb2'.mono hB_1.size)
  have pa_1 := pa_0.below hb2'
  clear hb2' hB_1 pa_0
  go_enter Try.func29, Try.ntmps29
  obtain ⟨pae0, pae1, pae2, pae3⟩ := pa_1.open2
  obtain ⟨pre0, pre1, pre2, pre3⟩ := pr_0.open2
  go_wp2_with fail
  refine (hbel _).mono ?_
  rintro e w3 ⟨rfl, hb3⟩
  clear pae0 pae1 pae2 pae3 pre0 pre1 pre2 pre3
  have hB_3 := hB_2.trans (hb3.mono hB_2.size)
  have pa_2 := pa_1.below hb3
  have pr_1 := pr_0.below hb3
  clear hb3 hB_2 pa_1 pr_0
  obtain ⟨pae0, pae1, pae2, pae3⟩ := pa_2.open2
  obtain ⟨pre0, pre1, pre2, pre3⟩ := pr_1.open2
  go_wp2_with fail
  refine (across_any z _).mono ?_
  rintro e w4 ⟨rfl, hb4⟩
  clear pae0 pae1 pae2 pae3 pre0 pre1 pre2 pre3
  have hB_4 := hB_3.trans (hb4.mono hB_3.size)
  have pa_3 := pa_2.below hb4
  have pr_2 := pr_1.below hb4
  clear hb4 hB_3 pa_2 pr_1
  obtain ⟨pae0, pae1, pae2, pae3⟩ := pa_3.open2
  obtain ⟨pre0, pre1, pre2, pre3⟩ := pr_2.open2
  obtain ⟨sf1a, sf1b, sf1c, sf1d⟩ := pr_2.open2
  obtain ⟨sg1a, sg1b⟩ := Box.put2 pr_2 (.int .u64 ((wh (-z) : Nat) : Int))
  go_wp2
  clear pae0 pae1 pae2 pae3 pre0 pre1 pre2 pre3 sf1a sf1b sf1c sf1d sg1a sg1b
  have hB_5 := below_setAll hB_4 (g := w.heap.size + 1) (by omega) [.int .u64 ((wh (-z) : Nat) : Int), .int .u64 ((wl (-z) : Nat) : Int)]
  have pa_4 := pa_3.farAll (g' := w.heap.size + 1) (by omega) [.int .u64 ((wh (-z) : Nat) : Int), .int .u64 ((wl (-z) : Nat) : Int)]
  have pr_3 := pr_2.setAll [.int .u64 ((wh (-z) : Nat) : Int), .int .u64 ((wl (-z) : Nat) : Int)] rfl
  simp only [setAll, Nat.zero_add] at hB_5 pa_4 pr_3
  clear hB_4 pa_3 pr_2
  generalize (World.setCell (World.setCell w4 ⟨w.heap.size + 1, 0, none⟩ (.int .u64 ((wh (-z) : Nat) : Int))) ⟨w.heap.size + 1, 1, none⟩ (.int .u64 ((wl (-z) : Nat) : Int))) = w5 at *
  go_wp2
  obtain ⟨pre0, pre1, pre2, pre3⟩ := pr_3.open2
  exact bodyPost_ret (v := .agg #[.int .u64 ((wh (-z) : Nat) : Int), .int .u64 ((wl (-z) : Nat) : Int)]) (by simp [results, Try.results29, go_sem, pre0, pre1]) rfl ⟨rfl, hB_5⟩
set_option maxHeartbeats 4000000 in
theorem size_pos (z : Int) (w : World) (hz : InW z) (h0 : ¬ z < 0) :
    Calls Try.prog 29 #[.agg #[.int .u64 ((wh (z) : Nat) : Int), .int .u64 ((wl (z) : Nat) : Int)]] w fun e w' => AnsW w w' e (z) := by
  have hbel : ∀ w, Calls Try.prog 31 #[.agg #[.int .u64 ((wh (z) : Nat) : Int), .int .u64 ((wl (z) : Nat) : Int)]] w fun e w' => e = .returned (.bool false) ∧ Below w.heap.size w w' := by
    intro w; have := wbelow_any z hz w; simpa only [h0, decide_false] using this
  have hB_0 := Below.refl w.heap.size w
  obtain ⟨w1, hw1, pa_0, hb1, hs1⟩ := new_box w (w.heap.size) rfl [.int .u64 ((wh (z) : Nat) : Int), .int .u64 ((wl (z) : Nat) : Int)] 24
  have hb1' : Below w.heap.size w w1 := hb1.mono (by omega)
  clear hb1
  have hB_1 := hB_0.trans (hb1'.mono hB_0.size)
  clear hb1' hB_0
  obtain ⟨w2, hw2, pr_0, hb2, hs2⟩ := new_box w1 (w.heap.size + 1) hs1 [.int .u64 0, .int .u64 0] 24
  have hb2' : Below w1.heap.size w1 w2 := hb2.mono (by omega)
  clear hb2
  have hB_2 := hB_1.trans (hb2'.mono hB_1.size)
  have pa_1 := pa_0.below hb2'
  clear hb2' hB_1 pa_0
  go_enter Try.func29, Try.ntmps29
  obtain ⟨pae0, pae1, pae2, pae3⟩ := pa_1.open2
  obtain ⟨pre0, pre1, pre2, pre3⟩ := pr_0.open2
  go_wp2_with fail
  refine (hbel _).mono ?_
  rintro e w3 ⟨rfl, hb3⟩
  clear pae0 pae1 pae2 pae3 pre0 pre1 pre2 pre3
  have hB_3 := hB_2.trans (hb3.mono hB_2.size)
  have pa_2 := pa_1.below hb3
  have pr_1 := pr_0.below hb3
  clear hb3 hB_2 pa_1 pr_0
  obtain ⟨pae0, pae1, pae2, pae3⟩ := pa_2.open2
  obtain ⟨pre0, pre1, pre2, pre3⟩ := pr_1.open2
  obtain ⟨sf1a, sf1b, sf1c, sf1d⟩ := pr_1.open2
  obtain ⟨sg1a, sg1b⟩ := Box.put2 pr_1 (.int .u64 ((wh (z) : Nat) : Int))
  go_wp2
  clear pae0 pae1 pae2 pae3 pre0 pre1 pre2 pre3 sf1a sf1b sf1c sf1d sg1a sg1b
  have hB_4 := below_setAll hB_3 (g := w.heap.size + 1) (by omega) [.int .u64 ((wh (z) : Nat) : Int), .int .u64 ((wl (z) : Nat) : Int)]
  have pa_3 := pa_2.farAll (g' := w.heap.size + 1) (by omega) [.int .u64 ((wh (z) : Nat) : Int), .int .u64 ((wl (z) : Nat) : Int)]
  have pr_2 := pr_1.setAll [.int .u64 ((wh (z) : Nat) : Int), .int .u64 ((wl (z) : Nat) : Int)] rfl
  simp only [setAll, Nat.zero_add] at hB_4 pa_3 pr_2
  clear hB_3 pa_2 pr_1
  generalize (World.setCell (World.setCell w3 ⟨w.heap.size + 1, 0, none⟩ (.int .u64 ((wh (z) : Nat) : Int))) ⟨w.heap.size + 1, 1, none⟩ (.int .u64 ((wl (z) : Nat) : Int))) = w4 at *
  go_wp2
  obtain ⟨pre0, pre1, pre2, pre3⟩ := pr_2.open2
  exact bodyPost_ret (v := .agg #[.int .u64 ((wh (z) : Nat) : Int), .int .u64 ((wl (z) : Nat) : Int)]) (by simp [results, Try.results29, go_sem, pre0, pre1]) rfl ⟨rfl, hB_4⟩
theorem size_any (z : Int) (w : World) (hz : InW z) : Calls Try.prog 29 #[.agg #[.int .u64 ((wh (z) : Nat) : Int), .int .u64 ((wl (z) : Nat) : Int)]] w fun e w' => AnsW w w' e (z.natAbs : Int) := by
  by_cases h0 : z < 0
  · have h := size_neg z w hz h0
    rwa [show -z = (z.natAbs : Int) by omega] at h
  · have h := size_pos z w hz h0
    have e : z = (z.natAbs : Int) := by omega
    rw [← e]; exact h
set_option maxHeartbeats 4000000 in
theorem Of_walk_neg (n : Int) (w : World) (h0 : n < 0) :
    Calls Try.prog 24 #[.int .i64 n] w fun e w' => e = .returned (.agg #[.int .u64 18446744073709551615, .int .u64 (IntKind.u64.wrap n)]) ∧ Below w.heap.size w w' := by
  have hB_0 := Below.refl w.heap.size w
  obtain ⟨w1, hw1, pr_0, hb1, hs1⟩ := new_box w (w.heap.size) rfl [.int .u64 0, .int .u64 0] 24
  have hb1' : Below w.heap.size w w1 := hb1.mono (by omega)
  clear hb1
  have hB_1 := hB_0.trans (hb1'.mono hB_0.size)
  clear hb1' hB_0
  go_enter Try.func24, Try.ntmps24
  obtain ⟨pre0, pre1, pre2, pre3⟩ := pr_0.open2
  obtain ⟨sf1a, sf1b, sf1c, sf1d⟩ := pr_0.open2
  obtain ⟨sg1a, sg1b⟩ := Box.put2 pr_0 (.int .u64 18446744073709551615)
  go_wp2
  clear pre0 pre1 pre2 pre3 sf1a sf1b sf1c sf1d sg1a sg1b
  have hB_2 := below_setAll hB_1 (g := w.heap.size) (by omega) [.int .u64 18446744073709551615, .int .u64 (IntKind.u64.wrap n)]
  have pr_1 := pr_0.setAll [.int .u64 18446744073709551615, .int .u64 (IntKind.u64.wrap n)] rfl
  simp only [setAll, Nat.zero_add] at hB_2 pr_1
  clear hB_1 pr_0
  generalize (World.setCell (World.setCell w1 ⟨w.heap.size, 0, none⟩ (.int .u64 18446744073709551615)) ⟨w.heap.size, 1, none⟩ (.int .u64 (IntKind.u64.wrap n))) = w2 at *
  go_wp2
  obtain ⟨pre0, pre1, pre2, pre3⟩ := pr_1.open2
  exact bodyPost_ret (v := .agg #[.int .u64 18446744073709551615, .int .u64 (IntKind.u64.wrap n)]) (by simp [results, Try.results24, go_sem, pre0, pre1]) rfl ⟨rfl, hB_2⟩
set_option maxHeartbeats 4000000 in
theorem Of_walk_pos (n : Int) (w : World) (h0 : ¬ n < 0) :
    Calls Try.prog 24 #[.int .i64 n] w fun e w' => e = .returned (.agg #[.int .u64 0, .int .u64 (IntKind.u64.wrap n)]) ∧ Below w.heap.size w w' := by
  have hB_0 := Below.refl w.heap.size w
  obtain ⟨w1, hw1, pr_0, hb1, hs1⟩ := new_box w (w.heap.size) rfl [.int .u64 0, .int .u64 0] 24
  have hb1' : Below w.heap.size w w1 := hb1.mono (by omega)
  clear hb1
  have hB_1 := hB_0.trans (hb1'.mono hB_0.size)
  clear hb1' hB_0
  go_enter Try.func24, Try.ntmps24
  obtain ⟨pre0, pre1, pre2, pre3⟩ := pr_0.open2
  obtain ⟨sf1a, sf1b, sf1c, sf1d⟩ := pr_0.open2
  obtain ⟨sg1a, sg1b⟩ := Box.put2 pr_0 (.int .u64 0)
  go_wp2
  clear pre0 pre1 pre2 pre3 sf1a sf1b sf1c sf1d sg1a sg1b
  have hB_2 := below_setAll hB_1 (g := w.heap.size) (by omega) [.int .u64 0, .int .u64 (IntKind.u64.wrap n)]
  have pr_1 := pr_0.setAll [.int .u64 0, .int .u64 (IntKind.u64.wrap n)] rfl
  simp only [setAll, Nat.zero_add] at hB_2 pr_1
  clear hB_1 pr_0
  generalize (World.setCell (World.setCell w1 ⟨w.heap.size, 0, none⟩ (.int .u64 0)) ⟨w.heap.size, 1, none⟩ (.int .u64 (IntKind.u64.wrap n))) = w2 at *
  go_wp2
  obtain ⟨pre0, pre1, pre2, pre3⟩ := pr_1.open2
  exact bodyPost_ret (v := .agg #[.int .u64 0, .int .u64 (IntKind.u64.wrap n)]) (by simp [results, Try.results24, go_sem, pre0, pre1]) rfl ⟨rfl, hB_2⟩
theorem wOf_any (n : Int) (h : -9223372036854775808 ≤ n) (h1 : n < 9223372036854775808) (w : World) : Calls Try.prog 24 #[.int .i64 n] w fun e w' => AnsW w w' e n := by
  by_cases h0 : n < 0
  · obtain ⟨a, b⟩ := w_int_neg h h0
    have := Of_walk_neg n w h0
    unfold AnsW; rw [a, b]; exact this
  · obtain ⟨a, b⟩ := w_int_pos h1 (Int.not_lt.1 h0)
    have := Of_walk_pos n w h0
    unfold AnsW; rw [a, b]; exact this
end Go.Proofs.Ytkigfccbhkcedaa
/- The calls of wide: Sign, Cmp. -/
namespace Go.Proofs.Ytkigfccbhkcedaa
open Go.RowKit Go.MagM
set_option maxHeartbeats 4000000 in
theorem Sign_w_zero  (w : World) :
    Calls Try.prog 26 #[.agg #[.int .u64 0, .int .u64 0]] w fun e w' => e = .returned (.int .i64 (0)) ∧ Below w.heap.size w w' := by
  have hB_0 := Below.refl w.heap.size w
  obtain ⟨w1, hw1, pa_0, hb1, hs1⟩ := new_box w (w.heap.size) rfl [.int .u64 0, .int .u64 0] 24
  have hb1' : Below w.heap.size w w1 := hb1.mono (by omega)
  clear hb1
  have hB_1 := hB_0.trans (hb1'.mono hB_0.size)
  clear hb1' hB_0
  go_enter Try.func26, Try.ntmps26
  obtain ⟨pae0, pae1, pae2, pae3⟩ := pa_0.open2
  go_wp2
  go_ret
  exact ⟨rfl, hB_1⟩
set_option maxHeartbeats 4000000 in
theorem Sign_w_neg (ah al : Nat) (h0 : ¬ ah = 0) (hbel : ∀ w, Calls Try.prog 31 #[.agg #[.int .u64 ((ah : Nat) : Int), .int .u64 ((al : Nat) : Int)]] w fun e w' => e = .returned (.bool true) ∧ Below w.heap.size w w') (w : World) :
    Calls Try.prog 26 #[.agg #[.int .u64 ((ah : Nat) : Int), .int .u64 ((al : Nat) : Int)]] w fun e w' => e = .returned (.int .i64 (-1)) ∧ Below w.heap.size w w' := by
  have hB_0 := Below.refl w.heap.size w
  obtain ⟨w1, hw1, pa_0, hb1, hs1⟩ := new_box w (w.heap.size) rfl [.int .u64 ((ah : Nat) : Int), .int .u64 ((al : Nat) : Int)] 24
  have hb1' : Below w.heap.size w w1 := hb1.mono (by omega)
  clear hb1
  have hB_1 := hB_0.trans (hb1'.mono hB_0.size)
  clear hb1' hB_0
  go_enter Try.func26, Try.ntmps26
  obtain ⟨pae0, pae1, pae2, pae3⟩ := pa_0.open2
  go_wp2_with fail
  refine (hbel _).mono ?_
  rintro e w2 ⟨rfl, hb2⟩
  clear pae0 pae1 pae2 pae3
  have hB_2 := hB_1.trans (hb2.mono hB_1.size)
  have pa_1 := pa_0.below hb2
  clear hb2 hB_1 pa_0
  obtain ⟨pae0, pae1, pae2, pae3⟩ := pa_1.open2
  go_wp2
  go_ret
  exact ⟨rfl, hB_2⟩
set_option maxHeartbeats 4000000 in
theorem Sign_w_pos (ah al : Nat) (h0 : ¬ ah = 0) (hbel : ∀ w, Calls Try.prog 31 #[.agg #[.int .u64 ((ah : Nat) : Int), .int .u64 ((al : Nat) : Int)]] w fun e w' => e = .returned (.bool false) ∧ Below w.heap.size w w') (w : World) :
    Calls Try.prog 26 #[.agg #[.int .u64 ((ah : Nat) : Int), .int .u64 ((al : Nat) : Int)]] w fun e w' => e = .returned (.int .i64 (1)) ∧ Below w.heap.size w w' := by
  have hB_0 := Below.refl w.heap.size w
  obtain ⟨w1, hw1, pa_0, hb1, hs1⟩ := new_box w (w.heap.size) rfl [.int .u64 ((ah : Nat) : Int), .int .u64 ((al : Nat) : Int)] 24
  have hb1' : Below w.heap.size w w1 := hb1.mono (by omega)
  clear hb1
  have hB_1 := hB_0.trans (hb1'.mono hB_0.size)
  clear hb1' hB_0
  go_enter Try.func26, Try.ntmps26
  obtain ⟨pae0, pae1, pae2, pae3⟩ := pa_0.open2
  go_wp2_with fail
  refine (hbel _).mono ?_
  rintro e w2 ⟨rfl, hb2⟩
  clear pae0 pae1 pae2 pae3
  have hB_2 := hB_1.trans (hb2.mono hB_1.size)
  have pa_1 := pa_0.below hb2
  clear hb2 hB_1 pa_0
  obtain ⟨pae0, pae1, pae2, pae3⟩ := pa_1.open2
  go_wp2
  go_ret
  exact ⟨rfl, hB_2⟩
set_option maxHeartbeats 4000000 in
theorem Sign_w_low (al : Nat) (h0 : ¬ al = 0) (hbel : ∀ w, Calls Try.prog 31 #[.agg #[.int .u64 0, .int .u64 ((al : Nat) : Int)]] w fun e w' => e = .returned (.bool false) ∧ Below w.heap.size w w') (w : World) :
    Calls Try.prog 26 #[.agg #[.int .u64 0, .int .u64 ((al : Nat) : Int)]] w fun e w' => e = .returned (.int .i64 (1)) ∧ Below w.heap.size w w' := by
  have hB_0 := Below.refl w.heap.size w
  obtain ⟨w1, hw1, pa_0, hb1, hs1⟩ := new_box w (w.heap.size) rfl [.int .u64 0, .int .u64 ((al : Nat) : Int)] 24
  have hb1' : Below w.heap.size w w1 := hb1.mono (by omega)
  clear hb1
  have hB_1 := hB_0.trans (hb1'.mono hB_0.size)
  clear hb1' hB_0
  go_enter Try.func26, Try.ntmps26
  obtain ⟨pae0, pae1, pae2, pae3⟩ := pa_0.open2
  go_wp2_with fail
  refine (hbel _).mono ?_
  rintro e w2 ⟨rfl, hb2⟩
  clear pae0 pae1 pae2 pae3
  have hB_2 := hB_1.trans (hb2.mono hB_1.size)
  have pa_1 := pa_0.below hb2
  clear hb2 hB_1 pa_0
  obtain ⟨pae0, pae1, pae2, pae3⟩ := pa_1.open2
  go_wp2
  go_ret
  exact ⟨rfl, hB_2⟩
/-- The number of 128 bits that has these words. -/
def wrapW (z : Int) : Int := (z + 170141183460469231731687303715884105728) % 340282366920938463463374607431768211456 - 170141183460469231731687303715884105728
theorem wrapW_in (z : Int) : InW (wrapW z) := by unfold wrapW InW; omega
theorem wrapW_h (z : Int) : wh (wrapW z) = wh z := by unfold wrapW wh; omega
theorem wrapW_l (z : Int) : wl (wrapW z) = wl z := by unfold wrapW wl; omega
theorem wrapW_self {z : Int} (h : InW z) : wrapW z = z := by unfold wrapW; unfold InW at h; omega
theorem wbelow_all (z : Int) (w : World) : Calls Try.prog 31 #[.agg #[.int .u64 ((wh (z) : Nat) : Int), .int .u64 ((wl (z) : Nat) : Int)]] w fun e w' => e = .returned (.bool (decide (wrapW z < 0))) ∧ Below w.heap.size w w' := by
  have h := wbelow_any (wrapW z) (wrapW_in z) w
  rw [wrapW_h, wrapW_l] at h
  exact h
theorem wSign_all (z : Int) (w : World) : Calls Try.prog 26 #[.agg #[.int .u64 ((wh (z) : Nat) : Int), .int .u64 ((wl (z) : Nat) : Int)]] w fun e w' => e = .returned (.int .i64 (wrapW z).sign) ∧ Below w.heap.size w w' := by
  have hz := wrapW_in z
  have h1 := wrapW_h z; have h2 := wrapW_l z
  have hbel := fun w => wbelow_all z w
  rw [← h1, ← h2] at *
  generalize wrapW z = x at *
  have hm := w_neg hz
  have hw := w_mod x
  by_cases hh : wh x = 0
  · by_cases hl : wl x = 0
    · have hx : x = 0 := by rw [hh, hl] at hw; unfold InW at hz; omega
      subst hx
      rw [wh_zero, wl_zero]
      exact Sign_w_zero w
    · have hx : 0 < x := by rw [hh] at hw; unfold InW at hz; omega
      rw [Int.sign_eq_one_of_pos hx]
      rw [hh] at hbel ⊢
      refine Sign_w_low _ hl ?_ w
      intro w
      have := hbel w
      rwa [decide_eq_false (by omega : ¬ x < 0)] at this
  · by_cases hx : x < 0
    · rw [Int.sign_eq_neg_one_of_neg hx]
      refine Sign_w_neg _ _ hh ?_ w
      intro w
      have := hbel w
      rwa [decide_eq_true hx] at this
    · have hx0 : 0 < x := by unfold InW at hz; omega
      rw [Int.sign_eq_one_of_pos hx0]
      refine Sign_w_pos _ _ hh ?_ w
      intro w
      have := hbel w
      rwa [decide_eq_false hx] at this
theorem cmp_I64 (x y : Int) (w : World) :
    Calls Try.prog 46 #[.int .i64 x, .int .i64 y] w fun e w' => e = .returned (.int .i64 (icmp x y)) ∧ w = w' := by
  have hx : (x != x) = false := by simp
  have hy : (y != y) = false := by simp
  rcases Int.lt_trichotomy x y with h | h | h
  · have he := icmp_lt h
    have HE := Lib.hid he; clear he
    go_enter Try.func46, Try.ntmps46
    go_wp2_with go_in
    go_ret
    exact ⟨by rw [HE.out]; rfl, rfl⟩
  · subst h
    have he := icmp_self x
    have HE := Lib.hid he; clear he
    go_enter Try.func46, Try.ntmps46
    go_wp2_with go_in
    go_ret
    exact ⟨by rw [HE.out]; rfl, rfl⟩
  · have he := icmp_gt h
    have HE := Lib.hid he; clear he
    go_enter Try.func46, Try.ntmps46
    go_wp2_with go_in
    go_ret
    exact ⟨by rw [HE.out]; rfl, rfl⟩
theorem cmp_i64_is (x y c : Int) (w : World) (h : icmp x y = c) : Calls Try.prog 46 #[.int .i64 x, .int .i64 y] w fun e w' => e = .returned (.int .i64 c) ∧ Below w.heap.size w w' := by
  subst h; exact (cmp_I64 x y w).mono fun e w' h => by obtain ⟨h1, rfl⟩ := h; exact ⟨h1, Below.refl _ _⟩
theorem cmp_u64_is (x y : Nat) (c : Int) (w : World) (h : cmpn x y = c) : Calls Try.prog 45 #[.int .u64 x, .int .u64 y] w fun e w' => e = .returned (.int .i64 c) ∧ Below w.heap.size w w' := by
  subst h; exact (cmp_u64 x y w).mono fun e w' h => by obtain ⟨h1, rfl⟩ := h; exact ⟨h1, Below.refl _ _⟩
set_option maxHeartbeats 4000000 in
theorem Cmp_w_same (ah al : Nat) (w : World) :
    Calls Try.prog 25 #[.agg #[.int .u64 ((ah : Nat) : Int), .int .u64 ((al : Nat) : Int)], .agg #[.int .u64 ((ah : Nat) : Int), .int .u64 ((al : Nat) : Int)]] w fun e w' => e = .returned (.int .i64 (0)) ∧ Below w.heap.size w w' := by
  have hB_0 := Below.refl w.heap.size w
  obtain ⟨w1, hw1, pa_0, hb1, hs1⟩ := new_box w (w.heap.size) rfl [.int .u64 ((ah : Nat) : Int), .int .u64 ((al : Nat) : Int)] 24
  have hb1' : Below w.heap.size w w1 := hb1.mono (by omega)
  clear hb1
  have hB_1 := hB_0.trans (hb1'.mono hB_0.size)
  clear hb1' hB_0
  obtain ⟨w2, hw2, pb_0, hb2, hs2⟩ := new_box w1 (w.heap.size + 1) hs1 [.int .u64 ((ah : Nat) : Int), .int .u64 ((al : Nat) : Int)] 24
  have hb2' : Below w1.heap.size w1 w2 := hb2.mono (by omega)
  clear hb2
  have hB_2 := hB_1.trans (hb2'.mono hB_1.size)
  have pa_1 := pa_0.below hb2'
  clear hb2' hB_1 pa_0
  go_enter Try.func25, Try.ntmps25
  obtain ⟨pae0, pae1, pae2, pae3⟩ := pa_1.open2
  obtain ⟨pbe0, pbe1, pbe2, pbe3⟩ := pb_0.open2
  go_wp2
  go_ret
  exact ⟨rfl, hB_2⟩
set_option maxHeartbeats 4000000 in
theorem Cmp_w_low (ah al bl : Nat) (c : Int) (h0 : ¬ al = bl) (hc : cmpn al bl = c) (w : World) :
    Calls Try.prog 25 #[.agg #[.int .u64 ((ah : Nat) : Int), .int .u64 ((al : Nat) : Int)], .agg #[.int .u64 ((ah : Nat) : Int), .int .u64 ((bl : Nat) : Int)]] w fun e w' => e = .returned (.int .i64 (c)) ∧ Below w.heap.size w w' := by
  have hB_0 := Below.refl w.heap.size w
  have HC := Lib.hid hc; clear hc
  obtain ⟨w1, hw1, pa_0, hb1, hs1⟩ := new_box w (w.heap.size) rfl [.int .u64 ((ah : Nat) : Int), .int .u64 ((al : Nat) : Int)] 24
  have hb1' : Below w.heap.size w w1 := hb1.mono (by omega)
  clear hb1
  have hB_1 := hB_0.trans (hb1'.mono hB_0.size)
  clear hb1' hB_0
  obtain ⟨w2, hw2, pb_0, hb2, hs2⟩ := new_box w1 (w.heap.size + 1) hs1 [.int .u64 ((ah : Nat) : Int), .int .u64 ((bl : Nat) : Int)] 24
  have hb2' : Below w1.heap.size w1 w2 := hb2.mono (by omega)
  clear hb2
  have hB_2 := hB_1.trans (hb2'.mono hB_1.size)
  have pa_1 := pa_0.below hb2'
  clear hb2' hB_1 pa_0
  go_enter Try.func25, Try.ntmps25
  obtain ⟨pae0, pae1, pae2, pae3⟩ := pa_1.open2
  obtain ⟨pbe0, pbe1, pbe2, pbe3⟩ := pb_0.open2
  go_wp2_with fail
  refine (cmp_u64_is _ _ c _ HC.out).mono ?_
  rintro e w3 ⟨rfl, hb3⟩
  clear pae0 pae1 pae2 pae3 pbe0 pbe1 pbe2 pbe3
  have hB_3 := hB_2.trans (hb3.mono hB_2.size)
  have pa_2 := pa_1.below hb3
  have pb_1 := pb_0.below hb3
  clear hb3 hB_2 pa_1 pb_0
  obtain ⟨pae0, pae1, pae2, pae3⟩ := pa_2.open2
  go_wp2
  go_ret
  exact ⟨rfl, hB_3⟩
set_option maxHeartbeats 4000000 in
theorem Cmp_w_high (ah al bh bl : Nat) (sa sb c : Int) (h0 : ¬ ah = bh) (ea : IntKind.i64.wrap (ah : Int) = sa) (eb : IntKind.i64.wrap (bh : Int) = sb) (hc : icmp sa sb = c) (w : World) :
    Calls Try.prog 25 #[.agg #[.int .u64 ((ah : Nat) : Int), .int .u64 ((al : Nat) : Int)], .agg #[.int .u64 ((bh : Nat) : Int), .int .u64 ((bl : Nat) : Int)]] w fun e w' => e = .returned (.int .i64 (c)) ∧ Below w.heap.size w w' := by
  have hB_0 := Below.refl w.heap.size w
  have HC := Lib.hid hc; clear hc
  obtain ⟨w1, hw1, pa_0, hb1, hs1⟩ := new_box w (w.heap.size) rfl [.int .u64 ((ah : Nat) : Int), .int .u64 ((al : Nat) : Int)] 24
  have hb1' : Below w.heap.size w w1 := hb1.mono (by omega)
  clear hb1
  have hB_1 := hB_0.trans (hb1'.mono hB_0.size)
  clear hb1' hB_0
  obtain ⟨w2, hw2, pb_0, hb2, hs2⟩ := new_box w1 (w.heap.size + 1) hs1 [.int .u64 ((bh : Nat) : Int), .int .u64 ((bl : Nat) : Int)] 24
  have hb2' : Below w1.heap.size w1 w2 := hb2.mono (by omega)
  clear hb2
  have hB_2 := hB_1.trans (hb2'.mono hB_1.size)
  have pa_1 := pa_0.below hb2'
  clear hb2' hB_1 pa_0
  go_enter Try.func25, Try.ntmps25
  obtain ⟨pae0, pae1, pae2, pae3⟩ := pa_1.open2
  obtain ⟨pbe0, pbe1, pbe2, pbe3⟩ := pb_0.open2
  go_wp2_with fail
  refine (cmp_i64_is _ _ c _ HC.out).mono ?_
  rintro e w3 ⟨rfl, hb3⟩
  clear pae0 pae1 pae2 pae3 pbe0 pbe1 pbe2 pbe3
  have hB_3 := hB_2.trans (hb3.mono hB_2.size)
  have pa_2 := pa_1.below hb3
  have pb_1 := pb_0.below hb3
  clear hb3 hB_2 pa_1 pb_0
  obtain ⟨pae0, pae1, pae2, pae3⟩ := pa_2.open2
  go_wp2
  go_ret
  exact ⟨rfl, hB_3⟩
theorem w_high {z : Int} (h : InW z) : IntKind.i64.wrap ((wh z : Nat) : Int) = z / 18446744073709551616 := by
  unfold InW at h; rw [IntKind.wrap_i64]; unfold wh; omega
theorem w_low (z : Int) : ((wl z : Nat) : Int) = z % 18446744073709551616 := by unfold wl; omega
theorem wCmp_any (x y : Int) (hx : InW x) (hy : InW y) (w : World) : Calls Try.prog 25 #[.agg #[.int .u64 ((wh (x) : Nat) : Int), .int .u64 ((wl (x) : Nat) : Int)], .agg #[.int .u64 ((wh (y) : Nat) : Int), .int .u64 ((wl (y) : Nat) : Int)]] w fun e w' => e = .returned (.int .i64 (icmp x y)) ∧ Below w.heap.size w w' := by
  by_cases hh : wh x = wh y
  · have e1 : x / 18446744073709551616 = y / 18446744073709551616 := by rw [← w_high hx, ← w_high hy, hh]
    by_cases hl : wl x = wl y
    · have := w_eq hx hy hh hl
      subst this
      rw [icmp_self]
      exact Cmp_w_same _ _ w
    · rw [← hh]
      refine Cmp_w_low _ _ _ _ hl ?_ w
      have a := w_low x; have b := w_low y
      rw [cmpn_eq]
      unfold icmp
      by_cases c : x < y
      · rw [if_pos c, if_pos (by omega)]
      · rw [if_neg c, if_neg (by omega)]
        by_cases d : y < x
        · rw [if_pos d, if_pos (by omega)]
        · exact absurd (by omega : wl x = wl y) hl
  · refine Cmp_w_high _ _ _ _ _ _ _ hh (w_high hx) (w_high hy) ?_ w
    have ne : x / 18446744073709551616 ≠ y / 18446744073709551616 := by
      intro e
      apply hh
      unfold wh; rw [e]
    unfold icmp
    by_cases c : x < y
    · rw [if_pos c, if_pos (by omega)]
    · rw [if_neg c, if_neg (by omega)]
      by_cases d : y < x
      · rw [if_pos d, if_pos (by omega)]
      · exact absurd (by rw [show x = y by omega] : x / 18446744073709551616 = y / 18446744073709551616) ne
end Go.Proofs.Ytkigfccbhkcedaa
/- The calls of wide, walked: Add (below). -/
namespace Go.Proofs.Ytkigfccbhkcedaa
open Go.RowKit Go.MagM
set_option maxHeartbeats 4000000 in
theorem wAdd_w_ttt (ah al : Nat) (bh bl : Nat) (H L k : Nat) (h1 : (al + bl + 0) % B = L) (h2 : (al + bl + 0) / B = k) (h3 : (ah + bh + k) % B = H) (hk : k ≤ 1) (ca : ∀ w, Calls Try.prog 31 #[.agg #[.int .u64 ((ah : Nat) : Int), .int .u64 ((al : Nat) : Int)]] w fun e w' => e = .returned (.bool true) ∧ Below w.heap.size w w') (cb : ∀ w, Calls Try.prog 31 #[.agg #[.int .u64 ((bh : Nat) : Int), .int .u64 ((bl : Nat) : Int)]] w fun e w' => e = .returned (.bool true) ∧ Below w.heap.size w w') (cs : ∀ w, Calls Try.prog 31 #[.agg #[.int .u64 ((H : Nat) : Int), .int .u64 ((L : Nat) : Int)]] w fun e w' => e = .returned (.bool true) ∧ Below w.heap.size w w') (w : World) :
    Calls Try.prog 10 #[.agg #[.int .u64 ((ah : Nat) : Int), .int .u64 ((al : Nat) : Int)], .agg #[.int .u64 ((bh : Nat) : Int), .int .u64 ((bl : Nat) : Int)]] w fun e w' => e = .returned (.tuple #[.agg #[.int .u64 ((H : Nat) : Int), .int .u64 ((L : Nat) : Int)], .bool true]) ∧ Below w.heap.size w w' := by
  have hB_0 := Below.refl w.heap.size w
  have hrun1 := fun w => add64_run al bl 0 (by omega) w
  have hrun2 := fun w => add64_run ah bh k (by omega) w
  simp only [h1, h2] at hrun1
  simp only [h3] at hrun2
  have hrun3 : ∀ w, (callFunc 32 #[.int .u64 al, .int .u64 bl, .int .u64 0]).run Try.prog w = .ok (.value (.tuple #[.int .u64 L, .int .u64 k])) w := hrun1
  clear hrun1 h1 h2 h3
  have CA := Lib.hid ca; have CBB := Lib.hid cb; have CS := Lib.hid cs
  clear ca cb cs
  obtain ⟨w1, hw1, pa_0, hb1, hs1⟩ := new_box w (w.heap.size) rfl [.int .u64 ((ah : Nat) : Int), .int .u64 ((al : Nat) : Int)] 24
  have hb1' : Below w.heap.size w w1 := hb1.mono (by omega)
  clear hb1
  have hB_1 := hB_0.trans (hb1'.mono hB_0.size)
  clear hb1' hB_0
  obtain ⟨w2, hw2, pb_0, hb2, hs2⟩ := new_box w1 (w.heap.size + 1) hs1 [.int .u64 ((bh : Nat) : Int), .int .u64 ((bl : Nat) : Int)] 24
  have hb2' : Below w1.heap.size w1 w2 := hb2.mono (by omega)
  clear hb2
  have hB_2 := hB_1.trans (hb2'.mono hB_1.size)
  have pa_1 := pa_0.below hb2'
  clear hb2' hB_1 pa_0
  obtain ⟨w3, hw3, pr_0, hb3, hs3⟩ := new_box w2 (w.heap.size + 1 + 1) hs2 [.int .u64 0, .int .u64 0] 24
  have hb3' : Below w2.heap.size w2 w3 := hb3.mono (by omega)
  clear hb3
  have hB_3 := hB_2.trans (hb3'.mono hB_2.size)
  have pa_2 := pa_1.below hb3'
  have pb_1 := pb_0.below hb3'
  clear hb3' hB_2 pa_1 pb_0
  go_enter Try.func10, Try.ntmps10
  obtain ⟨xa0, xa1, xa2, xa3⟩ := pa_2.open2
  obtain ⟨xb0, xb1, xb2, xb3⟩ := pb_1.open2
  have hl1pa := pa_2.lt
  have hl1pb := pb_1.lt
  have hl1pr := pr_0.lt
  have hl1B := hB_3.size
  obtain ⟨w4, hw4, ps_0, hb4, hs4⟩ := new_box w3 (w.heap.size + 1 + 1 + 1) hs3 [.int .u64 ((H : Nat) : Int), .int .u64 ((L : Nat) : Int)] 24
  have hb4' : Below w3.heap.size w3 w4 := hb4.mono (by omega)
  clear hb4
  have hB_4 := hB_3.trans (hb4'.mono hB_3.size)
  have pa_3 := pa_2.below hb4'
  have pb_2 := pb_1.below hb4'
  have pr_1 := pr_0.below hb4'
  clear hb4' hB_3 pa_2 pb_1 pr_0
  obtain ⟨pae0, pae1, pae2, pae3⟩ := pa_3.open2
  obtain ⟨pbe0, pbe1, pbe2, pbe3⟩ := pb_2.open2
  obtain ⟨pre0, pre1, pre2, pre3⟩ := pr_1.open2
  obtain ⟨pse0, pse1, pse2, pse3⟩ := ps_0.open2
  go_wp2
  clear xa0 xa1 xa2 xa3 xb0 xb1 xb2 xb3 hrun2 hrun3
  clear pae0 pae1 pae2 pae3 pbe0 pbe1 pbe2 pbe3 pre0 pre1 pre2 pre3 pse0 pse1 pse2 pse3
  have hB_5 := hB_4.drew'
  have pa_4 := pa_3.drew
  have pb_3 := pb_2.drew
  have pr_2 := pr_1.drew
  have ps_1 := ps_0.drew
  clear hB_4 pa_3 pb_2 pr_1 ps_0
  go_region_held3 (fun w' => w'.cell? ⟨w.heap.size, 0, none⟩ = some (.int .u64 ((ah : Nat) : Int)) ∧ w'.cell? ⟨w.heap.size, 1, none⟩ = some (.int .u64 ((al : Nat) : Int)) ∧ w'.cell? ⟨w.heap.size + 1, 0, none⟩ = some (.int .u64 ((bh : Nat) : Int)) ∧ w'.cell? ⟨w.heap.size + 1, 1, none⟩ = some (.int .u64 ((bl : Nat) : Int)) ∧ w'.cell? ⟨w.heap.size + 1 + 1 + 1, 0, none⟩ = some (.int .u64 ((H : Nat) : Int)) ∧ w'.cell? ⟨w.heap.size + 1 + 1 + 1, 1, none⟩ = some (.int .u64 ((L : Nat) : Int)))
    (first | with_reducible exact ⟨pa_4.c0, pa_4.c1, pb_3.c0, pb_3.c1, ps_1.c0, ps_1.c1⟩ | with_reducible exact ⟨pa_5.c0, pa_5.c1, pb_4.c0, pb_4.c1, ps_2.c0, ps_2.c1⟩ | with_reducible exact ⟨pa_6.c0, pa_6.c1, pb_5.c0, pb_5.c1, ps_3.c0, ps_3.c1⟩ | with_reducible exact ⟨pa_7.c0, pa_7.c1, pb_6.c0, pb_6.c1, ps_4.c0, ps_4.c1⟩ | with_reducible exact ⟨pa_8.c0, pa_8.c1, pb_7.c0, pb_7.c1, ps_5.c0, ps_5.c1⟩ | fail)
    (first
      | (go_at_call 31; (with_reducible refine (CA.out _).mono ?_); rintro e w5 ⟨rfl, hb5⟩; have hB_6 := hB_5.trans (hb5.mono hB_5.size); have pa_5 := pa_4.below hb5; have pb_4 := pb_3.below hb5; have pr_3 := pr_2.below hb5; have ps_2 := ps_1.below hb5; clear hb5 hB_5 pa_4 pb_3 pr_2 ps_1)
      | (go_at_call 31; (with_reducible refine (CBB.out _).mono ?_); rintro e w6 ⟨rfl, hb6⟩; have hB_7 := hB_6.trans (hb6.mono hB_6.size); have pa_6 := pa_5.below hb6; have pb_5 := pb_4.below hb6; have pr_4 := pr_3.below hb6; have ps_3 := ps_2.below hb6; clear hb6 hB_6 pa_5 pb_4 pr_3 ps_2)
      | (go_at_call 31; (with_reducible refine (CS.out _).mono ?_); rintro e w7 ⟨rfl, hb7⟩; have hB_8 := hB_7.trans (hb7.mono hB_7.size); have pa_7 := pa_6.below hb7; have pb_6 := pb_5.below hb7; have pr_5 := pr_4.below hb7; have ps_4 := ps_3.below hb7; clear hb7 hB_7 pa_6 pb_5 pr_4 ps_3)
      | (go_at_call 31; (with_reducible refine (CA.out _).mono ?_); rintro e w8 ⟨rfl, hb8⟩; have hB_9 := hB_8.trans (hb8.mono hB_8.size); have pa_8 := pa_7.below hb8; have pb_7 := pb_6.below hb8; have pr_6 := pr_5.below hb8; have ps_5 := ps_4.below hb8; clear hb8 hB_8 pa_7 pb_6 pr_5 ps_4))
  obtain ⟨pae0, pae1, pae2, pae3⟩ := pa_8.open2
  obtain ⟨pbe0, pbe1, pbe2, pbe3⟩ := pb_7.open2
  obtain ⟨pre0, pre1, pre2, pre3⟩ := pr_6.open2
  obtain ⟨pse0, pse1, pse2, pse3⟩ := ps_5.open2
  obtain ⟨sf1a, sf1b, sf1c, sf1d⟩ := pr_6.open2
  obtain ⟨sg1a, sg1b⟩ := Box.put2 pr_6 (.int .u64 ((H : Nat) : Int))
  go_wp2
  clear pae0 pae1 pae2 pae3 pbe0 pbe1 pbe2 pbe3 pre0 pre1 pre2 pre3 pse0 pse1 pse2 pse3 sf1a sf1b sf1c sf1d sg1a sg1b
  have hB_10 := below_setAll hB_9 (g := w.heap.size + 1 + 1) (by omega) [.int .u64 ((H : Nat) : Int), .int .u64 ((L : Nat) : Int)]
  have pa_9 := pa_8.farAll (g' := w.heap.size + 1 + 1) (by omega) [.int .u64 ((H : Nat) : Int), .int .u64 ((L : Nat) : Int)]
  have pb_8 := pb_7.farAll (g' := w.heap.size + 1 + 1) (by omega) [.int .u64 ((H : Nat) : Int), .int .u64 ((L : Nat) : Int)]
  have ps_6 := ps_5.farAll (g' := w.heap.size + 1 + 1) (by omega) [.int .u64 ((H : Nat) : Int), .int .u64 ((L : Nat) : Int)]
  have pr_7 := pr_6.setAll [.int .u64 ((H : Nat) : Int), .int .u64 ((L : Nat) : Int)] rfl
  simp only [setAll, Nat.zero_add] at hB_10 pa_9 pb_8 pr_7 ps_6
  clear hB_9 pa_8 pb_7 ps_5 pr_6
  generalize (World.setCell (World.setCell w8 ⟨w.heap.size + 1 + 1, 0, none⟩ (.int .u64 ((H : Nat) : Int))) ⟨w.heap.size + 1 + 1, 1, none⟩ (.int .u64 ((L : Nat) : Int))) = w9 at *
  go_wp2
  obtain ⟨pre0, pre1, pre2, pre3⟩ := pr_7.open2
  exact bodyPost_ret (v := .tuple #[.agg #[.int .u64 ((H : Nat) : Int), .int .u64 ((L : Nat) : Int)], .bool true]) (by simp [results, Try.results10, go_sem, pre0, pre1]) rfl ⟨rfl, hB_10⟩
set_option maxHeartbeats 4000000 in
theorem wAdd_w_ttf (ah al : Nat) (bh bl : Nat) (H L k : Nat) (h1 : (al + bl + 0) % B = L) (h2 : (al + bl + 0) / B = k) (h3 : (ah + bh + k) % B = H) (hk : k ≤ 1) (ca : ∀ w, Calls Try.prog 31 #[.agg #[.int .u64 ((ah : Nat) : Int), .int .u64 ((al : Nat) : Int)]] w fun e w' => e = .returned (.bool true) ∧ Below w.heap.size w w') (cb : ∀ w, Calls Try.prog 31 #[.agg #[.int .u64 ((bh : Nat) : Int), .int .u64 ((bl : Nat) : Int)]] w fun e w' => e = .returned (.bool true) ∧ Below w.heap.size w w') (cs : ∀ w, Calls Try.prog 31 #[.agg #[.int .u64 ((H : Nat) : Int), .int .u64 ((L : Nat) : Int)]] w fun e w' => e = .returned (.bool false) ∧ Below w.heap.size w w') (w : World) :
    Calls Try.prog 10 #[.agg #[.int .u64 ((ah : Nat) : Int), .int .u64 ((al : Nat) : Int)], .agg #[.int .u64 ((bh : Nat) : Int), .int .u64 ((bl : Nat) : Int)]] w fun e w' => e = .returned (.tuple #[.agg #[.int .u64 0, .int .u64 0], .bool false]) ∧ Below w.heap.size w w' := by
  have hB_0 := Below.refl w.heap.size w
  have hrun1 := fun w => add64_run al bl 0 (by omega) w
  have hrun2 := fun w => add64_run ah bh k (by omega) w
  simp only [h1, h2] at hrun1
  simp only [h3] at hrun2
  have hrun3 : ∀ w, (callFunc 32 #[.int .u64 al, .int .u64 bl, .int .u64 0]).run Try.prog w = .ok (.value (.tuple #[.int .u64 L, .int .u64 k])) w := hrun1
  clear hrun1 h1 h2 h3
  have CA := Lib.hid ca; have CBB := Lib.hid cb; have CS := Lib.hid cs
  clear ca cb cs
  obtain ⟨w1, hw1, pa_0, hb1, hs1⟩ := new_box w (w.heap.size) rfl [.int .u64 ((ah : Nat) : Int), .int .u64 ((al : Nat) : Int)] 24
  have hb1' : Below w.heap.size w w1 := hb1.mono (by omega)
  clear hb1
  have hB_1 := hB_0.trans (hb1'.mono hB_0.size)
  clear hb1' hB_0
  obtain ⟨w2, hw2, pb_0, hb2, hs2⟩ := new_box w1 (w.heap.size + 1) hs1 [.int .u64 ((bh : Nat) : Int), .int .u64 ((bl : Nat) : Int)] 24
  have hb2' : Below w1.heap.size w1 w2 := hb2.mono (by omega)
  clear hb2
  have hB_2 := hB_1.trans (hb2'.mono hB_1.size)
  have pa_1 := pa_0.below hb2'
  clear hb2' hB_1 pa_0
  obtain ⟨w3, hw3, pr_0, hb3, hs3⟩ := new_box w2 (w.heap.size + 1 + 1) hs2 [.int .u64 0, .int .u64 0] 24
  have hb3' : Below w2.heap.size w2 w3 := hb3.mono (by omega)
  clear hb3
  have hB_3 := hB_2.trans (hb3'.mono hB_2.size)
  have pa_2 := pa_1.below hb3'
  have pb_1 := pb_0.below hb3'
  clear hb3' hB_2 pa_1 pb_0
  go_enter Try.func10, Try.ntmps10
  obtain ⟨xa0, xa1, xa2, xa3⟩ := pa_2.open2
  obtain ⟨xb0, xb1, xb2, xb3⟩ := pb_1.open2
  have hl1pa := pa_2.lt
  have hl1pb := pb_1.lt
  have hl1pr := pr_0.lt
  have hl1B := hB_3.size
  obtain ⟨w4, hw4, ps_0, hb4, hs4⟩ := new_box w3 (w.heap.size + 1 + 1 + 1) hs3 [.int .u64 ((H : Nat) : Int), .int .u64 ((L : Nat) : Int)] 24
  have hb4' : Below w3.heap.size w3 w4 := hb4.mono (by omega)
  clear hb4
  have hB_4 := hB_3.trans (hb4'.mono hB_3.size)
  have pa_3 := pa_2.below hb4'
  have pb_2 := pb_1.below hb4'
  have pr_1 := pr_0.below hb4'
  clear hb4' hB_3 pa_2 pb_1 pr_0
  obtain ⟨pae0, pae1, pae2, pae3⟩ := pa_3.open2
  obtain ⟨pbe0, pbe1, pbe2, pbe3⟩ := pb_2.open2
  obtain ⟨pre0, pre1, pre2, pre3⟩ := pr_1.open2
  obtain ⟨pse0, pse1, pse2, pse3⟩ := ps_0.open2
  go_wp2
  clear xa0 xa1 xa2 xa3 xb0 xb1 xb2 xb3 hrun2 hrun3
  clear pae0 pae1 pae2 pae3 pbe0 pbe1 pbe2 pbe3 pre0 pre1 pre2 pre3 pse0 pse1 pse2 pse3
  have hB_5 := hB_4.drew'
  have pa_4 := pa_3.drew
  have pb_3 := pb_2.drew
  have pr_2 := pr_1.drew
  have ps_1 := ps_0.drew
  clear hB_4 pa_3 pb_2 pr_1 ps_0
  go_region_held3 (fun w' => w'.cell? ⟨w.heap.size, 0, none⟩ = some (.int .u64 ((ah : Nat) : Int)) ∧ w'.cell? ⟨w.heap.size, 1, none⟩ = some (.int .u64 ((al : Nat) : Int)) ∧ w'.cell? ⟨w.heap.size + 1, 0, none⟩ = some (.int .u64 ((bh : Nat) : Int)) ∧ w'.cell? ⟨w.heap.size + 1, 1, none⟩ = some (.int .u64 ((bl : Nat) : Int)) ∧ w'.cell? ⟨w.heap.size + 1 + 1 + 1, 0, none⟩ = some (.int .u64 ((H : Nat) : Int)) ∧ w'.cell? ⟨w.heap.size + 1 + 1 + 1, 1, none⟩ = some (.int .u64 ((L : Nat) : Int)))
    (first | with_reducible exact ⟨pa_4.c0, pa_4.c1, pb_3.c0, pb_3.c1, ps_1.c0, ps_1.c1⟩ | with_reducible exact ⟨pa_5.c0, pa_5.c1, pb_4.c0, pb_4.c1, ps_2.c0, ps_2.c1⟩ | with_reducible exact ⟨pa_6.c0, pa_6.c1, pb_5.c0, pb_5.c1, ps_3.c0, ps_3.c1⟩ | with_reducible exact ⟨pa_7.c0, pa_7.c1, pb_6.c0, pb_6.c1, ps_4.c0, ps_4.c1⟩ | with_reducible exact ⟨pa_8.c0, pa_8.c1, pb_7.c0, pb_7.c1, ps_5.c0, ps_5.c1⟩ | fail)
    (first
      | (go_at_call 31; (with_reducible refine (CA.out _).mono ?_); rintro e w5 ⟨rfl, hb5⟩; have hB_6 := hB_5.trans (hb5.mono hB_5.size); have pa_5 := pa_4.below hb5; have pb_4 := pb_3.below hb5; have pr_3 := pr_2.below hb5; have ps_2 := ps_1.below hb5; clear hb5 hB_5 pa_4 pb_3 pr_2 ps_1)
      | (go_at_call 31; (with_reducible refine (CBB.out _).mono ?_); rintro e w6 ⟨rfl, hb6⟩; have hB_7 := hB_6.trans (hb6.mono hB_6.size); have pa_6 := pa_5.below hb6; have pb_5 := pb_4.below hb6; have pr_4 := pr_3.below hb6; have ps_3 := ps_2.below hb6; clear hb6 hB_6 pa_5 pb_4 pr_3 ps_2)
      | (go_at_call 31; (with_reducible refine (CS.out _).mono ?_); rintro e w7 ⟨rfl, hb7⟩; have hB_8 := hB_7.trans (hb7.mono hB_7.size); have pa_7 := pa_6.below hb7; have pb_6 := pb_5.below hb7; have pr_5 := pr_4.below hb7; have ps_4 := ps_3.below hb7; clear hb7 hB_7 pa_6 pb_5 pr_4 ps_3)
      | (go_at_call 31; (with_reducible refine (CA.out _).mono ?_); rintro e w8 ⟨rfl, hb8⟩; have hB_9 := hB_8.trans (hb8.mono hB_8.size); have pa_8 := pa_7.below hb8; have pb_7 := pb_6.below hb8; have pr_6 := pr_5.below hb8; have ps_5 := ps_4.below hb8; clear hb8 hB_8 pa_7 pb_6 pr_5 ps_4))
  obtain ⟨pae0, pae1, pae2, pae3⟩ := pa_8.open2
  obtain ⟨pbe0, pbe1, pbe2, pbe3⟩ := pb_7.open2
  obtain ⟨pre0, pre1, pre2, pre3⟩ := pr_6.open2
  obtain ⟨pse0, pse1, pse2, pse3⟩ := ps_5.open2
  obtain ⟨sf1a, sf1b, sf1c, sf1d⟩ := pr_6.open2
  obtain ⟨sg1a, sg1b⟩ := Box.put2 pr_6 (.int .u64 0)
  go_wp2
  clear pae0 pae1 pae2 pae3 pbe0 pbe1 pbe2 pbe3 pre0 pre1 pre2 pre3 pse0 pse1 pse2 pse3 sf1a sf1b sf1c sf1d sg1a sg1b
  have hB_10 := below_setAll hB_9 (g := w.heap.size + 1 + 1) (by omega) [.int .u64 0, .int .u64 0]
  have pa_9 := pa_8.farAll (g' := w.heap.size + 1 + 1) (by omega) [.int .u64 0, .int .u64 0]
  have pb_8 := pb_7.farAll (g' := w.heap.size + 1 + 1) (by omega) [.int .u64 0, .int .u64 0]
  have ps_6 := ps_5.farAll (g' := w.heap.size + 1 + 1) (by omega) [.int .u64 0, .int .u64 0]
  have pr_7 := pr_6.setAll [.int .u64 0, .int .u64 0] rfl
  simp only [setAll, Nat.zero_add] at hB_10 pa_9 pb_8 pr_7 ps_6
  clear hB_9 pa_8 pb_7 ps_5 pr_6
  generalize (World.setCell (World.setCell w8 ⟨w.heap.size + 1 + 1, 0, none⟩ (.int .u64 0)) ⟨w.heap.size + 1 + 1, 1, none⟩ (.int .u64 0)) = w9 at *
  go_wp2
  obtain ⟨pre0, pre1, pre2, pre3⟩ := pr_7.open2
  exact bodyPost_ret (v := .tuple #[.agg #[.int .u64 0, .int .u64 0], .bool false]) (by simp [results, Try.results10, go_sem, pre0, pre1]) rfl ⟨rfl, hB_10⟩
set_option maxHeartbeats 4000000 in
theorem wAdd_w_tft (ah al : Nat) (bh bl : Nat) (H L k : Nat) (h1 : (al + bl + 0) % B = L) (h2 : (al + bl + 0) / B = k) (h3 : (ah + bh + k) % B = H) (hk : k ≤ 1) (ca : ∀ w, Calls Try.prog 31 #[.agg #[.int .u64 ((ah : Nat) : Int), .int .u64 ((al : Nat) : Int)]] w fun e w' => e = .returned (.bool true) ∧ Below w.heap.size w w') (cb : ∀ w, Calls Try.prog 31 #[.agg #[.int .u64 ((bh : Nat) : Int), .int .u64 ((bl : Nat) : Int)]] w fun e w' => e = .returned (.bool false) ∧ Below w.heap.size w w') (w : World) :
    Calls Try.prog 10 #[.agg #[.int .u64 ((ah : Nat) : Int), .int .u64 ((al : Nat) : Int)], .agg #[.int .u64 ((bh : Nat) : Int), .int .u64 ((bl : Nat) : Int)]] w fun e w' => e = .returned (.tuple #[.agg #[.int .u64 ((H : Nat) : Int), .int .u64 ((L : Nat) : Int)], .bool true]) ∧ Below w.heap.size w w' := by
  have hB_0 := Below.refl w.heap.size w
  have hrun1 := fun w => add64_run al bl 0 (by omega) w
  have hrun2 := fun w => add64_run ah bh k (by omega) w
  simp only [h1, h2] at hrun1
  simp only [h3] at hrun2
  have hrun3 : ∀ w, (callFunc 32 #[.int .u64 al, .int .u64 bl, .int .u64 0]).run Try.prog w = .ok (.value (.tuple #[.int .u64 L, .int .u64 k])) w := hrun1
  clear hrun1 h1 h2 h3
  have CA := Lib.hid ca; have CBB := Lib.hid cb
  clear ca cb
  obtain ⟨w1, hw1, pa_0, hb1, hs1⟩ := new_box w (w.heap.size) rfl [.int .u64 ((ah : Nat) : Int), .int .u64 ((al : Nat) : Int)] 24
  have hb1' : Below w.heap.size w w1 := hb1.mono (by omega)
  clear hb1
  have hB_1 := hB_0.trans (hb1'.mono hB_0.size)
  clear hb1' hB_0
  obtain ⟨w2, hw2, pb_0, hb2, hs2⟩ := new_box w1 (w.heap.size + 1) hs1 [.int .u64 ((bh : Nat) : Int), .int .u64 ((bl : Nat) : Int)] 24
  have hb2' : Below w1.heap.size w1 w2 := hb2.mono (by omega)
  clear hb2
  have hB_2 := hB_1.trans (hb2'.mono hB_1.size)
  have pa_1 := pa_0.below hb2'
  clear hb2' hB_1 pa_0
  obtain ⟨w3, hw3, pr_0, hb3, hs3⟩ := new_box w2 (w.heap.size + 1 + 1) hs2 [.int .u64 0, .int .u64 0] 24
  have hb3' : Below w2.heap.size w2 w3 := hb3.mono (by omega)
  clear hb3
  have hB_3 := hB_2.trans (hb3'.mono hB_2.size)
  have pa_2 := pa_1.below hb3'
  have pb_1 := pb_0.below hb3'
  clear hb3' hB_2 pa_1 pb_0
  go_enter Try.func10, Try.ntmps10
  obtain ⟨xa0, xa1, xa2, xa3⟩ := pa_2.open2
  obtain ⟨xb0, xb1, xb2, xb3⟩ := pb_1.open2
  have hl1pa := pa_2.lt
  have hl1pb := pb_1.lt
  have hl1pr := pr_0.lt
  have hl1B := hB_3.size
  obtain ⟨w4, hw4, ps_0, hb4, hs4⟩ := new_box w3 (w.heap.size + 1 + 1 + 1) hs3 [.int .u64 ((H : Nat) : Int), .int .u64 ((L : Nat) : Int)] 24
  have hb4' : Below w3.heap.size w3 w4 := hb4.mono (by omega)
  clear hb4
  have hB_4 := hB_3.trans (hb4'.mono hB_3.size)
  have pa_3 := pa_2.below hb4'
  have pb_2 := pb_1.below hb4'
  have pr_1 := pr_0.below hb4'
  clear hb4' hB_3 pa_2 pb_1 pr_0
  obtain ⟨pae0, pae1, pae2, pae3⟩ := pa_3.open2
  obtain ⟨pbe0, pbe1, pbe2, pbe3⟩ := pb_2.open2
  obtain ⟨pre0, pre1, pre2, pre3⟩ := pr_1.open2
  obtain ⟨pse0, pse1, pse2, pse3⟩ := ps_0.open2
  have hg1 : ((true : Bool) == false) = false := rfl
  go_wp2
  clear xa0 xa1 xa2 xa3 xb0 xb1 xb2 xb3 hrun2 hrun3
  clear pae0 pae1 pae2 pae3 pbe0 pbe1 pbe2 pbe3 pre0 pre1 pre2 pre3 pse0 pse1 pse2 pse3
  have hB_5 := hB_4.drew'
  have pa_4 := pa_3.drew
  have pb_3 := pb_2.drew
  have pr_2 := pr_1.drew
  have ps_1 := ps_0.drew
  refine wp_region_noPanic ?_
  refine wp_region_held_drew (S := fun w' => w'.cell? ⟨w.heap.size, 0, none⟩ = some (.int .u64 ((ah : Nat) : Int)) ∧ w'.cell? ⟨w.heap.size, 1, none⟩ = some (.int .u64 ((al : Nat) : Int)) ∧ w'.cell? ⟨w.heap.size + 1, 0, none⟩ = some (.int .u64 ((bh : Nat) : Int)) ∧ w'.cell? ⟨w.heap.size + 1, 1, none⟩ = some (.int .u64 ((bl : Nat) : Int)) ∧ w'.cell? ⟨w.heap.size + 1 + 1 + 1, 0, none⟩ = some (.int .u64 ((H : Nat) : Int)) ∧ w'.cell? ⟨w.heap.size + 1 + 1 + 1, 1, none⟩ = some (.int .u64 ((L : Nat) : Int))) (by kernel_rfl) (⟨pa_4.c0, pa_4.c1, pb_3.c0, pb_3.c1, ps_1.c0, ps_1.c1⟩) (fun hHeld => ?_)
  refine reg_take 0 ?_ ?_ ?_ (by kernel_rfl) (by kernel_rfl) (by kernel_rfl) (fun _ _ _ h => h) ?_ ?_ (by assumption) ?_
  rotate_left 2
  · simp only [List.getElem?_toArray, List.getElem?_cons_zero]; exact rfl
  · rfl
  · intro w hSw; (try dsimp only at hSw); go_simp; try with_reducible rfl
  try simp only [Act.put]
  try simp only [List.setIfInBounds_toArray, List.set_cons_zero, List.set_cons_succ]
  refine reg_take 2 ?_ ?_ ?_ (by kernel_rfl) (by kernel_rfl) (by kernel_rfl) (fun _ _ _ h => h) ?_ ?_ (by assumption) ?_
  rotate_left 2
  · simp only [List.getElem?_toArray, List.getElem?_cons_succ, List.getElem?_cons_zero]; exact rfl
  · rfl
  · intro w hSw; (try dsimp only at hSw); go_simp; try with_reducible rfl
  try simp only [Act.put]
  try simp only [List.setIfInBounds_toArray, List.set_cons_zero, List.set_cons_succ]
  refine reg_call 1 ?_ (by kernel_rfl) ?_ (fun K hK => ?_)
  rotate_left 1
  · simp only [List.getElem?_toArray, List.getElem?_cons_succ, List.getElem?_cons_zero]; exact rfl
  go_simp
  refine (CA.out _).mono ?_
  rintro e w5 ⟨rfl, hb5⟩
  have hB_6 := hB_5.trans (hb5.mono hB_5.size)
  have pa_5 := pa_4.below hb5
  have pb_4 := pb_3.below hb5
  have pr_3 := pr_2.below hb5
  have ps_2 := ps_1.below hb5
  clear hb5 hB_5 pa_4 pb_3 pr_2 ps_1
  go_wp2_with fail
  refine hK.out _ _ ⟨pa_5.c0, pa_5.c1, pb_4.c0, pb_4.c1, ps_2.c0, ps_2.c1⟩ (fun hHeld => ?_)
  clear hK K
  try simp only [Act.put]
  try simp only [List.setIfInBounds_toArray, List.set_cons_zero, List.set_cons_succ]
  refine reg_call 3 ?_ (by kernel_rfl) ?_ (fun K hK => ?_)
  rotate_left 1
  · simp only [List.getElem?_toArray, List.getElem?_cons_succ, List.getElem?_cons_zero]; exact rfl
  go_simp
  refine (CBB.out _).mono ?_
  rintro e w6 ⟨rfl, hb6⟩
  have hB_7 := hB_6.trans (hb6.mono hB_6.size)
  have pa_6 := pa_5.below hb6
  have pb_5 := pb_4.below hb6
  have pr_4 := pr_3.below hb6
  have ps_3 := ps_2.below hb6
  clear hb6 hB_6 pa_5 pb_4 pr_3 ps_2
  go_wp2_with fail
  refine hK.out _ _ ⟨pa_6.c0, pa_6.c1, pb_5.c0, pb_5.c1, ps_3.c0, ps_3.c1⟩ (fun hHeld => ?_)
  clear hK K
  try simp only [Act.put]
  try simp only [List.setIfInBounds_toArray, List.set_cons_zero, List.set_cons_succ]
  refine reg_take 4 ?_ ?_ ?_ (by kernel_rfl) (by kernel_rfl) (by kernel_rfl) (fun _ _ _ h => h) ?_ ?_ (by assumption) ?_
  rotate_left 2
  · simp only [List.getElem?_toArray, List.getElem?_cons_succ, List.getElem?_cons_zero]; exact rfl
  · rfl
  · intro w hSw; (try dsimp only at hSw); go_simp; try with_reducible rfl
  try simp only [Act.put]
  try simp only [List.setIfInBounds_toArray, List.set_cons_zero, List.set_cons_succ]
  refine reg_take 5 ?_ ?_ ?_ (by kernel_rfl) (by kernel_rfl) (by kernel_rfl) (fun _ _ _ h => h) ?_ ?_ (by assumption) ?_
  rotate_left 2
  · simp only [List.getElem?_toArray, List.getElem?_cons_succ, List.getElem?_cons_zero]; exact rfl
  · rfl
  · intro w hSw; (try dsimp only at hSw); go_simp; try with_reducible rfl
  try simp only [Act.put]
  try simp only [List.setIfInBounds_toArray, List.set_cons_zero, List.set_cons_succ]
  refine reg_skip 6 ?_ ?_ (by kernel_rfl) (by kernel_rfl) (by kernel_rfl) (fun _ _ _ h => h) ?_ (by assumption) ?_
  rotate_left 1
  · simp only [List.getElem?_toArray, List.getElem?_cons_succ, List.getElem?_cons_zero]; exact rfl
  · rfl
  try simp only [Act.put]
  try simp only [List.setIfInBounds_toArray, List.set_cons_zero, List.set_cons_succ]
  refine reg_skip 7 ?_ ?_ (by kernel_rfl) (by kernel_rfl) (by kernel_rfl) (fun _ _ _ h => h) ?_ (by assumption) ?_
  rotate_left 1
  · simp only [List.getElem?_toArray, List.getElem?_cons_succ, List.getElem?_cons_zero]; exact rfl
  · rfl
  try simp only [Act.put]
  try simp only [List.setIfInBounds_toArray, List.set_cons_zero, List.set_cons_succ]
  refine reg_skip 8 ?_ ?_ (by kernel_rfl) (by kernel_rfl) (by kernel_rfl) (fun _ _ _ h => h) ?_ (by assumption) ?_
  rotate_left 1
  · simp only [List.getElem?_toArray, List.getElem?_cons_succ, List.getElem?_cons_zero]; exact rfl
  · rfl
  try simp only [Act.put]
  try simp only [List.setIfInBounds_toArray, List.set_cons_zero, List.set_cons_succ]
  refine reg_skip 9 ?_ ?_ (by kernel_rfl) (by kernel_rfl) (by kernel_rfl) (fun _ _ _ h => h) ?_ (by assumption) ?_
  rotate_left 1
  · simp only [List.getElem?_toArray, List.getElem?_cons_succ, List.getElem?_cons_zero]; exact rfl
  · rfl
  try simp only [Act.put]
  try simp only [List.setIfInBounds_toArray, List.set_cons_zero, List.set_cons_succ]
  refine reg_skip 10 ?_ ?_ (by kernel_rfl) (by kernel_rfl) (by kernel_rfl) (fun _ _ _ h => h) ?_ (by assumption) ?_
  rotate_left 1
  · simp only [List.getElem?_toArray, List.getElem?_cons_succ, List.getElem?_cons_zero]; exact rfl
  · rfl
  try simp only [Act.put]
  try simp only [List.setIfInBounds_toArray, List.set_cons_zero, List.set_cons_succ]
  refine reg_take 11 ?_ ?_ ?_ (by kernel_rfl) (by kernel_rfl) (by kernel_rfl) (fun _ _ _ h => h) ?_ ?_ (by assumption) ?_
  rotate_left 2
  · simp only [List.getElem?_toArray, List.getElem?_cons_succ, List.getElem?_cons_zero]; exact rfl
  · rfl
  · intro w hSw; (try dsimp only at hSw); go_simp; try with_reducible rfl
  try simp only [Act.put]
  try simp only [List.setIfInBounds_toArray, List.set_cons_zero, List.set_cons_succ]
  refine wpAnyH_done (by kernel_rfl) ?_ _
  refine NoPanic.normal ?_
  obtain ⟨pae0, pae1, pae2, pae3⟩ := pa_6.open2
  obtain ⟨pbe0, pbe1, pbe2, pbe3⟩ := pb_5.open2
  obtain ⟨pre0, pre1, pre2, pre3⟩ := pr_4.open2
  obtain ⟨pse0, pse1, pse2, pse3⟩ := ps_3.open2
  obtain ⟨sf1a, sf1b, sf1c, sf1d⟩ := pr_4.open2
  obtain ⟨sg1a, sg1b⟩ := Box.put2 pr_4 (.int .u64 ((H : Nat) : Int))
  go_wp2
  clear pae0 pae1 pae2 pae3 pbe0 pbe1 pbe2 pbe3 pre0 pre1 pre2 pre3 pse0 pse1 pse2 pse3 sf1a sf1b sf1c sf1d sg1a sg1b
  have hB_8 := below_setAll hB_7 (g := w.heap.size + 1 + 1) (by omega) [.int .u64 ((H : Nat) : Int), .int .u64 ((L : Nat) : Int)]
  have pa_7 := pa_6.farAll (g' := w.heap.size + 1 + 1) (by omega) [.int .u64 ((H : Nat) : Int), .int .u64 ((L : Nat) : Int)]
  have pb_6 := pb_5.farAll (g' := w.heap.size + 1 + 1) (by omega) [.int .u64 ((H : Nat) : Int), .int .u64 ((L : Nat) : Int)]
  have ps_4 := ps_3.farAll (g' := w.heap.size + 1 + 1) (by omega) [.int .u64 ((H : Nat) : Int), .int .u64 ((L : Nat) : Int)]
  have pr_5 := pr_4.setAll [.int .u64 ((H : Nat) : Int), .int .u64 ((L : Nat) : Int)] rfl
  simp only [setAll, Nat.zero_add] at hB_8 pa_7 pb_6 pr_5 ps_4
  clear hB_7 pa_6 pb_5 ps_3 pr_4
  generalize (World.setCell (World.setCell w6 ⟨w.heap.size + 1 + 1, 0, none⟩ (.int .u64 ((H : Nat) : Int))) ⟨w.heap.size + 1 + 1, 1, none⟩ (.int .u64 ((L : Nat) : Int))) = w7 at *
  go_wp2
  obtain ⟨pre0, pre1, pre2, pre3⟩ := pr_5.open2
  exact bodyPost_ret (v := .tuple #[.agg #[.int .u64 ((H : Nat) : Int), .int .u64 ((L : Nat) : Int)], .bool true]) (by simp [results, Try.results10, go_sem, pre0, pre1]) rfl ⟨rfl, hB_8⟩
end Go.Proofs.Ytkigfccbhkcedaa
/- The calls of wide, walked: Add (not below). -/
namespace Go.Proofs.Ytkigfccbhkcedaa
open Go.RowKit Go.MagM
set_option maxHeartbeats 4000000 in
theorem wAdd_w_ftt (ah al : Nat) (bh bl : Nat) (H L k : Nat) (h1 : (al + bl + 0) % B = L) (h2 : (al + bl + 0) / B = k) (h3 : (ah + bh + k) % B = H) (hk : k ≤ 1) (ca : ∀ w, Calls Try.prog 31 #[.agg #[.int .u64 ((ah : Nat) : Int), .int .u64 ((al : Nat) : Int)]] w fun e w' => e = .returned (.bool false) ∧ Below w.heap.size w w') (cb : ∀ w, Calls Try.prog 31 #[.agg #[.int .u64 ((bh : Nat) : Int), .int .u64 ((bl : Nat) : Int)]] w fun e w' => e = .returned (.bool true) ∧ Below w.heap.size w w') (w : World) :
    Calls Try.prog 10 #[.agg #[.int .u64 ((ah : Nat) : Int), .int .u64 ((al : Nat) : Int)], .agg #[.int .u64 ((bh : Nat) : Int), .int .u64 ((bl : Nat) : Int)]] w fun e w' => e = .returned (.tuple #[.agg #[.int .u64 ((H : Nat) : Int), .int .u64 ((L : Nat) : Int)], .bool true]) ∧ Below w.heap.size w w' := by
  have hB_0 := Below.refl w.heap.size w
  have hrun1 := fun w => add64_run al bl 0 (by omega) w
  have hrun2 := fun w => add64_run ah bh k (by omega) w
  simp only [h1, h2] at hrun1
  simp only [h3] at hrun2
  have hrun3 : ∀ w, (callFunc 32 #[.int .u64 al, .int .u64 bl, .int .u64 0]).run Try.prog w = .ok (.value (.tuple #[.int .u64 L, .int .u64 k])) w := hrun1
  clear hrun1 h1 h2 h3
  have CA := Lib.hid ca; have CBB := Lib.hid cb
  clear ca cb
  obtain ⟨w1, hw1, pa_0, hb1, hs1⟩ := new_box w (w.heap.size) rfl [.int .u64 ((ah : Nat) : Int), .int .u64 ((al : Nat) : Int)] 24
  have hb1' : Below w.heap.size w w1 := hb1.mono (by omega)
  clear hb1
  have hB_1 := hB_0.trans (hb1'.mono hB_0.size)
  clear hb1' hB_0
  obtain ⟨w2, hw2, pb_0, hb2, hs2⟩ := new_box w1 (w.heap.size + 1) hs1 [.int .u64 ((bh : Nat) : Int), .int .u64 ((bl : Nat) : Int)] 24
  have hb2' : Below w1.heap.size w1 w2 := hb2.mono (by omega)
  clear hb2
  have hB_2 := hB_1.trans (hb2'.mono hB_1.size)
  have pa_1 := pa_0.below hb2'
  clear hb2' hB_1 pa_0
  obtain ⟨w3, hw3, pr_0, hb3, hs3⟩ := new_box w2 (w.heap.size + 1 + 1) hs2 [.int .u64 0, .int .u64 0] 24
  have hb3' : Below w2.heap.size w2 w3 := hb3.mono (by omega)
  clear hb3
  have hB_3 := hB_2.trans (hb3'.mono hB_2.size)
  have pa_2 := pa_1.below hb3'
  have pb_1 := pb_0.below hb3'
  clear hb3' hB_2 pa_1 pb_0
  go_enter Try.func10, Try.ntmps10
  obtain ⟨xa0, xa1, xa2, xa3⟩ := pa_2.open2
  obtain ⟨xb0, xb1, xb2, xb3⟩ := pb_1.open2
  have hl1pa := pa_2.lt
  have hl1pb := pb_1.lt
  have hl1pr := pr_0.lt
  have hl1B := hB_3.size
  obtain ⟨w4, hw4, ps_0, hb4, hs4⟩ := new_box w3 (w.heap.size + 1 + 1 + 1) hs3 [.int .u64 ((H : Nat) : Int), .int .u64 ((L : Nat) : Int)] 24
  have hb4' : Below w3.heap.size w3 w4 := hb4.mono (by omega)
  clear hb4
  have hB_4 := hB_3.trans (hb4'.mono hB_3.size)
  have pa_3 := pa_2.below hb4'
  have pb_2 := pb_1.below hb4'
  have pr_1 := pr_0.below hb4'
  clear hb4' hB_3 pa_2 pb_1 pr_0
  obtain ⟨pae0, pae1, pae2, pae3⟩ := pa_3.open2
  obtain ⟨pbe0, pbe1, pbe2, pbe3⟩ := pb_2.open2
  obtain ⟨pre0, pre1, pre2, pre3⟩ := pr_1.open2
  obtain ⟨pse0, pse1, pse2, pse3⟩ := ps_0.open2
  have hg1 : ((false : Bool) == true) = false := rfl
  go_wp2
  clear xa0 xa1 xa2 xa3 xb0 xb1 xb2 xb3 hrun2 hrun3
  clear pae0 pae1 pae2 pae3 pbe0 pbe1 pbe2 pbe3 pre0 pre1 pre2 pre3 pse0 pse1 pse2 pse3
  have hB_5 := hB_4.drew'
  have pa_4 := pa_3.drew
  have pb_3 := pb_2.drew
  have pr_2 := pr_1.drew
  have ps_1 := ps_0.drew
  refine wp_region_noPanic ?_
  refine wp_region_held_drew (S := fun w' => w'.cell? ⟨w.heap.size, 0, none⟩ = some (.int .u64 ((ah : Nat) : Int)) ∧ w'.cell? ⟨w.heap.size, 1, none⟩ = some (.int .u64 ((al : Nat) : Int)) ∧ w'.cell? ⟨w.heap.size + 1, 0, none⟩ = some (.int .u64 ((bh : Nat) : Int)) ∧ w'.cell? ⟨w.heap.size + 1, 1, none⟩ = some (.int .u64 ((bl : Nat) : Int)) ∧ w'.cell? ⟨w.heap.size + 1 + 1 + 1, 0, none⟩ = some (.int .u64 ((H : Nat) : Int)) ∧ w'.cell? ⟨w.heap.size + 1 + 1 + 1, 1, none⟩ = some (.int .u64 ((L : Nat) : Int))) (by kernel_rfl) (⟨pa_4.c0, pa_4.c1, pb_3.c0, pb_3.c1, ps_1.c0, ps_1.c1⟩) (fun hHeld => ?_)
  refine reg_take 0 ?_ ?_ ?_ (by kernel_rfl) (by kernel_rfl) (by kernel_rfl) (fun _ _ _ h => h) ?_ ?_ (by assumption) ?_
  rotate_left 2
  · simp only [List.getElem?_toArray, List.getElem?_cons_zero]; exact rfl
  · rfl
  · intro w hSw; (try dsimp only at hSw); go_simp; try with_reducible rfl
  try simp only [Act.put]
  try simp only [List.setIfInBounds_toArray, List.set_cons_zero, List.set_cons_succ]
  refine reg_take 2 ?_ ?_ ?_ (by kernel_rfl) (by kernel_rfl) (by kernel_rfl) (fun _ _ _ h => h) ?_ ?_ (by assumption) ?_
  rotate_left 2
  · simp only [List.getElem?_toArray, List.getElem?_cons_succ, List.getElem?_cons_zero]; exact rfl
  · rfl
  · intro w hSw; (try dsimp only at hSw); go_simp; try with_reducible rfl
  try simp only [Act.put]
  try simp only [List.setIfInBounds_toArray, List.set_cons_zero, List.set_cons_succ]
  refine reg_call 1 ?_ (by kernel_rfl) ?_ (fun K hK => ?_)
  rotate_left 1
  · simp only [List.getElem?_toArray, List.getElem?_cons_succ, List.getElem?_cons_zero]; exact rfl
  go_simp
  refine (CA.out _).mono ?_
  rintro e w5 ⟨rfl, hb5⟩
  have hB_6 := hB_5.trans (hb5.mono hB_5.size)
  have pa_5 := pa_4.below hb5
  have pb_4 := pb_3.below hb5
  have pr_3 := pr_2.below hb5
  have ps_2 := ps_1.below hb5
  clear hb5 hB_5 pa_4 pb_3 pr_2 ps_1
  go_wp2_with fail
  refine hK.out _ _ ⟨pa_5.c0, pa_5.c1, pb_4.c0, pb_4.c1, ps_2.c0, ps_2.c1⟩ (fun hHeld => ?_)
  clear hK K
  try simp only [Act.put]
  try simp only [List.setIfInBounds_toArray, List.set_cons_zero, List.set_cons_succ]
  refine reg_call 3 ?_ (by kernel_rfl) ?_ (fun K hK => ?_)
  rotate_left 1
  · simp only [List.getElem?_toArray, List.getElem?_cons_succ, List.getElem?_cons_zero]; exact rfl
  go_simp
  refine (CBB.out _).mono ?_
  rintro e w6 ⟨rfl, hb6⟩
  have hB_7 := hB_6.trans (hb6.mono hB_6.size)
  have pa_6 := pa_5.below hb6
  have pb_5 := pb_4.below hb6
  have pr_4 := pr_3.below hb6
  have ps_3 := ps_2.below hb6
  clear hb6 hB_6 pa_5 pb_4 pr_3 ps_2
  go_wp2_with fail
  refine hK.out _ _ ⟨pa_6.c0, pa_6.c1, pb_5.c0, pb_5.c1, ps_3.c0, ps_3.c1⟩ (fun hHeld => ?_)
  clear hK K
  try simp only [Act.put]
  try simp only [List.setIfInBounds_toArray, List.set_cons_zero, List.set_cons_succ]
  refine reg_take 4 ?_ ?_ ?_ (by kernel_rfl) (by kernel_rfl) (by kernel_rfl) (fun _ _ _ h => h) ?_ ?_ (by assumption) ?_
  rotate_left 2
  · simp only [List.getElem?_toArray, List.getElem?_cons_succ, List.getElem?_cons_zero]; exact rfl
  · rfl
  · intro w hSw; (try dsimp only at hSw); go_simp; try with_reducible rfl
  try simp only [Act.put]
  try simp only [List.setIfInBounds_toArray, List.set_cons_zero, List.set_cons_succ]
  refine reg_take 5 ?_ ?_ ?_ (by kernel_rfl) (by kernel_rfl) (by kernel_rfl) (fun _ _ _ h => h) ?_ ?_ (by assumption) ?_
  rotate_left 2
  · simp only [List.getElem?_toArray, List.getElem?_cons_succ, List.getElem?_cons_zero]; exact rfl
  · rfl
  · intro w hSw; (try dsimp only at hSw); go_simp; try with_reducible rfl
  try simp only [Act.put]
  try simp only [List.setIfInBounds_toArray, List.set_cons_zero, List.set_cons_succ]
  refine reg_skip 6 ?_ ?_ (by kernel_rfl) (by kernel_rfl) (by kernel_rfl) (fun _ _ _ h => h) ?_ (by assumption) ?_
  rotate_left 1
  · simp only [List.getElem?_toArray, List.getElem?_cons_succ, List.getElem?_cons_zero]; exact rfl
  · rfl
  try simp only [Act.put]
  try simp only [List.setIfInBounds_toArray, List.set_cons_zero, List.set_cons_succ]
  refine reg_skip 7 ?_ ?_ (by kernel_rfl) (by kernel_rfl) (by kernel_rfl) (fun _ _ _ h => h) ?_ (by assumption) ?_
  rotate_left 1
  · simp only [List.getElem?_toArray, List.getElem?_cons_succ, List.getElem?_cons_zero]; exact rfl
  · rfl
  try simp only [Act.put]
  try simp only [List.setIfInBounds_toArray, List.set_cons_zero, List.set_cons_succ]
  refine reg_skip 8 ?_ ?_ (by kernel_rfl) (by kernel_rfl) (by kernel_rfl) (fun _ _ _ h => h) ?_ (by assumption) ?_
  rotate_left 1
  · simp only [List.getElem?_toArray, List.getElem?_cons_succ, List.getElem?_cons_zero]; exact rfl
  · rfl
  try simp only [Act.put]
  try simp only [List.setIfInBounds_toArray, List.set_cons_zero, List.set_cons_succ]
  refine reg_skip 9 ?_ ?_ (by kernel_rfl) (by kernel_rfl) (by kernel_rfl) (fun _ _ _ h => h) ?_ (by assumption) ?_
  rotate_left 1
  · simp only [List.getElem?_toArray, List.getElem?_cons_succ, List.getElem?_cons_zero]; exact rfl
  · rfl
  try simp only [Act.put]
  try simp only [List.setIfInBounds_toArray, List.set_cons_zero, List.set_cons_succ]
  refine reg_skip 10 ?_ ?_ (by kernel_rfl) (by kernel_rfl) (by kernel_rfl) (fun _ _ _ h => h) ?_ (by assumption) ?_
  rotate_left 1
  · simp only [List.getElem?_toArray, List.getElem?_cons_succ, List.getElem?_cons_zero]; exact rfl
  · rfl
  try simp only [Act.put]
  try simp only [List.setIfInBounds_toArray, List.set_cons_zero, List.set_cons_succ]
  refine reg_take 11 ?_ ?_ ?_ (by kernel_rfl) (by kernel_rfl) (by kernel_rfl) (fun _ _ _ h => h) ?_ ?_ (by assumption) ?_
  rotate_left 2
  · simp only [List.getElem?_toArray, List.getElem?_cons_succ, List.getElem?_cons_zero]; exact rfl
  · rfl
  · intro w hSw; (try dsimp only at hSw); go_simp; try with_reducible rfl
  try simp only [Act.put]
  try simp only [List.setIfInBounds_toArray, List.set_cons_zero, List.set_cons_succ]
  refine wpAnyH_done (by kernel_rfl) ?_ _
  refine NoPanic.normal ?_
  obtain ⟨pae0, pae1, pae2, pae3⟩ := pa_6.open2
  obtain ⟨pbe0, pbe1, pbe2, pbe3⟩ := pb_5.open2
  obtain ⟨pre0, pre1, pre2, pre3⟩ := pr_4.open2
  obtain ⟨pse0, pse1, pse2, pse3⟩ := ps_3.open2
  obtain ⟨sf1a, sf1b, sf1c, sf1d⟩ := pr_4.open2
  obtain ⟨sg1a, sg1b⟩ := Box.put2 pr_4 (.int .u64 ((H : Nat) : Int))
  go_wp2
  clear pae0 pae1 pae2 pae3 pbe0 pbe1 pbe2 pbe3 pre0 pre1 pre2 pre3 pse0 pse1 pse2 pse3 sf1a sf1b sf1c sf1d sg1a sg1b
  have hB_8 := below_setAll hB_7 (g := w.heap.size + 1 + 1) (by omega) [.int .u64 ((H : Nat) : Int), .int .u64 ((L : Nat) : Int)]
  have pa_7 := pa_6.farAll (g' := w.heap.size + 1 + 1) (by omega) [.int .u64 ((H : Nat) : Int), .int .u64 ((L : Nat) : Int)]
  have pb_6 := pb_5.farAll (g' := w.heap.size + 1 + 1) (by omega) [.int .u64 ((H : Nat) : Int), .int .u64 ((L : Nat) : Int)]
  have ps_4 := ps_3.farAll (g' := w.heap.size + 1 + 1) (by omega) [.int .u64 ((H : Nat) : Int), .int .u64 ((L : Nat) : Int)]
  have pr_5 := pr_4.setAll [.int .u64 ((H : Nat) : Int), .int .u64 ((L : Nat) : Int)] rfl
  simp only [setAll, Nat.zero_add] at hB_8 pa_7 pb_6 pr_5 ps_4
  clear hB_7 pa_6 pb_5 ps_3 pr_4
  generalize (World.setCell (World.setCell w6 ⟨w.heap.size + 1 + 1, 0, none⟩ (.int .u64 ((H : Nat) : Int))) ⟨w.heap.size + 1 + 1, 1, none⟩ (.int .u64 ((L : Nat) : Int))) = w7 at *
  go_wp2
  obtain ⟨pre0, pre1, pre2, pre3⟩ := pr_5.open2
  exact bodyPost_ret (v := .tuple #[.agg #[.int .u64 ((H : Nat) : Int), .int .u64 ((L : Nat) : Int)], .bool true]) (by simp [results, Try.results10, go_sem, pre0, pre1]) rfl ⟨rfl, hB_8⟩
set_option maxHeartbeats 4000000 in
theorem wAdd_w_fft (ah al : Nat) (bh bl : Nat) (H L k : Nat) (h1 : (al + bl + 0) % B = L) (h2 : (al + bl + 0) / B = k) (h3 : (ah + bh + k) % B = H) (hk : k ≤ 1) (ca : ∀ w, Calls Try.prog 31 #[.agg #[.int .u64 ((ah : Nat) : Int), .int .u64 ((al : Nat) : Int)]] w fun e w' => e = .returned (.bool false) ∧ Below w.heap.size w w') (cb : ∀ w, Calls Try.prog 31 #[.agg #[.int .u64 ((bh : Nat) : Int), .int .u64 ((bl : Nat) : Int)]] w fun e w' => e = .returned (.bool false) ∧ Below w.heap.size w w') (cs : ∀ w, Calls Try.prog 31 #[.agg #[.int .u64 ((H : Nat) : Int), .int .u64 ((L : Nat) : Int)]] w fun e w' => e = .returned (.bool true) ∧ Below w.heap.size w w') (w : World) :
    Calls Try.prog 10 #[.agg #[.int .u64 ((ah : Nat) : Int), .int .u64 ((al : Nat) : Int)], .agg #[.int .u64 ((bh : Nat) : Int), .int .u64 ((bl : Nat) : Int)]] w fun e w' => e = .returned (.tuple #[.agg #[.int .u64 0, .int .u64 0], .bool false]) ∧ Below w.heap.size w w' := by
  have hB_0 := Below.refl w.heap.size w
  have hrun1 := fun w => add64_run al bl 0 (by omega) w
  have hrun2 := fun w => add64_run ah bh k (by omega) w
  simp only [h1, h2] at hrun1
  simp only [h3] at hrun2
  have hrun3 : ∀ w, (callFunc 32 #[.int .u64 al, .int .u64 bl, .int .u64 0]).run Try.prog w = .ok (.value (.tuple #[.int .u64 L, .int .u64 k])) w := hrun1
  clear hrun1 h1 h2 h3
  have CA := Lib.hid ca; have CBB := Lib.hid cb; have CS := Lib.hid cs
  clear ca cb cs
  obtain ⟨w1, hw1, pa_0, hb1, hs1⟩ := new_box w (w.heap.size) rfl [.int .u64 ((ah : Nat) : Int), .int .u64 ((al : Nat) : Int)] 24
  have hb1' : Below w.heap.size w w1 := hb1.mono (by omega)
  clear hb1
  have hB_1 := hB_0.trans (hb1'.mono hB_0.size)
  clear hb1' hB_0
  obtain ⟨w2, hw2, pb_0, hb2, hs2⟩ := new_box w1 (w.heap.size + 1) hs1 [.int .u64 ((bh : Nat) : Int), .int .u64 ((bl : Nat) : Int)] 24
  have hb2' : Below w1.heap.size w1 w2 := hb2.mono (by omega)
  clear hb2
  have hB_2 := hB_1.trans (hb2'.mono hB_1.size)
  have pa_1 := pa_0.below hb2'
  clear hb2' hB_1 pa_0
  obtain ⟨w3, hw3, pr_0, hb3, hs3⟩ := new_box w2 (w.heap.size + 1 + 1) hs2 [.int .u64 0, .int .u64 0] 24
  have hb3' : Below w2.heap.size w2 w3 := hb3.mono (by omega)
  clear hb3
  have hB_3 := hB_2.trans (hb3'.mono hB_2.size)
  have pa_2 := pa_1.below hb3'
  have pb_1 := pb_0.below hb3'
  clear hb3' hB_2 pa_1 pb_0
  go_enter Try.func10, Try.ntmps10
  obtain ⟨xa0, xa1, xa2, xa3⟩ := pa_2.open2
  obtain ⟨xb0, xb1, xb2, xb3⟩ := pb_1.open2
  have hl1pa := pa_2.lt
  have hl1pb := pb_1.lt
  have hl1pr := pr_0.lt
  have hl1B := hB_3.size
  obtain ⟨w4, hw4, ps_0, hb4, hs4⟩ := new_box w3 (w.heap.size + 1 + 1 + 1) hs3 [.int .u64 ((H : Nat) : Int), .int .u64 ((L : Nat) : Int)] 24
  have hb4' : Below w3.heap.size w3 w4 := hb4.mono (by omega)
  clear hb4
  have hB_4 := hB_3.trans (hb4'.mono hB_3.size)
  have pa_3 := pa_2.below hb4'
  have pb_2 := pb_1.below hb4'
  have pr_1 := pr_0.below hb4'
  clear hb4' hB_3 pa_2 pb_1 pr_0
  obtain ⟨pae0, pae1, pae2, pae3⟩ := pa_3.open2
  obtain ⟨pbe0, pbe1, pbe2, pbe3⟩ := pb_2.open2
  obtain ⟨pre0, pre1, pre2, pre3⟩ := pr_1.open2
  obtain ⟨pse0, pse1, pse2, pse3⟩ := ps_0.open2
  go_wp2
  clear xa0 xa1 xa2 xa3 xb0 xb1 xb2 xb3 hrun2 hrun3
  clear pae0 pae1 pae2 pae3 pbe0 pbe1 pbe2 pbe3 pre0 pre1 pre2 pre3 pse0 pse1 pse2 pse3
  have hB_5 := hB_4.drew'
  have pa_4 := pa_3.drew
  have pb_3 := pb_2.drew
  have pr_2 := pr_1.drew
  have ps_1 := ps_0.drew
  clear hB_4 pa_3 pb_2 pr_1 ps_0
  go_region_held3 (fun w' => w'.cell? ⟨w.heap.size, 0, none⟩ = some (.int .u64 ((ah : Nat) : Int)) ∧ w'.cell? ⟨w.heap.size, 1, none⟩ = some (.int .u64 ((al : Nat) : Int)) ∧ w'.cell? ⟨w.heap.size + 1, 0, none⟩ = some (.int .u64 ((bh : Nat) : Int)) ∧ w'.cell? ⟨w.heap.size + 1, 1, none⟩ = some (.int .u64 ((bl : Nat) : Int)) ∧ w'.cell? ⟨w.heap.size + 1 + 1 + 1, 0, none⟩ = some (.int .u64 ((H : Nat) : Int)) ∧ w'.cell? ⟨w.heap.size + 1 + 1 + 1, 1, none⟩ = some (.int .u64 ((L : Nat) : Int)))
    (first | with_reducible exact ⟨pa_4.c0, pa_4.c1, pb_3.c0, pb_3.c1, ps_1.c0, ps_1.c1⟩ | with_reducible exact ⟨pa_5.c0, pa_5.c1, pb_4.c0, pb_4.c1, ps_2.c0, ps_2.c1⟩ | with_reducible exact ⟨pa_6.c0, pa_6.c1, pb_5.c0, pb_5.c1, ps_3.c0, ps_3.c1⟩ | with_reducible exact ⟨pa_7.c0, pa_7.c1, pb_6.c0, pb_6.c1, ps_4.c0, ps_4.c1⟩ | with_reducible exact ⟨pa_8.c0, pa_8.c1, pb_7.c0, pb_7.c1, ps_5.c0, ps_5.c1⟩ | fail)
    (first
      | (go_at_call 31; (with_reducible refine (CA.out _).mono ?_); rintro e w5 ⟨rfl, hb5⟩; have hB_6 := hB_5.trans (hb5.mono hB_5.size); have pa_5 := pa_4.below hb5; have pb_4 := pb_3.below hb5; have pr_3 := pr_2.below hb5; have ps_2 := ps_1.below hb5; clear hb5 hB_5 pa_4 pb_3 pr_2 ps_1)
      | (go_at_call 31; (with_reducible refine (CBB.out _).mono ?_); rintro e w6 ⟨rfl, hb6⟩; have hB_7 := hB_6.trans (hb6.mono hB_6.size); have pa_6 := pa_5.below hb6; have pb_5 := pb_4.below hb6; have pr_4 := pr_3.below hb6; have ps_3 := ps_2.below hb6; clear hb6 hB_6 pa_5 pb_4 pr_3 ps_2)
      | (go_at_call 31; (with_reducible refine (CS.out _).mono ?_); rintro e w7 ⟨rfl, hb7⟩; have hB_8 := hB_7.trans (hb7.mono hB_7.size); have pa_7 := pa_6.below hb7; have pb_6 := pb_5.below hb7; have pr_5 := pr_4.below hb7; have ps_4 := ps_3.below hb7; clear hb7 hB_7 pa_6 pb_5 pr_4 ps_3)
      | (go_at_call 31; (with_reducible refine (CA.out _).mono ?_); rintro e w8 ⟨rfl, hb8⟩; have hB_9 := hB_8.trans (hb8.mono hB_8.size); have pa_8 := pa_7.below hb8; have pb_7 := pb_6.below hb8; have pr_6 := pr_5.below hb8; have ps_5 := ps_4.below hb8; clear hb8 hB_8 pa_7 pb_6 pr_5 ps_4))
  obtain ⟨pae0, pae1, pae2, pae3⟩ := pa_8.open2
  obtain ⟨pbe0, pbe1, pbe2, pbe3⟩ := pb_7.open2
  obtain ⟨pre0, pre1, pre2, pre3⟩ := pr_6.open2
  obtain ⟨pse0, pse1, pse2, pse3⟩ := ps_5.open2
  obtain ⟨sf1a, sf1b, sf1c, sf1d⟩ := pr_6.open2
  obtain ⟨sg1a, sg1b⟩ := Box.put2 pr_6 (.int .u64 0)
  go_wp2
  clear pae0 pae1 pae2 pae3 pbe0 pbe1 pbe2 pbe3 pre0 pre1 pre2 pre3 pse0 pse1 pse2 pse3 sf1a sf1b sf1c sf1d sg1a sg1b
  have hB_10 := below_setAll hB_9 (g := w.heap.size + 1 + 1) (by omega) [.int .u64 0, .int .u64 0]
  have pa_9 := pa_8.farAll (g' := w.heap.size + 1 + 1) (by omega) [.int .u64 0, .int .u64 0]
  have pb_8 := pb_7.farAll (g' := w.heap.size + 1 + 1) (by omega) [.int .u64 0, .int .u64 0]
  have ps_6 := ps_5.farAll (g' := w.heap.size + 1 + 1) (by omega) [.int .u64 0, .int .u64 0]
  have pr_7 := pr_6.setAll [.int .u64 0, .int .u64 0] rfl
  simp only [setAll, Nat.zero_add] at hB_10 pa_9 pb_8 pr_7 ps_6
  clear hB_9 pa_8 pb_7 ps_5 pr_6
  generalize (World.setCell (World.setCell w8 ⟨w.heap.size + 1 + 1, 0, none⟩ (.int .u64 0)) ⟨w.heap.size + 1 + 1, 1, none⟩ (.int .u64 0)) = w9 at *
  go_wp2
  obtain ⟨pre0, pre1, pre2, pre3⟩ := pr_7.open2
  exact bodyPost_ret (v := .tuple #[.agg #[.int .u64 0, .int .u64 0], .bool false]) (by simp [results, Try.results10, go_sem, pre0, pre1]) rfl ⟨rfl, hB_10⟩
set_option maxHeartbeats 4000000 in
theorem wAdd_w_fff (ah al : Nat) (bh bl : Nat) (H L k : Nat) (h1 : (al + bl + 0) % B = L) (h2 : (al + bl + 0) / B = k) (h3 : (ah + bh + k) % B = H) (hk : k ≤ 1) (ca : ∀ w, Calls Try.prog 31 #[.agg #[.int .u64 ((ah : Nat) : Int), .int .u64 ((al : Nat) : Int)]] w fun e w' => e = .returned (.bool false) ∧ Below w.heap.size w w') (cb : ∀ w, Calls Try.prog 31 #[.agg #[.int .u64 ((bh : Nat) : Int), .int .u64 ((bl : Nat) : Int)]] w fun e w' => e = .returned (.bool false) ∧ Below w.heap.size w w') (cs : ∀ w, Calls Try.prog 31 #[.agg #[.int .u64 ((H : Nat) : Int), .int .u64 ((L : Nat) : Int)]] w fun e w' => e = .returned (.bool false) ∧ Below w.heap.size w w') (w : World) :
    Calls Try.prog 10 #[.agg #[.int .u64 ((ah : Nat) : Int), .int .u64 ((al : Nat) : Int)], .agg #[.int .u64 ((bh : Nat) : Int), .int .u64 ((bl : Nat) : Int)]] w fun e w' => e = .returned (.tuple #[.agg #[.int .u64 ((H : Nat) : Int), .int .u64 ((L : Nat) : Int)], .bool true]) ∧ Below w.heap.size w w' := by
  have hB_0 := Below.refl w.heap.size w
  have hrun1 := fun w => add64_run al bl 0 (by omega) w
  have hrun2 := fun w => add64_run ah bh k (by omega) w
  simp only [h1, h2] at hrun1
  simp only [h3] at hrun2
  have hrun3 : ∀ w, (callFunc 32 #[.int .u64 al, .int .u64 bl, .int .u64 0]).run Try.prog w = .ok (.value (.tuple #[.int .u64 L, .int .u64 k])) w := hrun1
  clear hrun1 h1 h2 h3
  have CA := Lib.hid ca; have CBB := Lib.hid cb; have CS := Lib.hid cs
  clear ca cb cs
  obtain ⟨w1, hw1, pa_0, hb1, hs1⟩ := new_box w (w.heap.size) rfl [.int .u64 ((ah : Nat) : Int), .int .u64 ((al : Nat) : Int)] 24
  have hb1' : Below w.heap.size w w1 := hb1.mono (by omega)
  clear hb1
  have hB_1 := hB_0.trans (hb1'.mono hB_0.size)
  clear hb1' hB_0
  obtain ⟨w2, hw2, pb_0, hb2, hs2⟩ := new_box w1 (w.heap.size + 1) hs1 [.int .u64 ((bh : Nat) : Int), .int .u64 ((bl : Nat) : Int)] 24
  have hb2' : Below w1.heap.size w1 w2 := hb2.mono (by omega)
  clear hb2
  have hB_2 := hB_1.trans (hb2'.mono hB_1.size)
  have pa_1 := pa_0.below hb2'
  clear hb2' hB_1 pa_0
  obtain ⟨w3, hw3, pr_0, hb3, hs3⟩ := new_box w2 (w.heap.size + 1 + 1) hs2 [.int .u64 0, .int .u64 0] 24
  have hb3' : Below w2.heap.size w2 w3 := hb3.mono (by omega)
  clear hb3
  have hB_3 := hB_2.trans (hb3'.mono hB_2.size)
  have pa_2 := pa_1.below hb3'
  have pb_1 := pb_0.below hb3'
  clear hb3' hB_2 pa_1 pb_0
  go_enter Try.func10, Try.ntmps10
  obtain ⟨xa0, xa1, xa2, xa3⟩ := pa_2.open2
  obtain ⟨xb0, xb1, xb2, xb3⟩ := pb_1.open2
  have hl1pa := pa_2.lt
  have hl1pb := pb_1.lt
  have hl1pr := pr_0.lt
  have hl1B := hB_3.size
  obtain ⟨w4, hw4, ps_0, hb4, hs4⟩ := new_box w3 (w.heap.size + 1 + 1 + 1) hs3 [.int .u64 ((H : Nat) : Int), .int .u64 ((L : Nat) : Int)] 24
  have hb4' : Below w3.heap.size w3 w4 := hb4.mono (by omega)
  clear hb4
  have hB_4 := hB_3.trans (hb4'.mono hB_3.size)
  have pa_3 := pa_2.below hb4'
  have pb_2 := pb_1.below hb4'
  have pr_1 := pr_0.below hb4'
  clear hb4' hB_3 pa_2 pb_1 pr_0
  obtain ⟨pae0, pae1, pae2, pae3⟩ := pa_3.open2
  obtain ⟨pbe0, pbe1, pbe2, pbe3⟩ := pb_2.open2
  obtain ⟨pre0, pre1, pre2, pre3⟩ := pr_1.open2
  obtain ⟨pse0, pse1, pse2, pse3⟩ := ps_0.open2
  go_wp2
  clear xa0 xa1 xa2 xa3 xb0 xb1 xb2 xb3 hrun2 hrun3
  clear pae0 pae1 pae2 pae3 pbe0 pbe1 pbe2 pbe3 pre0 pre1 pre2 pre3 pse0 pse1 pse2 pse3
  have hB_5 := hB_4.drew'
  have pa_4 := pa_3.drew
  have pb_3 := pb_2.drew
  have pr_2 := pr_1.drew
  have ps_1 := ps_0.drew
  clear hB_4 pa_3 pb_2 pr_1 ps_0
  go_region_held3 (fun w' => w'.cell? ⟨w.heap.size, 0, none⟩ = some (.int .u64 ((ah : Nat) : Int)) ∧ w'.cell? ⟨w.heap.size, 1, none⟩ = some (.int .u64 ((al : Nat) : Int)) ∧ w'.cell? ⟨w.heap.size + 1, 0, none⟩ = some (.int .u64 ((bh : Nat) : Int)) ∧ w'.cell? ⟨w.heap.size + 1, 1, none⟩ = some (.int .u64 ((bl : Nat) : Int)) ∧ w'.cell? ⟨w.heap.size + 1 + 1 + 1, 0, none⟩ = some (.int .u64 ((H : Nat) : Int)) ∧ w'.cell? ⟨w.heap.size + 1 + 1 + 1, 1, none⟩ = some (.int .u64 ((L : Nat) : Int)))
    (first | with_reducible exact ⟨pa_4.c0, pa_4.c1, pb_3.c0, pb_3.c1, ps_1.c0, ps_1.c1⟩ | with_reducible exact ⟨pa_5.c0, pa_5.c1, pb_4.c0, pb_4.c1, ps_2.c0, ps_2.c1⟩ | with_reducible exact ⟨pa_6.c0, pa_6.c1, pb_5.c0, pb_5.c1, ps_3.c0, ps_3.c1⟩ | with_reducible exact ⟨pa_7.c0, pa_7.c1, pb_6.c0, pb_6.c1, ps_4.c0, ps_4.c1⟩ | with_reducible exact ⟨pa_8.c0, pa_8.c1, pb_7.c0, pb_7.c1, ps_5.c0, ps_5.c1⟩ | fail)
    (first
      | (go_at_call 31; (with_reducible refine (CA.out _).mono ?_); rintro e w5 ⟨rfl, hb5⟩; have hB_6 := hB_5.trans (hb5.mono hB_5.size); have pa_5 := pa_4.below hb5; have pb_4 := pb_3.below hb5; have pr_3 := pr_2.below hb5; have ps_2 := ps_1.below hb5; clear hb5 hB_5 pa_4 pb_3 pr_2 ps_1)
      | (go_at_call 31; (with_reducible refine (CBB.out _).mono ?_); rintro e w6 ⟨rfl, hb6⟩; have hB_7 := hB_6.trans (hb6.mono hB_6.size); have pa_6 := pa_5.below hb6; have pb_5 := pb_4.below hb6; have pr_4 := pr_3.below hb6; have ps_3 := ps_2.below hb6; clear hb6 hB_6 pa_5 pb_4 pr_3 ps_2)
      | (go_at_call 31; (with_reducible refine (CS.out _).mono ?_); rintro e w7 ⟨rfl, hb7⟩; have hB_8 := hB_7.trans (hb7.mono hB_7.size); have pa_7 := pa_6.below hb7; have pb_6 := pb_5.below hb7; have pr_5 := pr_4.below hb7; have ps_4 := ps_3.below hb7; clear hb7 hB_7 pa_6 pb_5 pr_4 ps_3)
      | (go_at_call 31; (with_reducible refine (CA.out _).mono ?_); rintro e w8 ⟨rfl, hb8⟩; have hB_9 := hB_8.trans (hb8.mono hB_8.size); have pa_8 := pa_7.below hb8; have pb_7 := pb_6.below hb8; have pr_6 := pr_5.below hb8; have ps_5 := ps_4.below hb8; clear hb8 hB_8 pa_7 pb_6 pr_5 ps_4))
  obtain ⟨pae0, pae1, pae2, pae3⟩ := pa_8.open2
  obtain ⟨pbe0, pbe1, pbe2, pbe3⟩ := pb_7.open2
  obtain ⟨pre0, pre1, pre2, pre3⟩ := pr_6.open2
  obtain ⟨pse0, pse1, pse2, pse3⟩ := ps_5.open2
  obtain ⟨sf1a, sf1b, sf1c, sf1d⟩ := pr_6.open2
  obtain ⟨sg1a, sg1b⟩ := Box.put2 pr_6 (.int .u64 ((H : Nat) : Int))
  go_wp2
  clear pae0 pae1 pae2 pae3 pbe0 pbe1 pbe2 pbe3 pre0 pre1 pre2 pre3 pse0 pse1 pse2 pse3 sf1a sf1b sf1c sf1d sg1a sg1b
  have hB_10 := below_setAll hB_9 (g := w.heap.size + 1 + 1) (by omega) [.int .u64 ((H : Nat) : Int), .int .u64 ((L : Nat) : Int)]
  have pa_9 := pa_8.farAll (g' := w.heap.size + 1 + 1) (by omega) [.int .u64 ((H : Nat) : Int), .int .u64 ((L : Nat) : Int)]
  have pb_8 := pb_7.farAll (g' := w.heap.size + 1 + 1) (by omega) [.int .u64 ((H : Nat) : Int), .int .u64 ((L : Nat) : Int)]
  have ps_6 := ps_5.farAll (g' := w.heap.size + 1 + 1) (by omega) [.int .u64 ((H : Nat) : Int), .int .u64 ((L : Nat) : Int)]
  have pr_7 := pr_6.setAll [.int .u64 ((H : Nat) : Int), .int .u64 ((L : Nat) : Int)] rfl
  simp only [setAll, Nat.zero_add] at hB_10 pa_9 pb_8 pr_7 ps_6
  clear hB_9 pa_8 pb_7 ps_5 pr_6
  generalize (World.setCell (World.setCell w8 ⟨w.heap.size + 1 + 1, 0, none⟩ (.int .u64 ((H : Nat) : Int))) ⟨w.heap.size + 1 + 1, 1, none⟩ (.int .u64 ((L : Nat) : Int))) = w9 at *
  go_wp2
  obtain ⟨pre0, pre1, pre2, pre3⟩ := pr_7.open2
  exact bodyPost_ret (v := .tuple #[.agg #[.int .u64 ((H : Nat) : Int), .int .u64 ((L : Nat) : Int)], .bool true]) (by simp [results, Try.results10, go_sem, pre0, pre1]) rfl ⟨rfl, hB_10⟩
end Go.Proofs.Ytkigfccbhkcedaa
/- The calls of wide, walked: Sub (below). -/
namespace Go.Proofs.Ytkigfccbhkcedaa
open Go.RowKit Go.MagM
set_option maxHeartbeats 4000000 in
theorem wSub_w_ttt (ah al : Nat) (bh bl : Nat) (H L : Nat) (hless : ∀ w, Calls Try.prog 33 #[.agg #[.int .u64 ((ah : Nat) : Int), .int .u64 ((al : Nat) : Int)], .agg #[.int .u64 ((bh : Nat) : Int), .int .u64 ((bl : Nat) : Int)]] w fun e w' => e = .returned (.agg #[.int .u64 ((H : Nat) : Int), .int .u64 ((L : Nat) : Int)]) ∧ Below w.heap.size w w') (ca : ∀ w, Calls Try.prog 31 #[.agg #[.int .u64 ((ah : Nat) : Int), .int .u64 ((al : Nat) : Int)]] w fun e w' => e = .returned (.bool true) ∧ Below w.heap.size w w') (cb : ∀ w, Calls Try.prog 31 #[.agg #[.int .u64 ((bh : Nat) : Int), .int .u64 ((bl : Nat) : Int)]] w fun e w' => e = .returned (.bool true) ∧ Below w.heap.size w w') (w : World) :
    Calls Try.prog 11 #[.agg #[.int .u64 ((ah : Nat) : Int), .int .u64 ((al : Nat) : Int)], .agg #[.int .u64 ((bh : Nat) : Int), .int .u64 ((bl : Nat) : Int)]] w fun e w' => e = .returned (.tuple #[.agg #[.int .u64 ((H : Nat) : Int), .int .u64 ((L : Nat) : Int)], .bool true]) ∧ Below w.heap.size w w' := by
  have hB_0 := Below.refl w.heap.size w
  have CA := Lib.hid ca; have CBB := Lib.hid cb; have CL := Lib.hid hless
  clear ca cb hless
  obtain ⟨w1, hw1, pa_0, hb1, hs1⟩ := new_box w (w.heap.size) rfl [.int .u64 ((ah : Nat) : Int), .int .u64 ((al : Nat) : Int)] 24
  have hb1' : Below w.heap.size w w1 := hb1.mono (by omega)
  clear hb1
  have hB_1 := hB_0.trans (hb1'.mono hB_0.size)
  clear hb1' hB_0
  obtain ⟨w2, hw2, pb_0, hb2, hs2⟩ := new_box w1 (w.heap.size + 1) hs1 [.int .u64 ((bh : Nat) : Int), .int .u64 ((bl : Nat) : Int)] 24
  have hb2' : Below w1.heap.size w1 w2 := hb2.mono (by omega)
  clear hb2
  have hB_2 := hB_1.trans (hb2'.mono hB_1.size)
  have pa_1 := pa_0.below hb2'
  clear hb2' hB_1 pa_0
  obtain ⟨w3, hw3, pr_0, hb3, hs3⟩ := new_box w2 (w.heap.size + 1 + 1) hs2 [.int .u64 0, .int .u64 0] 24
  have hb3' : Below w2.heap.size w2 w3 := hb3.mono (by omega)
  clear hb3
  have hB_3 := hB_2.trans (hb3'.mono hB_2.size)
  have pa_2 := pa_1.below hb3'
  have pb_1 := pb_0.below hb3'
  clear hb3' hB_2 pa_1 pb_0
  go_enter Try.func11, Try.ntmps11
  obtain ⟨pae0, pae1, pae2, pae3⟩ := pa_2.open2
  obtain ⟨pbe0, pbe1, pbe2, pbe3⟩ := pb_1.open2
  obtain ⟨pre0, pre1, pre2, pre3⟩ := pr_0.open2
  go_wp2_with fail
  refine (CL.out _).mono ?_
  rintro e w4 ⟨rfl, hb4⟩
  clear pae0 pae1 pae2 pae3 pbe0 pbe1 pbe2 pbe3 pre0 pre1 pre2 pre3
  have hB_4 := hB_3.trans (hb4.mono hB_3.size)
  have pa_3 := pa_2.below hb4
  have pb_2 := pb_1.below hb4
  have pr_1 := pr_0.below hb4
  clear hb4 hB_3 pa_2 pb_1 pr_0
  have hl1pa := pa_3.lt
  have hl1pb := pb_2.lt
  have hl1pr := pr_1.lt
  have hl1B := hB_4.size
  obtain ⟨w5, hw5, ps_0, hb5, hs5⟩ := new_box w4 (w4.heap.size) rfl [.int .u64 ((H : Nat) : Int), .int .u64 ((L : Nat) : Int)] 24
  have hb5' : Below w4.heap.size w4 w5 := hb5.mono (by omega)
  clear hb5
  have hB_5 := hB_4.trans (hb5'.mono hB_4.size)
  have pa_4 := pa_3.below hb5'
  have pb_3 := pb_2.below hb5'
  have pr_2 := pr_1.below hb5'
  clear hb5' hB_4 pa_3 pb_2 pr_1
  obtain ⟨pae0, pae1, pae2, pae3⟩ := pa_4.open2
  obtain ⟨pbe0, pbe1, pbe2, pbe3⟩ := pb_3.open2
  obtain ⟨pre0, pre1, pre2, pre3⟩ := pr_2.open2
  obtain ⟨pse0, pse1, pse2, pse3⟩ := ps_0.open2
  have hg1 : ((true : Bool) != true) = false := rfl
  have hg2 : (!((true : Bool) == true)) = false := rfl
  go_wp2
  clear pae0 pae1 pae2 pae3 pbe0 pbe1 pbe2 pbe3 pre0 pre1 pre2 pre3 pse0 pse1 pse2 pse3
  have hB_6 := hB_5.drew'
  have pa_5 := pa_4.drew
  have pb_4 := pb_3.drew
  have pr_3 := pr_2.drew
  have ps_1 := ps_0.drew
  refine wp_region_noPanic ?_
  refine wp_region_held_drew (S := fun w' => w'.cell? ⟨w.heap.size, 0, none⟩ = some (.int .u64 ((ah : Nat) : Int)) ∧ w'.cell? ⟨w.heap.size, 1, none⟩ = some (.int .u64 ((al : Nat) : Int)) ∧ w'.cell? ⟨w.heap.size + 1, 0, none⟩ = some (.int .u64 ((bh : Nat) : Int)) ∧ w'.cell? ⟨w.heap.size + 1, 1, none⟩ = some (.int .u64 ((bl : Nat) : Int)) ∧ w'.cell? ⟨w4.heap.size, 0, none⟩ = some (.int .u64 ((H : Nat) : Int)) ∧ w'.cell? ⟨w4.heap.size, 1, none⟩ = some (.int .u64 ((L : Nat) : Int))) (by kernel_rfl) (⟨pa_5.c0, pa_5.c1, pb_4.c0, pb_4.c1, ps_1.c0, ps_1.c1⟩) (fun hHeld => ?_)
  refine reg_take 0 ?_ ?_ ?_ (by kernel_rfl) (by kernel_rfl) (by kernel_rfl) (fun _ _ _ h => h) ?_ ?_ (by assumption) ?_
  rotate_left 2
  · simp only [List.getElem?_toArray, List.getElem?_cons_zero]; exact rfl
  · rfl
  · intro w hSw; (try dsimp only at hSw); go_simp; try with_reducible rfl
  try simp only [Act.put]
  try simp only [List.setIfInBounds_toArray, List.set_cons_zero, List.set_cons_succ]
  refine reg_take 2 ?_ ?_ ?_ (by kernel_rfl) (by kernel_rfl) (by kernel_rfl) (fun _ _ _ h => h) ?_ ?_ (by assumption) ?_
  rotate_left 2
  · simp only [List.getElem?_toArray, List.getElem?_cons_succ, List.getElem?_cons_zero]; exact rfl
  · rfl
  · intro w hSw; (try dsimp only at hSw); go_simp; try with_reducible rfl
  try simp only [Act.put]
  try simp only [List.setIfInBounds_toArray, List.set_cons_zero, List.set_cons_succ]
  refine reg_call 1 ?_ (by kernel_rfl) ?_ (fun K hK => ?_)
  rotate_left 1
  · simp only [List.getElem?_toArray, List.getElem?_cons_succ, List.getElem?_cons_zero]; exact rfl
  go_simp
  refine (CA.out _).mono ?_
  rintro e w6 ⟨rfl, hb6⟩
  have hB_7 := hB_6.trans (hb6.mono hB_6.size)
  have pa_6 := pa_5.below hb6
  have pb_5 := pb_4.below hb6
  have pr_4 := pr_3.below hb6
  have ps_2 := ps_1.below hb6
  clear hb6 hB_6 pa_5 pb_4 pr_3 ps_1
  go_wp2_with fail
  refine hK.out _ _ ⟨pa_6.c0, pa_6.c1, pb_5.c0, pb_5.c1, ps_2.c0, ps_2.c1⟩ (fun hHeld => ?_)
  clear hK K
  try simp only [Act.put]
  try simp only [List.setIfInBounds_toArray, List.set_cons_zero, List.set_cons_succ]
  refine reg_call 3 ?_ (by kernel_rfl) ?_ (fun K hK => ?_)
  rotate_left 1
  · simp only [List.getElem?_toArray, List.getElem?_cons_succ, List.getElem?_cons_zero]; exact rfl
  go_simp
  refine (CBB.out _).mono ?_
  rintro e w7 ⟨rfl, hb7⟩
  have hB_8 := hB_7.trans (hb7.mono hB_7.size)
  have pa_7 := pa_6.below hb7
  have pb_6 := pb_5.below hb7
  have pr_5 := pr_4.below hb7
  have ps_3 := ps_2.below hb7
  clear hb7 hB_7 pa_6 pb_5 pr_4 ps_2
  go_wp2_with fail
  refine hK.out _ _ ⟨pa_7.c0, pa_7.c1, pb_6.c0, pb_6.c1, ps_3.c0, ps_3.c1⟩ (fun hHeld => ?_)
  clear hK K
  try simp only [Act.put]
  try simp only [List.setIfInBounds_toArray, List.set_cons_zero, List.set_cons_succ]
  refine reg_take 4 ?_ ?_ ?_ (by kernel_rfl) (by kernel_rfl) (by kernel_rfl) (fun _ _ _ h => h) ?_ ?_ (by assumption) ?_
  rotate_left 2
  · simp only [List.getElem?_toArray, List.getElem?_cons_succ, List.getElem?_cons_zero]; exact rfl
  · rfl
  · intro w hSw; (try dsimp only at hSw); go_simp; try with_reducible rfl
  try simp only [Act.put]
  try simp only [List.setIfInBounds_toArray, List.set_cons_zero, List.set_cons_succ]
  refine reg_take 5 ?_ ?_ ?_ (by kernel_rfl) (by kernel_rfl) (by kernel_rfl) (fun _ _ _ h => h) ?_ ?_ (by assumption) ?_
  rotate_left 2
  · simp only [List.getElem?_toArray, List.getElem?_cons_succ, List.getElem?_cons_zero]; exact rfl
  · rfl
  · intro w hSw; (try dsimp only at hSw); go_simp; try with_reducible rfl
  try simp only [Act.put]
  try simp only [List.setIfInBounds_toArray, List.set_cons_zero, List.set_cons_succ]
  refine reg_skip 6 ?_ ?_ (by kernel_rfl) (by kernel_rfl) (by kernel_rfl) (fun _ _ _ h => h) ?_ (by assumption) ?_
  rotate_left 1
  · simp only [List.getElem?_toArray, List.getElem?_cons_succ, List.getElem?_cons_zero]; exact rfl
  · rfl
  try simp only [Act.put]
  try simp only [List.setIfInBounds_toArray, List.set_cons_zero, List.set_cons_succ]
  refine reg_skip 7 ?_ ?_ (by kernel_rfl) (by kernel_rfl) (by kernel_rfl) (fun _ _ _ h => h) ?_ (by assumption) ?_
  rotate_left 1
  · simp only [List.getElem?_toArray, List.getElem?_cons_succ, List.getElem?_cons_zero]; exact rfl
  · rfl
  try simp only [Act.put]
  try simp only [List.setIfInBounds_toArray, List.set_cons_zero, List.set_cons_succ]
  refine reg_skip 8 ?_ ?_ (by kernel_rfl) (by kernel_rfl) (by kernel_rfl) (fun _ _ _ h => h) ?_ (by assumption) ?_
  rotate_left 1
  · simp only [List.getElem?_toArray, List.getElem?_cons_succ, List.getElem?_cons_zero]; exact rfl
  · rfl
  try simp only [Act.put]
  try simp only [List.setIfInBounds_toArray, List.set_cons_zero, List.set_cons_succ]
  refine reg_skip 9 ?_ ?_ (by kernel_rfl) (by kernel_rfl) (by kernel_rfl) (fun _ _ _ h => h) ?_ (by assumption) ?_
  rotate_left 1
  · simp only [List.getElem?_toArray, List.getElem?_cons_succ, List.getElem?_cons_zero]; exact rfl
  · rfl
  try simp only [Act.put]
  try simp only [List.setIfInBounds_toArray, List.set_cons_zero, List.set_cons_succ]
  refine reg_skip 10 ?_ ?_ (by kernel_rfl) (by kernel_rfl) (by kernel_rfl) (fun _ _ _ h => h) ?_ (by assumption) ?_
  rotate_left 1
  · simp only [List.getElem?_toArray, List.getElem?_cons_succ, List.getElem?_cons_zero]; exact rfl
  · rfl
  try simp only [Act.put]
  try simp only [List.setIfInBounds_toArray, List.set_cons_zero, List.set_cons_succ]
  refine reg_take 11 ?_ ?_ ?_ (by kernel_rfl) (by kernel_rfl) (by kernel_rfl) (fun _ _ _ h => h) ?_ ?_ (by assumption) ?_
  rotate_left 2
  · simp only [List.getElem?_toArray, List.getElem?_cons_succ, List.getElem?_cons_zero]; exact rfl
  · rfl
  · intro w hSw; (try dsimp only at hSw); go_simp; try with_reducible rfl
  try simp only [Act.put]
  try simp only [List.setIfInBounds_toArray, List.set_cons_zero, List.set_cons_succ]
  refine wpAnyH_done (by kernel_rfl) ?_ _
  refine NoPanic.normal ?_
  obtain ⟨pae0, pae1, pae2, pae3⟩ := pa_7.open2
  obtain ⟨pbe0, pbe1, pbe2, pbe3⟩ := pb_6.open2
  obtain ⟨pre0, pre1, pre2, pre3⟩ := pr_5.open2
  obtain ⟨pse0, pse1, pse2, pse3⟩ := ps_3.open2
  obtain ⟨sf1a, sf1b, sf1c, sf1d⟩ := pr_5.open2
  obtain ⟨sg1a, sg1b⟩ := Box.put2 pr_5 (.int .u64 ((H : Nat) : Int))
  go_wp2
  clear pae0 pae1 pae2 pae3 pbe0 pbe1 pbe2 pbe3 pre0 pre1 pre2 pre3 pse0 pse1 pse2 pse3 sf1a sf1b sf1c sf1d sg1a sg1b
  have hB_9 := below_setAll hB_8 (g := w.heap.size + 1 + 1) (by omega) [.int .u64 ((H : Nat) : Int), .int .u64 ((L : Nat) : Int)]
  have pa_8 := pa_7.farAll (g' := w.heap.size + 1 + 1) (by omega) [.int .u64 ((H : Nat) : Int), .int .u64 ((L : Nat) : Int)]
  have pb_7 := pb_6.farAll (g' := w.heap.size + 1 + 1) (by omega) [.int .u64 ((H : Nat) : Int), .int .u64 ((L : Nat) : Int)]
  have ps_4 := ps_3.farAll (g' := w.heap.size + 1 + 1) (by omega) [.int .u64 ((H : Nat) : Int), .int .u64 ((L : Nat) : Int)]
  have pr_6 := pr_5.setAll [.int .u64 ((H : Nat) : Int), .int .u64 ((L : Nat) : Int)] rfl
  simp only [setAll, Nat.zero_add] at hB_9 pa_8 pb_7 pr_6 ps_4
  clear hB_8 pa_7 pb_6 ps_3 pr_5
  generalize (World.setCell (World.setCell w7 ⟨w.heap.size + 1 + 1, 0, none⟩ (.int .u64 ((H : Nat) : Int))) ⟨w.heap.size + 1 + 1, 1, none⟩ (.int .u64 ((L : Nat) : Int))) = w8 at *
  go_wp2
  obtain ⟨pre0, pre1, pre2, pre3⟩ := pr_6.open2
  exact bodyPost_ret (v := .tuple #[.agg #[.int .u64 ((H : Nat) : Int), .int .u64 ((L : Nat) : Int)], .bool true]) (by simp [results, Try.results11, go_sem, pre0, pre1]) rfl ⟨rfl, hB_9⟩
set_option maxHeartbeats 4000000 in
theorem wSub_w_tft (ah al : Nat) (bh bl : Nat) (H L : Nat) (hless : ∀ w, Calls Try.prog 33 #[.agg #[.int .u64 ((ah : Nat) : Int), .int .u64 ((al : Nat) : Int)], .agg #[.int .u64 ((bh : Nat) : Int), .int .u64 ((bl : Nat) : Int)]] w fun e w' => e = .returned (.agg #[.int .u64 ((H : Nat) : Int), .int .u64 ((L : Nat) : Int)]) ∧ Below w.heap.size w w') (ca : ∀ w, Calls Try.prog 31 #[.agg #[.int .u64 ((ah : Nat) : Int), .int .u64 ((al : Nat) : Int)]] w fun e w' => e = .returned (.bool true) ∧ Below w.heap.size w w') (cb : ∀ w, Calls Try.prog 31 #[.agg #[.int .u64 ((bh : Nat) : Int), .int .u64 ((bl : Nat) : Int)]] w fun e w' => e = .returned (.bool false) ∧ Below w.heap.size w w') (cs : ∀ w, Calls Try.prog 31 #[.agg #[.int .u64 ((H : Nat) : Int), .int .u64 ((L : Nat) : Int)]] w fun e w' => e = .returned (.bool true) ∧ Below w.heap.size w w') (w : World) :
    Calls Try.prog 11 #[.agg #[.int .u64 ((ah : Nat) : Int), .int .u64 ((al : Nat) : Int)], .agg #[.int .u64 ((bh : Nat) : Int), .int .u64 ((bl : Nat) : Int)]] w fun e w' => e = .returned (.tuple #[.agg #[.int .u64 ((H : Nat) : Int), .int .u64 ((L : Nat) : Int)], .bool true]) ∧ Below w.heap.size w w' := by
  have hB_0 := Below.refl w.heap.size w
  have CA := Lib.hid ca; have CBB := Lib.hid cb; have CS := Lib.hid cs; have CL := Lib.hid hless
  clear ca cb cs hless
  obtain ⟨w1, hw1, pa_0, hb1, hs1⟩ := new_box w (w.heap.size) rfl [.int .u64 ((ah : Nat) : Int), .int .u64 ((al : Nat) : Int)] 24
  have hb1' : Below w.heap.size w w1 := hb1.mono (by omega)
  clear hb1
  have hB_1 := hB_0.trans (hb1'.mono hB_0.size)
  clear hb1' hB_0
  obtain ⟨w2, hw2, pb_0, hb2, hs2⟩ := new_box w1 (w.heap.size + 1) hs1 [.int .u64 ((bh : Nat) : Int), .int .u64 ((bl : Nat) : Int)] 24
  have hb2' : Below w1.heap.size w1 w2 := hb2.mono (by omega)
  clear hb2
  have hB_2 := hB_1.trans (hb2'.mono hB_1.size)
  have pa_1 := pa_0.below hb2'
  clear hb2' hB_1 pa_0
  obtain ⟨w3, hw3, pr_0, hb3, hs3⟩ := new_box w2 (w.heap.size + 1 + 1) hs2 [.int .u64 0, .int .u64 0] 24
  have hb3' : Below w2.heap.size w2 w3 := hb3.mono (by omega)
  clear hb3
  have hB_3 := hB_2.trans (hb3'.mono hB_2.size)
  have pa_2 := pa_1.below hb3'
  have pb_1 := pb_0.below hb3'
  clear hb3' hB_2 pa_1 pb_0
  go_enter Try.func11, Try.ntmps11
  obtain ⟨pae0, pae1, pae2, pae3⟩ := pa_2.open2
  obtain ⟨pbe0, pbe1, pbe2, pbe3⟩ := pb_1.open2
  obtain ⟨pre0, pre1, pre2, pre3⟩ := pr_0.open2
  go_wp2_with fail
  refine (CL.out _).mono ?_
  rintro e w4 ⟨rfl, hb4⟩
  clear pae0 pae1 pae2 pae3 pbe0 pbe1 pbe2 pbe3 pre0 pre1 pre2 pre3
  have hB_4 := hB_3.trans (hb4.mono hB_3.size)
  have pa_3 := pa_2.below hb4
  have pb_2 := pb_1.below hb4
  have pr_1 := pr_0.below hb4
  clear hb4 hB_3 pa_2 pb_1 pr_0
  have hl1pa := pa_3.lt
  have hl1pb := pb_2.lt
  have hl1pr := pr_1.lt
  have hl1B := hB_4.size
  obtain ⟨w5, hw5, ps_0, hb5, hs5⟩ := new_box w4 (w4.heap.size) rfl [.int .u64 ((H : Nat) : Int), .int .u64 ((L : Nat) : Int)] 24
  have hb5' : Below w4.heap.size w4 w5 := hb5.mono (by omega)
  clear hb5
  have hB_5 := hB_4.trans (hb5'.mono hB_4.size)
  have pa_4 := pa_3.below hb5'
  have pb_3 := pb_2.below hb5'
  have pr_2 := pr_1.below hb5'
  clear hb5' hB_4 pa_3 pb_2 pr_1
  obtain ⟨pae0, pae1, pae2, pae3⟩ := pa_4.open2
  obtain ⟨pbe0, pbe1, pbe2, pbe3⟩ := pb_3.open2
  obtain ⟨pre0, pre1, pre2, pre3⟩ := pr_2.open2
  obtain ⟨pse0, pse1, pse2, pse3⟩ := ps_0.open2
  go_wp2
  clear pae0 pae1 pae2 pae3 pbe0 pbe1 pbe2 pbe3 pre0 pre1 pre2 pre3 pse0 pse1 pse2 pse3
  have hB_6 := hB_5.drew'
  have pa_5 := pa_4.drew
  have pb_4 := pb_3.drew
  have pr_3 := pr_2.drew
  have ps_1 := ps_0.drew
  clear hB_5 pa_4 pb_3 pr_2 ps_0
  go_region_held3 (fun w' => w'.cell? ⟨w.heap.size, 0, none⟩ = some (.int .u64 ((ah : Nat) : Int)) ∧ w'.cell? ⟨w.heap.size, 1, none⟩ = some (.int .u64 ((al : Nat) : Int)) ∧ w'.cell? ⟨w.heap.size + 1, 0, none⟩ = some (.int .u64 ((bh : Nat) : Int)) ∧ w'.cell? ⟨w.heap.size + 1, 1, none⟩ = some (.int .u64 ((bl : Nat) : Int)) ∧ w'.cell? ⟨w4.heap.size, 0, none⟩ = some (.int .u64 ((H : Nat) : Int)) ∧ w'.cell? ⟨w4.heap.size, 1, none⟩ = some (.int .u64 ((L : Nat) : Int)))
    (first | with_reducible exact ⟨pa_5.c0, pa_5.c1, pb_4.c0, pb_4.c1, ps_1.c0, ps_1.c1⟩ | with_reducible exact ⟨pa_6.c0, pa_6.c1, pb_5.c0, pb_5.c1, ps_2.c0, ps_2.c1⟩ | with_reducible exact ⟨pa_7.c0, pa_7.c1, pb_6.c0, pb_6.c1, ps_3.c0, ps_3.c1⟩ | with_reducible exact ⟨pa_8.c0, pa_8.c1, pb_7.c0, pb_7.c1, ps_4.c0, ps_4.c1⟩ | with_reducible exact ⟨pa_9.c0, pa_9.c1, pb_8.c0, pb_8.c1, ps_5.c0, ps_5.c1⟩ | fail)
    (first
      | (go_at_call 31; (with_reducible refine (CA.out _).mono ?_); rintro e w6 ⟨rfl, hb6⟩; have hB_7 := hB_6.trans (hb6.mono hB_6.size); have pa_6 := pa_5.below hb6; have pb_5 := pb_4.below hb6; have pr_4 := pr_3.below hb6; have ps_2 := ps_1.below hb6; clear hb6 hB_6 pa_5 pb_4 pr_3 ps_1)
      | (go_at_call 31; (with_reducible refine (CBB.out _).mono ?_); rintro e w7 ⟨rfl, hb7⟩; have hB_8 := hB_7.trans (hb7.mono hB_7.size); have pa_7 := pa_6.below hb7; have pb_6 := pb_5.below hb7; have pr_5 := pr_4.below hb7; have ps_3 := ps_2.below hb7; clear hb7 hB_7 pa_6 pb_5 pr_4 ps_2)
      | (go_at_call 31; (with_reducible refine (CS.out _).mono ?_); rintro e w8 ⟨rfl, hb8⟩; have hB_9 := hB_8.trans (hb8.mono hB_8.size); have pa_8 := pa_7.below hb8; have pb_7 := pb_6.below hb8; have pr_6 := pr_5.below hb8; have ps_4 := ps_3.below hb8; clear hb8 hB_8 pa_7 pb_6 pr_5 ps_3)
      | (go_at_call 31; (with_reducible refine (CA.out _).mono ?_); rintro e w9 ⟨rfl, hb9⟩; have hB_10 := hB_9.trans (hb9.mono hB_9.size); have pa_9 := pa_8.below hb9; have pb_8 := pb_7.below hb9; have pr_7 := pr_6.below hb9; have ps_5 := ps_4.below hb9; clear hb9 hB_9 pa_8 pb_7 pr_6 ps_4))
  obtain ⟨pae0, pae1, pae2, pae3⟩ := pa_9.open2
  obtain ⟨pbe0, pbe1, pbe2, pbe3⟩ := pb_8.open2
  obtain ⟨pre0, pre1, pre2, pre3⟩ := pr_7.open2
  obtain ⟨pse0, pse1, pse2, pse3⟩ := ps_5.open2
  obtain ⟨sf1a, sf1b, sf1c, sf1d⟩ := pr_7.open2
  obtain ⟨sg1a, sg1b⟩ := Box.put2 pr_7 (.int .u64 ((H : Nat) : Int))
  go_wp2
  clear pae0 pae1 pae2 pae3 pbe0 pbe1 pbe2 pbe3 pre0 pre1 pre2 pre3 pse0 pse1 pse2 pse3 sf1a sf1b sf1c sf1d sg1a sg1b
  have hB_11 := below_setAll hB_10 (g := w.heap.size + 1 + 1) (by omega) [.int .u64 ((H : Nat) : Int), .int .u64 ((L : Nat) : Int)]
  have pa_10 := pa_9.farAll (g' := w.heap.size + 1 + 1) (by omega) [.int .u64 ((H : Nat) : Int), .int .u64 ((L : Nat) : Int)]
  have pb_9 := pb_8.farAll (g' := w.heap.size + 1 + 1) (by omega) [.int .u64 ((H : Nat) : Int), .int .u64 ((L : Nat) : Int)]
  have ps_6 := ps_5.farAll (g' := w.heap.size + 1 + 1) (by omega) [.int .u64 ((H : Nat) : Int), .int .u64 ((L : Nat) : Int)]
  have pr_8 := pr_7.setAll [.int .u64 ((H : Nat) : Int), .int .u64 ((L : Nat) : Int)] rfl
  simp only [setAll, Nat.zero_add] at hB_11 pa_10 pb_9 pr_8 ps_6
  clear hB_10 pa_9 pb_8 ps_5 pr_7
  generalize (World.setCell (World.setCell w9 ⟨w.heap.size + 1 + 1, 0, none⟩ (.int .u64 ((H : Nat) : Int))) ⟨w.heap.size + 1 + 1, 1, none⟩ (.int .u64 ((L : Nat) : Int))) = w10 at *
  go_wp2
  obtain ⟨pre0, pre1, pre2, pre3⟩ := pr_8.open2
  exact bodyPost_ret (v := .tuple #[.agg #[.int .u64 ((H : Nat) : Int), .int .u64 ((L : Nat) : Int)], .bool true]) (by simp [results, Try.results11, go_sem, pre0, pre1]) rfl ⟨rfl, hB_11⟩
set_option maxHeartbeats 4000000 in
theorem wSub_w_tff (ah al : Nat) (bh bl : Nat) (H L : Nat) (hless : ∀ w, Calls Try.prog 33 #[.agg #[.int .u64 ((ah : Nat) : Int), .int .u64 ((al : Nat) : Int)], .agg #[.int .u64 ((bh : Nat) : Int), .int .u64 ((bl : Nat) : Int)]] w fun e w' => e = .returned (.agg #[.int .u64 ((H : Nat) : Int), .int .u64 ((L : Nat) : Int)]) ∧ Below w.heap.size w w') (ca : ∀ w, Calls Try.prog 31 #[.agg #[.int .u64 ((ah : Nat) : Int), .int .u64 ((al : Nat) : Int)]] w fun e w' => e = .returned (.bool true) ∧ Below w.heap.size w w') (cb : ∀ w, Calls Try.prog 31 #[.agg #[.int .u64 ((bh : Nat) : Int), .int .u64 ((bl : Nat) : Int)]] w fun e w' => e = .returned (.bool false) ∧ Below w.heap.size w w') (cs : ∀ w, Calls Try.prog 31 #[.agg #[.int .u64 ((H : Nat) : Int), .int .u64 ((L : Nat) : Int)]] w fun e w' => e = .returned (.bool false) ∧ Below w.heap.size w w') (w : World) :
    Calls Try.prog 11 #[.agg #[.int .u64 ((ah : Nat) : Int), .int .u64 ((al : Nat) : Int)], .agg #[.int .u64 ((bh : Nat) : Int), .int .u64 ((bl : Nat) : Int)]] w fun e w' => e = .returned (.tuple #[.agg #[.int .u64 0, .int .u64 0], .bool false]) ∧ Below w.heap.size w w' := by
  have hB_0 := Below.refl w.heap.size w
  have CA := Lib.hid ca; have CBB := Lib.hid cb; have CS := Lib.hid cs; have CL := Lib.hid hless
  clear ca cb cs hless
  obtain ⟨w1, hw1, pa_0, hb1, hs1⟩ := new_box w (w.heap.size) rfl [.int .u64 ((ah : Nat) : Int), .int .u64 ((al : Nat) : Int)] 24
  have hb1' : Below w.heap.size w w1 := hb1.mono (by omega)
  clear hb1
  have hB_1 := hB_0.trans (hb1'.mono hB_0.size)
  clear hb1' hB_0
  obtain ⟨w2, hw2, pb_0, hb2, hs2⟩ := new_box w1 (w.heap.size + 1) hs1 [.int .u64 ((bh : Nat) : Int), .int .u64 ((bl : Nat) : Int)] 24
  have hb2' : Below w1.heap.size w1 w2 := hb2.mono (by omega)
  clear hb2
  have hB_2 := hB_1.trans (hb2'.mono hB_1.size)
  have pa_1 := pa_0.below hb2'
  clear hb2' hB_1 pa_0
  obtain ⟨w3, hw3, pr_0, hb3, hs3⟩ := new_box w2 (w.heap.size + 1 + 1) hs2 [.int .u64 0, .int .u64 0] 24
  have hb3' : Below w2.heap.size w2 w3 := hb3.mono (by omega)
  clear hb3
  have hB_3 := hB_2.trans (hb3'.mono hB_2.size)
  have pa_2 := pa_1.below hb3'
  have pb_1 := pb_0.below hb3'
  clear hb3' hB_2 pa_1 pb_0
  go_enter Try.func11, Try.ntmps11
  obtain ⟨pae0, pae1, pae2, pae3⟩ := pa_2.open2
  obtain ⟨pbe0, pbe1, pbe2, pbe3⟩ := pb_1.open2
  obtain ⟨pre0, pre1, pre2, pre3⟩ := pr_0.open2
  go_wp2_with fail
  refine (CL.out _).mono ?_
  rintro e w4 ⟨rfl, hb4⟩
  clear pae0 pae1 pae2 pae3 pbe0 pbe1 pbe2 pbe3 pre0 pre1 pre2 pre3
  have hB_4 := hB_3.trans (hb4.mono hB_3.size)
  have pa_3 := pa_2.below hb4
  have pb_2 := pb_1.below hb4
  have pr_1 := pr_0.below hb4
  clear hb4 hB_3 pa_2 pb_1 pr_0
  have hl1pa := pa_3.lt
  have hl1pb := pb_2.lt
  have hl1pr := pr_1.lt
  have hl1B := hB_4.size
  obtain ⟨w5, hw5, ps_0, hb5, hs5⟩ := new_box w4 (w4.heap.size) rfl [.int .u64 ((H : Nat) : Int), .int .u64 ((L : Nat) : Int)] 24
  have hb5' : Below w4.heap.size w4 w5 := hb5.mono (by omega)
  clear hb5
  have hB_5 := hB_4.trans (hb5'.mono hB_4.size)
  have pa_4 := pa_3.below hb5'
  have pb_3 := pb_2.below hb5'
  have pr_2 := pr_1.below hb5'
  clear hb5' hB_4 pa_3 pb_2 pr_1
  obtain ⟨pae0, pae1, pae2, pae3⟩ := pa_4.open2
  obtain ⟨pbe0, pbe1, pbe2, pbe3⟩ := pb_3.open2
  obtain ⟨pre0, pre1, pre2, pre3⟩ := pr_2.open2
  obtain ⟨pse0, pse1, pse2, pse3⟩ := ps_0.open2
  go_wp2
  clear pae0 pae1 pae2 pae3 pbe0 pbe1 pbe2 pbe3 pre0 pre1 pre2 pre3 pse0 pse1 pse2 pse3
  have hB_6 := hB_5.drew'
  have pa_5 := pa_4.drew
  have pb_4 := pb_3.drew
  have pr_3 := pr_2.drew
  have ps_1 := ps_0.drew
  clear hB_5 pa_4 pb_3 pr_2 ps_0
  go_region_held3 (fun w' => w'.cell? ⟨w.heap.size, 0, none⟩ = some (.int .u64 ((ah : Nat) : Int)) ∧ w'.cell? ⟨w.heap.size, 1, none⟩ = some (.int .u64 ((al : Nat) : Int)) ∧ w'.cell? ⟨w.heap.size + 1, 0, none⟩ = some (.int .u64 ((bh : Nat) : Int)) ∧ w'.cell? ⟨w.heap.size + 1, 1, none⟩ = some (.int .u64 ((bl : Nat) : Int)) ∧ w'.cell? ⟨w4.heap.size, 0, none⟩ = some (.int .u64 ((H : Nat) : Int)) ∧ w'.cell? ⟨w4.heap.size, 1, none⟩ = some (.int .u64 ((L : Nat) : Int)))
    (first | with_reducible exact ⟨pa_5.c0, pa_5.c1, pb_4.c0, pb_4.c1, ps_1.c0, ps_1.c1⟩ | with_reducible exact ⟨pa_6.c0, pa_6.c1, pb_5.c0, pb_5.c1, ps_2.c0, ps_2.c1⟩ | with_reducible exact ⟨pa_7.c0, pa_7.c1, pb_6.c0, pb_6.c1, ps_3.c0, ps_3.c1⟩ | with_reducible exact ⟨pa_8.c0, pa_8.c1, pb_7.c0, pb_7.c1, ps_4.c0, ps_4.c1⟩ | with_reducible exact ⟨pa_9.c0, pa_9.c1, pb_8.c0, pb_8.c1, ps_5.c0, ps_5.c1⟩ | fail)
    (first
      | (go_at_call 31; (with_reducible refine (CA.out _).mono ?_); rintro e w6 ⟨rfl, hb6⟩; have hB_7 := hB_6.trans (hb6.mono hB_6.size); have pa_6 := pa_5.below hb6; have pb_5 := pb_4.below hb6; have pr_4 := pr_3.below hb6; have ps_2 := ps_1.below hb6; clear hb6 hB_6 pa_5 pb_4 pr_3 ps_1)
      | (go_at_call 31; (with_reducible refine (CBB.out _).mono ?_); rintro e w7 ⟨rfl, hb7⟩; have hB_8 := hB_7.trans (hb7.mono hB_7.size); have pa_7 := pa_6.below hb7; have pb_6 := pb_5.below hb7; have pr_5 := pr_4.below hb7; have ps_3 := ps_2.below hb7; clear hb7 hB_7 pa_6 pb_5 pr_4 ps_2)
      | (go_at_call 31; (with_reducible refine (CS.out _).mono ?_); rintro e w8 ⟨rfl, hb8⟩; have hB_9 := hB_8.trans (hb8.mono hB_8.size); have pa_8 := pa_7.below hb8; have pb_7 := pb_6.below hb8; have pr_6 := pr_5.below hb8; have ps_4 := ps_3.below hb8; clear hb8 hB_8 pa_7 pb_6 pr_5 ps_3)
      | (go_at_call 31; (with_reducible refine (CA.out _).mono ?_); rintro e w9 ⟨rfl, hb9⟩; have hB_10 := hB_9.trans (hb9.mono hB_9.size); have pa_9 := pa_8.below hb9; have pb_8 := pb_7.below hb9; have pr_7 := pr_6.below hb9; have ps_5 := ps_4.below hb9; clear hb9 hB_9 pa_8 pb_7 pr_6 ps_4))
  obtain ⟨pae0, pae1, pae2, pae3⟩ := pa_9.open2
  obtain ⟨pbe0, pbe1, pbe2, pbe3⟩ := pb_8.open2
  obtain ⟨pre0, pre1, pre2, pre3⟩ := pr_7.open2
  obtain ⟨pse0, pse1, pse2, pse3⟩ := ps_5.open2
  obtain ⟨sf1a, sf1b, sf1c, sf1d⟩ := pr_7.open2
  obtain ⟨sg1a, sg1b⟩ := Box.put2 pr_7 (.int .u64 0)
  go_wp2
  clear pae0 pae1 pae2 pae3 pbe0 pbe1 pbe2 pbe3 pre0 pre1 pre2 pre3 pse0 pse1 pse2 pse3 sf1a sf1b sf1c sf1d sg1a sg1b
  have hB_11 := below_setAll hB_10 (g := w.heap.size + 1 + 1) (by omega) [.int .u64 0, .int .u64 0]
  have pa_10 := pa_9.farAll (g' := w.heap.size + 1 + 1) (by omega) [.int .u64 0, .int .u64 0]
  have pb_9 := pb_8.farAll (g' := w.heap.size + 1 + 1) (by omega) [.int .u64 0, .int .u64 0]
  have ps_6 := ps_5.farAll (g' := w.heap.size + 1 + 1) (by omega) [.int .u64 0, .int .u64 0]
  have pr_8 := pr_7.setAll [.int .u64 0, .int .u64 0] rfl
  simp only [setAll, Nat.zero_add] at hB_11 pa_10 pb_9 pr_8 ps_6
  clear hB_10 pa_9 pb_8 ps_5 pr_7
  generalize (World.setCell (World.setCell w9 ⟨w.heap.size + 1 + 1, 0, none⟩ (.int .u64 0)) ⟨w.heap.size + 1 + 1, 1, none⟩ (.int .u64 0)) = w10 at *
  go_wp2
  obtain ⟨pre0, pre1, pre2, pre3⟩ := pr_8.open2
  exact bodyPost_ret (v := .tuple #[.agg #[.int .u64 0, .int .u64 0], .bool false]) (by simp [results, Try.results11, go_sem, pre0, pre1]) rfl ⟨rfl, hB_11⟩
end Go.Proofs.Ytkigfccbhkcedaa
/- The calls of wide, walked: Sub (not below). -/
namespace Go.Proofs.Ytkigfccbhkcedaa
open Go.RowKit Go.MagM
set_option maxHeartbeats 4000000 in
theorem wSub_w_ftt (ah al : Nat) (bh bl : Nat) (H L : Nat) (hless : ∀ w, Calls Try.prog 33 #[.agg #[.int .u64 ((ah : Nat) : Int), .int .u64 ((al : Nat) : Int)], .agg #[.int .u64 ((bh : Nat) : Int), .int .u64 ((bl : Nat) : Int)]] w fun e w' => e = .returned (.agg #[.int .u64 ((H : Nat) : Int), .int .u64 ((L : Nat) : Int)]) ∧ Below w.heap.size w w') (ca : ∀ w, Calls Try.prog 31 #[.agg #[.int .u64 ((ah : Nat) : Int), .int .u64 ((al : Nat) : Int)]] w fun e w' => e = .returned (.bool false) ∧ Below w.heap.size w w') (cb : ∀ w, Calls Try.prog 31 #[.agg #[.int .u64 ((bh : Nat) : Int), .int .u64 ((bl : Nat) : Int)]] w fun e w' => e = .returned (.bool true) ∧ Below w.heap.size w w') (cs : ∀ w, Calls Try.prog 31 #[.agg #[.int .u64 ((H : Nat) : Int), .int .u64 ((L : Nat) : Int)]] w fun e w' => e = .returned (.bool true) ∧ Below w.heap.size w w') (w : World) :
    Calls Try.prog 11 #[.agg #[.int .u64 ((ah : Nat) : Int), .int .u64 ((al : Nat) : Int)], .agg #[.int .u64 ((bh : Nat) : Int), .int .u64 ((bl : Nat) : Int)]] w fun e w' => e = .returned (.tuple #[.agg #[.int .u64 0, .int .u64 0], .bool false]) ∧ Below w.heap.size w w' := by
  have hB_0 := Below.refl w.heap.size w
  have CA := Lib.hid ca; have CBB := Lib.hid cb; have CS := Lib.hid cs; have CL := Lib.hid hless
  clear ca cb cs hless
  obtain ⟨w1, hw1, pa_0, hb1, hs1⟩ := new_box w (w.heap.size) rfl [.int .u64 ((ah : Nat) : Int), .int .u64 ((al : Nat) : Int)] 24
  have hb1' : Below w.heap.size w w1 := hb1.mono (by omega)
  clear hb1
  have hB_1 := hB_0.trans (hb1'.mono hB_0.size)
  clear hb1' hB_0
  obtain ⟨w2, hw2, pb_0, hb2, hs2⟩ := new_box w1 (w.heap.size + 1) hs1 [.int .u64 ((bh : Nat) : Int), .int .u64 ((bl : Nat) : Int)] 24
  have hb2' : Below w1.heap.size w1 w2 := hb2.mono (by omega)
  clear hb2
  have hB_2 := hB_1.trans (hb2'.mono hB_1.size)
  have pa_1 := pa_0.below hb2'
  clear hb2' hB_1 pa_0
  obtain ⟨w3, hw3, pr_0, hb3, hs3⟩ := new_box w2 (w.heap.size + 1 + 1) hs2 [.int .u64 0, .int .u64 0] 24
  have hb3' : Below w2.heap.size w2 w3 := hb3.mono (by omega)
  clear hb3
  have hB_3 := hB_2.trans (hb3'.mono hB_2.size)
  have pa_2 := pa_1.below hb3'
  have pb_1 := pb_0.below hb3'
  clear hb3' hB_2 pa_1 pb_0
  go_enter Try.func11, Try.ntmps11
  obtain ⟨pae0, pae1, pae2, pae3⟩ := pa_2.open2
  obtain ⟨pbe0, pbe1, pbe2, pbe3⟩ := pb_1.open2
  obtain ⟨pre0, pre1, pre2, pre3⟩ := pr_0.open2
  go_wp2_with fail
  refine (CL.out _).mono ?_
  rintro e w4 ⟨rfl, hb4⟩
  clear pae0 pae1 pae2 pae3 pbe0 pbe1 pbe2 pbe3 pre0 pre1 pre2 pre3
  have hB_4 := hB_3.trans (hb4.mono hB_3.size)
  have pa_3 := pa_2.below hb4
  have pb_2 := pb_1.below hb4
  have pr_1 := pr_0.below hb4
  clear hb4 hB_3 pa_2 pb_1 pr_0
  have hl1pa := pa_3.lt
  have hl1pb := pb_2.lt
  have hl1pr := pr_1.lt
  have hl1B := hB_4.size
  obtain ⟨w5, hw5, ps_0, hb5, hs5⟩ := new_box w4 (w4.heap.size) rfl [.int .u64 ((H : Nat) : Int), .int .u64 ((L : Nat) : Int)] 24
  have hb5' : Below w4.heap.size w4 w5 := hb5.mono (by omega)
  clear hb5
  have hB_5 := hB_4.trans (hb5'.mono hB_4.size)
  have pa_4 := pa_3.below hb5'
  have pb_3 := pb_2.below hb5'
  have pr_2 := pr_1.below hb5'
  clear hb5' hB_4 pa_3 pb_2 pr_1
  obtain ⟨pae0, pae1, pae2, pae3⟩ := pa_4.open2
  obtain ⟨pbe0, pbe1, pbe2, pbe3⟩ := pb_3.open2
  obtain ⟨pre0, pre1, pre2, pre3⟩ := pr_2.open2
  obtain ⟨pse0, pse1, pse2, pse3⟩ := ps_0.open2
  go_wp2
  clear pae0 pae1 pae2 pae3 pbe0 pbe1 pbe2 pbe3 pre0 pre1 pre2 pre3 pse0 pse1 pse2 pse3
  have hB_6 := hB_5.drew'
  have pa_5 := pa_4.drew
  have pb_4 := pb_3.drew
  have pr_3 := pr_2.drew
  have ps_1 := ps_0.drew
  clear hB_5 pa_4 pb_3 pr_2 ps_0
  go_region_held3 (fun w' => w'.cell? ⟨w.heap.size, 0, none⟩ = some (.int .u64 ((ah : Nat) : Int)) ∧ w'.cell? ⟨w.heap.size, 1, none⟩ = some (.int .u64 ((al : Nat) : Int)) ∧ w'.cell? ⟨w.heap.size + 1, 0, none⟩ = some (.int .u64 ((bh : Nat) : Int)) ∧ w'.cell? ⟨w.heap.size + 1, 1, none⟩ = some (.int .u64 ((bl : Nat) : Int)) ∧ w'.cell? ⟨w4.heap.size, 0, none⟩ = some (.int .u64 ((H : Nat) : Int)) ∧ w'.cell? ⟨w4.heap.size, 1, none⟩ = some (.int .u64 ((L : Nat) : Int)))
    (first | with_reducible exact ⟨pa_5.c0, pa_5.c1, pb_4.c0, pb_4.c1, ps_1.c0, ps_1.c1⟩ | with_reducible exact ⟨pa_6.c0, pa_6.c1, pb_5.c0, pb_5.c1, ps_2.c0, ps_2.c1⟩ | with_reducible exact ⟨pa_7.c0, pa_7.c1, pb_6.c0, pb_6.c1, ps_3.c0, ps_3.c1⟩ | with_reducible exact ⟨pa_8.c0, pa_8.c1, pb_7.c0, pb_7.c1, ps_4.c0, ps_4.c1⟩ | with_reducible exact ⟨pa_9.c0, pa_9.c1, pb_8.c0, pb_8.c1, ps_5.c0, ps_5.c1⟩ | fail)
    (first
      | (go_at_call 31; (with_reducible refine (CA.out _).mono ?_); rintro e w6 ⟨rfl, hb6⟩; have hB_7 := hB_6.trans (hb6.mono hB_6.size); have pa_6 := pa_5.below hb6; have pb_5 := pb_4.below hb6; have pr_4 := pr_3.below hb6; have ps_2 := ps_1.below hb6; clear hb6 hB_6 pa_5 pb_4 pr_3 ps_1)
      | (go_at_call 31; (with_reducible refine (CBB.out _).mono ?_); rintro e w7 ⟨rfl, hb7⟩; have hB_8 := hB_7.trans (hb7.mono hB_7.size); have pa_7 := pa_6.below hb7; have pb_6 := pb_5.below hb7; have pr_5 := pr_4.below hb7; have ps_3 := ps_2.below hb7; clear hb7 hB_7 pa_6 pb_5 pr_4 ps_2)
      | (go_at_call 31; (with_reducible refine (CS.out _).mono ?_); rintro e w8 ⟨rfl, hb8⟩; have hB_9 := hB_8.trans (hb8.mono hB_8.size); have pa_8 := pa_7.below hb8; have pb_7 := pb_6.below hb8; have pr_6 := pr_5.below hb8; have ps_4 := ps_3.below hb8; clear hb8 hB_8 pa_7 pb_6 pr_5 ps_3)
      | (go_at_call 31; (with_reducible refine (CA.out _).mono ?_); rintro e w9 ⟨rfl, hb9⟩; have hB_10 := hB_9.trans (hb9.mono hB_9.size); have pa_9 := pa_8.below hb9; have pb_8 := pb_7.below hb9; have pr_7 := pr_6.below hb9; have ps_5 := ps_4.below hb9; clear hb9 hB_9 pa_8 pb_7 pr_6 ps_4))
  obtain ⟨pae0, pae1, pae2, pae3⟩ := pa_9.open2
  obtain ⟨pbe0, pbe1, pbe2, pbe3⟩ := pb_8.open2
  obtain ⟨pre0, pre1, pre2, pre3⟩ := pr_7.open2
  obtain ⟨pse0, pse1, pse2, pse3⟩ := ps_5.open2
  obtain ⟨sf1a, sf1b, sf1c, sf1d⟩ := pr_7.open2
  obtain ⟨sg1a, sg1b⟩ := Box.put2 pr_7 (.int .u64 0)
  go_wp2
  clear pae0 pae1 pae2 pae3 pbe0 pbe1 pbe2 pbe3 pre0 pre1 pre2 pre3 pse0 pse1 pse2 pse3 sf1a sf1b sf1c sf1d sg1a sg1b
  have hB_11 := below_setAll hB_10 (g := w.heap.size + 1 + 1) (by omega) [.int .u64 0, .int .u64 0]
  have pa_10 := pa_9.farAll (g' := w.heap.size + 1 + 1) (by omega) [.int .u64 0, .int .u64 0]
  have pb_9 := pb_8.farAll (g' := w.heap.size + 1 + 1) (by omega) [.int .u64 0, .int .u64 0]
  have ps_6 := ps_5.farAll (g' := w.heap.size + 1 + 1) (by omega) [.int .u64 0, .int .u64 0]
  have pr_8 := pr_7.setAll [.int .u64 0, .int .u64 0] rfl
  simp only [setAll, Nat.zero_add] at hB_11 pa_10 pb_9 pr_8 ps_6
  clear hB_10 pa_9 pb_8 ps_5 pr_7
  generalize (World.setCell (World.setCell w9 ⟨w.heap.size + 1 + 1, 0, none⟩ (.int .u64 0)) ⟨w.heap.size + 1 + 1, 1, none⟩ (.int .u64 0)) = w10 at *
  go_wp2
  obtain ⟨pre0, pre1, pre2, pre3⟩ := pr_8.open2
  exact bodyPost_ret (v := .tuple #[.agg #[.int .u64 0, .int .u64 0], .bool false]) (by simp [results, Try.results11, go_sem, pre0, pre1]) rfl ⟨rfl, hB_11⟩
set_option maxHeartbeats 4000000 in
theorem wSub_w_ftf (ah al : Nat) (bh bl : Nat) (H L : Nat) (hless : ∀ w, Calls Try.prog 33 #[.agg #[.int .u64 ((ah : Nat) : Int), .int .u64 ((al : Nat) : Int)], .agg #[.int .u64 ((bh : Nat) : Int), .int .u64 ((bl : Nat) : Int)]] w fun e w' => e = .returned (.agg #[.int .u64 ((H : Nat) : Int), .int .u64 ((L : Nat) : Int)]) ∧ Below w.heap.size w w') (ca : ∀ w, Calls Try.prog 31 #[.agg #[.int .u64 ((ah : Nat) : Int), .int .u64 ((al : Nat) : Int)]] w fun e w' => e = .returned (.bool false) ∧ Below w.heap.size w w') (cb : ∀ w, Calls Try.prog 31 #[.agg #[.int .u64 ((bh : Nat) : Int), .int .u64 ((bl : Nat) : Int)]] w fun e w' => e = .returned (.bool true) ∧ Below w.heap.size w w') (cs : ∀ w, Calls Try.prog 31 #[.agg #[.int .u64 ((H : Nat) : Int), .int .u64 ((L : Nat) : Int)]] w fun e w' => e = .returned (.bool false) ∧ Below w.heap.size w w') (w : World) :
    Calls Try.prog 11 #[.agg #[.int .u64 ((ah : Nat) : Int), .int .u64 ((al : Nat) : Int)], .agg #[.int .u64 ((bh : Nat) : Int), .int .u64 ((bl : Nat) : Int)]] w fun e w' => e = .returned (.tuple #[.agg #[.int .u64 ((H : Nat) : Int), .int .u64 ((L : Nat) : Int)], .bool true]) ∧ Below w.heap.size w w' := by
  have hB_0 := Below.refl w.heap.size w
  have CA := Lib.hid ca; have CBB := Lib.hid cb; have CS := Lib.hid cs; have CL := Lib.hid hless
  clear ca cb cs hless
  obtain ⟨w1, hw1, pa_0, hb1, hs1⟩ := new_box w (w.heap.size) rfl [.int .u64 ((ah : Nat) : Int), .int .u64 ((al : Nat) : Int)] 24
  have hb1' : Below w.heap.size w w1 := hb1.mono (by omega)
  clear hb1
  have hB_1 := hB_0.trans (hb1'.mono hB_0.size)
  clear hb1' hB_0
  obtain ⟨w2, hw2, pb_0, hb2, hs2⟩ := new_box w1 (w.heap.size + 1) hs1 [.int .u64 ((bh : Nat) : Int), .int .u64 ((bl : Nat) : Int)] 24
  have hb2' : Below w1.heap.size w1 w2 := hb2.mono (by omega)
  clear hb2
  have hB_2 := hB_1.trans (hb2'.mono hB_1.size)
  have pa_1 := pa_0.below hb2'
  clear hb2' hB_1 pa_0
  obtain ⟨w3, hw3, pr_0, hb3, hs3⟩ := new_box w2 (w.heap.size + 1 + 1) hs2 [.int .u64 0, .int .u64 0] 24
  have hb3' : Below w2.heap.size w2 w3 := hb3.mono (by omega)
  clear hb3
  have hB_3 := hB_2.trans (hb3'.mono hB_2.size)
  have pa_2 := pa_1.below hb3'
  have pb_1 := pb_0.below hb3'
  clear hb3' hB_2 pa_1 pb_0
  go_enter Try.func11, Try.ntmps11
  obtain ⟨pae0, pae1, pae2, pae3⟩ := pa_2.open2
  obtain ⟨pbe0, pbe1, pbe2, pbe3⟩ := pb_1.open2
  obtain ⟨pre0, pre1, pre2, pre3⟩ := pr_0.open2
  go_wp2_with fail
  refine (CL.out _).mono ?_
  rintro e w4 ⟨rfl, hb4⟩
  clear pae0 pae1 pae2 pae3 pbe0 pbe1 pbe2 pbe3 pre0 pre1 pre2 pre3
  have hB_4 := hB_3.trans (hb4.mono hB_3.size)
  have pa_3 := pa_2.below hb4
  have pb_2 := pb_1.below hb4
  have pr_1 := pr_0.below hb4
  clear hb4 hB_3 pa_2 pb_1 pr_0
  have hl1pa := pa_3.lt
  have hl1pb := pb_2.lt
  have hl1pr := pr_1.lt
  have hl1B := hB_4.size
  obtain ⟨w5, hw5, ps_0, hb5, hs5⟩ := new_box w4 (w4.heap.size) rfl [.int .u64 ((H : Nat) : Int), .int .u64 ((L : Nat) : Int)] 24
  have hb5' : Below w4.heap.size w4 w5 := hb5.mono (by omega)
  clear hb5
  have hB_5 := hB_4.trans (hb5'.mono hB_4.size)
  have pa_4 := pa_3.below hb5'
  have pb_3 := pb_2.below hb5'
  have pr_2 := pr_1.below hb5'
  clear hb5' hB_4 pa_3 pb_2 pr_1
  obtain ⟨pae0, pae1, pae2, pae3⟩ := pa_4.open2
  obtain ⟨pbe0, pbe1, pbe2, pbe3⟩ := pb_3.open2
  obtain ⟨pre0, pre1, pre2, pre3⟩ := pr_2.open2
  obtain ⟨pse0, pse1, pse2, pse3⟩ := ps_0.open2
  go_wp2
  clear pae0 pae1 pae2 pae3 pbe0 pbe1 pbe2 pbe3 pre0 pre1 pre2 pre3 pse0 pse1 pse2 pse3
  have hB_6 := hB_5.drew'
  have pa_5 := pa_4.drew
  have pb_4 := pb_3.drew
  have pr_3 := pr_2.drew
  have ps_1 := ps_0.drew
  clear hB_5 pa_4 pb_3 pr_2 ps_0
  go_region_held3 (fun w' => w'.cell? ⟨w.heap.size, 0, none⟩ = some (.int .u64 ((ah : Nat) : Int)) ∧ w'.cell? ⟨w.heap.size, 1, none⟩ = some (.int .u64 ((al : Nat) : Int)) ∧ w'.cell? ⟨w.heap.size + 1, 0, none⟩ = some (.int .u64 ((bh : Nat) : Int)) ∧ w'.cell? ⟨w.heap.size + 1, 1, none⟩ = some (.int .u64 ((bl : Nat) : Int)) ∧ w'.cell? ⟨w4.heap.size, 0, none⟩ = some (.int .u64 ((H : Nat) : Int)) ∧ w'.cell? ⟨w4.heap.size, 1, none⟩ = some (.int .u64 ((L : Nat) : Int)))
    (first | with_reducible exact ⟨pa_5.c0, pa_5.c1, pb_4.c0, pb_4.c1, ps_1.c0, ps_1.c1⟩ | with_reducible exact ⟨pa_6.c0, pa_6.c1, pb_5.c0, pb_5.c1, ps_2.c0, ps_2.c1⟩ | with_reducible exact ⟨pa_7.c0, pa_7.c1, pb_6.c0, pb_6.c1, ps_3.c0, ps_3.c1⟩ | with_reducible exact ⟨pa_8.c0, pa_8.c1, pb_7.c0, pb_7.c1, ps_4.c0, ps_4.c1⟩ | with_reducible exact ⟨pa_9.c0, pa_9.c1, pb_8.c0, pb_8.c1, ps_5.c0, ps_5.c1⟩ | fail)
    (first
      | (go_at_call 31; (with_reducible refine (CA.out _).mono ?_); rintro e w6 ⟨rfl, hb6⟩; have hB_7 := hB_6.trans (hb6.mono hB_6.size); have pa_6 := pa_5.below hb6; have pb_5 := pb_4.below hb6; have pr_4 := pr_3.below hb6; have ps_2 := ps_1.below hb6; clear hb6 hB_6 pa_5 pb_4 pr_3 ps_1)
      | (go_at_call 31; (with_reducible refine (CBB.out _).mono ?_); rintro e w7 ⟨rfl, hb7⟩; have hB_8 := hB_7.trans (hb7.mono hB_7.size); have pa_7 := pa_6.below hb7; have pb_6 := pb_5.below hb7; have pr_5 := pr_4.below hb7; have ps_3 := ps_2.below hb7; clear hb7 hB_7 pa_6 pb_5 pr_4 ps_2)
      | (go_at_call 31; (with_reducible refine (CS.out _).mono ?_); rintro e w8 ⟨rfl, hb8⟩; have hB_9 := hB_8.trans (hb8.mono hB_8.size); have pa_8 := pa_7.below hb8; have pb_7 := pb_6.below hb8; have pr_6 := pr_5.below hb8; have ps_4 := ps_3.below hb8; clear hb8 hB_8 pa_7 pb_6 pr_5 ps_3)
      | (go_at_call 31; (with_reducible refine (CA.out _).mono ?_); rintro e w9 ⟨rfl, hb9⟩; have hB_10 := hB_9.trans (hb9.mono hB_9.size); have pa_9 := pa_8.below hb9; have pb_8 := pb_7.below hb9; have pr_7 := pr_6.below hb9; have ps_5 := ps_4.below hb9; clear hb9 hB_9 pa_8 pb_7 pr_6 ps_4))
  obtain ⟨pae0, pae1, pae2, pae3⟩ := pa_9.open2
  obtain ⟨pbe0, pbe1, pbe2, pbe3⟩ := pb_8.open2
  obtain ⟨pre0, pre1, pre2, pre3⟩ := pr_7.open2
  obtain ⟨pse0, pse1, pse2, pse3⟩ := ps_5.open2
  obtain ⟨sf1a, sf1b, sf1c, sf1d⟩ := pr_7.open2
  obtain ⟨sg1a, sg1b⟩ := Box.put2 pr_7 (.int .u64 ((H : Nat) : Int))
  go_wp2
  clear pae0 pae1 pae2 pae3 pbe0 pbe1 pbe2 pbe3 pre0 pre1 pre2 pre3 pse0 pse1 pse2 pse3 sf1a sf1b sf1c sf1d sg1a sg1b
  have hB_11 := below_setAll hB_10 (g := w.heap.size + 1 + 1) (by omega) [.int .u64 ((H : Nat) : Int), .int .u64 ((L : Nat) : Int)]
  have pa_10 := pa_9.farAll (g' := w.heap.size + 1 + 1) (by omega) [.int .u64 ((H : Nat) : Int), .int .u64 ((L : Nat) : Int)]
  have pb_9 := pb_8.farAll (g' := w.heap.size + 1 + 1) (by omega) [.int .u64 ((H : Nat) : Int), .int .u64 ((L : Nat) : Int)]
  have ps_6 := ps_5.farAll (g' := w.heap.size + 1 + 1) (by omega) [.int .u64 ((H : Nat) : Int), .int .u64 ((L : Nat) : Int)]
  have pr_8 := pr_7.setAll [.int .u64 ((H : Nat) : Int), .int .u64 ((L : Nat) : Int)] rfl
  simp only [setAll, Nat.zero_add] at hB_11 pa_10 pb_9 pr_8 ps_6
  clear hB_10 pa_9 pb_8 ps_5 pr_7
  generalize (World.setCell (World.setCell w9 ⟨w.heap.size + 1 + 1, 0, none⟩ (.int .u64 ((H : Nat) : Int))) ⟨w.heap.size + 1 + 1, 1, none⟩ (.int .u64 ((L : Nat) : Int))) = w10 at *
  go_wp2
  obtain ⟨pre0, pre1, pre2, pre3⟩ := pr_8.open2
  exact bodyPost_ret (v := .tuple #[.agg #[.int .u64 ((H : Nat) : Int), .int .u64 ((L : Nat) : Int)], .bool true]) (by simp [results, Try.results11, go_sem, pre0, pre1]) rfl ⟨rfl, hB_11⟩
set_option maxHeartbeats 4000000 in
theorem wSub_w_fft (ah al : Nat) (bh bl : Nat) (H L : Nat) (hless : ∀ w, Calls Try.prog 33 #[.agg #[.int .u64 ((ah : Nat) : Int), .int .u64 ((al : Nat) : Int)], .agg #[.int .u64 ((bh : Nat) : Int), .int .u64 ((bl : Nat) : Int)]] w fun e w' => e = .returned (.agg #[.int .u64 ((H : Nat) : Int), .int .u64 ((L : Nat) : Int)]) ∧ Below w.heap.size w w') (ca : ∀ w, Calls Try.prog 31 #[.agg #[.int .u64 ((ah : Nat) : Int), .int .u64 ((al : Nat) : Int)]] w fun e w' => e = .returned (.bool false) ∧ Below w.heap.size w w') (cb : ∀ w, Calls Try.prog 31 #[.agg #[.int .u64 ((bh : Nat) : Int), .int .u64 ((bl : Nat) : Int)]] w fun e w' => e = .returned (.bool false) ∧ Below w.heap.size w w') (w : World) :
    Calls Try.prog 11 #[.agg #[.int .u64 ((ah : Nat) : Int), .int .u64 ((al : Nat) : Int)], .agg #[.int .u64 ((bh : Nat) : Int), .int .u64 ((bl : Nat) : Int)]] w fun e w' => e = .returned (.tuple #[.agg #[.int .u64 ((H : Nat) : Int), .int .u64 ((L : Nat) : Int)], .bool true]) ∧ Below w.heap.size w w' := by
  have hB_0 := Below.refl w.heap.size w
  have CA := Lib.hid ca; have CBB := Lib.hid cb; have CL := Lib.hid hless
  clear ca cb hless
  obtain ⟨w1, hw1, pa_0, hb1, hs1⟩ := new_box w (w.heap.size) rfl [.int .u64 ((ah : Nat) : Int), .int .u64 ((al : Nat) : Int)] 24
  have hb1' : Below w.heap.size w w1 := hb1.mono (by omega)
  clear hb1
  have hB_1 := hB_0.trans (hb1'.mono hB_0.size)
  clear hb1' hB_0
  obtain ⟨w2, hw2, pb_0, hb2, hs2⟩ := new_box w1 (w.heap.size + 1) hs1 [.int .u64 ((bh : Nat) : Int), .int .u64 ((bl : Nat) : Int)] 24
  have hb2' : Below w1.heap.size w1 w2 := hb2.mono (by omega)
  clear hb2
  have hB_2 := hB_1.trans (hb2'.mono hB_1.size)
  have pa_1 := pa_0.below hb2'
  clear hb2' hB_1 pa_0
  obtain ⟨w3, hw3, pr_0, hb3, hs3⟩ := new_box w2 (w.heap.size + 1 + 1) hs2 [.int .u64 0, .int .u64 0] 24
  have hb3' : Below w2.heap.size w2 w3 := hb3.mono (by omega)
  clear hb3
  have hB_3 := hB_2.trans (hb3'.mono hB_2.size)
  have pa_2 := pa_1.below hb3'
  have pb_1 := pb_0.below hb3'
  clear hb3' hB_2 pa_1 pb_0
  go_enter Try.func11, Try.ntmps11
  obtain ⟨pae0, pae1, pae2, pae3⟩ := pa_2.open2
  obtain ⟨pbe0, pbe1, pbe2, pbe3⟩ := pb_1.open2
  obtain ⟨pre0, pre1, pre2, pre3⟩ := pr_0.open2
  go_wp2_with fail
  refine (CL.out _).mono ?_
  rintro e w4 ⟨rfl, hb4⟩
  clear pae0 pae1 pae2 pae3 pbe0 pbe1 pbe2 pbe3 pre0 pre1 pre2 pre3
  have hB_4 := hB_3.trans (hb4.mono hB_3.size)
  have pa_3 := pa_2.below hb4
  have pb_2 := pb_1.below hb4
  have pr_1 := pr_0.below hb4
  clear hb4 hB_3 pa_2 pb_1 pr_0
  have hl1pa := pa_3.lt
  have hl1pb := pb_2.lt
  have hl1pr := pr_1.lt
  have hl1B := hB_4.size
  obtain ⟨w5, hw5, ps_0, hb5, hs5⟩ := new_box w4 (w4.heap.size) rfl [.int .u64 ((H : Nat) : Int), .int .u64 ((L : Nat) : Int)] 24
  have hb5' : Below w4.heap.size w4 w5 := hb5.mono (by omega)
  clear hb5
  have hB_5 := hB_4.trans (hb5'.mono hB_4.size)
  have pa_4 := pa_3.below hb5'
  have pb_3 := pb_2.below hb5'
  have pr_2 := pr_1.below hb5'
  clear hb5' hB_4 pa_3 pb_2 pr_1
  obtain ⟨pae0, pae1, pae2, pae3⟩ := pa_4.open2
  obtain ⟨pbe0, pbe1, pbe2, pbe3⟩ := pb_3.open2
  obtain ⟨pre0, pre1, pre2, pre3⟩ := pr_2.open2
  obtain ⟨pse0, pse1, pse2, pse3⟩ := ps_0.open2
  have hg1 : ((false : Bool) != false) = false := rfl
  have hg2 : (!((false : Bool) == false)) = false := rfl
  go_wp2
  clear pae0 pae1 pae2 pae3 pbe0 pbe1 pbe2 pbe3 pre0 pre1 pre2 pre3 pse0 pse1 pse2 pse3
  have hB_6 := hB_5.drew'
  have pa_5 := pa_4.drew
  have pb_4 := pb_3.drew
  have pr_3 := pr_2.drew
  have ps_1 := ps_0.drew
  refine wp_region_noPanic ?_
  refine wp_region_held_drew (S := fun w' => w'.cell? ⟨w.heap.size, 0, none⟩ = some (.int .u64 ((ah : Nat) : Int)) ∧ w'.cell? ⟨w.heap.size, 1, none⟩ = some (.int .u64 ((al : Nat) : Int)) ∧ w'.cell? ⟨w.heap.size + 1, 0, none⟩ = some (.int .u64 ((bh : Nat) : Int)) ∧ w'.cell? ⟨w.heap.size + 1, 1, none⟩ = some (.int .u64 ((bl : Nat) : Int)) ∧ w'.cell? ⟨w4.heap.size, 0, none⟩ = some (.int .u64 ((H : Nat) : Int)) ∧ w'.cell? ⟨w4.heap.size, 1, none⟩ = some (.int .u64 ((L : Nat) : Int))) (by kernel_rfl) (⟨pa_5.c0, pa_5.c1, pb_4.c0, pb_4.c1, ps_1.c0, ps_1.c1⟩) (fun hHeld => ?_)
  refine reg_take 0 ?_ ?_ ?_ (by kernel_rfl) (by kernel_rfl) (by kernel_rfl) (fun _ _ _ h => h) ?_ ?_ (by assumption) ?_
  rotate_left 2
  · simp only [List.getElem?_toArray, List.getElem?_cons_zero]; exact rfl
  · rfl
  · intro w hSw; (try dsimp only at hSw); go_simp; try with_reducible rfl
  try simp only [Act.put]
  try simp only [List.setIfInBounds_toArray, List.set_cons_zero, List.set_cons_succ]
  refine reg_take 2 ?_ ?_ ?_ (by kernel_rfl) (by kernel_rfl) (by kernel_rfl) (fun _ _ _ h => h) ?_ ?_ (by assumption) ?_
  rotate_left 2
  · simp only [List.getElem?_toArray, List.getElem?_cons_succ, List.getElem?_cons_zero]; exact rfl
  · rfl
  · intro w hSw; (try dsimp only at hSw); go_simp; try with_reducible rfl
  try simp only [Act.put]
  try simp only [List.setIfInBounds_toArray, List.set_cons_zero, List.set_cons_succ]
  refine reg_call 1 ?_ (by kernel_rfl) ?_ (fun K hK => ?_)
  rotate_left 1
  · simp only [List.getElem?_toArray, List.getElem?_cons_succ, List.getElem?_cons_zero]; exact rfl
  go_simp
  refine (CA.out _).mono ?_
  rintro e w6 ⟨rfl, hb6⟩
  have hB_7 := hB_6.trans (hb6.mono hB_6.size)
  have pa_6 := pa_5.below hb6
  have pb_5 := pb_4.below hb6
  have pr_4 := pr_3.below hb6
  have ps_2 := ps_1.below hb6
  clear hb6 hB_6 pa_5 pb_4 pr_3 ps_1
  go_wp2_with fail
  refine hK.out _ _ ⟨pa_6.c0, pa_6.c1, pb_5.c0, pb_5.c1, ps_2.c0, ps_2.c1⟩ (fun hHeld => ?_)
  clear hK K
  try simp only [Act.put]
  try simp only [List.setIfInBounds_toArray, List.set_cons_zero, List.set_cons_succ]
  refine reg_call 3 ?_ (by kernel_rfl) ?_ (fun K hK => ?_)
  rotate_left 1
  · simp only [List.getElem?_toArray, List.getElem?_cons_succ, List.getElem?_cons_zero]; exact rfl
  go_simp
  refine (CBB.out _).mono ?_
  rintro e w7 ⟨rfl, hb7⟩
  have hB_8 := hB_7.trans (hb7.mono hB_7.size)
  have pa_7 := pa_6.below hb7
  have pb_6 := pb_5.below hb7
  have pr_5 := pr_4.below hb7
  have ps_3 := ps_2.below hb7
  clear hb7 hB_7 pa_6 pb_5 pr_4 ps_2
  go_wp2_with fail
  refine hK.out _ _ ⟨pa_7.c0, pa_7.c1, pb_6.c0, pb_6.c1, ps_3.c0, ps_3.c1⟩ (fun hHeld => ?_)
  clear hK K
  try simp only [Act.put]
  try simp only [List.setIfInBounds_toArray, List.set_cons_zero, List.set_cons_succ]
  refine reg_take 4 ?_ ?_ ?_ (by kernel_rfl) (by kernel_rfl) (by kernel_rfl) (fun _ _ _ h => h) ?_ ?_ (by assumption) ?_
  rotate_left 2
  · simp only [List.getElem?_toArray, List.getElem?_cons_succ, List.getElem?_cons_zero]; exact rfl
  · rfl
  · intro w hSw; (try dsimp only at hSw); go_simp; try with_reducible rfl
  try simp only [Act.put]
  try simp only [List.setIfInBounds_toArray, List.set_cons_zero, List.set_cons_succ]
  refine reg_take 5 ?_ ?_ ?_ (by kernel_rfl) (by kernel_rfl) (by kernel_rfl) (fun _ _ _ h => h) ?_ ?_ (by assumption) ?_
  rotate_left 2
  · simp only [List.getElem?_toArray, List.getElem?_cons_succ, List.getElem?_cons_zero]; exact rfl
  · rfl
  · intro w hSw; (try dsimp only at hSw); go_simp; try with_reducible rfl
  try simp only [Act.put]
  try simp only [List.setIfInBounds_toArray, List.set_cons_zero, List.set_cons_succ]
  refine reg_skip 6 ?_ ?_ (by kernel_rfl) (by kernel_rfl) (by kernel_rfl) (fun _ _ _ h => h) ?_ (by assumption) ?_
  rotate_left 1
  · simp only [List.getElem?_toArray, List.getElem?_cons_succ, List.getElem?_cons_zero]; exact rfl
  · rfl
  try simp only [Act.put]
  try simp only [List.setIfInBounds_toArray, List.set_cons_zero, List.set_cons_succ]
  refine reg_skip 7 ?_ ?_ (by kernel_rfl) (by kernel_rfl) (by kernel_rfl) (fun _ _ _ h => h) ?_ (by assumption) ?_
  rotate_left 1
  · simp only [List.getElem?_toArray, List.getElem?_cons_succ, List.getElem?_cons_zero]; exact rfl
  · rfl
  try simp only [Act.put]
  try simp only [List.setIfInBounds_toArray, List.set_cons_zero, List.set_cons_succ]
  refine reg_skip 8 ?_ ?_ (by kernel_rfl) (by kernel_rfl) (by kernel_rfl) (fun _ _ _ h => h) ?_ (by assumption) ?_
  rotate_left 1
  · simp only [List.getElem?_toArray, List.getElem?_cons_succ, List.getElem?_cons_zero]; exact rfl
  · rfl
  try simp only [Act.put]
  try simp only [List.setIfInBounds_toArray, List.set_cons_zero, List.set_cons_succ]
  refine reg_skip 9 ?_ ?_ (by kernel_rfl) (by kernel_rfl) (by kernel_rfl) (fun _ _ _ h => h) ?_ (by assumption) ?_
  rotate_left 1
  · simp only [List.getElem?_toArray, List.getElem?_cons_succ, List.getElem?_cons_zero]; exact rfl
  · rfl
  try simp only [Act.put]
  try simp only [List.setIfInBounds_toArray, List.set_cons_zero, List.set_cons_succ]
  refine reg_skip 10 ?_ ?_ (by kernel_rfl) (by kernel_rfl) (by kernel_rfl) (fun _ _ _ h => h) ?_ (by assumption) ?_
  rotate_left 1
  · simp only [List.getElem?_toArray, List.getElem?_cons_succ, List.getElem?_cons_zero]; exact rfl
  · rfl
  try simp only [Act.put]
  try simp only [List.setIfInBounds_toArray, List.set_cons_zero, List.set_cons_succ]
  refine reg_take 11 ?_ ?_ ?_ (by kernel_rfl) (by kernel_rfl) (by kernel_rfl) (fun _ _ _ h => h) ?_ ?_ (by assumption) ?_
  rotate_left 2
  · simp only [List.getElem?_toArray, List.getElem?_cons_succ, List.getElem?_cons_zero]; exact rfl
  · rfl
  · intro w hSw; (try dsimp only at hSw); go_simp; try with_reducible rfl
  try simp only [Act.put]
  try simp only [List.setIfInBounds_toArray, List.set_cons_zero, List.set_cons_succ]
  refine wpAnyH_done (by kernel_rfl) ?_ _
  refine NoPanic.normal ?_
  obtain ⟨pae0, pae1, pae2, pae3⟩ := pa_7.open2
  obtain ⟨pbe0, pbe1, pbe2, pbe3⟩ := pb_6.open2
  obtain ⟨pre0, pre1, pre2, pre3⟩ := pr_5.open2
  obtain ⟨pse0, pse1, pse2, pse3⟩ := ps_3.open2
  obtain ⟨sf1a, sf1b, sf1c, sf1d⟩ := pr_5.open2
  obtain ⟨sg1a, sg1b⟩ := Box.put2 pr_5 (.int .u64 ((H : Nat) : Int))
  go_wp2
  clear pae0 pae1 pae2 pae3 pbe0 pbe1 pbe2 pbe3 pre0 pre1 pre2 pre3 pse0 pse1 pse2 pse3 sf1a sf1b sf1c sf1d sg1a sg1b
  have hB_9 := below_setAll hB_8 (g := w.heap.size + 1 + 1) (by omega) [.int .u64 ((H : Nat) : Int), .int .u64 ((L : Nat) : Int)]
  have pa_8 := pa_7.farAll (g' := w.heap.size + 1 + 1) (by omega) [.int .u64 ((H : Nat) : Int), .int .u64 ((L : Nat) : Int)]
  have pb_7 := pb_6.farAll (g' := w.heap.size + 1 + 1) (by omega) [.int .u64 ((H : Nat) : Int), .int .u64 ((L : Nat) : Int)]
  have ps_4 := ps_3.farAll (g' := w.heap.size + 1 + 1) (by omega) [.int .u64 ((H : Nat) : Int), .int .u64 ((L : Nat) : Int)]
  have pr_6 := pr_5.setAll [.int .u64 ((H : Nat) : Int), .int .u64 ((L : Nat) : Int)] rfl
  simp only [setAll, Nat.zero_add] at hB_9 pa_8 pb_7 pr_6 ps_4
  clear hB_8 pa_7 pb_6 ps_3 pr_5
  generalize (World.setCell (World.setCell w7 ⟨w.heap.size + 1 + 1, 0, none⟩ (.int .u64 ((H : Nat) : Int))) ⟨w.heap.size + 1 + 1, 1, none⟩ (.int .u64 ((L : Nat) : Int))) = w8 at *
  go_wp2
  obtain ⟨pre0, pre1, pre2, pre3⟩ := pr_6.open2
  exact bodyPost_ret (v := .tuple #[.agg #[.int .u64 ((H : Nat) : Int), .int .u64 ((L : Nat) : Int)], .bool true]) (by simp [results, Try.results11, go_sem, pre0, pre1]) rfl ⟨rfl, hB_9⟩
end Go.Proofs.Ytkigfccbhkcedaa
/- The calls of wide: Add, Sub, Neg. -/
namespace Go.Proofs.Ytkigfccbhkcedaa
open Go.RowKit Go.MagM
/-- A call's answer is a number of 128 bits, and whether it is one. -/
def AnsWB (w w' : World) (e : Ending) (z : Int) (b : Bool) : Prop := e = .returned (.tuple #[.agg #[.int .u64 ((wh z : Nat) : Int), .int .u64 ((wl z : Nat) : Int)], .bool b]) ∧ Below w.heap.size w w'
/-- What is told of a number: that number, if it is one of 128 bits, else 0 and false. -/
def fitW (z : Int) : Int := if InW z then z else 0
theorem fitW_yes {z : Int} (h : InW z) : fitW z = z := if_pos h
theorem fitW_no {z : Int} (h : ¬ InW z) : fitW z = 0 := if_neg h
theorem answb_yes {w w' : World} {e : Ending} {z : Int} (h : InW z) (he : e = .returned (.tuple #[.agg #[.int .u64 ((wh (z) : Nat) : Int), .int .u64 ((wl (z) : Nat) : Int)], .bool true]) ∧ Below w.heap.size w w') : AnsWB w w' e (fitW z) (decide (InW z)) := by
  rw [fitW_yes h, decide_eq_true h]; exact he
theorem answb_no {w w' : World} {e : Ending} {z : Int} (h : ¬ InW z) (he : e = .returned (.tuple #[.agg #[.int .u64 0, .int .u64 0], .bool false]) ∧ Below w.heap.size w w') : AnsWB w w' e (fitW z) (decide (InW z)) := by
  rw [fitW_no h, decide_eq_false h]; unfold AnsWB; rw [wh_zero, wl_zero]; exact he
theorem bel_is {z : Int} {b : Bool} (h : decide (wrapW z < 0) = b) : ∀ w, Calls Try.prog 31 #[.agg #[.int .u64 ((wh (z) : Nat) : Int), .int .u64 ((wl (z) : Nat) : Int)]] w fun e w' => e = .returned (.bool b) ∧ Below w.heap.size w w' := by
  intro w; subst h; exact wbelow_all z w
theorem carry_le (x y : Int) : (wl x + wl y + 0) / B ≤ 1 := by have := wl_lt x; have := wl_lt y; simp only [B_eq] at *; omega
theorem wAdd_any (x y : Int) (hx : InW x) (hy : InW y) (w : World) : Calls Try.prog 10 #[.agg #[.int .u64 ((wh (x) : Nat) : Int), .int .u64 ((wl (x) : Nat) : Int)], .agg #[.int .u64 ((wh (y) : Nat) : Int), .int .u64 ((wl (y) : Nat) : Int)]] w fun e w' => AnsWB w w' e (fitW (x + y)) (decide (InW (x + y))) := by
  obtain ⟨h1, h2⟩ := w_add x y
  have hc := carry_le x y
  have ex := wrapW_self hx; have ey := wrapW_self hy
  by_cases hp : x < 0 <;> by_cases hq : y < 0 <;> by_cases hr : wrapW (x + y) < 0
  · have hin : InW (x + y) := by unfold wrapW at hr; unfold InW at *; omega
    exact (wAdd_w_ttt _ _ _ _ _ _ _ h2 rfl h1 hc (bel_is (by rw [ex]; simp [hp])) (bel_is (by rw [ey]; simp [hq])) (bel_is (by simp [hr])) w).mono fun e w' h => answb_yes hin h
  · have hin : ¬ InW (x + y) := by unfold wrapW at hr; unfold InW at *; omega
    exact (wAdd_w_ttf _ _ _ _ _ _ _ h2 rfl h1 hc (bel_is (by rw [ex]; simp [hp])) (bel_is (by rw [ey]; simp [hq])) (bel_is (by simp [hr])) w).mono fun e w' h => answb_no hin h
  · have hin : InW (x + y) := by unfold InW at *; omega
    exact (wAdd_w_tft _ _ _ _ _ _ _ h2 rfl h1 hc (bel_is (by rw [ex]; simp [hp])) (bel_is (by rw [ey]; simp [hq])) w).mono fun e w' h => answb_yes hin h
  · have hin : InW (x + y) := by unfold InW at *; omega
    exact (wAdd_w_tft _ _ _ _ _ _ _ h2 rfl h1 hc (bel_is (by rw [ex]; simp [hp])) (bel_is (by rw [ey]; simp [hq])) w).mono fun e w' h => answb_yes hin h
  · have hin : InW (x + y) := by unfold InW at *; omega
    exact (wAdd_w_ftt _ _ _ _ _ _ _ h2 rfl h1 hc (bel_is (by rw [ex]; simp [hp])) (bel_is (by rw [ey]; simp [hq])) w).mono fun e w' h => answb_yes hin h
  · have hin : InW (x + y) := by unfold InW at *; omega
    exact (wAdd_w_ftt _ _ _ _ _ _ _ h2 rfl h1 hc (bel_is (by rw [ex]; simp [hp])) (bel_is (by rw [ey]; simp [hq])) w).mono fun e w' h => answb_yes hin h
  · have hin : ¬ InW (x + y) := by unfold wrapW at hr; unfold InW at *; omega
    exact (wAdd_w_fft _ _ _ _ _ _ _ h2 rfl h1 hc (bel_is (by rw [ex]; simp [hp])) (bel_is (by rw [ey]; simp [hq])) (bel_is (by simp [hr])) w).mono fun e w' h => answb_no hin h
  · have hin : InW (x + y) := by unfold wrapW at hr; unfold InW at *; omega
    exact (wAdd_w_fff _ _ _ _ _ _ _ h2 rfl h1 hc (bel_is (by rw [ex]; simp [hp])) (bel_is (by rw [ey]; simp [hq])) (bel_is (by simp [hr])) w).mono fun e w' h => answb_yes hin h
theorem wSub_any (x y : Int) (hx : InW x) (hy : InW y) (w : World) : Calls Try.prog 11 #[.agg #[.int .u64 ((wh (x) : Nat) : Int), .int .u64 ((wl (x) : Nat) : Int)], .agg #[.int .u64 ((wh (y) : Nat) : Int), .int .u64 ((wl (y) : Nat) : Int)]] w fun e w' => AnsWB w w' e (fitW (x - y)) (decide (InW (x - y))) := by
  have hl := fun w => less_any x y w
  have ex := wrapW_self hx; have ey := wrapW_self hy
  by_cases hp : x < 0 <;> by_cases hq : y < 0 <;> by_cases hr : wrapW (x - y) < 0
  · have hin : InW (x - y) := by unfold InW at *; omega
    exact (wSub_w_ttt _ _ _ _ _ _ hl (bel_is (by rw [ex]; simp [hp])) (bel_is (by rw [ey]; simp [hq])) w).mono fun e w' h => answb_yes hin h
  · have hin : InW (x - y) := by unfold InW at *; omega
    exact (wSub_w_ttt _ _ _ _ _ _ hl (bel_is (by rw [ex]; simp [hp])) (bel_is (by rw [ey]; simp [hq])) w).mono fun e w' h => answb_yes hin h
  · have hin : InW (x - y) := by unfold wrapW at hr; unfold InW at *; omega
    exact (wSub_w_tft _ _ _ _ _ _ hl (bel_is (by rw [ex]; simp [hp])) (bel_is (by rw [ey]; simp [hq])) (bel_is (by simp [hr])) w).mono fun e w' h => answb_yes hin h
  · have hin : ¬ InW (x - y) := by unfold wrapW at hr; unfold InW at *; omega
    exact (wSub_w_tff _ _ _ _ _ _ hl (bel_is (by rw [ex]; simp [hp])) (bel_is (by rw [ey]; simp [hq])) (bel_is (by simp [hr])) w).mono fun e w' h => answb_no hin h
  · have hin : ¬ InW (x - y) := by unfold wrapW at hr; unfold InW at *; omega
    exact (wSub_w_ftt _ _ _ _ _ _ hl (bel_is (by rw [ex]; simp [hp])) (bel_is (by rw [ey]; simp [hq])) (bel_is (by simp [hr])) w).mono fun e w' h => answb_no hin h
  · have hin : InW (x - y) := by unfold wrapW at hr; unfold InW at *; omega
    exact (wSub_w_ftf _ _ _ _ _ _ hl (bel_is (by rw [ex]; simp [hp])) (bel_is (by rw [ey]; simp [hq])) (bel_is (by simp [hr])) w).mono fun e w' h => answb_yes hin h
  · have hin : InW (x - y) := by unfold InW at *; omega
    exact (wSub_w_fft _ _ _ _ _ _ hl (bel_is (by rw [ex]; simp [hp])) (bel_is (by rw [ey]; simp [hq])) w).mono fun e w' h => answb_yes hin h
  · have hin : InW (x - y) := by unfold InW at *; omega
    exact (wSub_w_fft _ _ _ _ _ _ hl (bel_is (by rw [ex]; simp [hp])) (bel_is (by rw [ey]; simp [hq])) w).mono fun e w' h => answb_yes hin h
set_option maxHeartbeats 4000000 in
theorem wNeg_w_least  (w : World) :
    Calls Try.prog 12 #[.agg #[.int .u64 9223372036854775808, .int .u64 0]] w fun e w' => e = .returned (.tuple #[.agg #[.int .u64 0, .int .u64 0], .bool false]) ∧ Below w.heap.size w w' := by
  have hB_0 := Below.refl w.heap.size w
  obtain ⟨w1, hw1, pa_0, hb1, hs1⟩ := new_box w (w.heap.size) rfl [.int .u64 9223372036854775808, .int .u64 0] 24
  have hb1' : Below w.heap.size w w1 := hb1.mono (by omega)
  clear hb1
  have hB_1 := hB_0.trans (hb1'.mono hB_0.size)
  clear hb1' hB_0
  obtain ⟨w2, hw2, pr_0, hb2, hs2⟩ := new_box w1 (w.heap.size + 1) hs1 [.int .u64 0, .int .u64 0] 24
  have hb2' : Below w1.heap.size w1 w2 := hb2.mono (by omega)
  clear hb2
  have hB_2 := hB_1.trans (hb2'.mono hB_1.size)
  have pa_1 := pa_0.below hb2'
  clear hb2' hB_1 pa_0
  go_enter Try.func12, Try.ntmps12
  obtain ⟨pae0, pae1, pae2, pae3⟩ := pa_1.open2
  obtain ⟨pre0, pre1, pre2, pre3⟩ := pr_0.open2
  obtain ⟨sf1a, sf1b, sf1c, sf1d⟩ := pr_0.open2
  obtain ⟨sg1a, sg1b⟩ := Box.put2 pr_0 (.int .u64 0)
  go_wp2
  clear pae0 pae1 pae2 pae3 pre0 pre1 pre2 pre3 sf1a sf1b sf1c sf1d sg1a sg1b
  have hB_3 := below_setAll hB_2 (g := w.heap.size + 1) (by omega) [.int .u64 0, .int .u64 0]
  have pa_2 := pa_1.farAll (g' := w.heap.size + 1) (by omega) [.int .u64 0, .int .u64 0]
  have pr_1 := pr_0.setAll [.int .u64 0, .int .u64 0] rfl
  simp only [setAll, Nat.zero_add] at hB_3 pa_2 pr_1
  clear hB_2 pa_1 pr_0
  generalize (World.setCell (World.setCell w2 ⟨w.heap.size + 1, 0, none⟩ (.int .u64 0)) ⟨w.heap.size + 1, 1, none⟩ (.int .u64 0)) = w3 at *
  go_wp2
  obtain ⟨pre0, pre1, pre2, pre3⟩ := pr_1.open2
  exact bodyPost_ret (v := .tuple #[.agg #[.int .u64 0, .int .u64 0], .bool false]) (by simp [results, Try.results12, go_sem, pre0, pre1]) rfl ⟨rfl, hB_3⟩
set_option maxHeartbeats 4000000 in
theorem wNeg_w_low (al H L : Nat) (h0 : ¬ al = 0) (hac : ∀ w, Calls Try.prog 34 #[.agg #[.int .u64 9223372036854775808, .int .u64 ((al : Nat) : Int)]] w fun e w' => e = .returned (.agg #[.int .u64 ((H : Nat) : Int), .int .u64 ((L : Nat) : Int)]) ∧ Below w.heap.size w w') (w : World) :
    Calls Try.prog 12 #[.agg #[.int .u64 9223372036854775808, .int .u64 ((al : Nat) : Int)]] w fun e w' => e = .returned (.tuple #[.agg #[.int .u64 ((H : Nat) : Int), .int .u64 ((L : Nat) : Int)], .bool true]) ∧ Below w.heap.size w w' := by
  have hB_0 := Below.refl w.heap.size w
  have CA := Lib.hid hac; clear hac
  obtain ⟨w1, hw1, pa_0, hb1, hs1⟩ := new_box w (w.heap.size) rfl [.int .u64 9223372036854775808, .int .u64 ((al : Nat) : Int)] 24
  have hb1' : Below w.heap.size w w1 := hb1.mono (by omega)
  clear hb1
  have hB_1 := hB_0.trans (hb1'.mono hB_0.size)
  clear hb1' hB_0
  obtain ⟨w2, hw2, pr_0, hb2, hs2⟩ := new_box w1 (w.heap.size + 1) hs1 [.int .u64 0, .int .u64 0] 24
  have hb2' : Below w1.heap.size w1 w2 := hb2.mono (by omega)
  clear hb2
  have hB_2 := hB_1.trans (hb2'.mono hB_1.size)
  have pa_1 := pa_0.below hb2'
  clear hb2' hB_1 pa_0
  go_enter Try.func12, Try.ntmps12
  obtain ⟨pae0, pae1, pae2, pae3⟩ := pa_1.open2
  obtain ⟨pre0, pre1, pre2, pre3⟩ := pr_0.open2
  go_wp2_with fail
  refine (CA.out _).mono ?_
  rintro e w3 ⟨rfl, hb3⟩
  clear pae0 pae1 pae2 pae3 pre0 pre1 pre2 pre3
  have hB_3 := hB_2.trans (hb3.mono hB_2.size)
  have pa_2 := pa_1.below hb3
  have pr_1 := pr_0.below hb3
  clear hb3 hB_2 pa_1 pr_0
  obtain ⟨pae0, pae1, pae2, pae3⟩ := pa_2.open2
  obtain ⟨pre0, pre1, pre2, pre3⟩ := pr_1.open2
  obtain ⟨sf1a, sf1b, sf1c, sf1d⟩ := pr_1.open2
  obtain ⟨sg1a, sg1b⟩ := Box.put2 pr_1 (.int .u64 ((H : Nat) : Int))
  go_wp2
  clear pae0 pae1 pae2 pae3 pre0 pre1 pre2 pre3 sf1a sf1b sf1c sf1d sg1a sg1b
  have hB_4 := below_setAll hB_3 (g := w.heap.size + 1) (by omega) [.int .u64 ((H : Nat) : Int), .int .u64 ((L : Nat) : Int)]
  have pa_3 := pa_2.farAll (g' := w.heap.size + 1) (by omega) [.int .u64 ((H : Nat) : Int), .int .u64 ((L : Nat) : Int)]
  have pr_2 := pr_1.setAll [.int .u64 ((H : Nat) : Int), .int .u64 ((L : Nat) : Int)] rfl
  simp only [setAll, Nat.zero_add] at hB_4 pa_3 pr_2
  clear hB_3 pa_2 pr_1
  generalize (World.setCell (World.setCell w3 ⟨w.heap.size + 1, 0, none⟩ (.int .u64 ((H : Nat) : Int))) ⟨w.heap.size + 1, 1, none⟩ (.int .u64 ((L : Nat) : Int))) = w4 at *
  go_wp2
  obtain ⟨pre0, pre1, pre2, pre3⟩ := pr_2.open2
  exact bodyPost_ret (v := .tuple #[.agg #[.int .u64 ((H : Nat) : Int), .int .u64 ((L : Nat) : Int)], .bool true]) (by simp [results, Try.results12, go_sem, pre0, pre1]) rfl ⟨rfl, hB_4⟩
set_option maxHeartbeats 4000000 in
theorem wNeg_w_high (ah al H L : Nat) (h0 : ¬ ah = 9223372036854775808) (hac : ∀ w, Calls Try.prog 34 #[.agg #[.int .u64 ((ah : Nat) : Int), .int .u64 ((al : Nat) : Int)]] w fun e w' => e = .returned (.agg #[.int .u64 ((H : Nat) : Int), .int .u64 ((L : Nat) : Int)]) ∧ Below w.heap.size w w') (w : World) :
    Calls Try.prog 12 #[.agg #[.int .u64 ((ah : Nat) : Int), .int .u64 ((al : Nat) : Int)]] w fun e w' => e = .returned (.tuple #[.agg #[.int .u64 ((H : Nat) : Int), .int .u64 ((L : Nat) : Int)], .bool true]) ∧ Below w.heap.size w w' := by
  have hB_0 := Below.refl w.heap.size w
  have CA := Lib.hid hac; clear hac
  obtain ⟨w1, hw1, pa_0, hb1, hs1⟩ := new_box w (w.heap.size) rfl [.int .u64 ((ah : Nat) : Int), .int .u64 ((al : Nat) : Int)] 24
  have hb1' : Below w.heap.size w w1 := hb1.mono (by omega)
  clear hb1
  have hB_1 := hB_0.trans (hb1'.mono hB_0.size)
  clear hb1' hB_0
  obtain ⟨w2, hw2, pr_0, hb2, hs2⟩ := new_box w1 (w.heap.size + 1) hs1 [.int .u64 0, .int .u64 0] 24
  have hb2' : Below w1.heap.size w1 w2 := hb2.mono (by omega)
  clear hb2
  have hB_2 := hB_1.trans (hb2'.mono hB_1.size)
  have pa_1 := pa_0.below hb2'
  clear hb2' hB_1 pa_0
  go_enter Try.func12, Try.ntmps12
  obtain ⟨pae0, pae1, pae2, pae3⟩ := pa_1.open2
  obtain ⟨pre0, pre1, pre2, pre3⟩ := pr_0.open2
  go_wp2_with fail
  refine (CA.out _).mono ?_
  rintro e w3 ⟨rfl, hb3⟩
  clear pae0 pae1 pae2 pae3 pre0 pre1 pre2 pre3
  have hB_3 := hB_2.trans (hb3.mono hB_2.size)
  have pa_2 := pa_1.below hb3
  have pr_1 := pr_0.below hb3
  clear hb3 hB_2 pa_1 pr_0
  obtain ⟨pae0, pae1, pae2, pae3⟩ := pa_2.open2
  obtain ⟨pre0, pre1, pre2, pre3⟩ := pr_1.open2
  obtain ⟨sf1a, sf1b, sf1c, sf1d⟩ := pr_1.open2
  obtain ⟨sg1a, sg1b⟩ := Box.put2 pr_1 (.int .u64 ((H : Nat) : Int))
  go_wp2
  clear pae0 pae1 pae2 pae3 pre0 pre1 pre2 pre3 sf1a sf1b sf1c sf1d sg1a sg1b
  have hB_4 := below_setAll hB_3 (g := w.heap.size + 1) (by omega) [.int .u64 ((H : Nat) : Int), .int .u64 ((L : Nat) : Int)]
  have pa_3 := pa_2.farAll (g' := w.heap.size + 1) (by omega) [.int .u64 ((H : Nat) : Int), .int .u64 ((L : Nat) : Int)]
  have pr_2 := pr_1.setAll [.int .u64 ((H : Nat) : Int), .int .u64 ((L : Nat) : Int)] rfl
  simp only [setAll, Nat.zero_add] at hB_4 pa_3 pr_2
  clear hB_3 pa_2 pr_1
  generalize (World.setCell (World.setCell w3 ⟨w.heap.size + 1, 0, none⟩ (.int .u64 ((H : Nat) : Int))) ⟨w.heap.size + 1, 1, none⟩ (.int .u64 ((L : Nat) : Int))) = w4 at *
  go_wp2
  obtain ⟨pre0, pre1, pre2, pre3⟩ := pr_2.open2
  exact bodyPost_ret (v := .tuple #[.agg #[.int .u64 ((H : Nat) : Int), .int .u64 ((L : Nat) : Int)], .bool true]) (by simp [results, Try.results12, go_sem, pre0, pre1]) rfl ⟨rfl, hB_4⟩
theorem wNeg_any (x : Int) (hx : InW x) (w : World) : Calls Try.prog 12 #[.agg #[.int .u64 ((wh (x) : Nat) : Int), .int .u64 ((wl (x) : Nat) : Int)]] w fun e w' => AnsWB w w' e (fitW (-x)) (decide (InW (-x))) := by
  have hac := fun w => across_any x w
  have hw := w_mod x
  by_cases h : wh x = 9223372036854775808
  · by_cases hl : wl x = 0
    · have hin : ¬ InW (-x) := by rw [h, hl] at hw; unfold InW at *; omega
      rw [h, hl]
      exact (wNeg_w_least w).mono fun e w' h => answb_no hin h
    · have hin : InW (-x) := by rw [h] at hw; unfold InW at *; omega
      rw [h] at hac ⊢
      exact (wNeg_w_low _ _ _ hl hac w).mono fun e w' h => answb_yes hin h
  · have hin : InW (-x) := by unfold InW at *; have := wl_lt x; unfold B at this; omega
    exact (wNeg_w_high _ _ _ _ h hac w).mono fun e w' h => answb_yes hin h
end Go.Proofs.Ytkigfccbhkcedaa
/- The calls of wide: Num. -/
namespace Go.Proofs.Ytkigfccbhkcedaa
open Go.RowKit Go.MagM
theorem make_two (b : Bool) (g lo hi : Nat) (w : World) (h : Box w g [.int .u64 ((lo : Nat) : Int), .int .u64 ((hi : Nat) : Int)]) (hl : lo < B) (hh : hi < B) :
    Calls Try.prog 30 #[.bool b, .slice (some ⟨g, 0, none⟩) 2 2] w fun e w' => AnsNum w w' e 2 (sgn b (lo + hi * B)) := by
  refine Make_any b _ 2 _ w (by omega) ⟨some ⟨g, 0, none⟩, 2, 2, fun i => if i = 0 then lo else hi, rfl, Nat.le_refl _, Nat.le_refl _, ?_, ?_⟩
  · intro i hi2
    refine ⟨g, 0, rfl, ?_, ?_⟩
    · rcases (by omega : i = 0 ∨ i = 1) with rfl | rfl
      · exact h.c0
      · exact h.c1
    · dsimp only
      split
      · exact hl
      · exact hh
  · simp [V]
set_option maxHeartbeats 8000000 in
theorem wNum_w_t (z : Int) (hz : InW z) (cb : ∀ w, Calls Try.prog 31 #[.agg #[.int .u64 ((wh (z) : Nat) : Int), .int .u64 ((wl (z) : Nat) : Int)]] w fun e w' => e = .returned (.bool true) ∧ Below w.heap.size w w') (w : World) :
    Calls Try.prog 9 #[.agg #[.int .u64 ((wh (z) : Nat) : Int), .int .u64 ((wl (z) : Nat) : Int)]] w fun e w' => AnsNum w w' e 2 (sgn true (wl (z.natAbs : Int) + wh (z.natAbs : Int) * B)) := by
  have hB_0 := Below.refl w.heap.size w
  have CB := Lib.hid cb; have HZ := Lib.hid hz
  clear cb hz
  obtain ⟨w1, hw1, pa_0, hb1, hs1⟩ := new_box w (w.heap.size) rfl [.int .u64 ((wh (z) : Nat) : Int), .int .u64 ((wl (z) : Nat) : Int)] 24
  have hb1' : Below w.heap.size w w1 := hb1.mono (by omega)
  clear hb1
  have hB_1 := hB_0.trans (hb1'.mono hB_0.size)
  clear hb1' hB_0
  obtain ⟨w2, hw2, pr_0, hb2, hs2⟩ := new_box w1 (w.heap.size + 1) hs1 [.bool false, .slice none 0 0] 29
  have hb2' : Below w1.heap.size w1 w2 := hb2.mono (by omega)
  clear hb2
  have hB_2 := hB_1.trans (hb2'.mono hB_1.size)
  have pa_1 := pa_0.below hb2'
  clear hb2' hB_1 pa_0
  go_enter Try.func9, Try.ntmps9
  obtain ⟨pae0, pae1, pae2, pae3⟩ := pa_1.open2
  obtain ⟨pre0, pre1, pre2, pre3⟩ := pr_0.open2
  go_wp2_with fail
  refine (size_any z _ HZ.out).mono ?_
  rintro e w3 ⟨rfl, hb3⟩
  clear pae0 pae1 pae2 pae3 pre0 pre1 pre2 pre3
  have hB_3 := hB_2.trans (hb3.mono hB_2.size)
  have pa_2 := pa_1.below hb3
  have pr_1 := pr_0.below hb3
  clear hb3 hB_2 pa_1 pr_0
  obtain ⟨pae0, pae1, pae2, pae3⟩ := pa_2.open2
  obtain ⟨pre0, pre1, pre2, pre3⟩ := pr_1.open2
  clear pae0 pae1 pae2 pae3 pre0 pre1 pre2 pre3
  have hl1pa := pa_2.lt
  have hl1pr := pr_1.lt
  have hl1B := hB_3.size
  obtain ⟨w4, hw4, ps_0, hb4, hs4⟩ := new_box w3 (w3.heap.size) rfl [.int .u64 ((wh ((z.natAbs : Int)) : Nat) : Int), .int .u64 ((wl ((z.natAbs : Int)) : Nat) : Int)] 24
  have hb4' : Below w3.heap.size w3 w4 := hb4.mono (by omega)
  clear hb4
  have hB_4 := hB_3.trans (hb4'.mono hB_3.size)
  have pa_3 := pa_2.below hb4'
  have pr_2 := pr_1.below hb4'
  clear hb4' hB_3 pa_2 pr_1
  obtain ⟨pae0, pae1, pae2, pae3⟩ := pa_3.open2
  obtain ⟨pre0, pre1, pre2, pre3⟩ := pr_2.open2
  obtain ⟨pse0, pse1, pse2, pse3⟩ := ps_0.open2
  go_wp2
  clear pae0 pae1 pae2 pae3 pre0 pre1 pre2 pre3 pse0 pse1 pse2 pse3
  have hWq_0 := Below.refl w4.heap.size w4
  have hsq : w.heap.size ≤ w4.heap.size := hB_4.size
  have hlqpa := pa_3.lt
  have hlqpr := pr_2.lt
  have hlqps := ps_0.lt
  have hB_5 := hB_4.drew'
  have pa_4 := pa_3.drew
  have pr_3 := pr_2.drew
  have ps_1 := ps_0.drew
  have hWq_1 := hWq_0.drew'
  clear hB_4 pa_3 pr_2 ps_0 hWq_0
  refine wp_region_noPanic ?_
  refine wp_region_held_drew (S := fun w' => w'.cell? ⟨w.heap.size, 0, none⟩ = some (.int .u64 ((wh (z) : Nat) : Int)) ∧ w'.cell? ⟨w.heap.size, 1, none⟩ = some (.int .u64 ((wl (z) : Nat) : Int)) ∧ w'.cell? ⟨w3.heap.size, 0, none⟩ = some (.int .u64 ((wh ((z.natAbs : Int)) : Nat) : Int)) ∧ w'.cell? ⟨w3.heap.size, 1, none⟩ = some (.int .u64 ((wl ((z.natAbs : Int)) : Nat) : Int))) (by kernel_rfl) (⟨pa_4.c0, pa_4.c1, ps_1.c0, ps_1.c1⟩) (fun hHeld => ?_)
  refine reg_take 0 ?_ ?_ ?_ (by kernel_rfl) (by kernel_rfl) (by kernel_rfl) (fun _ _ _ h => h) ?_ ?_ (by assumption) ?_
  rotate_left 2
  · simp only [List.getElem?_toArray, List.getElem?_cons_zero]; exact rfl
  · rfl
  · intro w hSw; (try dsimp only at hSw); go_simp; try with_reducible rfl
  try simp only [Act.put]
  try simp only [List.setIfInBounds_toArray, List.set_cons_zero, List.set_cons_succ]
  refine reg_take 2 ?_ ?_ ?_ (by kernel_rfl) (by kernel_rfl) (by kernel_rfl) (fun _ _ _ h => h) ?_ ?_ (by assumption) ?_
  rotate_left 2
  · simp only [List.getElem?_toArray, List.getElem?_cons_succ, List.getElem?_cons_zero]; exact rfl
  · rfl
  · intro w hSw; (try dsimp only at hSw); go_simp; try with_reducible rfl
  try simp only [Act.put]
  try simp only [List.setIfInBounds_toArray, List.set_cons_zero, List.set_cons_succ]
  refine reg_take 3 ?_ ?_ ?_ (by kernel_rfl) (by kernel_rfl) (by kernel_rfl) (fun _ _ _ h => h) ?_ ?_ (by assumption) ?_
  rotate_left 2
  · simp only [List.getElem?_toArray, List.getElem?_cons_succ, List.getElem?_cons_zero]; exact rfl
  · rfl
  · intro w hSw; (try dsimp only at hSw); go_simp; try with_reducible rfl
  try simp only [Act.put]
  try simp only [List.setIfInBounds_toArray, List.set_cons_zero, List.set_cons_succ]
  refine reg_take 4 ?_ ?_ ?_ (by kernel_rfl) (by kernel_rfl) (by kernel_rfl) (fun _ _ _ h => h) ?_ ?_ (by assumption) ?_
  rotate_left 2
  · simp only [List.getElem?_toArray, List.getElem?_cons_succ, List.getElem?_cons_zero]; exact rfl
  · rfl
  · intro w hSw; (try dsimp only at hSw); go_simp; try with_reducible rfl
  try simp only [Act.put]
  try simp only [List.setIfInBounds_toArray, List.set_cons_zero, List.set_cons_succ]
  refine reg_take 5 ?_ ?_ ?_ (by kernel_rfl) (by kernel_rfl) (by kernel_rfl) (fun _ _ _ h => h) ?_ ?_ (by assumption) ?_
  rotate_left 2
  · simp only [List.getElem?_toArray, List.getElem?_cons_succ, List.getElem?_cons_zero]; exact rfl
  · rfl
  · intro w hSw; (try dsimp only at hSw); go_simp; try with_reducible rfl
  try simp only [Act.put]
  try simp only [List.setIfInBounds_toArray, List.set_cons_zero, List.set_cons_succ]
  refine reg_grab (fun WWq aq hWW hAA => ?_)
  have HWq := Lib.hid hWW; have HAq := Lib.hid hAA; clear hWW hAA hHeld
  have stq_2t : ∀ (w' : World) (m2 : Bool) (o2 : Option Addr) (n2 : Nat) (c2 : Nat) (gpq : Nat), Below w.heap.size w w' → Box w' (w.heap.size) [.int .u64 ((wh (z) : Nat) : Int), .int .u64 ((wl (z) : Nat) : Int)] → Box w' (w.heap.size + 1) [.bool false, .slice none 0 0] → Box w' (w3.heap.size) [.int .u64 ((wh ((z.natAbs : Int)) : Nat) : Int), .int .u64 ((wl ((z.natAbs : Int)) : Nat) : Int)] → Below w4.heap.size w4 w' → RNum w' (.agg #[.bool m2, .slice o2 n2 c2]) (2) (sgn true (wl (z.natAbs : Int) + wh (z.natAbs : Int) * B)) → Box w' gpq [.int .u64 ((wl ((z.natAbs : Int)) : Nat) : Int), .int .u64 ((wh ((z.natAbs : Int)) : Nat) : Int)] → w4.heap.size ≤ gpq → WWq 1 #[true, true, true, true, true, true, true, true, false] (((aq.put (some 7) (.bool true)).put (some 12) (.slice (some ⟨gpq, 0, none⟩) 2 2)).put (some 13) (.agg #[.bool m2, .slice o2 n2 c2])) w' := by
    intro w5 m2 o2 n2 c2 gpq hB_0 pa_0 pr_0 ps_0 hWq_0 f2_0 pq_0 hgpq
    rw [HWq.out, HAq.out]
    try simp only [Act.put]
    try simp only [List.setIfInBounds_toArray, List.set_cons_zero, List.set_cons_succ]
    clear hWq_0
    obtain ⟨sf1a, sf1b, sf1c, sf1d⟩ := pr_0.open2
    obtain ⟨sg1a, sg1b⟩ := Box.put2 pr_0 (.bool m2)
    refine reg_call 8 ?_ (by kernel_rfl) ?_ (fun K hK => ?_)
    rotate_left 1
    · simp only [List.getElem?_toArray, List.getElem?_cons_succ, List.getElem?_cons_zero]; exact rfl
    go_simp
    have hB_1 := below_setAll hB_0 (g := w.heap.size + 1) (by omega) [.bool m2, .slice o2 n2 c2]
    have pa_1 := pa_0.farAll (g' := w.heap.size + 1) (by omega) [.bool m2, .slice o2 n2 c2]
    have ps_1 := ps_0.farAll (g' := w.heap.size + 1) (by omega) [.bool m2, .slice o2 n2 c2]
    have f2_1 := f2_0.setAll pr_0 (noWord2 _ _ _ _) [.bool m2, .slice o2 n2 c2] rfl
    have pq_1 := pq_0.farAll (g' := w.heap.size + 1) (by omega) [.bool m2, .slice o2 n2 c2]
    have pr_1 := pr_0.setAll [.bool m2, .slice o2 n2 c2] rfl
    simp only [setAll, Nat.zero_add] at hB_1 pa_1 pr_1 ps_1 f2_1 pq_1
    clear sf1a sf1b sf1c sf1d sg1a sg1b
    clear hB_0 pa_0 ps_0 f2_0 pq_0 pr_0
    refine hK.out _ _ ⟨pa_1.c0, pa_1.c1, ps_1.c0, ps_1.c1⟩ (fun hHeld => ?_)
    clear hK K
    try simp only [Act.put]
    try simp only [List.setIfInBounds_toArray, List.set_cons_zero, List.set_cons_succ]
    generalize (World.setCell (World.setCell w5 ⟨w.heap.size + 1, 0, none⟩ (.bool m2)) ⟨w.heap.size + 1, 1, none⟩ (.slice o2 n2 c2)) = w6 at *
    refine wpAnyH_done (by kernel_rfl) ?_ _
    refine NoPanic.normal ?_
    go_wp2
    obtain ⟨pre0, pre1, pre2, pre3⟩ := pr_1.open2
    exact bodyPost_ret (v := .agg #[.bool m2, .slice o2 n2 c2]) (by simp [results, Try.results9, go_sem, pre0, pre1]) rfl ⟨_, _, _, _, rfl, f2_1, hB_1⟩
  simp only [HAq.out, Act.put, List.setIfInBounds_toArray, List.set_cons_zero, List.set_cons_succ] at stq_2t
  have stq_1t : ∀ (w' : World) (gpq : Nat), Below w.heap.size w w' → Box w' (w.heap.size) [.int .u64 ((wh (z) : Nat) : Int), .int .u64 ((wl (z) : Nat) : Int)] → Box w' (w.heap.size + 1) [.bool false, .slice none 0 0] → Box w' (w3.heap.size) [.int .u64 ((wh ((z.natAbs : Int)) : Nat) : Int), .int .u64 ((wl ((z.natAbs : Int)) : Nat) : Int)] → Below w4.heap.size w4 w' → Box w' gpq [.int .u64 ((wl ((z.natAbs : Int)) : Nat) : Int), .int .u64 ((wh ((z.natAbs : Int)) : Nat) : Int)] → w4.heap.size ≤ gpq → WWq 2 #[true, true, true, true, true, true, true, false, false] ((aq.put (some 7) (.bool true)).put (some 12) (.slice (some ⟨gpq, 0, none⟩) 2 2)) w' := by
    intro w7 gpq hB_0 pa_0 pr_0 ps_0 hWq_0 pq_0 hgpq
    rw [HWq.out, HAq.out]
    try simp only [Act.put]
    try simp only [List.setIfInBounds_toArray, List.set_cons_zero, List.set_cons_succ]
    refine reg_all1 7 ?_ (by kernel_rfl) ?_ (fun K hK => ?_)
    rotate_left 1
    · simp only [List.getElem?_toArray, List.getElem?_cons_succ, List.getElem?_cons_zero]; exact rfl
    · go_simp
      refine (make_two true gpq _ _ _ pq_0 (wl_lt _) (wh_lt _)).mono ?_
      rintro e w8 ⟨m2, o2, n2, c2, rfl, f2_0, hb8⟩
      have hB_1 := hB_0.trans (hb8.mono hB_0.size)
      have pa_1 := pa_0.below hb8
      have pr_1 := pr_0.below hb8
      have ps_1 := ps_0.below hb8
      have hWq_1 := hWq_0.trans (hb8.mono hWq_0.size)
      have pq_1 := pq_0.below hb8
      clear hb8 hB_0 pa_0 pr_0 ps_0 hWq_0 pq_0
      go_wp2_with fail
      refine hK.out _ _ ⟨pa_1.c0, pa_1.c1, ps_1.c0, ps_1.c1⟩ (fun hHeld => ?_)
      clear hK K
      try simp only [Act.put]
      try simp only [List.setIfInBounds_toArray, List.set_cons_zero, List.set_cons_succ]
      rw [← HWq.out]
      exact stq_2t _ m2 o2 n2 c2 gpq hB_1 pa_1 pr_1 ps_1 hWq_1 f2_0 pq_1 (by omega)
  try simp only [HAq.out, Act.put, List.setIfInBounds_toArray, List.set_cons_zero, List.set_cons_succ] at stq_1t
  have stq_1f : ∀ (w' : World), Below w.heap.size w w' → Box w' (w.heap.size) [.int .u64 ((wh (z) : Nat) : Int), .int .u64 ((wl (z) : Nat) : Int)] → Box w' (w.heap.size + 1) [.bool false, .slice none 0 0] → Box w' (w3.heap.size) [.int .u64 ((wh ((z.natAbs : Int)) : Nat) : Int), .int .u64 ((wl ((z.natAbs : Int)) : Nat) : Int)] → Below w4.heap.size w4 w' → WWq 3 #[true, true, true, true, true, true, false, false, false] (aq.put (some 7) (.bool true)) w' := by
    intro w9 hB_0 pa_0 pr_0 ps_0 hWq_0
    rw [HWq.out, HAq.out]
    try simp only [Act.put]
    try simp only [List.setIfInBounds_toArray, List.set_cons_zero, List.set_cons_succ]
    refine reg_all1 6 ?_ (by kernel_rfl) ?_ (fun K hK => ?_)
    rotate_left 1
    · simp only [List.getElem?_toArray, List.getElem?_cons_succ, List.getElem?_cons_zero]; exact rfl
    · go_simp
      have hgn : w4.heap.size ≤ w9.heap.size := hWq_0.size
      obtain ⟨w10, hww10, pq_0, hb10, -⟩ := new_box w9 _ rfl [.int .u64 ((wl ((z.natAbs : Int)) : Nat) : Int), .int .u64 ((wh ((z.natAbs : Int)) : Nat) : Int)] 22
      rw [hww10]
      have hB_1 := hB_0.trans (hb10.mono hB_0.size)
      have pa_1 := pa_0.below hb10
      have pr_1 := pr_0.below hb10
      have ps_1 := ps_0.below hb10
      have hWq_1 := hWq_0.trans (hb10.mono hWq_0.size)
      clear hb10 hB_0 pa_0 pr_0 ps_0 hWq_0
      refine hK.out _ _ ⟨pa_1.c0, pa_1.c1, ps_1.c0, ps_1.c1⟩ (fun hHeld => ?_)
      clear hK K
      try simp only [Act.put]
      try simp only [List.setIfInBounds_toArray, List.set_cons_zero, List.set_cons_succ]
      rw [← HWq.out]
      exact stq_1t _ w9.heap.size hB_1 pa_1 pr_1 ps_1 hWq_1 pq_0 (by omega)
  try simp only [HAq.out, Act.put, List.setIfInBounds_toArray, List.set_cons_zero, List.set_cons_succ] at stq_1f
  have stq_0t : ∀ (w' : World) (gpq : Nat), Below w.heap.size w w' → Box w' (w.heap.size) [.int .u64 ((wh (z) : Nat) : Int), .int .u64 ((wl (z) : Nat) : Int)] → Box w' (w.heap.size + 1) [.bool false, .slice none 0 0] → Box w' (w3.heap.size) [.int .u64 ((wh ((z.natAbs : Int)) : Nat) : Int), .int .u64 ((wl ((z.natAbs : Int)) : Nat) : Int)] → Below w4.heap.size w4 w' → Box w' gpq [.int .u64 ((wl ((z.natAbs : Int)) : Nat) : Int), .int .u64 ((wh ((z.natAbs : Int)) : Nat) : Int)] → w4.heap.size ≤ gpq → WWq 3 #[true, false, true, true, true, true, true, false, false] (aq.put (some 12) (.slice (some ⟨gpq, 0, none⟩) 2 2)) w' := by
    intro w11 gpq hB_0 pa_0 pr_0 ps_0 hWq_0 pq_0 hgpq
    rw [HWq.out, HAq.out]
    try simp only [Act.put]
    try simp only [List.setIfInBounds_toArray, List.set_cons_zero, List.set_cons_succ]
    refine reg_all1 1 ?_ (by kernel_rfl) ?_ (fun K hK => ?_)
    rotate_left 1
    · simp only [List.getElem?_toArray, List.getElem?_cons_succ, List.getElem?_cons_zero]; exact rfl
    · go_simp
      refine (CB.out _).mono ?_
      rintro e w12 ⟨rfl, hb12⟩
      have hB_1 := hB_0.trans (hb12.mono hB_0.size)
      have pa_1 := pa_0.below hb12
      have pr_1 := pr_0.below hb12
      have ps_1 := ps_0.below hb12
      have hWq_1 := hWq_0.trans (hb12.mono hWq_0.size)
      have pq_1 := pq_0.below hb12
      clear hb12 hB_0 pa_0 pr_0 ps_0 hWq_0 pq_0
      go_wp2_with fail
      refine hK.out _ _ ⟨pa_1.c0, pa_1.c1, ps_1.c0, ps_1.c1⟩ (fun hHeld => ?_)
      clear hK K
      try simp only [Act.put]
      try simp only [List.setIfInBounds_toArray, List.set_cons_zero, List.set_cons_succ]
      rw [← HWq.out]
      exact stq_1t _ gpq hB_1 pa_1 pr_1 ps_1 hWq_1 pq_1 (by omega)
  try simp only [HAq.out, Act.put, List.setIfInBounds_toArray, List.set_cons_zero, List.set_cons_succ] at stq_0t
  have stq_0f : ∀ (w' : World), Below w.heap.size w w' → Box w' (w.heap.size) [.int .u64 ((wh (z) : Nat) : Int), .int .u64 ((wl (z) : Nat) : Int)] → Box w' (w.heap.size + 1) [.bool false, .slice none 0 0] → Box w' (w3.heap.size) [.int .u64 ((wh ((z.natAbs : Int)) : Nat) : Int), .int .u64 ((wl ((z.natAbs : Int)) : Nat) : Int)] → Below w4.heap.size w4 w' → WWq 4 #[true, false, true, true, true, true, false, false, false] aq w' := by
    intro w13 hB_0 pa_0 pr_0 ps_0 hWq_0
    rw [HWq.out, HAq.out]
    try simp only [Act.put]
    try simp only [List.setIfInBounds_toArray, List.set_cons_zero, List.set_cons_succ]
    refine reg_all2 1 6 ?_ ?_ (by kernel_rfl) ?_ ?_ (fun K hK => ?_) (fun K hK => ?_)
    rotate_left 2
    · simp only [List.getElem?_toArray, List.getElem?_cons_succ, List.getElem?_cons_zero]; exact rfl
    · simp only [List.getElem?_toArray, List.getElem?_cons_succ, List.getElem?_cons_zero]; exact rfl
    · go_simp
      refine (CB.out _).mono ?_
      rintro e w14 ⟨rfl, hb14⟩
      have hB_1 := hB_0.trans (hb14.mono hB_0.size)
      have pa_1 := pa_0.below hb14
      have pr_1 := pr_0.below hb14
      have ps_1 := ps_0.below hb14
      have hWq_1 := hWq_0.trans (hb14.mono hWq_0.size)
      clear hb14 hB_0 pa_0 pr_0 ps_0 hWq_0
      go_wp2_with fail
      refine hK.out _ _ ⟨pa_1.c0, pa_1.c1, ps_1.c0, ps_1.c1⟩ (fun hHeld => ?_)
      clear hK K
      try simp only [Act.put]
      try simp only [List.setIfInBounds_toArray, List.set_cons_zero, List.set_cons_succ]
      rw [← HWq.out]
      exact stq_1f _ hB_1 pa_1 pr_1 ps_1 hWq_1
    · go_simp
      have hgn : w4.heap.size ≤ w13.heap.size := hWq_0.size
      obtain ⟨w15, hww15, pq_0, hb15, -⟩ := new_box w13 _ rfl [.int .u64 ((wl ((z.natAbs : Int)) : Nat) : Int), .int .u64 ((wh ((z.natAbs : Int)) : Nat) : Int)] 22
      rw [hww15]
      have hB_1 := hB_0.trans (hb15.mono hB_0.size)
      have pa_1 := pa_0.below hb15
      have pr_1 := pr_0.below hb15
      have ps_1 := ps_0.below hb15
      have hWq_1 := hWq_0.trans (hb15.mono hWq_0.size)
      clear hb15 hB_0 pa_0 pr_0 ps_0 hWq_0
      refine hK.out _ _ ⟨pa_1.c0, pa_1.c1, ps_1.c0, ps_1.c1⟩ (fun hHeld => ?_)
      clear hK K
      try simp only [Act.put]
      try simp only [List.setIfInBounds_toArray, List.set_cons_zero, List.set_cons_succ]
      rw [← HWq.out]
      exact stq_0t _ w13.heap.size hB_1 pa_1 pr_1 ps_1 hWq_1 pq_0 (by omega)
  exact stq_0f _ hB_5 pa_4 pr_3 ps_1 hWq_1
set_option maxHeartbeats 8000000 in
theorem wNum_w_f (z : Int) (hz : InW z) (cb : ∀ w, Calls Try.prog 31 #[.agg #[.int .u64 ((wh (z) : Nat) : Int), .int .u64 ((wl (z) : Nat) : Int)]] w fun e w' => e = .returned (.bool false) ∧ Below w.heap.size w w') (w : World) :
    Calls Try.prog 9 #[.agg #[.int .u64 ((wh (z) : Nat) : Int), .int .u64 ((wl (z) : Nat) : Int)]] w fun e w' => AnsNum w w' e 2 (sgn false (wl (z.natAbs : Int) + wh (z.natAbs : Int) * B)) := by
  have hB_0 := Below.refl w.heap.size w
  have CB := Lib.hid cb; have HZ := Lib.hid hz
  clear cb hz
  obtain ⟨w1, hw1, pa_0, hb1, hs1⟩ := new_box w (w.heap.size) rfl [.int .u64 ((wh (z) : Nat) : Int), .int .u64 ((wl (z) : Nat) : Int)] 24
  have hb1' : Below w.heap.size w w1 := hb1.mono (by omega)
  clear hb1
  have hB_1 := hB_0.trans (hb1'.mono hB_0.size)
  clear hb1' hB_0
  obtain ⟨w2, hw2, pr_0, hb2, hs2⟩ := new_box w1 (w.heap.size + 1) hs1 [.bool false, .slice none 0 0] 29
  have hb2' : Below w1.heap.size w1 w2 := hb2.mono (by omega)
  clear hb2
  have hB_2 := hB_1.trans (hb2'.mono hB_1.size)
  have pa_1 := pa_0.below hb2'
  clear hb2' hB_1 pa_0
  go_enter Try.func9, Try.ntmps9
  obtain ⟨pae0, pae1, pae2, pae3⟩ := pa_1.open2
  obtain ⟨pre0, pre1, pre2, pre3⟩ := pr_0.open2
  go_wp2_with fail
  refine (size_any z _ HZ.out).mono ?_
  rintro e w3 ⟨rfl, hb3⟩
  clear pae0 pae1 pae2 pae3 pre0 pre1 pre2 pre3
  have hB_3 := hB_2.trans (hb3.mono hB_2.size)
  have pa_2 := pa_1.below hb3
  have pr_1 := pr_0.below hb3
  clear hb3 hB_2 pa_1 pr_0
  obtain ⟨pae0, pae1, pae2, pae3⟩ := pa_2.open2
  obtain ⟨pre0, pre1, pre2, pre3⟩ := pr_1.open2
  clear pae0 pae1 pae2 pae3 pre0 pre1 pre2 pre3
  have hl1pa := pa_2.lt
  have hl1pr := pr_1.lt
  have hl1B := hB_3.size
  obtain ⟨w4, hw4, ps_0, hb4, hs4⟩ := new_box w3 (w3.heap.size) rfl [.int .u64 ((wh ((z.natAbs : Int)) : Nat) : Int), .int .u64 ((wl ((z.natAbs : Int)) : Nat) : Int)] 24
  have hb4' : Below w3.heap.size w3 w4 := hb4.mono (by omega)
  clear hb4
  have hB_4 := hB_3.trans (hb4'.mono hB_3.size)
  have pa_3 := pa_2.below hb4'
  have pr_2 := pr_1.below hb4'
  clear hb4' hB_3 pa_2 pr_1
  obtain ⟨pae0, pae1, pae2, pae3⟩ := pa_3.open2
  obtain ⟨pre0, pre1, pre2, pre3⟩ := pr_2.open2
  obtain ⟨pse0, pse1, pse2, pse3⟩ := ps_0.open2
  go_wp2
  clear pae0 pae1 pae2 pae3 pre0 pre1 pre2 pre3 pse0 pse1 pse2 pse3
  have hWq_0 := Below.refl w4.heap.size w4
  have hsq : w.heap.size ≤ w4.heap.size := hB_4.size
  have hlqpa := pa_3.lt
  have hlqpr := pr_2.lt
  have hlqps := ps_0.lt
  have hB_5 := hB_4.drew'
  have pa_4 := pa_3.drew
  have pr_3 := pr_2.drew
  have ps_1 := ps_0.drew
  have hWq_1 := hWq_0.drew'
  clear hB_4 pa_3 pr_2 ps_0 hWq_0
  refine wp_region_noPanic ?_
  refine wp_region_held_drew (S := fun w' => w'.cell? ⟨w.heap.size, 0, none⟩ = some (.int .u64 ((wh (z) : Nat) : Int)) ∧ w'.cell? ⟨w.heap.size, 1, none⟩ = some (.int .u64 ((wl (z) : Nat) : Int)) ∧ w'.cell? ⟨w3.heap.size, 0, none⟩ = some (.int .u64 ((wh ((z.natAbs : Int)) : Nat) : Int)) ∧ w'.cell? ⟨w3.heap.size, 1, none⟩ = some (.int .u64 ((wl ((z.natAbs : Int)) : Nat) : Int))) (by kernel_rfl) (⟨pa_4.c0, pa_4.c1, ps_1.c0, ps_1.c1⟩) (fun hHeld => ?_)
  refine reg_take 0 ?_ ?_ ?_ (by kernel_rfl) (by kernel_rfl) (by kernel_rfl) (fun _ _ _ h => h) ?_ ?_ (by assumption) ?_
  rotate_left 2
  · simp only [List.getElem?_toArray, List.getElem?_cons_zero]; exact rfl
  · rfl
  · intro w hSw; (try dsimp only at hSw); go_simp; try with_reducible rfl
  try simp only [Act.put]
  try simp only [List.setIfInBounds_toArray, List.set_cons_zero, List.set_cons_succ]
  refine reg_take 2 ?_ ?_ ?_ (by kernel_rfl) (by kernel_rfl) (by kernel_rfl) (fun _ _ _ h => h) ?_ ?_ (by assumption) ?_
  rotate_left 2
  · simp only [List.getElem?_toArray, List.getElem?_cons_succ, List.getElem?_cons_zero]; exact rfl
  · rfl
  · intro w hSw; (try dsimp only at hSw); go_simp; try with_reducible rfl
  try simp only [Act.put]
  try simp only [List.setIfInBounds_toArray, List.set_cons_zero, List.set_cons_succ]
  refine reg_take 3 ?_ ?_ ?_ (by kernel_rfl) (by kernel_rfl) (by kernel_rfl) (fun _ _ _ h => h) ?_ ?_ (by assumption) ?_
  rotate_left 2
  · simp only [List.getElem?_toArray, List.getElem?_cons_succ, List.getElem?_cons_zero]; exact rfl
  · rfl
  · intro w hSw; (try dsimp only at hSw); go_simp; try with_reducible rfl
  try simp only [Act.put]
  try simp only [List.setIfInBounds_toArray, List.set_cons_zero, List.set_cons_succ]
  refine reg_take 4 ?_ ?_ ?_ (by kernel_rfl) (by kernel_rfl) (by kernel_rfl) (fun _ _ _ h => h) ?_ ?_ (by assumption) ?_
  rotate_left 2
  · simp only [List.getElem?_toArray, List.getElem?_cons_succ, List.getElem?_cons_zero]; exact rfl
  · rfl
  · intro w hSw; (try dsimp only at hSw); go_simp; try with_reducible rfl
  try simp only [Act.put]
  try simp only [List.setIfInBounds_toArray, List.set_cons_zero, List.set_cons_succ]
  refine reg_take 5 ?_ ?_ ?_ (by kernel_rfl) (by kernel_rfl) (by kernel_rfl) (fun _ _ _ h => h) ?_ ?_ (by assumption) ?_
  rotate_left 2
  · simp only [List.getElem?_toArray, List.getElem?_cons_succ, List.getElem?_cons_zero]; exact rfl
  · rfl
  · intro w hSw; (try dsimp only at hSw); go_simp; try with_reducible rfl
  try simp only [Act.put]
  try simp only [List.setIfInBounds_toArray, List.set_cons_zero, List.set_cons_succ]
  refine reg_grab (fun WWq aq hWW hAA => ?_)
  have HWq := Lib.hid hWW; have HAq := Lib.hid hAA; clear hWW hAA hHeld
  have stq_2t : ∀ (w' : World) (m2 : Bool) (o2 : Option Addr) (n2 : Nat) (c2 : Nat) (gpq : Nat), Below w.heap.size w w' → Box w' (w.heap.size) [.int .u64 ((wh (z) : Nat) : Int), .int .u64 ((wl (z) : Nat) : Int)] → Box w' (w.heap.size + 1) [.bool false, .slice none 0 0] → Box w' (w3.heap.size) [.int .u64 ((wh ((z.natAbs : Int)) : Nat) : Int), .int .u64 ((wl ((z.natAbs : Int)) : Nat) : Int)] → Below w4.heap.size w4 w' → RNum w' (.agg #[.bool m2, .slice o2 n2 c2]) (2) (sgn false (wl (z.natAbs : Int) + wh (z.natAbs : Int) * B)) → Box w' gpq [.int .u64 ((wl ((z.natAbs : Int)) : Nat) : Int), .int .u64 ((wh ((z.natAbs : Int)) : Nat) : Int)] → w4.heap.size ≤ gpq → WWq 1 #[true, true, true, true, true, true, true, true, false] (((aq.put (some 7) (.bool false)).put (some 12) (.slice (some ⟨gpq, 0, none⟩) 2 2)).put (some 13) (.agg #[.bool m2, .slice o2 n2 c2])) w' := by
    intro w5 m2 o2 n2 c2 gpq hB_0 pa_0 pr_0 ps_0 hWq_0 f2_0 pq_0 hgpq
    rw [HWq.out, HAq.out]
    try simp only [Act.put]
    try simp only [List.setIfInBounds_toArray, List.set_cons_zero, List.set_cons_succ]
    clear hWq_0
    obtain ⟨sf1a, sf1b, sf1c, sf1d⟩ := pr_0.open2
    obtain ⟨sg1a, sg1b⟩ := Box.put2 pr_0 (.bool m2)
    refine reg_call 8 ?_ (by kernel_rfl) ?_ (fun K hK => ?_)
    rotate_left 1
    · simp only [List.getElem?_toArray, List.getElem?_cons_succ, List.getElem?_cons_zero]; exact rfl
    go_simp
    have hB_1 := below_setAll hB_0 (g := w.heap.size + 1) (by omega) [.bool m2, .slice o2 n2 c2]
    have pa_1 := pa_0.farAll (g' := w.heap.size + 1) (by omega) [.bool m2, .slice o2 n2 c2]
    have ps_1 := ps_0.farAll (g' := w.heap.size + 1) (by omega) [.bool m2, .slice o2 n2 c2]
    have f2_1 := f2_0.setAll pr_0 (noWord2 _ _ _ _) [.bool m2, .slice o2 n2 c2] rfl
    have pq_1 := pq_0.farAll (g' := w.heap.size + 1) (by omega) [.bool m2, .slice o2 n2 c2]
    have pr_1 := pr_0.setAll [.bool m2, .slice o2 n2 c2] rfl
    simp only [setAll, Nat.zero_add] at hB_1 pa_1 pr_1 ps_1 f2_1 pq_1
    clear sf1a sf1b sf1c sf1d sg1a sg1b
    clear hB_0 pa_0 ps_0 f2_0 pq_0 pr_0
    refine hK.out _ _ ⟨pa_1.c0, pa_1.c1, ps_1.c0, ps_1.c1⟩ (fun hHeld => ?_)
    clear hK K
    try simp only [Act.put]
    try simp only [List.setIfInBounds_toArray, List.set_cons_zero, List.set_cons_succ]
    generalize (World.setCell (World.setCell w5 ⟨w.heap.size + 1, 0, none⟩ (.bool m2)) ⟨w.heap.size + 1, 1, none⟩ (.slice o2 n2 c2)) = w6 at *
    refine wpAnyH_done (by kernel_rfl) ?_ _
    refine NoPanic.normal ?_
    go_wp2
    obtain ⟨pre0, pre1, pre2, pre3⟩ := pr_1.open2
    exact bodyPost_ret (v := .agg #[.bool m2, .slice o2 n2 c2]) (by simp [results, Try.results9, go_sem, pre0, pre1]) rfl ⟨_, _, _, _, rfl, f2_1, hB_1⟩
  simp only [HAq.out, Act.put, List.setIfInBounds_toArray, List.set_cons_zero, List.set_cons_succ] at stq_2t
  have stq_1t : ∀ (w' : World) (gpq : Nat), Below w.heap.size w w' → Box w' (w.heap.size) [.int .u64 ((wh (z) : Nat) : Int), .int .u64 ((wl (z) : Nat) : Int)] → Box w' (w.heap.size + 1) [.bool false, .slice none 0 0] → Box w' (w3.heap.size) [.int .u64 ((wh ((z.natAbs : Int)) : Nat) : Int), .int .u64 ((wl ((z.natAbs : Int)) : Nat) : Int)] → Below w4.heap.size w4 w' → Box w' gpq [.int .u64 ((wl ((z.natAbs : Int)) : Nat) : Int), .int .u64 ((wh ((z.natAbs : Int)) : Nat) : Int)] → w4.heap.size ≤ gpq → WWq 2 #[true, true, true, true, true, true, true, false, false] ((aq.put (some 7) (.bool false)).put (some 12) (.slice (some ⟨gpq, 0, none⟩) 2 2)) w' := by
    intro w7 gpq hB_0 pa_0 pr_0 ps_0 hWq_0 pq_0 hgpq
    rw [HWq.out, HAq.out]
    try simp only [Act.put]
    try simp only [List.setIfInBounds_toArray, List.set_cons_zero, List.set_cons_succ]
    refine reg_all1 7 ?_ (by kernel_rfl) ?_ (fun K hK => ?_)
    rotate_left 1
    · simp only [List.getElem?_toArray, List.getElem?_cons_succ, List.getElem?_cons_zero]; exact rfl
    · go_simp
      refine (make_two false gpq _ _ _ pq_0 (wl_lt _) (wh_lt _)).mono ?_
      rintro e w8 ⟨m2, o2, n2, c2, rfl, f2_0, hb8⟩
      have hB_1 := hB_0.trans (hb8.mono hB_0.size)
      have pa_1 := pa_0.below hb8
      have pr_1 := pr_0.below hb8
      have ps_1 := ps_0.below hb8
      have hWq_1 := hWq_0.trans (hb8.mono hWq_0.size)
      have pq_1 := pq_0.below hb8
      clear hb8 hB_0 pa_0 pr_0 ps_0 hWq_0 pq_0
      go_wp2_with fail
      refine hK.out _ _ ⟨pa_1.c0, pa_1.c1, ps_1.c0, ps_1.c1⟩ (fun hHeld => ?_)
      clear hK K
      try simp only [Act.put]
      try simp only [List.setIfInBounds_toArray, List.set_cons_zero, List.set_cons_succ]
      rw [← HWq.out]
      exact stq_2t _ m2 o2 n2 c2 gpq hB_1 pa_1 pr_1 ps_1 hWq_1 f2_0 pq_1 (by omega)
  try simp only [HAq.out, Act.put, List.setIfInBounds_toArray, List.set_cons_zero, List.set_cons_succ] at stq_1t
  have stq_1f : ∀ (w' : World), Below w.heap.size w w' → Box w' (w.heap.size) [.int .u64 ((wh (z) : Nat) : Int), .int .u64 ((wl (z) : Nat) : Int)] → Box w' (w.heap.size + 1) [.bool false, .slice none 0 0] → Box w' (w3.heap.size) [.int .u64 ((wh ((z.natAbs : Int)) : Nat) : Int), .int .u64 ((wl ((z.natAbs : Int)) : Nat) : Int)] → Below w4.heap.size w4 w' → WWq 3 #[true, true, true, true, true, true, false, false, false] (aq.put (some 7) (.bool false)) w' := by
    intro w9 hB_0 pa_0 pr_0 ps_0 hWq_0
    rw [HWq.out, HAq.out]
    try simp only [Act.put]
    try simp only [List.setIfInBounds_toArray, List.set_cons_zero, List.set_cons_succ]
    refine reg_all1 6 ?_ (by kernel_rfl) ?_ (fun K hK => ?_)
    rotate_left 1
    · simp only [List.getElem?_toArray, List.getElem?_cons_succ, List.getElem?_cons_zero]; exact rfl
    · go_simp
      have hgn : w4.heap.size ≤ w9.heap.size := hWq_0.size
      obtain ⟨w10, hww10, pq_0, hb10, -⟩ := new_box w9 _ rfl [.int .u64 ((wl ((z.natAbs : Int)) : Nat) : Int), .int .u64 ((wh ((z.natAbs : Int)) : Nat) : Int)] 22
      rw [hww10]
      have hB_1 := hB_0.trans (hb10.mono hB_0.size)
      have pa_1 := pa_0.below hb10
      have pr_1 := pr_0.below hb10
      have ps_1 := ps_0.below hb10
      have hWq_1 := hWq_0.trans (hb10.mono hWq_0.size)
      clear hb10 hB_0 pa_0 pr_0 ps_0 hWq_0
      refine hK.out _ _ ⟨pa_1.c0, pa_1.c1, ps_1.c0, ps_1.c1⟩ (fun hHeld => ?_)
      clear hK K
      try simp only [Act.put]
      try simp only [List.setIfInBounds_toArray, List.set_cons_zero, List.set_cons_succ]
      rw [← HWq.out]
      exact stq_1t _ w9.heap.size hB_1 pa_1 pr_1 ps_1 hWq_1 pq_0 (by omega)
  try simp only [HAq.out, Act.put, List.setIfInBounds_toArray, List.set_cons_zero, List.set_cons_succ] at stq_1f
  have stq_0t : ∀ (w' : World) (gpq : Nat), Below w.heap.size w w' → Box w' (w.heap.size) [.int .u64 ((wh (z) : Nat) : Int), .int .u64 ((wl (z) : Nat) : Int)] → Box w' (w.heap.size + 1) [.bool false, .slice none 0 0] → Box w' (w3.heap.size) [.int .u64 ((wh ((z.natAbs : Int)) : Nat) : Int), .int .u64 ((wl ((z.natAbs : Int)) : Nat) : Int)] → Below w4.heap.size w4 w' → Box w' gpq [.int .u64 ((wl ((z.natAbs : Int)) : Nat) : Int), .int .u64 ((wh ((z.natAbs : Int)) : Nat) : Int)] → w4.heap.size ≤ gpq → WWq 3 #[true, false, true, true, true, true, true, false, false] (aq.put (some 12) (.slice (some ⟨gpq, 0, none⟩) 2 2)) w' := by
    intro w11 gpq hB_0 pa_0 pr_0 ps_0 hWq_0 pq_0 hgpq
    rw [HWq.out, HAq.out]
    try simp only [Act.put]
    try simp only [List.setIfInBounds_toArray, List.set_cons_zero, List.set_cons_succ]
    refine reg_all1 1 ?_ (by kernel_rfl) ?_ (fun K hK => ?_)
    rotate_left 1
    · simp only [List.getElem?_toArray, List.getElem?_cons_succ, List.getElem?_cons_zero]; exact rfl
    · go_simp
      refine (CB.out _).mono ?_
      rintro e w12 ⟨rfl, hb12⟩
      have hB_1 := hB_0.trans (hb12.mono hB_0.size)
      have pa_1 := pa_0.below hb12
      have pr_1 := pr_0.below hb12
      have ps_1 := ps_0.below hb12
      have hWq_1 := hWq_0.trans (hb12.mono hWq_0.size)
      have pq_1 := pq_0.below hb12
      clear hb12 hB_0 pa_0 pr_0 ps_0 hWq_0 pq_0
      go_wp2_with fail
      refine hK.out _ _ ⟨pa_1.c0, pa_1.c1, ps_1.c0, ps_1.c1⟩ (fun hHeld => ?_)
      clear hK K
      try simp only [Act.put]
      try simp only [List.setIfInBounds_toArray, List.set_cons_zero, List.set_cons_succ]
      rw [← HWq.out]
      exact stq_1t _ gpq hB_1 pa_1 pr_1 ps_1 hWq_1 pq_1 (by omega)
  try simp only [HAq.out, Act.put, List.setIfInBounds_toArray, List.set_cons_zero, List.set_cons_succ] at stq_0t
  have stq_0f : ∀ (w' : World), Below w.heap.size w w' → Box w' (w.heap.size) [.int .u64 ((wh (z) : Nat) : Int), .int .u64 ((wl (z) : Nat) : Int)] → Box w' (w.heap.size + 1) [.bool false, .slice none 0 0] → Box w' (w3.heap.size) [.int .u64 ((wh ((z.natAbs : Int)) : Nat) : Int), .int .u64 ((wl ((z.natAbs : Int)) : Nat) : Int)] → Below w4.heap.size w4 w' → WWq 4 #[true, false, true, true, true, true, false, false, false] aq w' := by
    intro w13 hB_0 pa_0 pr_0 ps_0 hWq_0
    rw [HWq.out, HAq.out]
    try simp only [Act.put]
    try simp only [List.setIfInBounds_toArray, List.set_cons_zero, List.set_cons_succ]
    refine reg_all2 1 6 ?_ ?_ (by kernel_rfl) ?_ ?_ (fun K hK => ?_) (fun K hK => ?_)
    rotate_left 2
    · simp only [List.getElem?_toArray, List.getElem?_cons_succ, List.getElem?_cons_zero]; exact rfl
    · simp only [List.getElem?_toArray, List.getElem?_cons_succ, List.getElem?_cons_zero]; exact rfl
    · go_simp
      refine (CB.out _).mono ?_
      rintro e w14 ⟨rfl, hb14⟩
      have hB_1 := hB_0.trans (hb14.mono hB_0.size)
      have pa_1 := pa_0.below hb14
      have pr_1 := pr_0.below hb14
      have ps_1 := ps_0.below hb14
      have hWq_1 := hWq_0.trans (hb14.mono hWq_0.size)
      clear hb14 hB_0 pa_0 pr_0 ps_0 hWq_0
      go_wp2_with fail
      refine hK.out _ _ ⟨pa_1.c0, pa_1.c1, ps_1.c0, ps_1.c1⟩ (fun hHeld => ?_)
      clear hK K
      try simp only [Act.put]
      try simp only [List.setIfInBounds_toArray, List.set_cons_zero, List.set_cons_succ]
      rw [← HWq.out]
      exact stq_1f _ hB_1 pa_1 pr_1 ps_1 hWq_1
    · go_simp
      have hgn : w4.heap.size ≤ w13.heap.size := hWq_0.size
      obtain ⟨w15, hww15, pq_0, hb15, -⟩ := new_box w13 _ rfl [.int .u64 ((wl ((z.natAbs : Int)) : Nat) : Int), .int .u64 ((wh ((z.natAbs : Int)) : Nat) : Int)] 22
      rw [hww15]
      have hB_1 := hB_0.trans (hb15.mono hB_0.size)
      have pa_1 := pa_0.below hb15
      have pr_1 := pr_0.below hb15
      have ps_1 := ps_0.below hb15
      have hWq_1 := hWq_0.trans (hb15.mono hWq_0.size)
      clear hb15 hB_0 pa_0 pr_0 ps_0 hWq_0
      refine hK.out _ _ ⟨pa_1.c0, pa_1.c1, ps_1.c0, ps_1.c1⟩ (fun hHeld => ?_)
      clear hK K
      try simp only [Act.put]
      try simp only [List.setIfInBounds_toArray, List.set_cons_zero, List.set_cons_succ]
      rw [← HWq.out]
      exact stq_0t _ w13.heap.size hB_1 pa_1 pr_1 ps_1 hWq_1 pq_0 (by omega)
  exact stq_0f _ hB_5 pa_4 pr_3 ps_1 hWq_1
theorem wNum_any (z : Int) (hz : InW z) (w : World) : Calls Try.prog 9 #[.agg #[.int .u64 ((wh (z) : Nat) : Int), .int .u64 ((wl (z) : Nat) : Int)]] w fun e w' => AnsNum w w' e 2 z := by
  have hs := w_size hz
  have e : ((wl (z.natAbs : Int) + wh (z.natAbs : Int) * B : Nat) : Int) = (z.natAbs : Int) := by simp only [B_eq]; omega
  by_cases c : z < 0
  · refine (wNum_w_t z hz (bel_is (by rw [wrapW_self hz]; simp [c])) w).mono fun e' w' h => h.of (Nat.le_refl _) ?_
    rw [sgn_true, e]; omega
  · refine (wNum_w_f z hz (bel_is (by rw [wrapW_self hz]; simp [c])) w).mono fun e' w' h => h.of (Nat.le_refl _) ?_
    rw [sgn_false, e]; omega
end Go.Proofs.Ytkigfccbhkcedaa
/- The document's own: two to so many times two; is a number one of 128 bits? -/
namespace Go.Proofs.Ytkigfccbhkcedaa
open Go.RowKit Go.MagM
theorem wnCmp_is (va vb : Value) (L L' : Nat) (X Y c : Int) (w : World) (hL : L ≤ 4000000000) (hL' : L' ≤ 4000000000) (ha : Num w va L X) (hb : Num w vb L' Y) (h : icmp X Y = c) :
    Calls Try.prog 21 #[va, vb] w fun e w' => e = .returned (.int .i64 c) ∧ Below w.heap.size w w' := by
  subst h; exact nCmp_any va vb L L' X Y w hL hL' ha hb
theorem wnSign_is (va : Value) (L : Nat) (X c : Int) (w : World) (hL : L ≤ 4000000000) (ha : Num w va L X) (h : X.sign = c) :
    Calls Try.prog 27 #[va] w fun e w' => e = .returned (.int .i64 c) ∧ Below w.heap.size w w' := by
  subst h; exact Sign_any va L X w hL ha
set_option maxHeartbeats 8000000 in
theorem power_any (n : Nat) (w : World) (hn : n ≤ 1000) :
    Calls Try.prog 40 #[.int .i64 (n : Int)] w fun e w' => AnsNum w w' e (n + 1) (2 ^ n) := by
  have hB_0 := Below.refl w.heap.size w
  obtain ⟨w1, hw1, pr_0, hb1, hs1⟩ := new_box w (w.heap.size) rfl [.bool false, .slice none 0 0] 29
  have hb1' : Below w.heap.size w w1 := hb1.mono (by omega)
  clear hb1
  have hB_1 := hB_0.trans (hb1'.mono hB_0.size)
  clear hb1' hB_0
  go_enter Try.func40, Try.ntmps40
  obtain ⟨pre0, pre1, pre2, pre3⟩ := pr_0.open2
  go_wp2_with fail
  refine (nOf_any 1 (by omega) (by omega) _).mono ?_
  rintro e w2 ⟨m1, o1, n1, c1, rfl, f1_0, hb2⟩
  clear pre0 pre1 pre2 pre3
  have hB_2 := hB_1.trans (hb2.mono hB_1.size)
  have pr_1 := pr_0.below hb2
  clear hb2 hB_1 pr_0
  obtain ⟨pre0, pre1, pre2, pre3⟩ := pr_1.open2
  clear pre0 pre1 pre2 pre3
  have hl1pr := pr_1.lt
  have hl1B := hB_2.size
  obtain ⟨w3, hw3, pp_0, hb3, hs3⟩ := new_box w2 (w2.heap.size) rfl [.bool m1, .slice o1 n1 c1] 29
  have hb3' : Below w2.heap.size w2 w3 := hb3.mono (by omega)
  clear hb3
  have hB_3 := hB_2.trans (hb3'.mono hB_2.size)
  have pr_2 := pr_1.below hb3'
  have f1_1 := f1_0.below hb3'
  clear hb3' hB_2 pr_1 f1_0
  obtain ⟨pre0, pre1, pre2, pre3⟩ := pr_2.open2
  obtain ⟨ppe0, ppe1, ppe2, ppe3⟩ := pp_0.open2
  go_wp2
  have hgp : w.heap.size < w2.heap.size := by have := hl1pr; omega
  clear pre0 pre1 pre2 pre3 ppe0 ppe1 ppe2 ppe3
  go_loopw [6] (fun iv wr => ∃ j : Nat, ∃ P : Int, j ≤ n ∧ 2 ^ j = P ∧ iv = .int .i64 j ∧ Below w.heap.size w wr ∧ Box wr w.heap.size [.bool false, .slice none 0 0] ∧ w.heap.size < w2.heap.size ∧ w2.heap.size < wr.heap.size ∧
      ∃ m tp tn tc, Box wr (w2.heap.size) [.bool m, .slice tp tn tc] ∧ RNum wr (.agg #[.bool m, .slice tp tn tc]) (j + 1) P) (fun iv _ => n - (intOf iv).toNat)
  case atStart => exact ⟨0, 1, Nat.zero_le _, rfl, rfl, hB_3, pr_2, hgp, pp_0.lt, _, _, _, _, pp_0, f1_1⟩
  case round =>
    obtain ⟨j, P, hj, hP, rfl, hB_0, pr_0, hwg, hgt, m1, o1, n1, c1, pp_0, f1_0⟩ := hrel
    have HN := Lib.hid hP
    clear hP
    by_cases hlt : j < n
    · skip
      obtain ⟨ppe0, ppe1, ppe2, ppe3⟩ := pp_0.open2
      go_wp2_with fail
      refine (nAdd_any _ _ (j + 1) (j + 1) P P _ (by omega) (by omega) f1_0.num f1_0.num).mono ?_
      rintro e w4 ⟨m2, o2, n2, c2, rfl, f2_0, hb4⟩
      clear ppe0 ppe1 ppe2 ppe3
      have hB_1 := hB_0.trans (hb4.mono hB_0.size)
      have pr_1 := pr_0.below hb4
      have pp_1 := pp_0.below hb4
      have f1_1 := f1_0.below hb4
      clear hb4 hB_0 pr_0 pp_0 f1_0
      obtain ⟨ppe0, ppe1, ppe2, ppe3⟩ := pp_1.open2
      clear f1_1
      obtain ⟨sf1a, sf1b, sf1c, sf1d⟩ := pp_1.open2
      obtain ⟨sg1a, sg1b⟩ := Box.put2 pp_1 (.bool m2)
      go_wp2
      clear ppe0 ppe1 ppe2 ppe3 sf1a sf1b sf1c sf1d sg1a sg1b
      have hB_2 := below_setAll hB_1 (g := w2.heap.size) (by omega) [.bool m2, .slice o2 n2 c2]
      have pr_2 := pr_1.farAll (g' := w2.heap.size) (by omega) [.bool m2, .slice o2 n2 c2]
      have f2_1 := f2_0.setAll pp_1 (noWord2 _ _ _ _) [.bool m2, .slice o2 n2 c2] rfl
      have pp_2 := pp_1.setAll [.bool m2, .slice o2 n2 c2] rfl
      simp only [setAll, Nat.zero_add] at hB_2 pr_2 pp_2 f2_1
      clear hB_1 pr_1 f2_0 pp_1
      generalize (World.setCell (World.setCell w4 ⟨w2.heap.size, 0, none⟩ (.bool m2)) ⟨w2.heap.size, 1, none⟩ (.slice o2 n2 c2)) = w5 at *
      refine ⟨⟨j + 1, P + P, by omega, ?_, by go_num, hB_2, pr_2, hwg, pp_2.lt, _, _, _, _, pp_2, f2_1.more (by omega)⟩, by simp [intOf]; omega⟩
      rw [← HN.out, Int.pow_succ]; omega
    · skip
      have hjn : j = n := by omega
      subst hjn
      obtain ⟨ppe0, ppe1, ppe2, ppe3⟩ := pp_0.open2
      obtain ⟨pre0, pre1, pre2, pre3⟩ := pr_0.open2
      obtain ⟨sf1a, sf1b, sf1c, sf1d⟩ := pr_0.open2
      obtain ⟨sg1a, sg1b⟩ := Box.put2 pr_0 (.bool m1)
      go_wp2
      clear ppe0 ppe1 ppe2 ppe3 pre0 pre1 pre2 pre3 sf1a sf1b sf1c sf1d sg1a sg1b
      have hB_1 := below_setAll hB_0 (g := w.heap.size) (by omega) [.bool m1, .slice o1 n1 c1]
      have pp_1 := pp_0.farAll (g' := w.heap.size) (by omega) [.bool m1, .slice o1 n1 c1]
      have f1_1 := f1_0.setAll pr_0 (noWord2 _ _ _ _) [.bool m1, .slice o1 n1 c1] rfl
      have pr_1 := pr_0.setAll [.bool m1, .slice o1 n1 c1] rfl
      simp only [setAll, Nat.zero_add] at hB_1 pr_1 pp_1 f1_1
      clear hB_0 pp_0 f1_0 pr_0
      generalize (World.setCell (World.setCell wr ⟨w.heap.size, 0, none⟩ (.bool m1)) ⟨w.heap.size, 1, none⟩ (.slice o1 n1 c1)) = w4 at *
      obtain ⟨pre0, pre1, pre2, pre3⟩ := pr_1.open2
      exact bodyPost_ret (v := .agg #[.bool m1, .slice o1 n1 c1]) (by simp [results, Try.results40, go_sem, pre0, pre1]) rfl ⟨_, _, _, _, rfl, f1_1.of HN.out.symm, hB_1⟩
theorem power_127 (w : World) : Calls Try.prog 40 #[.int .i64 127] w fun e w' => AnsNum w w' e 128 170141183460469231731687303715884105728 :=
  power_any 127 w (by omega)
set_option maxHeartbeats 4000000 in
theorem fits_zn (am : Bool) (ao : Option Addr) (an ac : Nat) (L : Nat) (X : Int) (w : World) (hL : L ≤ 4000000000) (fa_0 : Num w (.agg #[.bool am, .slice ao an ac]) L X) (h1 : icmp X (-170141183460469231731687303715884105728) = 0) (h2 : icmp X 170141183460469231731687303715884105728 = -1) :
    Calls Try.prog 17 #[.agg #[.bool am, .slice ao an ac]] w fun e w' => e = .returned (.bool true) ∧ Below w.heap.size w w' := by
  have hB_0 := Below.refl w.heap.size w
  have H1 := Lib.hid h1; clear h1
  have H2 := Lib.hid h2; clear h2
  obtain ⟨w1, hw1, pa_0, hb1, hs1⟩ := new_box w (w.heap.size) rfl [.bool am, .slice ao an ac] 29
  have hb1' : Below w.heap.size w w1 := hb1.mono (by omega)
  clear hb1
  have hB_1 := hB_0.trans (hb1'.mono hB_0.size)
  have fa_1 := fa_0.below hb1'
  clear hb1' hB_0 fa_0
  go_enter Try.func17, Try.ntmps17
  obtain ⟨pae0, pae1, pae2, pae3⟩ := pa_0.open2
  go_wp2_with fail
  refine (power_127 _).mono ?_
  rintro e w2 ⟨m1, o1, n1, c1, rfl, f1_0, hb2⟩
  clear pae0 pae1 pae2 pae3
  have hB_2 := hB_1.trans (hb2.mono hB_1.size)
  have fa_2 := fa_1.below hb2
  have pa_1 := pa_0.below hb2
  clear hb2 hB_1 fa_1 pa_0
  obtain ⟨pae0, pae1, pae2, pae3⟩ := pa_1.open2
  clear pae0 pae1 pae2 pae3
  have hl1pa := pa_1.lt
  have hl1B := hB_2.size
  obtain ⟨w3, hw3, pp_0, hb3, hs3⟩ := new_box w2 (w2.heap.size) rfl [.bool m1, .slice o1 n1 c1] 29
  have hb3' : Below w2.heap.size w2 w3 := hb3.mono (by omega)
  clear hb3
  have hB_3 := hB_2.trans (hb3'.mono hB_2.size)
  have fa_3 := fa_2.below hb3'
  have pa_2 := pa_1.below hb3'
  have f1_1 := f1_0.below hb3'
  clear hb3' hB_2 fa_2 pa_1 f1_0
  obtain ⟨pae0, pae1, pae2, pae3⟩ := pa_2.open2
  obtain ⟨ppe0, ppe1, ppe2, ppe3⟩ := pp_0.open2
  go_wp2
  clear pae0 pae1 pae2 pae3 ppe0 ppe1 ppe2 ppe3
  have hB_4 := hB_3.drew'
  have fa_4 := fa_3.drew
  have pa_3 := pa_2.drew
  have f1_2 := f1_1.drew
  have pp_1 := pp_0.drew
  clear hB_3 fa_3 pa_2 f1_1 pp_0
  go_region_held3 (fun w' => w'.cell? ⟨w.heap.size, 0, none⟩ = some (.bool am) ∧ w'.cell? ⟨w.heap.size, 1, none⟩ = some (.slice ao an ac) ∧ w'.cell? ⟨w2.heap.size, 0, none⟩ = some (.bool m1) ∧ w'.cell? ⟨w2.heap.size, 1, none⟩ = some (.slice o1 n1 c1))
    (first | with_reducible exact ⟨pa_3.c0, pa_3.c1, pp_1.c0, pp_1.c1⟩ | with_reducible exact ⟨pa_4.c0, pa_4.c1, pp_2.c0, pp_2.c1⟩ | with_reducible exact ⟨pa_5.c0, pa_5.c1, pp_3.c0, pp_3.c1⟩ | with_reducible exact ⟨pa_6.c0, pa_6.c1, pp_4.c0, pp_4.c1⟩ | fail)
    (first
      | (go_at_call 16; (with_reducible refine (Neg_any _ 128 _ _ (by omega) f1_2.num).mono ?_); rintro e w4 ⟨m2, o2, n2, c2, rfl, f2_0, hb4⟩; have hB_5 := hB_4.trans (hb4.mono hB_4.size); have fa_5 := fa_4.below hb4; have pa_4 := pa_3.below hb4; have f1_3 := f1_2.below hb4; have pp_2 := pp_1.below hb4; clear hb4 hB_4 fa_4 pa_3 f1_2 pp_1)
      | (go_at_call 21; (with_reducible refine (wnCmp_is _ _ L 128 X (-170141183460469231731687303715884105728) (0) _ (by omega) (by omega) fa_5 f2_0.num H1.out).mono ?_); rintro e w5 ⟨rfl, hb5⟩; have hB_6 := hB_5.trans (hb5.mono hB_5.size); have fa_6 := fa_5.below hb5; have pa_5 := pa_4.below hb5; have f1_4 := f1_3.below hb5; have pp_3 := pp_2.below hb5; have f2_1 := f2_0.below hb5; clear hb5 hB_5 fa_5 pa_4 f1_3 pp_2 f2_0)
      | (go_at_call 21; (with_reducible refine (wnCmp_is _ _ L 128 X 170141183460469231731687303715884105728 (-1) _ (by omega) (by omega) fa_6 f1_4.num H2.out).mono ?_); rintro e w6 ⟨rfl, hb6⟩; have hB_7 := hB_6.trans (hb6.mono hB_6.size); have fa_7 := fa_6.below hb6; have pa_6 := pa_5.below hb6; have f1_5 := f1_4.below hb6; have pp_4 := pp_3.below hb6; have f2_2 := f2_1.below hb6; clear hb6 hB_6 fa_6 pa_5 f1_4 pp_3 f2_1))
  go_wp2
  go_ret
  exact ⟨rfl, hB_7⟩
set_option maxHeartbeats 4000000 in
theorem fits_pn (am : Bool) (ao : Option Addr) (an ac : Nat) (L : Nat) (X : Int) (w : World) (hL : L ≤ 4000000000) (fa_0 : Num w (.agg #[.bool am, .slice ao an ac]) L X) (h1 : icmp X (-170141183460469231731687303715884105728) = 1) (h2 : icmp X 170141183460469231731687303715884105728 = -1) :
    Calls Try.prog 17 #[.agg #[.bool am, .slice ao an ac]] w fun e w' => e = .returned (.bool true) ∧ Below w.heap.size w w' := by
  have hB_0 := Below.refl w.heap.size w
  have H1 := Lib.hid h1; clear h1
  have H2 := Lib.hid h2; clear h2
  obtain ⟨w1, hw1, pa_0, hb1, hs1⟩ := new_box w (w.heap.size) rfl [.bool am, .slice ao an ac] 29
  have hb1' : Below w.heap.size w w1 := hb1.mono (by omega)
  clear hb1
  have hB_1 := hB_0.trans (hb1'.mono hB_0.size)
  have fa_1 := fa_0.below hb1'
  clear hb1' hB_0 fa_0
  go_enter Try.func17, Try.ntmps17
  obtain ⟨pae0, pae1, pae2, pae3⟩ := pa_0.open2
  go_wp2_with fail
  refine (power_127 _).mono ?_
  rintro e w2 ⟨m1, o1, n1, c1, rfl, f1_0, hb2⟩
  clear pae0 pae1 pae2 pae3
  have hB_2 := hB_1.trans (hb2.mono hB_1.size)
  have fa_2 := fa_1.below hb2
  have pa_1 := pa_0.below hb2
  clear hb2 hB_1 fa_1 pa_0
  obtain ⟨pae0, pae1, pae2, pae3⟩ := pa_1.open2
  clear pae0 pae1 pae2 pae3
  have hl1pa := pa_1.lt
  have hl1B := hB_2.size
  obtain ⟨w3, hw3, pp_0, hb3, hs3⟩ := new_box w2 (w2.heap.size) rfl [.bool m1, .slice o1 n1 c1] 29
  have hb3' : Below w2.heap.size w2 w3 := hb3.mono (by omega)
  clear hb3
  have hB_3 := hB_2.trans (hb3'.mono hB_2.size)
  have fa_3 := fa_2.below hb3'
  have pa_2 := pa_1.below hb3'
  have f1_1 := f1_0.below hb3'
  clear hb3' hB_2 fa_2 pa_1 f1_0
  obtain ⟨pae0, pae1, pae2, pae3⟩ := pa_2.open2
  obtain ⟨ppe0, ppe1, ppe2, ppe3⟩ := pp_0.open2
  go_wp2
  clear pae0 pae1 pae2 pae3 ppe0 ppe1 ppe2 ppe3
  have hB_4 := hB_3.drew'
  have fa_4 := fa_3.drew
  have pa_3 := pa_2.drew
  have f1_2 := f1_1.drew
  have pp_1 := pp_0.drew
  clear hB_3 fa_3 pa_2 f1_1 pp_0
  go_region_held3 (fun w' => w'.cell? ⟨w.heap.size, 0, none⟩ = some (.bool am) ∧ w'.cell? ⟨w.heap.size, 1, none⟩ = some (.slice ao an ac) ∧ w'.cell? ⟨w2.heap.size, 0, none⟩ = some (.bool m1) ∧ w'.cell? ⟨w2.heap.size, 1, none⟩ = some (.slice o1 n1 c1))
    (first | with_reducible exact ⟨pa_3.c0, pa_3.c1, pp_1.c0, pp_1.c1⟩ | with_reducible exact ⟨pa_4.c0, pa_4.c1, pp_2.c0, pp_2.c1⟩ | with_reducible exact ⟨pa_5.c0, pa_5.c1, pp_3.c0, pp_3.c1⟩ | with_reducible exact ⟨pa_6.c0, pa_6.c1, pp_4.c0, pp_4.c1⟩ | fail)
    (first
      | (go_at_call 16; (with_reducible refine (Neg_any _ 128 _ _ (by omega) f1_2.num).mono ?_); rintro e w4 ⟨m2, o2, n2, c2, rfl, f2_0, hb4⟩; have hB_5 := hB_4.trans (hb4.mono hB_4.size); have fa_5 := fa_4.below hb4; have pa_4 := pa_3.below hb4; have f1_3 := f1_2.below hb4; have pp_2 := pp_1.below hb4; clear hb4 hB_4 fa_4 pa_3 f1_2 pp_1)
      | (go_at_call 21; (with_reducible refine (wnCmp_is _ _ L 128 X (-170141183460469231731687303715884105728) (1) _ (by omega) (by omega) fa_5 f2_0.num H1.out).mono ?_); rintro e w5 ⟨rfl, hb5⟩; have hB_6 := hB_5.trans (hb5.mono hB_5.size); have fa_6 := fa_5.below hb5; have pa_5 := pa_4.below hb5; have f1_4 := f1_3.below hb5; have pp_3 := pp_2.below hb5; have f2_1 := f2_0.below hb5; clear hb5 hB_5 fa_5 pa_4 f1_3 pp_2 f2_0)
      | (go_at_call 21; (with_reducible refine (wnCmp_is _ _ L 128 X 170141183460469231731687303715884105728 (-1) _ (by omega) (by omega) fa_6 f1_4.num H2.out).mono ?_); rintro e w6 ⟨rfl, hb6⟩; have hB_7 := hB_6.trans (hb6.mono hB_6.size); have fa_7 := fa_6.below hb6; have pa_6 := pa_5.below hb6; have f1_5 := f1_4.below hb6; have pp_4 := pp_3.below hb6; have f2_2 := f2_1.below hb6; clear hb6 hB_6 fa_6 pa_5 f1_4 pp_3 f2_1))
  go_wp2
  go_ret
  exact ⟨rfl, hB_7⟩
set_option maxHeartbeats 4000000 in
theorem fits_n (am : Bool) (ao : Option Addr) (an ac : Nat) (L : Nat) (X : Int) (w : World) (hL : L ≤ 4000000000) (fa_0 : Num w (.agg #[.bool am, .slice ao an ac]) L X) (h1 : icmp X (-170141183460469231731687303715884105728) = -1) :
    Calls Try.prog 17 #[.agg #[.bool am, .slice ao an ac]] w fun e w' => e = .returned (.bool false) ∧ Below w.heap.size w w' := by
  have hB_0 := Below.refl w.heap.size w
  have H1 := Lib.hid h1; clear h1
  obtain ⟨w1, hw1, pa_0, hb1, hs1⟩ := new_box w (w.heap.size) rfl [.bool am, .slice ao an ac] 29
  have hb1' : Below w.heap.size w w1 := hb1.mono (by omega)
  clear hb1
  have hB_1 := hB_0.trans (hb1'.mono hB_0.size)
  have fa_1 := fa_0.below hb1'
  clear hb1' hB_0 fa_0
  go_enter Try.func17, Try.ntmps17
  obtain ⟨pae0, pae1, pae2, pae3⟩ := pa_0.open2
  go_wp2_with fail
  refine (power_127 _).mono ?_
  rintro e w2 ⟨m1, o1, n1, c1, rfl, f1_0, hb2⟩
  clear pae0 pae1 pae2 pae3
  have hB_2 := hB_1.trans (hb2.mono hB_1.size)
  have fa_2 := fa_1.below hb2
  have pa_1 := pa_0.below hb2
  clear hb2 hB_1 fa_1 pa_0
  obtain ⟨pae0, pae1, pae2, pae3⟩ := pa_1.open2
  clear pae0 pae1 pae2 pae3
  have hl1pa := pa_1.lt
  have hl1B := hB_2.size
  obtain ⟨w3, hw3, pp_0, hb3, hs3⟩ := new_box w2 (w2.heap.size) rfl [.bool m1, .slice o1 n1 c1] 29
  have hb3' : Below w2.heap.size w2 w3 := hb3.mono (by omega)
  clear hb3
  have hB_3 := hB_2.trans (hb3'.mono hB_2.size)
  have fa_3 := fa_2.below hb3'
  have pa_2 := pa_1.below hb3'
  have f1_1 := f1_0.below hb3'
  clear hb3' hB_2 fa_2 pa_1 f1_0
  obtain ⟨pae0, pae1, pae2, pae3⟩ := pa_2.open2
  obtain ⟨ppe0, ppe1, ppe2, ppe3⟩ := pp_0.open2
  go_wp2
  clear pae0 pae1 pae2 pae3 ppe0 ppe1 ppe2 ppe3
  have hB_4 := hB_3.drew'
  have fa_4 := fa_3.drew
  have pa_3 := pa_2.drew
  have f1_2 := f1_1.drew
  have pp_1 := pp_0.drew
  refine wp_region_noPanic ?_
  refine wp_region_held_drew (S := fun w' => w'.cell? ⟨w.heap.size, 0, none⟩ = some (.bool am) ∧ w'.cell? ⟨w.heap.size, 1, none⟩ = some (.slice ao an ac) ∧ w'.cell? ⟨w2.heap.size, 0, none⟩ = some (.bool m1) ∧ w'.cell? ⟨w2.heap.size, 1, none⟩ = some (.slice o1 n1 c1)) (by kernel_rfl) (⟨pa_3.c0, pa_3.c1, pp_1.c0, pp_1.c1⟩) (fun hHeld => ?_)
  refine reg_take 0 ?_ ?_ ?_ (by kernel_rfl) (by kernel_rfl) (by kernel_rfl) (fun _ _ _ h => h) ?_ ?_ (by assumption) ?_
  rotate_left 2
  · simp only [List.getElem?_toArray, List.getElem?_cons_zero]; exact rfl
  · rfl
  · intro w hSw; (try dsimp only at hSw); go_simp; try with_reducible rfl
  try simp only [Act.put]
  try simp only [List.setIfInBounds_toArray, List.set_cons_zero, List.set_cons_succ]
  refine reg_take 1 ?_ ?_ ?_ (by kernel_rfl) (by kernel_rfl) (by kernel_rfl) (fun _ _ _ h => h) ?_ ?_ (by assumption) ?_
  rotate_left 2
  · simp only [List.getElem?_toArray, List.getElem?_cons_succ, List.getElem?_cons_zero]; exact rfl
  · rfl
  · intro w hSw; (try dsimp only at hSw); go_simp; try with_reducible rfl
  try simp only [Act.put]
  try simp only [List.setIfInBounds_toArray, List.set_cons_zero, List.set_cons_succ]
  refine reg_call 2 ?_ (by kernel_rfl) ?_ (fun K hK => ?_)
  rotate_left 1
  · simp only [List.getElem?_toArray, List.getElem?_cons_succ, List.getElem?_cons_zero]; exact rfl
  go_simp
  refine (Neg_any _ 128 _ _ (by omega) f1_2.num).mono ?_
  rintro e w4 ⟨m2, o2, n2, c2, rfl, f2_0, hb4⟩
  have hB_5 := hB_4.trans (hb4.mono hB_4.size)
  have fa_5 := fa_4.below hb4
  have pa_4 := pa_3.below hb4
  have f1_3 := f1_2.below hb4
  have pp_2 := pp_1.below hb4
  clear hb4 hB_4 fa_4 pa_3 f1_2 pp_1
  go_wp2_with fail
  refine hK.out _ _ ⟨pa_4.c0, pa_4.c1, pp_2.c0, pp_2.c1⟩ (fun hHeld => ?_)
  clear hK K
  try simp only [Act.put]
  try simp only [List.setIfInBounds_toArray, List.set_cons_zero, List.set_cons_succ]
  refine reg_call 3 ?_ (by kernel_rfl) ?_ (fun K hK => ?_)
  rotate_left 1
  · simp only [List.getElem?_toArray, List.getElem?_cons_succ, List.getElem?_cons_zero]; exact rfl
  go_simp
  refine (wnCmp_is _ _ L 128 X (-170141183460469231731687303715884105728) (-1) _ (by omega) (by omega) fa_5 f2_0.num H1.out).mono ?_
  rintro e w5 ⟨rfl, hb5⟩
  have hB_6 := hB_5.trans (hb5.mono hB_5.size)
  have fa_6 := fa_5.below hb5
  have pa_5 := pa_4.below hb5
  have f1_4 := f1_3.below hb5
  have pp_3 := pp_2.below hb5
  have f2_1 := f2_0.below hb5
  clear hb5 hB_5 fa_5 pa_4 f1_3 pp_2 f2_0
  go_wp2_with fail
  refine hK.out _ _ ⟨pa_5.c0, pa_5.c1, pp_3.c0, pp_3.c1⟩ (fun hHeld => ?_)
  clear hK K
  try simp only [Act.put]
  try simp only [List.setIfInBounds_toArray, List.set_cons_zero, List.set_cons_succ]
  refine reg_take 4 ?_ ?_ ?_ (by kernel_rfl) (by kernel_rfl) (by kernel_rfl) (fun _ _ _ h => h) ?_ ?_ (by assumption) ?_
  rotate_left 2
  · simp only [List.getElem?_toArray, List.getElem?_cons_succ, List.getElem?_cons_zero]; exact rfl
  · rfl
  · intro w hSw; (try dsimp only at hSw); go_simp; try with_reducible rfl
  try simp only [Act.put]
  try simp only [List.setIfInBounds_toArray, List.set_cons_zero, List.set_cons_succ]
  refine reg_take 5 ?_ ?_ ?_ (by kernel_rfl) (by kernel_rfl) (by kernel_rfl) (fun _ _ _ h => h) ?_ ?_ (by assumption) ?_
  rotate_left 2
  · simp only [List.getElem?_toArray, List.getElem?_cons_succ, List.getElem?_cons_zero]; exact rfl
  · rfl
  · intro w hSw; (try dsimp only at hSw); go_simp; try with_reducible rfl
  try simp only [Act.put]
  try simp only [List.setIfInBounds_toArray, List.set_cons_zero, List.set_cons_succ]
  refine reg_skip 6 ?_ ?_ (by kernel_rfl) (by kernel_rfl) (by kernel_rfl) (fun _ _ _ h => h) ?_ (by assumption) ?_
  rotate_left 1
  · simp only [List.getElem?_toArray, List.getElem?_cons_succ, List.getElem?_cons_zero]; exact rfl
  · rfl
  try simp only [Act.put]
  try simp only [List.setIfInBounds_toArray, List.set_cons_zero, List.set_cons_succ]
  refine reg_skip 7 ?_ ?_ (by kernel_rfl) (by kernel_rfl) (by kernel_rfl) (fun _ _ _ h => h) ?_ (by assumption) ?_
  rotate_left 1
  · simp only [List.getElem?_toArray, List.getElem?_cons_succ, List.getElem?_cons_zero]; exact rfl
  · rfl
  try simp only [Act.put]
  try simp only [List.setIfInBounds_toArray, List.set_cons_zero, List.set_cons_succ]
  refine reg_skip 8 ?_ ?_ (by kernel_rfl) (by kernel_rfl) (by kernel_rfl) (fun _ _ _ h => h) ?_ (by assumption) ?_
  rotate_left 1
  · simp only [List.getElem?_toArray, List.getElem?_cons_succ, List.getElem?_cons_zero]; exact rfl
  · rfl
  try simp only [Act.put]
  try simp only [List.setIfInBounds_toArray, List.set_cons_zero, List.set_cons_succ]
  refine reg_skip 9 ?_ ?_ (by kernel_rfl) (by kernel_rfl) (by kernel_rfl) (fun _ _ _ h => h) ?_ (by assumption) ?_
  rotate_left 1
  · simp only [List.getElem?_toArray, List.getElem?_cons_succ, List.getElem?_cons_zero]; exact rfl
  · rfl
  try simp only [Act.put]
  try simp only [List.setIfInBounds_toArray, List.set_cons_zero, List.set_cons_succ]
  refine reg_take 10 ?_ ?_ ?_ (by kernel_rfl) (by kernel_rfl) (by kernel_rfl) (fun _ _ _ h => h) ?_ ?_ (by assumption) ?_
  rotate_left 2
  · simp only [List.getElem?_toArray, List.getElem?_cons_succ, List.getElem?_cons_zero]; exact rfl
  · rfl
  · intro w hSw; (try dsimp only at hSw); go_simp; try with_reducible rfl
  try simp only [Act.put]
  try simp only [List.setIfInBounds_toArray, List.set_cons_zero, List.set_cons_succ]
  refine reg_take 11 ?_ ?_ ?_ (by kernel_rfl) (by kernel_rfl) (by kernel_rfl) (fun _ _ _ h => h) ?_ ?_ (by assumption) ?_
  rotate_left 2
  · simp only [List.getElem?_toArray, List.getElem?_cons_succ, List.getElem?_cons_zero]; exact rfl
  · rfl
  · intro w hSw; (try dsimp only at hSw); go_simp; try with_reducible rfl
  try simp only [Act.put]
  try simp only [List.setIfInBounds_toArray, List.set_cons_zero, List.set_cons_succ]
  refine wpAnyH_done (by kernel_rfl) ?_ _
  refine NoPanic.normal ?_
  go_wp2
  go_ret
  exact ⟨rfl, hB_6⟩
set_option maxHeartbeats 4000000 in
theorem fits_pz (am : Bool) (ao : Option Addr) (an ac : Nat) (L : Nat) (X : Int) (w : World) (hL : L ≤ 4000000000) (fa_0 : Num w (.agg #[.bool am, .slice ao an ac]) L X) (h1 : icmp X (-170141183460469231731687303715884105728) = 1) (h2 : icmp X 170141183460469231731687303715884105728 = 0) :
    Calls Try.prog 17 #[.agg #[.bool am, .slice ao an ac]] w fun e w' => e = .returned (.bool false) ∧ Below w.heap.size w w' := by
  have hB_0 := Below.refl w.heap.size w
  have H1 := Lib.hid h1; clear h1
  have H2 := Lib.hid h2; clear h2
  obtain ⟨w1, hw1, pa_0, hb1, hs1⟩ := new_box w (w.heap.size) rfl [.bool am, .slice ao an ac] 29
  have hb1' : Below w.heap.size w w1 := hb1.mono (by omega)
  clear hb1
  have hB_1 := hB_0.trans (hb1'.mono hB_0.size)
  have fa_1 := fa_0.below hb1'
  clear hb1' hB_0 fa_0
  go_enter Try.func17, Try.ntmps17
  obtain ⟨pae0, pae1, pae2, pae3⟩ := pa_0.open2
  go_wp2_with fail
  refine (power_127 _).mono ?_
  rintro e w2 ⟨m1, o1, n1, c1, rfl, f1_0, hb2⟩
  clear pae0 pae1 pae2 pae3
  have hB_2 := hB_1.trans (hb2.mono hB_1.size)
  have fa_2 := fa_1.below hb2
  have pa_1 := pa_0.below hb2
  clear hb2 hB_1 fa_1 pa_0
  obtain ⟨pae0, pae1, pae2, pae3⟩ := pa_1.open2
  clear pae0 pae1 pae2 pae3
  have hl1pa := pa_1.lt
  have hl1B := hB_2.size
  obtain ⟨w3, hw3, pp_0, hb3, hs3⟩ := new_box w2 (w2.heap.size) rfl [.bool m1, .slice o1 n1 c1] 29
  have hb3' : Below w2.heap.size w2 w3 := hb3.mono (by omega)
  clear hb3
  have hB_3 := hB_2.trans (hb3'.mono hB_2.size)
  have fa_3 := fa_2.below hb3'
  have pa_2 := pa_1.below hb3'
  have f1_1 := f1_0.below hb3'
  clear hb3' hB_2 fa_2 pa_1 f1_0
  obtain ⟨pae0, pae1, pae2, pae3⟩ := pa_2.open2
  obtain ⟨ppe0, ppe1, ppe2, ppe3⟩ := pp_0.open2
  go_wp2
  clear pae0 pae1 pae2 pae3 ppe0 ppe1 ppe2 ppe3
  have hB_4 := hB_3.drew'
  have fa_4 := fa_3.drew
  have pa_3 := pa_2.drew
  have f1_2 := f1_1.drew
  have pp_1 := pp_0.drew
  clear hB_3 fa_3 pa_2 f1_1 pp_0
  go_region_held3 (fun w' => w'.cell? ⟨w.heap.size, 0, none⟩ = some (.bool am) ∧ w'.cell? ⟨w.heap.size, 1, none⟩ = some (.slice ao an ac) ∧ w'.cell? ⟨w2.heap.size, 0, none⟩ = some (.bool m1) ∧ w'.cell? ⟨w2.heap.size, 1, none⟩ = some (.slice o1 n1 c1))
    (first | with_reducible exact ⟨pa_3.c0, pa_3.c1, pp_1.c0, pp_1.c1⟩ | with_reducible exact ⟨pa_4.c0, pa_4.c1, pp_2.c0, pp_2.c1⟩ | with_reducible exact ⟨pa_5.c0, pa_5.c1, pp_3.c0, pp_3.c1⟩ | with_reducible exact ⟨pa_6.c0, pa_6.c1, pp_4.c0, pp_4.c1⟩ | fail)
    (first
      | (go_at_call 16; (with_reducible refine (Neg_any _ 128 _ _ (by omega) f1_2.num).mono ?_); rintro e w4 ⟨m2, o2, n2, c2, rfl, f2_0, hb4⟩; have hB_5 := hB_4.trans (hb4.mono hB_4.size); have fa_5 := fa_4.below hb4; have pa_4 := pa_3.below hb4; have f1_3 := f1_2.below hb4; have pp_2 := pp_1.below hb4; clear hb4 hB_4 fa_4 pa_3 f1_2 pp_1)
      | (go_at_call 21; (with_reducible refine (wnCmp_is _ _ L 128 X (-170141183460469231731687303715884105728) (1) _ (by omega) (by omega) fa_5 f2_0.num H1.out).mono ?_); rintro e w5 ⟨rfl, hb5⟩; have hB_6 := hB_5.trans (hb5.mono hB_5.size); have fa_6 := fa_5.below hb5; have pa_5 := pa_4.below hb5; have f1_4 := f1_3.below hb5; have pp_3 := pp_2.below hb5; have f2_1 := f2_0.below hb5; clear hb5 hB_5 fa_5 pa_4 f1_3 pp_2 f2_0)
      | (go_at_call 21; (with_reducible refine (wnCmp_is _ _ L 128 X 170141183460469231731687303715884105728 (0) _ (by omega) (by omega) fa_6 f1_4.num H2.out).mono ?_); rintro e w6 ⟨rfl, hb6⟩; have hB_7 := hB_6.trans (hb6.mono hB_6.size); have fa_7 := fa_6.below hb6; have pa_6 := pa_5.below hb6; have f1_5 := f1_4.below hb6; have pp_4 := pp_3.below hb6; have f2_2 := f2_1.below hb6; clear hb6 hB_6 fa_6 pa_5 f1_4 pp_3 f2_1))
  go_wp2
  go_ret
  exact ⟨rfl, hB_7⟩
set_option maxHeartbeats 4000000 in
theorem fits_pp (am : Bool) (ao : Option Addr) (an ac : Nat) (L : Nat) (X : Int) (w : World) (hL : L ≤ 4000000000) (fa_0 : Num w (.agg #[.bool am, .slice ao an ac]) L X) (h1 : icmp X (-170141183460469231731687303715884105728) = 1) (h2 : icmp X 170141183460469231731687303715884105728 = 1) :
    Calls Try.prog 17 #[.agg #[.bool am, .slice ao an ac]] w fun e w' => e = .returned (.bool false) ∧ Below w.heap.size w w' := by
  have hB_0 := Below.refl w.heap.size w
  have H1 := Lib.hid h1; clear h1
  have H2 := Lib.hid h2; clear h2
  obtain ⟨w1, hw1, pa_0, hb1, hs1⟩ := new_box w (w.heap.size) rfl [.bool am, .slice ao an ac] 29
  have hb1' : Below w.heap.size w w1 := hb1.mono (by omega)
  clear hb1
  have hB_1 := hB_0.trans (hb1'.mono hB_0.size)
  have fa_1 := fa_0.below hb1'
  clear hb1' hB_0 fa_0
  go_enter Try.func17, Try.ntmps17
  obtain ⟨pae0, pae1, pae2, pae3⟩ := pa_0.open2
  go_wp2_with fail
  refine (power_127 _).mono ?_
  rintro e w2 ⟨m1, o1, n1, c1, rfl, f1_0, hb2⟩
  clear pae0 pae1 pae2 pae3
  have hB_2 := hB_1.trans (hb2.mono hB_1.size)
  have fa_2 := fa_1.below hb2
  have pa_1 := pa_0.below hb2
  clear hb2 hB_1 fa_1 pa_0
  obtain ⟨pae0, pae1, pae2, pae3⟩ := pa_1.open2
  clear pae0 pae1 pae2 pae3
  have hl1pa := pa_1.lt
  have hl1B := hB_2.size
  obtain ⟨w3, hw3, pp_0, hb3, hs3⟩ := new_box w2 (w2.heap.size) rfl [.bool m1, .slice o1 n1 c1] 29
  have hb3' : Below w2.heap.size w2 w3 := hb3.mono (by omega)
  clear hb3
  have hB_3 := hB_2.trans (hb3'.mono hB_2.size)
  have fa_3 := fa_2.below hb3'
  have pa_2 := pa_1.below hb3'
  have f1_1 := f1_0.below hb3'
  clear hb3' hB_2 fa_2 pa_1 f1_0
  obtain ⟨pae0, pae1, pae2, pae3⟩ := pa_2.open2
  obtain ⟨ppe0, ppe1, ppe2, ppe3⟩ := pp_0.open2
  go_wp2
  clear pae0 pae1 pae2 pae3 ppe0 ppe1 ppe2 ppe3
  have hB_4 := hB_3.drew'
  have fa_4 := fa_3.drew
  have pa_3 := pa_2.drew
  have f1_2 := f1_1.drew
  have pp_1 := pp_0.drew
  clear hB_3 fa_3 pa_2 f1_1 pp_0
  go_region_held3 (fun w' => w'.cell? ⟨w.heap.size, 0, none⟩ = some (.bool am) ∧ w'.cell? ⟨w.heap.size, 1, none⟩ = some (.slice ao an ac) ∧ w'.cell? ⟨w2.heap.size, 0, none⟩ = some (.bool m1) ∧ w'.cell? ⟨w2.heap.size, 1, none⟩ = some (.slice o1 n1 c1))
    (first | with_reducible exact ⟨pa_3.c0, pa_3.c1, pp_1.c0, pp_1.c1⟩ | with_reducible exact ⟨pa_4.c0, pa_4.c1, pp_2.c0, pp_2.c1⟩ | with_reducible exact ⟨pa_5.c0, pa_5.c1, pp_3.c0, pp_3.c1⟩ | with_reducible exact ⟨pa_6.c0, pa_6.c1, pp_4.c0, pp_4.c1⟩ | fail)
    (first
      | (go_at_call 16; (with_reducible refine (Neg_any _ 128 _ _ (by omega) f1_2.num).mono ?_); rintro e w4 ⟨m2, o2, n2, c2, rfl, f2_0, hb4⟩; have hB_5 := hB_4.trans (hb4.mono hB_4.size); have fa_5 := fa_4.below hb4; have pa_4 := pa_3.below hb4; have f1_3 := f1_2.below hb4; have pp_2 := pp_1.below hb4; clear hb4 hB_4 fa_4 pa_3 f1_2 pp_1)
      | (go_at_call 21; (with_reducible refine (wnCmp_is _ _ L 128 X (-170141183460469231731687303715884105728) (1) _ (by omega) (by omega) fa_5 f2_0.num H1.out).mono ?_); rintro e w5 ⟨rfl, hb5⟩; have hB_6 := hB_5.trans (hb5.mono hB_5.size); have fa_6 := fa_5.below hb5; have pa_5 := pa_4.below hb5; have f1_4 := f1_3.below hb5; have pp_3 := pp_2.below hb5; have f2_1 := f2_0.below hb5; clear hb5 hB_5 fa_5 pa_4 f1_3 pp_2 f2_0)
      | (go_at_call 21; (with_reducible refine (wnCmp_is _ _ L 128 X 170141183460469231731687303715884105728 (1) _ (by omega) (by omega) fa_6 f1_4.num H2.out).mono ?_); rintro e w6 ⟨rfl, hb6⟩; have hB_7 := hB_6.trans (hb6.mono hB_6.size); have fa_7 := fa_6.below hb6; have pa_6 := pa_5.below hb6; have f1_5 := f1_4.below hb6; have pp_4 := pp_3.below hb6; have f2_2 := f2_1.below hb6; clear hb6 hB_6 fa_6 pa_5 f1_4 pp_3 f2_1))
  go_wp2
  go_ret
  exact ⟨rfl, hB_7⟩
theorem fits_any (va : Value) (L : Nat) (X : Int) (w : World) (hL : L ≤ 4000000000) (ha : RNum w va L X) :
    Calls Try.prog 17 #[va] w fun e w' => e = .returned (.bool (decide (InW X))) ∧ Below w.heap.size w w' := by
  have hn := ha.num
  obtain ⟨m, vm, N, rfl, hm, hX⟩ := hn
  obtain ⟨ao, n, c, f, rfl, _⟩ := hm
  have hn := ha.num
  by_cases c1 : X < -170141183460469231731687303715884105728
  · rw [decide_eq_false (by unfold InW; omega)]; exact fits_n m ao n c L X w hL hn (icmp_lt c1)
  · by_cases c2 : X = -170141183460469231731687303715884105728
    · rw [decide_eq_true (by unfold InW; omega)]; exact fits_zn m ao n c L X w hL hn (by rw [c2]; exact icmp_self _) (icmp_lt (by omega))
    · have c3 : -170141183460469231731687303715884105728 < X := by omega
      rcases Int.lt_trichotomy X 170141183460469231731687303715884105728 with d | d | d
      · rw [decide_eq_true (by unfold InW; omega)]; exact fits_pn m ao n c L X w hL hn (icmp_gt c3) (icmp_lt d)
      · rw [decide_eq_false (by unfold InW; omega)]; exact fits_pz m ao n c L X w hL hn (icmp_gt c3) (by rw [d]; exact icmp_self _)
      · rw [decide_eq_false (by unfold InW; omega)]; exact fits_pp m ao n c L X w hL hn (icmp_gt c3) (icmp_gt d)
set_option maxHeartbeats 4000000 in
theorem is_yes (am : Bool) (ao : Option Addr) (an ac : Nat) (L : Nat) (X : Int) (w : World) (hL : L ≤ 4000000000) (fa_0 : RNum w (.agg #[.bool am, .slice ao an ac]) L X) (hX : InW X) :
    Calls Try.prog 13 #[.agg #[.int .u64 ((wh (X) : Nat) : Int), .int .u64 ((wl (X) : Nat) : Int)], .bool true, .agg #[.bool am, .slice ao an ac]] w fun e w' => e = .returned (.bool true) ∧ Below w.heap.size w w' := by
  have hB_0 := Below.refl w.heap.size w
  have HX := Lib.hid hX; clear hX
  have cF : ∀ va w, RNum w va L X → Calls Try.prog 17 #[va] w fun e w' => e = .returned (.bool true) ∧ Below w.heap.size w w' := by
    intro va w h; have := fits_any va L X w hL h; rwa [decide_eq_true HX.out] at this
  have CF := Lib.hid cF; clear cF
  obtain ⟨w1, hw1, pw_0, hb1, hs1⟩ := new_box w (w.heap.size) rfl [.int .u64 ((wh (X) : Nat) : Int), .int .u64 ((wl (X) : Nat) : Int)] 24
  have hb1' : Below w.heap.size w w1 := hb1.mono (by omega)
  clear hb1
  have hB_1 := hB_0.trans (hb1'.mono hB_0.size)
  have fa_1 := fa_0.below hb1'
  clear hb1' hB_0 fa_0
  obtain ⟨w2, hw2, pa_0, hb2, hs2⟩ := new_box w1 (w.heap.size + 1) hs1 [.bool am, .slice ao an ac] 29
  have hb2' : Below w1.heap.size w1 w2 := hb2.mono (by omega)
  clear hb2
  have hB_2 := hB_1.trans (hb2'.mono hB_1.size)
  have fa_2 := fa_1.below hb2'
  have pw_1 := pw_0.below hb2'
  clear hb2' hB_1 fa_1 pw_0
  go_enter Try.func13, Try.ntmps13
  obtain ⟨pwe0, pwe1, pwe2, pwe3⟩ := pw_1.open2
  obtain ⟨pae0, pae1, pae2, pae3⟩ := pa_0.open2
  go_wp2_with fail
  refine (CF.out _ _ fa_2).mono ?_
  rintro e w3 ⟨rfl, hb3⟩
  clear pwe0 pwe1 pwe2 pwe3 pae0 pae1 pae2 pae3
  have hB_3 := hB_2.trans (hb3.mono hB_2.size)
  have fa_3 := fa_2.below hb3
  have pw_2 := pw_1.below hb3
  have pa_1 := pa_0.below hb3
  clear hb3 hB_2 fa_2 pw_1 pa_0
  obtain ⟨pwe0, pwe1, pwe2, pwe3⟩ := pw_2.open2
  obtain ⟨pae0, pae1, pae2, pae3⟩ := pa_1.open2
  go_wp2
  clear pwe0 pwe1 pwe2 pwe3 pae0 pae1 pae2 pae3
  have hB_4 := hB_3.drew'
  have fa_4 := fa_3.drew
  have pw_3 := pw_2.drew
  have pa_2 := pa_1.drew
  clear hB_3 fa_3 pw_2 pa_1
  go_region_held3 (fun w' => w'.cell? ⟨w.heap.size, 0, none⟩ = some (.int .u64 ((wh (X) : Nat) : Int)) ∧ w'.cell? ⟨w.heap.size, 1, none⟩ = some (.int .u64 ((wl (X) : Nat) : Int)) ∧ w'.cell? ⟨w.heap.size + 1, 0, none⟩ = some (.bool am) ∧ w'.cell? ⟨w.heap.size + 1, 1, none⟩ = some (.slice ao an ac))
    (first | with_reducible exact ⟨pw_3.c0, pw_3.c1, pa_2.c0, pa_2.c1⟩ | with_reducible exact ⟨pw_4.c0, pw_4.c1, pa_3.c0, pa_3.c1⟩ | with_reducible exact ⟨pw_5.c0, pw_5.c1, pa_4.c0, pa_4.c1⟩ | fail)
    (first
      | (go_at_call 9; (with_reducible refine (wNum_any X HX.out _).mono ?_); rintro e w4 ⟨m1, o1, n1, c1, rfl, f1_0, hb4⟩; have hB_5 := hB_4.trans (hb4.mono hB_4.size); have fa_5 := fa_4.below hb4; have pw_4 := pw_3.below hb4; have pa_3 := pa_2.below hb4; clear hb4 hB_4 fa_4 pw_3 pa_2)
      | (go_at_call 21; (with_reducible refine (wnCmp_is _ _ 2 L X X 0 _ (by omega) (by omega) f1_0.num fa_5.num (icmp_self _)).mono ?_); rintro e w5 ⟨rfl, hb5⟩; have hB_6 := hB_5.trans (hb5.mono hB_5.size); have fa_6 := fa_5.below hb5; have pw_5 := pw_4.below hb5; have pa_4 := pa_3.below hb5; have f1_1 := f1_0.below hb5; clear hb5 hB_5 fa_5 pw_4 pa_3 f1_0))
  go_wp2
  go_ret
  exact ⟨rfl, hB_6⟩
set_option maxHeartbeats 4000000 in
theorem is_no (am : Bool) (ao : Option Addr) (an ac : Nat) (L : Nat) (X : Int) (w : World) (hL : L ≤ 4000000000) (fa_0 : RNum w (.agg #[.bool am, .slice ao an ac]) L X) (hX : ¬ InW X) :
    Calls Try.prog 13 #[.agg #[.int .u64 0, .int .u64 0], .bool false, .agg #[.bool am, .slice ao an ac]] w fun e w' => e = .returned (.bool true) ∧ Below w.heap.size w w' := by
  have hB_0 := Below.refl w.heap.size w
  have HX := Lib.hid hX; clear hX
  have cF : ∀ va w, RNum w va L X → Calls Try.prog 17 #[va] w fun e w' => e = .returned (.bool false) ∧ Below w.heap.size w w' := by
    intro va w h; have := fits_any va L X w hL h; rwa [decide_eq_false HX.out] at this
  have CF := Lib.hid cF; clear cF
  obtain ⟨w1, hw1, pw_0, hb1, hs1⟩ := new_box w (w.heap.size) rfl [.int .u64 0, .int .u64 0] 24
  have hb1' : Below w.heap.size w w1 := hb1.mono (by omega)
  clear hb1
  have hB_1 := hB_0.trans (hb1'.mono hB_0.size)
  have fa_1 := fa_0.below hb1'
  clear hb1' hB_0 fa_0
  obtain ⟨w2, hw2, pa_0, hb2, hs2⟩ := new_box w1 (w.heap.size + 1) hs1 [.bool am, .slice ao an ac] 29
  have hb2' : Below w1.heap.size w1 w2 := hb2.mono (by omega)
  clear hb2
  have hB_2 := hB_1.trans (hb2'.mono hB_1.size)
  have fa_2 := fa_1.below hb2'
  have pw_1 := pw_0.below hb2'
  clear hb2' hB_1 fa_1 pw_0
  go_enter Try.func13, Try.ntmps13
  obtain ⟨pwe0, pwe1, pwe2, pwe3⟩ := pw_1.open2
  obtain ⟨pae0, pae1, pae2, pae3⟩ := pa_0.open2
  go_wp2_with fail
  refine (CF.out _ _ fa_2).mono ?_
  rintro e w3 ⟨rfl, hb3⟩
  clear pwe0 pwe1 pwe2 pwe3 pae0 pae1 pae2 pae3
  have hB_3 := hB_2.trans (hb3.mono hB_2.size)
  have fa_3 := fa_2.below hb3
  have pw_2 := pw_1.below hb3
  have pa_1 := pa_0.below hb3
  clear hb3 hB_2 fa_2 pw_1 pa_0
  obtain ⟨pwe0, pwe1, pwe2, pwe3⟩ := pw_2.open2
  obtain ⟨pae0, pae1, pae2, pae3⟩ := pa_1.open2
  go_wp2
  go_ret
  exact ⟨rfl, hB_3⟩
theorem is_same {X Y : Int} (va : Value) (L : Nat) (w : World) (hL : L ≤ 4000000000) (ha : RNum w va L X) (e : X = Y) :
    Calls Try.prog 13 #[.agg #[.int .u64 ((wh (fitW Y) : Nat) : Int), .int .u64 ((wl (fitW Y) : Nat) : Int)], .bool (decide (InW Y)), va] w fun e w' => e = .returned (.bool true) ∧ Below w.heap.size w w' := by
  subst e
  have hn := ha.num
  obtain ⟨m, vm, N, rfl, hm, hX⟩ := hn
  obtain ⟨ao, n, c, f, rfl, _⟩ := hm
  by_cases h : InW X
  · rw [fitW_yes h, decide_eq_true h]; exact is_yes m ao n c L X w hL ha h
  · rw [fitW_no h, decide_eq_false h, wh_zero, wl_zero]; exact is_no m ao n c L X w hL ha h
end Go.Proofs.Ytkigfccbhkcedaa
