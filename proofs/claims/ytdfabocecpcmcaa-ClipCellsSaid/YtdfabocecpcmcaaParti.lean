/- From the form of the rows to the walks of layer 2: what an argument reads as. -/
import Derived.Test.YtdfabocecpcmcaaRows
import Derived.Test.YtdfabocecpcmcaaParth
import Derived.ProofKit
import Derived.ChangeVars
import Derived.JoinedOf
import Derived.RowKitTokens
import Derived.Lib.SmallJoins
import Derived.Test.YtdfabocecpcmcaaPartg
import Derived.Test.YtdfabocecpcmcaaPartd
import Derived.Test.YtdfabocecpcmcaaMath
import Derived.Test.YtdfabocecpcmcaaPartf
namespace Go.Proofs.Ytdfabocecpcmcaa
open Go.ChangeShapes Go.WideShapes Go.RowKit Go.MagM
theorem own0 : ownKnob Try.prog.godebug = none := by kernel_rfl
theorem laidOut0 : laidOutB Try.prog = true := by kernel_rfl
theorem cells42 : Try.prog.cellsOf 82 = 1 := by kernel_rfl
/-- What a list of words reads as: words. -/
theorem view_words {H : Type} {enc : TypeId × Value → H} {W : World} {fuel : Nat} {v : Value} {x : DataW H × List MemPlace}
    (hf : DataW.trod enc Try.prog W 0 (fun _ => true) true fuel 24 [v] = some x) :
    ∃ a0 len cap, v = .slice a0 len cap ∧ len ≤ cap ∧ ∃ f, Reads W a0 len f := by
  obtain ⟨d, p⟩ := x
  rcases open_ints Try.underlying24 Try.underlying82 cells42 hf with ⟨hcs, hx⟩ | ⟨a, len', cap', zs, hcs, _, hl, hm, hz, hx, hcell, hwz⟩
  · simp at hcs
    subst hcs
    exact ⟨_, _, _, rfl, Nat.le_refl _, fun _ => 0, Reads.nil _ _ _⟩
  · simp at hcs
    subst hcs
    simp only [if_true] at hz
    refine ⟨_, _, _, rfl, hl, fun i => (zs.getD i 0).toNat, ?_⟩
    intro i hi
    have hc := hcell i (by omega)
    have hsp := World.cell?_spot (hcell 0 (by omega))
    obtain ⟨b, o, sp⟩ := a
    have hsp' : sp = none := by simpa [Addr.add] using hsp
    subst hsp'
    have hmem : zs.getD i 0 ∈ zs := by
      rw [List.getD_eq_getElem?_getD, List.getElem?_eq_getElem (by omega)]; exact List.getElem_mem _
    have hw := hwz _ hmem
    have hadd : (⟨b, o, none⟩ : Addr).add i = ⟨b, o + i, none⟩ := by unfold Addr.add; split <;> simp_all
    rw [hadd] at hc
    show ∃ b' o', _ ∧ W.cell? ⟨b', o' + i, none⟩ = some (.int .u64 (((zs.getD i 0).toNat : Nat) : Int)) ∧ (zs.getD i 0).toNat < B
    generalize zs.getD i 0 = z at *
    have hr : 0 ≤ z ∧ z < 18446744073709551616 := by
      simp only [Lit.wf, IntKind.min, IntKind.max, IntKind.signed, IntKind.bits, Bool.and_eq_true] at hw
      simp at hw
      omega
    refine ⟨b, o, rfl, ?_, by unfold B; omega⟩
    rw [hc]
    congr 2
    omega
set_option maxRecDepth 100000 in
/-- What a Num reads as: a sign and words. -/
theorem view_num {H : Type} {enc : TypeId × Value → H} {W : World} {b0 : Nat} {v : Value} {d : DataW H} {p : List MemPlace} (hv : Value.okWide Try.prog W .any b0 26 v)
    (h : DataW.Trod enc Try.prog W 0 (fun _ => true) true 26 v d p) :
    ∃ m ao n c f, v = .agg #[.bool m, .slice ao n c] ∧ n ≤ c ∧ Reads W ao n f := by
  obtain ⟨v0, v1, y0, y1, k, rfl, _, _, h0, h1⟩ := Joins.open_agg2 Try.underlying26 (by kernel_rfl) (by kernel_rfl) hv h
  obtain ⟨m, hm, _⟩ := DataW.trod_bool Try.underlying4 h0
  simp at hm
  subst hm
  obtain ⟨ao, n, c, rfl, hc, f, hr⟩ := view_words h1
  exact ⟨m, ao, n, c, f, rfl, hc, hr⟩
theorem int_range {x : Int} (h : (Lit.int .i64 x).wf = true) : -9223372036854775808 ≤ x ∧ x < 9223372036854775808 := by
  simp only [Lit.wf, IntKind.min, IntKind.max, IntKind.signed, IntKind.bits, Bool.and_eq_true, decide_eq_true_eq] at h
  simp at h
  omega
end Go.Proofs.Ytdfabocecpcmcaa
/- Boxes of any number of cells. Over any program. -/
namespace Go.MagM
open Go.RowKit
/-- Block g is a box that holds vs, and may be written. -/
structure Box (w : World) (g : Nat) (vs : List Value) : Prop where
  c : ∀ i v, vs[i]? = some v → w.cell? ⟨g, i, none⟩ = some v
  f : ∀ i v, vs[i]? = some v → w.frozen? ⟨g, i, none⟩ = false
theorem Box.below {w w' : World} {g : Nat} {vs : List Value} (h : Box w g vs) (hb : Below w.heap.size w w') : Box w' g vs :=
  ⟨fun i v hi => (hb.cell (p := ⟨g, i, none⟩) (World.block_lt_of_cell? w _ (h.c i v hi))).trans (h.c i v hi),
    fun i v hi => (hb.frozen (p := ⟨g, i, none⟩) (World.block_lt_of_cell? w _ (h.c i v hi))).trans (h.f i v hi)⟩
theorem Box.drew {w : World} {g : Nat} {vs : List Value} (h : Box w g vs) : Box w.drew g vs := ⟨h.c, h.f⟩
theorem Box.drewN {w : World} {g : Nat} {vs : List Value} (h : Box w g vs) (n : Nat) : Box (w.drewN n) g vs := ⟨h.c, h.f⟩
theorem Box.lt {w : World} {g : Nat} {v : Value} {vs : List Value} (h : Box w g (v :: vs)) : g < w.heap.size := World.block_lt_of_cell? w _ (h.c 0 v rfl)
theorem Box.set {w : World} {g : Nat} {vs : List Value} (h : Box w g vs) (i : Nat) (x : Value) : Box (w.setCell ⟨g, i, none⟩ x) g (vs.set i x) := by
  refine ⟨fun j v hj => ?_, fun j v hj => ?_⟩
  · rw [List.getElem?_set] at hj
    by_cases e : i = j
    · subst e
      rw [if_pos rfl] at hj
      split at hj
      · next hl =>
        simp at hj; subst hj
        exact World.cell?_setCell_same _ _ _ (h.c i _ (List.getElem?_eq_getElem hl))
      · cases hj
    · rw [if_neg e] at hj
      have ne : (⟨g, i, none⟩ : Addr) ≠ ⟨g, j, none⟩ := by intro k; injection k with k1 k2; exact e k2
      rw [World.cell?_setCell_other _ _ _ _ (by first | exact ne | exact ne.symm)]; exact h.c j v hj
  · rw [World.frozen?_setCell]
    rw [List.getElem?_set] at hj
    by_cases e : i = j
    · subst e
      rw [if_pos rfl] at hj
      split at hj
      · next hl => exact h.f i _ (List.getElem?_eq_getElem hl)
      · cases hj
    · rw [if_neg e] at hj; exact h.f j v hj
theorem Box.far {w : World} {g g' : Nat} {vs : List Value} (h : Box w g vs) (hne : g ≠ g') (i : Nat) (x : Value) : Box (w.setCell ⟨g', i, none⟩ x) g vs := by
  refine ⟨fun j v hj => ?_, fun j v hj => (World.frozen?_setCell _ _ _ _).trans (h.f j v hj)⟩
  have ne : (⟨g', i, none⟩ : Addr) ≠ ⟨g, j, none⟩ := by intro k; injection k with k1; exact hne k1.symm
  rw [World.cell?_setCell_other _ _ _ _ (by first | exact ne | exact ne.symm)]; exact h.c j v hj
theorem box_new (w : World) (vs : List Value) (T : TypeId) : Box (w.alloc (.cells vs.toArray T)) w.heap.size vs := by
  refine ⟨fun i v hi => ?_, fun i v hi => ?_⟩
  · simp [go_sem, hi]
  · simp [go_sem]
theorem Box.two {w : World} {g : Nat} {u v : Value} (h : Box w g [u, v]) : Box2 w g u v := ⟨h.c 0 _ rfl, h.c 1 _ rfl, h.f 0 _ rfl, h.f 1 _ rfl⟩
end Go.MagM
/- Boxes of any number of cells, written whole; what stays where a box is written. Over any program. -/
namespace Go.MagM
open Go.RowKit
/-- Cells i, i + 1, .. of block g are written. -/
def setAll (w : World) (g : Nat) : Nat → List Value → World
  | _, [] => w
  | i, x :: xs => setAll (w.setCell ⟨g, i, none⟩ x) g (i + 1) xs
theorem new_box (w : World) (n : Nat) (hn : w.heap.size = n) (vs : List Value) (T : TypeId) :
    ∃ w1, w.alloc (.cells vs.toArray T) = w1 ∧ Box w1 n vs ∧ Below n w w1 ∧ w1.heap.size = n + 1 := by
  subst hn
  exact ⟨_, rfl, box_new w vs T, (Below.refl _ _).alloc (Nat.le_refl _) _, by simp⟩
theorem Box.c0 {w : World} {g : Nat} {u : Value} {l : List Value} (h : Box w g (u :: l)) : w.cell? ⟨g, 0, none⟩ = some u := h.c 0 _ rfl
theorem Box.c1 {w : World} {g : Nat} {u0 u : Value} {l : List Value} (h : Box w g (u0 :: u :: l)) : w.cell? ⟨g, 1, none⟩ = some u := h.c 1 _ rfl
theorem Box.c2 {w : World} {g : Nat} {u0 u1 u : Value} {l : List Value} (h : Box w g (u0 :: u1 :: u :: l)) : w.cell? ⟨g, 2, none⟩ = some u := h.c 2 _ rfl
theorem Box.c3 {w : World} {g : Nat} {u0 u1 u2 u : Value} {l : List Value} (h : Box w g (u0 :: u1 :: u2 :: u :: l)) : w.cell? ⟨g, 3, none⟩ = some u := h.c 3 _ rfl
theorem Box.c4 {w : World} {g : Nat} {u0 u1 u2 u3 u : Value} {l : List Value} (h : Box w g (u0 :: u1 :: u2 :: u3 :: u :: l)) : w.cell? ⟨g, 4, none⟩ = some u := h.c 4 _ rfl
theorem Box.c5 {w : World} {g : Nat} {u0 u1 u2 u3 u4 u : Value} {l : List Value} (h : Box w g (u0 :: u1 :: u2 :: u3 :: u4 :: u :: l)) : w.cell? ⟨g, 5, none⟩ = some u := h.c 5 _ rfl
theorem Box.open1 {w : World} {g : Nat} {u0 : Value} (h : Box w g [u0]) : w.cell? ⟨g, 0, none⟩ = some u0 ∧ w.frozen? ⟨g, 0, none⟩ = false := ⟨h.c 0 _ rfl, h.f 0 _ rfl⟩
theorem Box.open2 {w : World} {g : Nat} {u0 u1 : Value} (h : Box w g [u0, u1]) : w.cell? ⟨g, 0, none⟩ = some u0 ∧ w.cell? ⟨g, 1, none⟩ = some u1 ∧ w.frozen? ⟨g, 0, none⟩ = false ∧ w.frozen? ⟨g, 1, none⟩ = false := ⟨h.c 0 _ rfl, h.c 1 _ rfl, h.f 0 _ rfl, h.f 1 _ rfl⟩
theorem Box.open3 {w : World} {g : Nat} {u0 u1 u2 : Value} (h : Box w g [u0, u1, u2]) : w.cell? ⟨g, 0, none⟩ = some u0 ∧ w.cell? ⟨g, 1, none⟩ = some u1 ∧ w.cell? ⟨g, 2, none⟩ = some u2 ∧ w.frozen? ⟨g, 0, none⟩ = false ∧ w.frozen? ⟨g, 1, none⟩ = false ∧ w.frozen? ⟨g, 2, none⟩ = false :=
  ⟨h.c 0 _ rfl, h.c 1 _ rfl, h.c 2 _ rfl, h.f 0 _ rfl, h.f 1 _ rfl, h.f 2 _ rfl⟩
/-- What a store of two cells wants behind its first one. -/
theorem Box.put2 {w : World} {g : Nat} {u0 u1 : Value} (h : Box w g [u0, u1]) (x0 : Value) : (w.setCell ⟨g, 0, none⟩ x0).cell? ⟨g, 1, none⟩ = some u1 ∧ (w.setCell ⟨g, 0, none⟩ x0).frozen? ⟨g, 1, none⟩ = false :=
  ⟨(h.set 0 x0).c 1 _ rfl, (h.set 0 x0).f 1 _ rfl⟩
theorem Box.put3 {w : World} {g : Nat} {u0 u1 u2 : Value} (h : Box w g [u0, u1, u2]) (x0 x1 : Value) : (w.setCell ⟨g, 0, none⟩ x0).cell? ⟨g, 1, none⟩ = some u1 ∧ (w.setCell ⟨g, 0, none⟩ x0).frozen? ⟨g, 1, none⟩ = false ∧
    ((w.setCell ⟨g, 0, none⟩ x0).setCell ⟨g, 1, none⟩ x1).cell? ⟨g, 2, none⟩ = some u2 ∧ ((w.setCell ⟨g, 0, none⟩ x0).setCell ⟨g, 1, none⟩ x1).frozen? ⟨g, 2, none⟩ = false :=
  ⟨(h.set 0 x0).c 1 _ rfl, (h.set 0 x0).f 1 _ rfl, ((h.set 0 x0).set 1 x1).c 2 _ rfl, ((h.set 0 x0).set 1 x1).f 2 _ rfl⟩
theorem Box.setTail {g : Nat} : ∀ (xs : List Value) (pre vs : List Value) (w : World), vs.length = xs.length → Box w g (pre ++ vs) → Box (setAll w g pre.length xs) g (pre ++ xs)
  | [], pre, vs, w, hl, h => by
    have : vs = [] := List.length_eq_zero_iff.1 hl
    subst this; exact h
  | x :: xs, pre, [], w, hl, h => by simp at hl
  | x :: xs, pre, v :: vs, w, hl, h => by
    have e : (pre ++ v :: vs).set pre.length x = (pre ++ [x]) ++ vs := by simp
    have h1 := h.set pre.length x
    rw [e] at h1
    have := Box.setTail xs (pre ++ [x]) vs _ (by simpa using hl) h1
    simpa [setAll] using this
/-- A box is written whole. -/
theorem Box.setAll {w : World} {g : Nat} {vs : List Value} (h : Box w g vs) (xs : List Value) (hl : vs.length = xs.length) : Box (setAll w g 0 xs) g xs := Box.setTail xs [] vs w hl h
theorem Box.farFrom {g g' : Nat} (hne : g ≠ g') : ∀ (xs : List Value) (i : Nat) {w : World} {vs : List Value}, Box w g vs → Box (Go.MagM.setAll w g' i xs) g vs
  | [], _, _, _, h => h
  | x :: xs, i, _, _, h => Box.farFrom hne xs (i + 1) (h.far hne i x)
theorem Box.farAll {w : World} {g : Nat} {vs : List Value} (h : Box w g vs) {g' : Nat} (hne : g ≠ g') (xs : List Value) : Box (Go.MagM.setAll w g' 0 xs) g vs := Box.farFrom hne xs 0 h
theorem below_setFrom {M g : Nat} (hg : M ≤ g) {w : World} : ∀ (xs : List Value) (i : Nat) {w' : World}, Below M w w' → Below M w (setAll w' g i xs)
  | [], _, _, h => h
  | x :: xs, i, _, h => below_setFrom hg xs (i + 1) (h.setCell (p := ⟨g, i, none⟩) hg x)
theorem below_setAll {M : Nat} {w w' : World} (h : Below M w w') {g : Nat} (hg : M ≤ g) (xs : List Value) : Below M w (setAll w' g 0 xs) := below_setFrom hg xs 0 h
/-- No word. -/
def NoWord (u : Value) : Prop := ∀ x, u ≠ .int .u64 x
theorem NoWord.bool (b : Bool) : NoWord (.bool b) := fun _ h => by cases h
theorem NoWord.slice (a : Option Addr) (n c : Nat) : NoWord (.slice a n c) := fun _ h => by cases h
theorem NoWord.int (x : Int) : NoWord (.int .i64 x) := fun _ h => by cases h
theorem Reads.setOne {w : World} {ao : Option Addr} {n : Nat} {f : Nat → Nat} (hr : Reads w ao n f) {a : Addr} {u : Value} (hc : w.cell? a = some u) (hu : NoWord u) (v : Value) : Reads (w.setCell a v) ao n f := by
  intro i hi
  obtain ⟨b, o, e, h1, h2⟩ := hr i hi
  refine ⟨b, o, e, ?_, h2⟩
  have ne : a ≠ ⟨b, o + i, none⟩ := by
    intro h; rw [h, h1] at hc
    exact hu _ (Option.some.inj hc).symm
  rw [World.cell?_setCell_other _ _ _ _ (by first | exact ne | exact ne.symm)]; exact h1
/-- Words stay where a box that holds none is written whole. -/
theorem Reads.setTail {ao : Option Addr} {n g : Nat} {f : Nat → Nat} : ∀ (xs : List Value) (pre vs : List Value) {w : World}, vs.length = xs.length → (∀ u ∈ vs, NoWord u) → Box w g (pre ++ vs) → Reads w ao n f → Reads (Go.MagM.setAll w g pre.length xs) ao n f
  | [], _, _, _, _, _, _, h => h
  | x :: xs, pre, [], _, hl, _, _, _ => by simp at hl
  | x :: xs, pre, v :: vs, w, hl, hv, hb, h => by
    have e : (pre ++ v :: vs).set pre.length x = (pre ++ [x]) ++ vs := by simp
    have h1 := hb.set pre.length x
    rw [e] at h1
    have hc : w.cell? ⟨g, pre.length, none⟩ = some v := hb.c pre.length _ (by simp)
    have := Reads.setTail xs (pre ++ [x]) vs (by simpa using hl) (fun u hu => hv u (by simp [hu])) h1 (h.setOne hc (hv v (by simp)) x)
    simpa [Go.MagM.setAll] using this
theorem Reads.setAll {w : World} {ao : Option Addr} {n g : Nat} {f : Nat → Nat} (h : Reads w ao n f) {vs : List Value} (hb : Box w g vs) (hv : ∀ u ∈ vs, NoWord u) (xs : List Value) (hl : vs.length = xs.length) : Reads (Go.MagM.setAll w g 0 xs) ao n f :=
  Reads.setTail xs [] vs hl hv hb h
theorem Mag.setAll {w : World} {v : Value} {L N g : Nat} (h : Mag w v L N) {vs : List Value} (hb : Box w g vs) (hv : ∀ u ∈ vs, NoWord u) (xs : List Value) (hl : vs.length = xs.length) : Mag (Go.MagM.setAll w g 0 xs) v L N := by
  obtain ⟨ao, n, c, f, h1, h2, h3, h4, h5⟩ := h; exact ⟨ao, n, c, f, h1, h2, h3, h4.setAll hb hv xs hl, h5⟩
theorem RMag.setAll {w : World} {v : Value} {L N g : Nat} (h : RMag w v L N) {vs : List Value} (hb : Box w g vs) (hv : ∀ u ∈ vs, NoWord u) (xs : List Value) (hl : vs.length = xs.length) : RMag (Go.MagM.setAll w g 0 xs) v L N := by
  obtain ⟨ao, n, c, f, h1, h2, h3, h4, h5⟩ := h; exact ⟨ao, n, c, f, h1, h2, h3, h4.setAll hb hv xs hl, h5⟩
theorem Num.setAll {w : World} {v : Value} {L g : Nat} {N : Int} (h : Num w v L N) {vs : List Value} (hb : Box w g vs) (hv : ∀ u ∈ vs, NoWord u) (xs : List Value) (hl : vs.length = xs.length) : Num (Go.MagM.setAll w g 0 xs) v L N := by
  obtain ⟨m, vm, M, h1, h2, h3⟩ := h; exact ⟨m, vm, M, h1, h2.setAll hb hv xs hl, h3⟩
theorem RNum.setAll {w : World} {v : Value} {L g : Nat} {N : Int} (h : RNum w v L N) {vs : List Value} (hb : Box w g vs) (hv : ∀ u ∈ vs, NoWord u) (xs : List Value) (hl : vs.length = xs.length) : RNum (Go.MagM.setAll w g 0 xs) v L N := by
  obtain ⟨m, vm, M, h1, h2, h3⟩ := h; exact ⟨m, vm, M, h1, h2.setAll hb hv xs hl, h3⟩
theorem Mag.setOne {w : World} {v : Value} {L N : Nat} (h : Mag w v L N) {a : Addr} {u : Value} (hc : w.cell? a = some u) (hu : NoWord u) (x : Value) : Mag (w.setCell a x) v L N := by
  obtain ⟨ao, n, c, f, h1, h2, h3, h4, h5⟩ := h; exact ⟨ao, n, c, f, h1, h2, h3, h4.setOne hc hu x, h5⟩
theorem RMag.setOne {w : World} {v : Value} {L N : Nat} (h : RMag w v L N) {a : Addr} {u : Value} (hc : w.cell? a = some u) (hu : NoWord u) (x : Value) : RMag (w.setCell a x) v L N := by
  obtain ⟨ao, n, c, f, h1, h2, h3, h4, h5⟩ := h; exact ⟨ao, n, c, f, h1, h2, h3, h4.setOne hc hu x, h5⟩
theorem Num.setOne {w : World} {v : Value} {L : Nat} {N : Int} (h : Num w v L N) {a : Addr} {u : Value} (hc : w.cell? a = some u) (hu : NoWord u) (x : Value) : Num (w.setCell a x) v L N := by
  obtain ⟨m, vm, M, h1, h2, h3⟩ := h; exact ⟨m, vm, M, h1, h2.setOne hc hu x, h3⟩
theorem RNum.setOne {w : World} {v : Value} {L : Nat} {N : Int} (h : RNum w v L N) {a : Addr} {u : Value} (hc : w.cell? a = some u) (hu : NoWord u) (x : Value) : RNum (w.setCell a x) v L N := by
  obtain ⟨m, vm, M, h1, h2, h3⟩ := h; exact ⟨m, vm, M, h1, h2.setOne hc hu x, h3⟩
theorem Mag.num {w : World} {v : Value} {L N : Nat} (h : Mag w v L N) : Num w (.agg #[.bool false, v]) L (N : Int) := ⟨false, v, N, rfl, h, rfl⟩
/-- A cell holds a word. -/
structure WCell (w : World) (b o x : Nat) : Prop where
  c : w.cell? ⟨b, o, none⟩ = some (.int .u64 ((x : Nat) : Int))
theorem WCell.below {w w' : World} {b o x : Nat} (h : WCell w b o x) (hb : Below w.heap.size w w') : WCell w' b o x :=
  ⟨(hb.cell (p := ⟨b, o, none⟩) (World.block_lt_of_cell? w _ h.c)).trans h.c⟩
theorem WCell.drew {w : World} {b o x : Nat} (h : WCell w b o x) : WCell w.drew b o x := ⟨h.c⟩
theorem WCell.setOne {w : World} {b o x : Nat} (h : WCell w b o x) {a : Addr} {u : Value} (hc : w.cell? a = some u) (hu : NoWord u) (v : Value) : WCell (w.setCell a v) b o x := by
  refine ⟨?_⟩
  have ne : a ≠ ⟨b, o, none⟩ := by
    intro e; rw [e, h.c] at hc
    exact hu _ (Option.some.inj hc).symm
  rw [World.cell?_setCell_other _ _ _ _ (by first | exact ne | exact ne.symm)]; exact h.c
theorem WCell.setTail {g b o y : Nat} : ∀ (xs : List Value) (pre vs : List Value) {w : World}, vs.length = xs.length → (∀ u ∈ vs, NoWord u) → Box w g (pre ++ vs) → WCell w b o y → WCell (Go.MagM.setAll w g pre.length xs) b o y
  | [], _, _, _, _, _, _, h => h
  | x :: xs, pre, [], _, hl, _, _, _ => by simp at hl
  | x :: xs, pre, v :: vs, w, hl, hv, hb, h => by
    have e : (pre ++ v :: vs).set pre.length x = (pre ++ [x]) ++ vs := by simp
    have h1 := hb.set pre.length x
    rw [e] at h1
    have hc : w.cell? ⟨g, pre.length, none⟩ = some v := hb.c pre.length _ (by simp)
    have := WCell.setTail xs (pre ++ [x]) vs (by simpa using hl) (fun u hu => hv u (by simp [hu])) h1 (h.setOne hc (hv v (by simp)) x)
    simpa [Go.MagM.setAll] using this
theorem WCell.setAll {w : World} {b o x g : Nat} (h : WCell w b o x) {vs : List Value} (hb : Box w g vs) (hv : ∀ u ∈ vs, NoWord u) (xs : List Value) (hl : vs.length = xs.length) : WCell (Go.MagM.setAll w g 0 xs) b o x :=
  WCell.setTail xs [] vs hl hv hb h
/-- The word on top of a number that isn't 0. -/
theorem RMag.top {w : World} {ao : Option Addr} {n c L N : Nat} (h : RMag w (.slice ao n c) L N) (h0 : N ≠ 0) : ∃ b o k x, ao = some ⟨b, o, none⟩ ∧ n = k + 1 ∧ k + 1 ≤ L ∧ x ≠ 0 ∧ WCell w b (o + k) x := by
  obtain ⟨ao', n', c', f, e, _, h3, h4, h5, h6⟩ := h
  simp at e
  obtain ⟨rfl, rfl, rfl⟩ := e
  cases n with
  | zero => exact absurd h5.symm h0
  | succ k =>
    obtain ⟨b, o, h7, h8, h9⟩ := h4 k (by omega)
    exact ⟨b, o, k, f k, h7, rfl, h3, h6 k rfl, ⟨h8⟩⟩
/-- A number of one word. -/
theorem RMag.lone {w : World} {ao : Option Addr} {n c L N : Nat} (h : RMag w (.slice ao n c) L N) (h0 : N ≠ 0) (hB : N < B) : ∃ b o, ao = some ⟨b, o, none⟩ ∧ n = 1 ∧ WCell w b o N := by
  obtain ⟨ao', n', c', f, e, _, h3, h4, h5, h6⟩ := h
  simp at e
  obtain ⟨rfl, rfl, rfl⟩ := e
  cases n with
  | zero => exact absurd h5.symm h0
  | succ k =>
    have h11 := len_le_of_lt (L := 1) h6 (by rw [h5]; simpa using hB)
    obtain rfl : k = 0 := by omega
    obtain ⟨b, o, h7, h8, h9⟩ := h4 0 (by omega)
    refine ⟨b, o, h7, rfl, ⟨?_⟩⟩
    rw [V_succ, V_zero] at h5
    have : f 0 = N := by simpa using h5
    rw [← this]
    exact h8
theorem noWord2 (b : Bool) (ao : Option Addr) (n c : Nat) : ∀ u ∈ [.bool b, .slice ao n c], NoWord u := by
  intro u hu; simp at hu; rcases hu with rfl | rfl
  · exact NoWord.bool _
  · exact NoWord.slice _ _ _
theorem noWord3 (b : Bool) (ao : Option Addr) (n c : Nat) (bo : Option Addr) (k d : Nat) : ∀ u ∈ [.bool b, .slice ao n c, .slice bo k d], NoWord u := by
  intro u hu; simp at hu; rcases hu with rfl | rfl | rfl
  · exact NoWord.bool _
  · exact NoWord.slice _ _ _
  · exact NoWord.slice _ _ _
theorem Box.two_of {w : World} {g : Nat} {u v : Value} (h : Box2 w g u v) : Box w g [u, v] := by
  refine ⟨fun i x hi => ?_, fun i x hi => ?_⟩
  · match i, hi with
    | 0, hi => simp at hi; subst hi; exact h.c0
    | 1, hi => simp at hi; subst hi; exact h.c1
  · match i, hi with
    | 0, hi => exact h.f0
    | 1, hi => exact h.f1
/-- WHAT A FRAC IS: a number with a sign, and what it is divided by. -/
def FD (w : World) (v : Value) (L : Nat) (X : Int) (D : Nat) : Prop := ∃ m ao n c bo k d, v = .agg #[.bool m, .slice ao n c, .slice bo k d] ∧ Num w (.agg #[.bool m, .slice ao n c]) L X ∧ Mag w (.slice bo k d) L D
/-- The same, and it is right: a rational number. -/
def RF (w : World) (v : Value) (L : Nat) (q : Rat) : Prop := ∃ m ao n c bo k d, v = .agg #[.bool m, .slice ao n c, .slice bo k d] ∧ RNum w (.agg #[.bool m, .slice ao n c]) L q.num ∧ RMag w (.slice bo k d) L q.den
theorem FD.below {w w' : World} {v : Value} {L : Nat} {X : Int} {D : Nat} (h : FD w v L X D) (hb : Below w.heap.size w w') : FD w' v L X D := by
  obtain ⟨m, ao, n, c, bo, k, d, h1, h2, h3⟩ := h; exact ⟨m, ao, n, c, bo, k, d, h1, h2.below hb, h3.below hb⟩
theorem RF.below {w w' : World} {v : Value} {L : Nat} {q : Rat} (h : RF w v L q) (hb : Below w.heap.size w w') : RF w' v L q := by
  obtain ⟨m, ao, n, c, bo, k, d, h1, h2, h3⟩ := h; exact ⟨m, ao, n, c, bo, k, d, h1, h2.below hb, h3.below hb⟩
theorem FD.drew {w : World} {v : Value} {L : Nat} {X : Int} {D : Nat} (h : FD w v L X D) : FD w.drew v L X D := h
theorem RF.drew {w : World} {v : Value} {L : Nat} {q : Rat} (h : RF w v L q) : RF w.drew v L q := h
theorem FD.setOne {w : World} {v : Value} {L : Nat} {X : Int} {D : Nat} (h : FD w v L X D) {a : Addr} {u : Value} (hc : w.cell? a = some u) (hu : NoWord u) (x : Value) : FD (w.setCell a x) v L X D := by
  obtain ⟨m, ao, n, c, bo, k, d, h1, h2, h3⟩ := h; exact ⟨m, ao, n, c, bo, k, d, h1, h2.setOne hc hu x, h3.setOne hc hu x⟩
theorem RF.setOne {w : World} {v : Value} {L : Nat} {q : Rat} (h : RF w v L q) {a : Addr} {u : Value} (hc : w.cell? a = some u) (hu : NoWord u) (x : Value) : RF (w.setCell a x) v L q := by
  obtain ⟨m, ao, n, c, bo, k, d, h1, h2, h3⟩ := h; exact ⟨m, ao, n, c, bo, k, d, h1, h2.setOne hc hu x, h3.setOne hc hu x⟩
theorem FD.setAll {w : World} {v : Value} {L g : Nat} {X : Int} {D : Nat} (h : FD w v L X D) {vs : List Value} (hb : Box w g vs) (hv : ∀ u ∈ vs, NoWord u) (xs : List Value) (hl : vs.length = xs.length) : FD (Go.MagM.setAll w g 0 xs) v L X D := by
  obtain ⟨m, ao, n, c, bo, k, d, h1, h2, h3⟩ := h; exact ⟨m, ao, n, c, bo, k, d, h1, h2.setAll hb hv xs hl, h3.setAll hb hv xs hl⟩
theorem RF.setAll {w : World} {v : Value} {L g : Nat} {q : Rat} (h : RF w v L q) {vs : List Value} (hb : Box w g vs) (hv : ∀ u ∈ vs, NoWord u) (xs : List Value) (hl : vs.length = xs.length) : RF (Go.MagM.setAll w g 0 xs) v L q := by
  obtain ⟨m, ao, n, c, bo, k, d, h1, h2, h3⟩ := h; exact ⟨m, ao, n, c, bo, k, d, h1, h2.setAll hb hv xs hl, h3.setAll hb hv xs hl⟩
theorem FD.more {w : World} {v : Value} {L L' : Nat} {X : Int} {D : Nat} (h : FD w v L X D) (hL : L ≤ L') : FD w v L' X D := by
  obtain ⟨m, ao, n, c, bo, k, d, h1, h2, h3⟩ := h; exact ⟨m, ao, n, c, bo, k, d, h1, h2.more hL, h3.more hL⟩
theorem RF.more {w : World} {v : Value} {L L' : Nat} {q : Rat} (h : RF w v L q) (hL : L ≤ L') : RF w v L' q := by
  obtain ⟨m, ao, n, c, bo, k, d, h1, h2, h3⟩ := h; exact ⟨m, ao, n, c, bo, k, d, h1, h2.more hL, h3.more hL⟩
theorem RF.fd {w : World} {v : Value} {L : Nat} {q : Rat} (h : RF w v L q) : FD w v L q.num q.den := by
  obtain ⟨m, ao, n, c, bo, k, d, h1, h2, h3⟩ := h; exact ⟨m, ao, n, c, bo, k, d, h1, h2.num, h3.mag⟩
theorem RF.of {w : World} {v : Value} {L : Nat} {p q : Rat} (h : RF w v L p) (e : p = q) : RF w v L q := e ▸ h
/-- What a number is divided by: 1, if that is 0. -/
def den1 (D : Nat) : Nat := if D = 0 then 1 else D
theorem den1_pos (D : Nat) : 0 < den1 D := by unfold den1; split <;> omega
theorem den1_ne (D : Nat) : den1 D ≠ 0 := Nat.ne_of_gt (den1_pos D)
theorem den1_of {D : Nat} (h : D ≠ 0) : den1 D = D := if_neg h
/-- The number that a Frac counts. -/
def qv (X : Int) (D : Nat) : Rat := mkRat X (den1 D)
theorem qv_self (q : Rat) : qv q.num q.den = q := by unfold qv; rw [den1_of q.den_nz]; exact Rat.mkRat_self q
/-- What is read as a Frac counts q, right or not. -/
def FQ (w : World) (v : Value) (L : Nat) (q : Rat) : Prop := ∃ X D, FD w v L X D ∧ qv X D = q
theorem FD.q {w : World} {v : Value} {L : Nat} {X : Int} {D : Nat} (h : FD w v L X D) : FQ w v L (qv X D) := ⟨X, D, h, rfl⟩
theorem RF.q {w : World} {v : Value} {L : Nat} {q : Rat} (h : RF w v L q) : FQ w v L q := ⟨_, _, h.fd, qv_self q⟩
theorem FQ.below {w w' : World} {v : Value} {L : Nat} {q : Rat} (h : FQ w v L q) (hb : Below w.heap.size w w') : FQ w' v L q := by
  obtain ⟨X, D, h1, h2⟩ := h; exact ⟨X, D, h1.below hb, h2⟩
theorem FQ.drew {w : World} {v : Value} {L : Nat} {q : Rat} (h : FQ w v L q) : FQ w.drew v L q := h
theorem FQ.more {w : World} {v : Value} {L L' : Nat} {q : Rat} (h : FQ w v L q) (hL : L ≤ L') : FQ w v L' q := by
  obtain ⟨X, D, h1, h2⟩ := h; exact ⟨X, D, h1.more hL, h2⟩
theorem FQ.setOne {w : World} {v : Value} {L : Nat} {q : Rat} (h : FQ w v L q) {a : Addr} {u : Value} (hc : w.cell? a = some u) (hu : NoWord u) (x : Value) : FQ (w.setCell a x) v L q := by
  obtain ⟨X, D, h1, h2⟩ := h; exact ⟨X, D, h1.setOne hc hu x, h2⟩
theorem FQ.setAll {w : World} {v : Value} {L g : Nat} {q : Rat} (h : FQ w v L q) {vs : List Value} (hb : Box w g vs) (hv : ∀ u ∈ vs, NoWord u) (xs : List Value) (hl : vs.length = xs.length) : FQ (Go.MagM.setAll w g 0 xs) v L q := by
  obtain ⟨X, D, h1, h2⟩ := h; exact ⟨X, D, h1.setAll hb hv xs hl, h2⟩
/-- A call's answer is a right Frac of at most L words, q. -/
def AnsF (w w' : World) (e : Ending) (L : Nat) (q : Rat) : Prop := ∃ m ao n c bo k d, e = .returned (.agg #[.bool m, .slice ao n c, .slice bo k d]) ∧ RF w' (.agg #[.bool m, .slice ao n c, .slice bo k d]) L q ∧ Below w.heap.size w w'
theorem AnsF.of {w w' : World} {e : Ending} {L L' : Nat} {p q : Rat} (h : AnsF w w' e L p) (hL : L ≤ L') (he : p = q) : AnsF w w' e L' q := by
  subst he; obtain ⟨m, ao, n, c, bo, k, d, h1, h2, h3⟩ := h; exact ⟨m, ao, n, c, bo, k, d, h1, h2.more hL, h3⟩
theorem FD.num {w : World} {m : Bool} {ao : Option Addr} {n c : Nat} {bo : Option Addr} {k d L D : Nat} {X : Int} (h : FD w (.agg #[.bool m, .slice ao n c, .slice bo k d]) L X D) : Num w (.agg #[.bool m, .slice ao n c]) L X := by
  obtain ⟨_, _, _, _, _, _, _, e, h1, h2⟩ := h
  simp at e
  obtain ⟨rfl, ⟨rfl, rfl, rfl⟩, rfl, rfl, rfl⟩ := e
  exact h1
theorem FD.mag {w : World} {m : Bool} {ao : Option Addr} {n c : Nat} {bo : Option Addr} {k d L D : Nat} {X : Int} (h : FD w (.agg #[.bool m, .slice ao n c, .slice bo k d]) L X D) : Mag w (.slice bo k d) L D := by
  obtain ⟨_, _, _, _, _, _, _, e, h1, h2⟩ := h
  simp at e
  obtain ⟨rfl, ⟨rfl, rfl, rfl⟩, rfl, rfl, rfl⟩ := e
  exact h2
theorem Num.part {w : World} {m : Bool} {vm : Value} {L : Nat} {X : Int} (h : Num w (.agg #[.bool m, vm]) L X) : ∃ N, Mag w vm L N ∧ X = sgn m N := by
  obtain ⟨m', vm', N, e, h1, h2⟩ := h
  simp at e
  obtain ⟨rfl, rfl⟩ := e
  exact ⟨N, h1, h2⟩
theorem RNum.part {w : World} {m : Bool} {vm : Value} {L : Nat} {X : Int} (h : RNum w (.agg #[.bool m, vm]) L X) : ∃ N, RMag w vm L N ∧ X = sgn m N ∧ (m = true → N ≠ 0) := by
  obtain ⟨m', vm', N, e, h1, h2⟩ := h
  simp at e
  obtain ⟨rfl, rfl⟩ := e
  exact ⟨N, h1, h2⟩
theorem FD.neg {w : World} {m : Bool} {ao : Option Addr} {n c : Nat} {bo : Option Addr} {k d L D : Nat} {X : Int} (h : FD w (.agg #[.bool m, .slice ao n c, .slice bo k d]) L X D) : FD w (.agg #[.bool (!m), .slice ao n c, .slice bo k d]) L (-X) D := by
  obtain ⟨N, h1, rfl⟩ := h.num.part
  exact ⟨_, _, _, _, _, _, _, rfl, ⟨!m, _, N, rfl, h1, (sgn_neg m N).symm⟩, h.mag⟩
theorem FD.make {w : World} (m : Bool) {ao : Option Addr} {n c : Nat} {bo : Option Addr} {k d L N D : Nat} (h : Mag w (.slice ao n c) (max L 1) N) (h2 : Mag w (.slice bo k d) L D) : FD w (.agg #[.bool m, .slice ao n c, .slice bo k d]) (max L 1) (sgn m N) D :=
  ⟨_, _, _, _, _, _, _, rfl, ⟨m, _, N, rfl, h, rfl⟩, h2.more (by omega)⟩
/-- A call's answer is a slice of words that count N. -/
def AnsMag (w w' : World) (e : Ending) (L N : Nat) : Prop := ∃ ao n c, e = .returned (.slice ao n c) ∧ Mag w' (.slice ao n c) L N ∧ Below w.heap.size w w'
/-- The same, and it is right. -/
def AnsRMag (w w' : World) (e : Ending) (L N : Nat) : Prop := ∃ ao n c, e = .returned (.slice ao n c) ∧ RMag w' (.slice ao n c) L N ∧ Below w.heap.size w w'
theorem AnsRMag.of {w w' : World} {e : Ending} {L N : Nat} (h : ∃ v, e = .returned v ∧ RMag w' v L N ∧ Below w.heap.size w w') : AnsRMag w w' e L N := by
  obtain ⟨v, rfl, h1, h2⟩ := h
  obtain ⟨ao, n, c, rfl⟩ := h1.slice
  exact ⟨ao, n, c, rfl, h1, h2⟩
end Go.MagM
/- Rational numbers: what the calls of frac answer. Over no program. -/
namespace Go.MagM
open Go.RowKit
theorem bl_ne {D : Nat} (h0 : D ≠ 0) : (((bl D : Nat) : Int) == 0) = false := by
  have := bl_pos h0
  simp only [beq_eq_false_iff_ne]; omega
theorem bl_eq_one {D : Nat} (h : bl D = 1) : D = 1 := by
  have h1 := bl_lt D
  rw [h] at h1
  have : D ≠ 0 := by intro h0; subst h0; simp [bl_zero] at h
  omega
theorem bl_ne_one {D : Nat} (h : D ≠ 1) : (((bl D : Nat) : Int) == 1) = false := by
  have : bl D ≠ 1 := fun e => h (bl_eq_one e)
  simp only [beq_eq_false_iff_ne]; omega
theorem qv_eq (X : Int) (D : Nat) : qv X D = (X : Rat) / ((den1 D : Nat) : Rat) := by
  unfold qv; exact Rat.mkRat_eq_div _ _
theorem sgn_natAbs (m : Bool) (N : Nat) : (sgn m N).natAbs = N := by cases m <;> simp [sgn]
theorem qnum (m : Bool) (N D : Nat) (h : D ≠ 0) : (mkRat (sgn m N) D).num = sgn m (N / Nat.gcd N D) := by
  rw [Rat.num_mkRat, if_neg h, sgn_natAbs, Nat.gcd_comm D N]
  have hd : Nat.gcd N D ∣ N := Nat.gcd_dvd_left _ _
  cases m <;> simp only [sgn, if_true, if_false, Bool.false_eq_true]
  · exact (Int.natCast_ediv _ _).symm
  · rw [Int.neg_ediv_of_dvd (Int.natCast_dvd_natCast.2 hd), Int.natCast_ediv]
theorem qden (m : Bool) (N D : Nat) (h : D ≠ 0) : (mkRat (sgn m N) D).den = D / Nat.gcd N D := by
  rw [Rat.den_mkRat, if_neg h, sgn_natAbs, Nat.gcd_comm D N]
theorem low_any {w : World} {m : Bool} {ao bo : Option Addr} {n c k d L N D : Nat} (h : D ≠ 0) (h1 : RMag w (.slice ao n c) L (N / Nat.gcd N D)) (hm : m = true → N ≠ 0) (h2 : RMag w (.slice bo k d) L (D / Nat.gcd N D)) :
    RF w (.agg #[.bool m, .slice ao n c, .slice bo k d]) L (mkRat (sgn m N) D) := by
  refine ⟨m, ao, n, c, bo, k, d, rfl, ⟨m, _, N / Nat.gcd N D, rfl, h1, qnum m N D h, fun e => ?_⟩, by rw [qden m N D h]; exact h2⟩
  have := hm e
  exact Nat.ne_of_gt (Nat.div_pos (Nat.le_of_dvd (by omega) (Nat.gcd_dvd_left _ _)) (Nat.gcd_pos_of_pos_left _ (by omega)))
theorem low_lone {w : World} {m : Bool} {ao bo : Option Addr} {n c k d L D : Nat} {X : Int} (h : D ≠ 0) (hg : Nat.gcd X.natAbs D = 1) (h1 : RNum w (.agg #[.bool m, .slice ao n c]) L X) (h2 : RMag w (.slice bo k d) L D) :
    RF w (.agg #[.bool m, .slice ao n c, .slice bo k d]) L (mkRat X D) := by
  obtain ⟨N, h3, rfl, h4⟩ := h1.part
  rw [sgn_natAbs] at hg
  exact low_any h (by rw [hg, Nat.div_one]; exact h3) h4 (by rw [hg, Nat.div_one]; exact h2)
theorem low_one {w : World} {m : Bool} {ao bo : Option Addr} {n c k d L : Nat} {X : Int} (h1 : RNum w (.agg #[.bool m, .slice ao n c]) L X) (h2 : RMag w (.slice bo k d) L 1) :
    RF w (.agg #[.bool m, .slice ao n c, .slice bo k d]) L (mkRat X 1) := low_lone (by omega) (Nat.gcd_one_right _) h1 h2
end Go.MagM
/- From the form of the rows to the walks of layer 3: what an argument reads as. -/
namespace Go.Proofs.Ytdfabocecpcmcaa
open Go.ChangeShapes Go.WideShapes Go.RowKit Go.MagM
theorem cells25 : Try.prog.cellsOf 26 = 2 := by kernel_rfl
theorem cells27 : Try.prog.cellsOf 28 = 3 := by kernel_rfl
theorem cells4 : Try.prog.cellsOf 4 = 1 := by kernel_rfl
theorem cells23 : Try.prog.cellsOf 24 = 1 := by kernel_rfl
set_option maxRecDepth 100000 in
/-- What a Frac reads as: a sign and words, and words. -/
theorem view_frac {H : Type} {enc : TypeId × Value → H} {W : World} {b0 : Nat} {v : Value} {d : DataW H} {p : List MemPlace} (hv : Value.okWide Try.prog W .any b0 28 v)
    (h : DataW.Trod enc Try.prog W 0 (fun _ => true) true 28 v d p) :
    ∃ m ao n c bo k e X D, v = .agg #[.bool m, .slice ao n c, .slice bo k e] ∧ FD W v (max n k) X D := by
  obtain ⟨cs, rfl, hsz⟩ := okWide_struct Try.underlying28 hv
  obtain ⟨c0, c1, c2, rfl⟩ := Joins.array3 (hsz.trans cells27)
  obtain ⟨fuel, hf⟩ := h
  obtain ⟨y0, y1, n, _, _, h0, h1⟩ := trod_struct2 Try.underlying28 hf
  have h0' : DataW.trod enc Try.prog W 0 (fun _ => true) true n 26 [c0, c1] = some y0 := by
    rw [← h0]; simp [Value.cells, cells25]
  have h1' : DataW.trod enc Try.prog W 0 (fun _ => true) true n 24 [c2] = some y1 := by
    rw [← h1]; simp [Value.cells, cells23]
  obtain ⟨z0, z1, n2, _, _, h2, h3⟩ := trod_struct2 Try.underlying26 h0'
  have h2' : DataW.trod enc Try.prog W 0 (fun _ => true) true n2 4 [c0] = some z0 := by
    rw [← h2]; simp [cells4]
  have h3' : DataW.trod enc Try.prog W 0 (fun _ => true) true n2 24 [c1] = some z1 := by
    rw [← h3]; simp [cells23]
  obtain ⟨m, hm, _⟩ := DataW.trod_bool Try.underlying4 h2'
  simp at hm
  subst hm
  obtain ⟨ao, an, ac, rfl, hc, f, hr⟩ := view_words h3'
  obtain ⟨bo, bn, bc, rfl, hc2, g, hr2⟩ := view_words h1'
  exact ⟨m, ao, an, ac, bo, bn, bc, _, _, rfl, _, _, _, _, _, _, _, rfl, ⟨m, _, _, rfl, ⟨ao, an, ac, f, rfl, hc, Nat.le_max_left _ _, hr, rfl⟩, rfl⟩, ⟨bo, bn, bc, g, rfl, hc2, Nat.le_max_right _ _, hr2, rfl⟩⟩
set_option maxRecDepth 100000 in
/-- What a Num reads as. -/
theorem view_num' {H : Type} {enc : TypeId × Value → H} {W : World} {b0 : Nat} {v : Value} {d : DataW H} {p : List MemPlace} (hv : Value.okWide Try.prog W .any b0 26 v)
    (h : DataW.Trod enc Try.prog W 0 (fun _ => true) true 26 v d p) :
    ∃ m ao n c X, v = .agg #[.bool m, .slice ao n c] ∧ Num W v n X := by
  obtain ⟨m, ao, n, c, f, rfl, hc, hr⟩ := view_num hv h
  exact ⟨m, ao, n, c, _, rfl, m, _, _, rfl, ⟨ao, n, c, f, rfl, hc, Nat.le_refl _, hr, rfl⟩, rfl⟩
end Go.Proofs.Ytdfabocecpcmcaa
/- Points with whole coordinates: how three turn, the power of a fourth one, what lies on a line: pure. -/
namespace Go.MagM
/-- How three points turn: twice their area. -/
def crs (ax ay bx by' cx cy : Int) : Int := (bx - ax) * (cy - ay) - (by' - ay) * (cx - ax)
/-- Where a fourth point lies to the circle through three. -/
def inc (ax ay bx by' cx cy dx dy : Int) : Int :=
  (ax - dx) * ((by' - dy) * ((cx - dx) * (cx - dx) + (cy - dy) * (cy - dy)) - ((bx - dx) * (bx - dx) + (by' - dy) * (by' - dy)) * (cy - dy))
  - (ay - dy) * ((bx - dx) * ((cx - dx) * (cx - dx) + (cy - dy) * (cy - dy)) - ((bx - dx) * (bx - dx) + (by' - dy) * (by' - dy)) * (cx - dx))
  + ((ax - dx) * (ax - dx) + (ay - dy) * (ay - dy)) * ((bx - dx) * (cy - dy) - (by' - dy) * (cx - dx))
/-- The square of a distance. -/
def sqd (ax ay bx by' : Int) : Int := (ax - bx) * (ax - bx) + (ay - by') * (ay - by')
theorem sq_nonneg (x : Int) : 0 ≤ x * x := by rw [← Int.natAbs_mul_self' x]; exact Int.mul_nonneg (Int.natCast_nonneg _) (Int.natCast_nonneg _)
theorem sq_pos {x : Int} (h : x ≠ 0) : 0 < x * x := by
  have h1 := sq_nonneg x
  have h2 : x * x ≠ 0 := fun e => h (by rcases Int.mul_eq_zero.1 e with h | h <;> exact h)
  omega
theorem sqd_nonneg (ax ay bx by' : Int) : 0 ≤ sqd ax ay bx by' := by
  have h1 := sq_nonneg (ax - bx); have h2 := sq_nonneg (ay - by'); unfold sqd; omega
theorem sqd_pos {ax ay bx by' : Int} (h : ¬ (ax = bx ∧ ay = by')) : 0 < sqd ax ay bx by' := by
  have h1 := sq_nonneg (ax - bx); have h2 := sq_nonneg (ay - by')
  unfold sqd
  by_cases hx : ax = bx
  · have := sq_pos (x := ay - by') (by omega); omega
  · have := sq_pos (x := ax - bx) (by omega); omega
theorem sqd_comm (ax ay bx by' : Int) : sqd ax ay bx by' = sqd bx by' ax ay := by unfold sqd; grind
theorem crs_cyc (ax ay bx by' cx cy : Int) : crs bx by' cx cy ax ay = crs ax ay bx by' cx cy := by unfold crs; grind
theorem crs_swap (ax ay bx by' cx cy : Int) : crs bx by' ax ay cx cy = -crs ax ay bx by' cx cy := by unfold crs; grind
theorem crs_back (ax ay bx by' cx cy : Int) : crs ax ay cx cy bx by' = -crs ax ay bx by' cx cy := by unfold crs; grind
theorem crs_shoe (ax ay bx by' cx cy : Int) : crs ax ay bx by' cx cy = (ax * by' - ay * bx) + (bx * cy - by' * cx) + (cx * ay - cy * ax) := by unfold crs; grind
theorem crs_sum (ax ay bx by' cx cy dx dy : Int) : crs ax ay bx by' dx dy + crs bx by' cx cy dx dy + crs cx cy ax ay dx dy = crs ax ay bx by' cx cy := by unfold crs; grind
theorem inc_cyc (ax ay bx by' cx cy dx dy : Int) : inc bx by' cx cy ax ay dx dy = inc ax ay bx by' cx cy dx dy := by unfold inc; grind
theorem inc_a (ax ay bx by' cx cy : Int) : inc ax ay bx by' cx cy ax ay = 0 := by unfold inc; grind
theorem inc_b (ax ay bx by' cx cy : Int) : inc ax ay bx by' cx cy bx by' = 0 := by unfold inc; grind
theorem inc_c (ax ay bx by' cx cy : Int) : inc ax ay bx by' cx cy cx cy = 0 := by unfold inc; grind
/-- The document's power of a point, by the centre, is it turned round, twice. -/
theorem inc_power (ax ay bx by' cx cy dx dy : Int) :
    2 * ((bx - ax) * (cy - ay) - (by' - ay) * (cx - ax)) * sqd ax ay dx dy
      - 2 * ((dx - ax) * (sqd ax ay bx by' * (cy - ay) - (by' - ay) * sqd ax ay cx cy) + (dy - ay) * ((bx - ax) * sqd ax ay cx cy - sqd ax ay bx by' * (cx - ax)))
    = -(2 * inc ax ay bx by' cx cy dx dy) := by unfold inc sqd; grind
/-- By the areas that a point makes with a triangle's sides. -/
theorem inc_bary (ax ay bx by' cx cy dx dy : Int) : crs ax ay bx by' cx cy * inc ax ay bx by' cx cy dx dy =
   crs bx by' cx cy dx dy * crs cx cy ax ay dx dy * sqd ax ay bx by'
   + crs cx cy ax ay dx dy * crs ax ay bx by' dx dy * sqd bx by' cx cy
   + crs ax ay bx by' dx dy * crs bx by' cx cy dx dy * sqd cx cy ax ay := by unfold inc crs sqd; grind
/-- What is in a triangle is in its circle, within it but for the corners. -/
theorem inc_in {ax ay bx by' cx cy dx dy : Int} (hD : 0 < crs ax ay bx by' cx cy) (hx : 0 ≤ crs ax ay bx by' dx dy) (hy : 0 ≤ crs bx by' cx cy dx dy) (hz : 0 ≤ crs cx cy ax ay dx dy) :
    0 < inc ax ay bx by' cx cy dx dy ∨ (dx = ax ∧ dy = ay) ∨ (dx = bx ∧ dy = by') ∨ (dx = cx ∧ dy = cy) := by
  have hb := inc_bary ax ay bx by' cx cy dx dy
  have hs := crs_sum ax ay bx by' cx cy dx dy
  have nab : ¬ (ax = bx ∧ ay = by') := by rintro ⟨rfl, rfl⟩; unfold crs at hD; grind
  have nbc : ¬ (bx = cx ∧ by' = cy) := by rintro ⟨rfl, rfl⟩; unfold crs at hD; grind
  have nca : ¬ (cx = ax ∧ cy = ay) := by rintro ⟨rfl, rfl⟩; unfold crs at hD; grind
  have pab := sqd_pos nab; have pbc := sqd_pos nbc; have pca := sqd_pos nca
  have ea : crs bx by' cx cy dx dy = crs ax ay bx by' cx cy → crs ax ay bx by' dx dy = 0 → crs cx cy ax ay dx dy = 0 → dx = ax ∧ dy = ay := by
    intro _ h1 h2
    have e1 : crs ax ay bx by' cx cy * (dx - ax) = 0 := by
      have : crs ax ay bx by' cx cy * (dx - ax) = (cx - ax) * crs ax ay bx by' dx dy + (bx - ax) * crs cx cy ax ay dx dy := by unfold crs; grind
      rw [this, h1, h2]; simp
    have e2 : crs ax ay bx by' cx cy * (dy - ay) = 0 := by
      have : crs ax ay bx by' cx cy * (dy - ay) = (cy - ay) * crs ax ay bx by' dx dy + (by' - ay) * crs cx cy ax ay dx dy := by unfold crs; grind
      rw [this, h1, h2]; simp
    rcases Int.mul_eq_zero.1 e1 with h | h <;> rcases Int.mul_eq_zero.1 e2 with k | k <;> omega
  have eb : crs bx by' cx cy dx dy = 0 → crs ax ay bx by' dx dy = 0 → dx = bx ∧ dy = by' := by
    intro h1 h2
    have e1 : crs ax ay bx by' cx cy * (dx - bx) = 0 := by
      have : crs ax ay bx by' cx cy * (dx - bx) = (ax - bx) * crs bx by' cx cy dx dy + (cx - bx) * crs ax ay bx by' dx dy := by unfold crs; grind
      rw [this, h1, h2]; simp
    have e2 : crs ax ay bx by' cx cy * (dy - by') = 0 := by
      have : crs ax ay bx by' cx cy * (dy - by') = (ay - by') * crs bx by' cx cy dx dy + (cy - by') * crs ax ay bx by' dx dy := by unfold crs; grind
      rw [this, h1, h2]; simp
    rcases Int.mul_eq_zero.1 e1 with h | h <;> rcases Int.mul_eq_zero.1 e2 with k | k <;> omega
  have ec : crs bx by' cx cy dx dy = 0 → crs cx cy ax ay dx dy = 0 → dx = cx ∧ dy = cy := by
    intro h1 h2
    have e1 : crs ax ay bx by' cx cy * (dx - cx) = 0 := by
      have : crs ax ay bx by' cx cy * (dx - cx) = (ax - cx) * crs bx by' cx cy dx dy + (bx - cx) * crs cx cy ax ay dx dy := by unfold crs; grind
      rw [this, h1, h2]; simp
    have e2 : crs ax ay bx by' cx cy * (dy - cy) = 0 := by
      have : crs ax ay bx by' cx cy * (dy - cy) = (ay - cy) * crs bx by' cx cy dx dy + (by' - cy) * crs cx cy ax ay dx dy := by unfold crs; grind
      rw [this, h1, h2]; simp
    rcases Int.mul_eq_zero.1 e1 with h | h <;> rcases Int.mul_eq_zero.1 e2 with k | k <;> omega
  generalize crs ax ay bx by' cx cy = D at *
  generalize crs bx by' cx cy dx dy = α at *
  generalize crs cx cy ax ay dx dy = β at *
  generalize crs ax ay bx by' dx dy = γ at *
  generalize inc ax ay bx by' cx cy dx dy = J at *
  generalize sqd ax ay bx by' = s1 at *
  generalize sqd bx by' cx cy = s2 at *
  generalize sqd cx cy ax ay = s3 at *
  have m1 := Int.mul_nonneg (Int.mul_nonneg hy hz) (Int.le_of_lt pab)
  have m2 := Int.mul_nonneg (Int.mul_nonneg hz hx) (Int.le_of_lt pbc)
  have m3 := Int.mul_nonneg (Int.mul_nonneg hx hy) (Int.le_of_lt pca)
  by_cases hJ : 0 < J
  · exact .inl hJ
  · right
    have hDJ : D * J ≤ 0 := Int.mul_nonpos_of_nonneg_of_nonpos (Int.le_of_lt hD) (Int.not_lt.1 hJ)
    have z1 : α * β * s1 = 0 := by omega
    have z2 : β * γ * s2 = 0 := by omega
    have z3 : γ * α * s3 = 0 := by omega
    have w1 : α = 0 ∨ β = 0 := by rcases Int.mul_eq_zero.1 z1 with h | h
                                  · exact Int.mul_eq_zero.1 h
                                  · omega
    have w2 : β = 0 ∨ γ = 0 := by rcases Int.mul_eq_zero.1 z2 with h | h
                                  · exact Int.mul_eq_zero.1 h
                                  · omega
    have w3 : γ = 0 ∨ α = 0 := by rcases Int.mul_eq_zero.1 z3 with h | h
                                  · exact Int.mul_eq_zero.1 h
                                  · omega
    by_cases ha : α = 0
    · by_cases hc : γ = 0
      · exact .inr (.inl (eb ha hc))
      · have hb0 : β = 0 := by omega
        exact .inr (.inr (ec ha hb0))
    · have hc : γ = 0 := by omega
      have hb0 : β = 0 := by omega
      exact .inl (ea (by omega) hc hb0)
/-- A rectangle's corners, and its midst. -/
theorem inc_rect (px py qx qy mx my : Int) : inc px py qx py qx qy mx my = (qx - px) * (qy - py) * ((mx - px) * (qx - mx) + (my - py) * (qy - my)) := by unfold inc; grind
theorem crs_rect (px py qx qy : Int) : crs px py qx py qx qy = (qx - px) * (qy - py) := by unfold crs; grind
/-- The roots of two squares add up to the root of a third: on one line, between. -/
theorem on_line (px py ax ay bx by' : Int) : (sqd ax ay bx by' - sqd ax ay px py - sqd px py bx by') * (sqd ax ay bx by' - sqd ax ay px py - sqd px py bx by') - 4 * (sqd ax ay px py * sqd px py bx by') = -(4 * (crs ax ay bx by' px py * crs ax ay bx by' px py)) := by unfold sqd crs; grind
theorem on_dot (px py ax ay bx by' : Int) : sqd ax ay bx by' - sqd ax ay px py - sqd px py bx by' = 2 * ((px - ax) * (bx - px) + (py - ay) * (by' - py)) := by unfold sqd; grind
/-- On a line, to be between is to be in the box. -/
theorem on_box {px py ax ay bx by' : Int} (h : crs ax ay bx by' px py = 0) : 0 ≤ (px - ax) * (bx - px) + (py - ay) * (by' - py) ↔ (0 ≤ (px - ax) * (bx - px) ∧ 0 ≤ (py - ay) * (by' - py)) := by
  have e : ((px - ax) * (bx - px)) * ((py - ay) * (by' - py)) = ((px - ax) * (by' - py)) * ((px - ax) * (by' - py)) := by
    have : (px - ax) * (by' - py) = (py - ay) * (bx - px) := by unfold crs at h; grind
    grind
  have hs := sq_nonneg ((px - ax) * (by' - py))
  rw [← e] at hs
  generalize (px - ax) * (bx - px) = u at *
  generalize (py - ay) * (by' - py) = v at *
  constructor
  · intro hd
    by_cases hu : 0 ≤ u
    · by_cases hv : 0 ≤ v
      · exact ⟨hu, hv⟩
      · have hup : 0 < u := by omega
        have := Int.mul_neg_of_pos_of_neg hup (show v < 0 by omega)
        omega
    · have hv : 0 < v := by omega
      have := Int.mul_neg_of_neg_of_pos (show u < 0 by omega) hv
      omega
  · rintro ⟨h1, h2⟩; omega
/-- Between two numbers. -/
theorem tween (p a b : Int) : 0 ≤ (p - a) * (b - p) ↔ (min a b ≤ p ∧ p ≤ max a b) := by
  constructor
  · intro h
    by_cases h1 : p < a
    · by_cases h2 : p < b
      · have := Int.mul_neg_of_neg_of_pos (show p - a < 0 by omega) (show 0 < b - p by omega); omega
      · omega
    · by_cases h2 : b < p
      · by_cases h3 : a < p
        · have := Int.mul_neg_of_pos_of_neg (show 0 < p - a by omega) (show b - p < 0 by omega); omega
        · omega
      · omega
  · rintro ⟨h1, h2⟩
    by_cases h3 : a ≤ p
    · by_cases h4 : p ≤ b
      · exact Int.mul_nonneg (by omega) (by omega)
      · have : p = a := by omega
        subst this; simp
    · have h4 : b ≤ p := by omega
      exact Int.mul_nonneg_of_nonpos_of_nonpos (by omega) (by omega)
end Go.MagM
/- Whole numbers of 128 bits: the two words of an integer, and what sums, differences, products of words are. Over any program. -/
namespace Go.MagM
open Go.RowKit
/-- The high word of a whole number, modulo 2 to 128. -/
def wh (z : Int) : Nat := (z / 18446744073709551616 % 18446744073709551616).toNat
/-- The low word. -/
def wl (z : Int) : Nat := (z % 18446744073709551616).toNat
/-- A number of 128 bits. -/
def InW (z : Int) : Prop := -170141183460469231731687303715884105728 ≤ z ∧ z < 170141183460469231731687303715884105728
instance (z : Int) : Decidable (InW z) := by unfold InW; exact inferInstance
/-- What a number of 128 bits is, as a value. -/
def WV (z : Int) : Value := .agg #[.int .u64 ((wh z : Nat) : Int), .int .u64 ((wl z : Nat) : Int)]
theorem wh_lt (z : Int) : wh z < B := by unfold wh B; omega
theorem wl_lt (z : Int) : wl z < B := by unfold wl B; omega
theorem w_mod (z : Int) : ((wh z : Nat) : Int) * 18446744073709551616 + ((wl z : Nat) : Int) = z % 340282366920938463463374607431768211456 := by unfold wh wl; omega
/-- The words of a number are those that make it up, modulo 2 to 128. -/
theorem w_of {z : Int} {h l : Nat} (hh : h < B) (hl : l < B) (k : Int) (e : (h : Int) * 18446744073709551616 + (l : Int) = z + k * 340282366920938463463374607431768211456) : h = wh z ∧ l = wl z := by
  have := w_mod z; have h1 := wh_lt z; have h2 := wl_lt z
  unfold B at *
  omega
theorem w_eq {x y : Int} (hx : InW x) (hy : InW y) (h1 : wh x = wh y) (h2 : wl x = wl y) : x = y := by
  have a := w_mod x; have b := w_mod y; rw [h1, h2] at a; unfold InW at *; omega
theorem w_beq {x y : Int} (hx : InW x) (hy : InW y) : (((wh x : Nat) : Int) == ((wh y : Nat) : Int) && ((wl x : Nat) : Int) == ((wl y : Nat) : Int)) = decide (x = y) := by
  by_cases h : x = y
  · subst h; simp
  · simp only [h, decide_false, Bool.and_eq_false_iff, beq_eq_false_iff_ne]
    by_cases h1 : wh x = wh y
    · right; intro h2; exact h (w_eq hx hy h1 (by omega))
    · left; omega
theorem wh_zero : wh 0 = 0 := by decide
theorem wl_zero : wl 0 = 0 := by decide
theorem wh_least : wh (-170141183460469231731687303715884105728) = 9223372036854775808 := by decide
theorem wl_least : wl (-170141183460469231731687303715884105728) = 0 := by decide
/-- Any two words are those of a number of 128 bits. -/
theorem w_some (h l : Nat) (hh : h < B) (hl : l < B) : ∃ z, InW z ∧ wh z = h ∧ wl z = l := by
  have c : h < 9223372036854775808 ∨ 9223372036854775808 ≤ h := by omega
  unfold B at *
  rcases c with c | c
  · obtain ⟨a, b⟩ := w_of (z := (h : Int) * 18446744073709551616 + (l : Int)) hh hl 0 (by omega)
    exact ⟨_, by unfold InW; omega, a.symm, b.symm⟩
  · obtain ⟨a, b⟩ := w_of (z := (h : Int) * 18446744073709551616 + (l : Int) - 340282366920938463463374607431768211456) hh hl 1 (by omega)
    exact ⟨_, by unfold InW; omega, a.symm, b.symm⟩
/-- Sums, word by word. -/
theorem w_add (x y : Int) : (wh x + wh y + (wl x + wl y + 0) / B) % B = wh (x + y) ∧ (wl x + wl y + 0) % B = wl (x + y) := by
  have a := w_mod x; have b := w_mod y; have h1 := wh_lt x; have h2 := wl_lt x; have h3 := wh_lt y; have h4 := wl_lt y
  simp only [B_eq] at *
  refine w_of (by rw [B_eq]; omega) (by rw [B_eq]; omega) (-(((wh x + wh y + (wl x + wl y + 0) / 18446744073709551616) / 18446744073709551616 : Nat) : Int) - x / 340282366920938463463374607431768211456 - y / 340282366920938463463374607431768211456) ?_
  omega
/-- Differences, word by word. -/
theorem w_sub (x y : Int) : (wh x + B - wh y - (if wl x < wl y + 0 then 1 else 0)) % B = wh (x - y) ∧ (wl x + B - wl y - 0) % B = wl (x - y) := by
  have a := w_mod x; have b := w_mod y; have h1 := wh_lt x; have h2 := wl_lt x; have h3 := wh_lt y; have h4 := wl_lt y
  simp only [B_eq] at *
  generalize wh x = h at *; generalize wl x = l at *; generalize wh y = h' at *; generalize wl y = l' at *
  by_cases c : l < l' + 0
  · rw [if_pos c]
    by_cases d : h < h' + 1
    · exact w_of (by rw [B_eq]; omega) (by rw [B_eq]; omega) (1 - x / 340282366920938463463374607431768211456 + y / 340282366920938463463374607431768211456) (by omega)
    · exact w_of (by rw [B_eq]; omega) (by rw [B_eq]; omega) (- (x / 340282366920938463463374607431768211456) + y / 340282366920938463463374607431768211456) (by omega)
  · rw [if_neg c]
    by_cases d : h < h'
    · exact w_of (by rw [B_eq]; omega) (by rw [B_eq]; omega) (1 - x / 340282366920938463463374607431768211456 + y / 340282366920938463463374607431768211456) (by omega)
    · exact w_of (by rw [B_eq]; omega) (by rw [B_eq]; omega) (- (x / 340282366920938463463374607431768211456) + y / 340282366920938463463374607431768211456) (by omega)
theorem w_neg {z : Int} (h : InW z) : (9223372036854775808 ≤ wh z) ↔ z < 0 := by
  have := w_mod z; have h1 := wh_lt z; have h2 := wl_lt z; unfold InW B at *; omega
theorem w_pos {z : Int} (h : InW z) (h0 : 0 ≤ z) : (wh z : Int) * 18446744073709551616 + (wl z : Int) = z := by
  have := w_mod z; unfold InW at *; omega
theorem w_size {z : Int} (h : InW z) : ((wh (z.natAbs : Int) : Nat) : Int) * 18446744073709551616 + ((wl (z.natAbs : Int) : Nat) : Int) = (z.natAbs : Int) := by
  have := w_mod (z.natAbs : Int); unfold InW at *; omega
/-- The words of an int. -/
theorem w_int_neg {n : Int} (h : -9223372036854775808 ≤ n) (h0 : n < 0) : wh n = 18446744073709551615 ∧ ((wl n : Nat) : Int) = IntKind.u64.wrap n := by
  rw [IntKind.wrap_u64]; unfold wh wl; omega
theorem w_int_pos {n : Int} (h : n < 9223372036854775808) (h0 : 0 ≤ n) : wh n = 0 ∧ ((wl n : Nat) : Int) = IntKind.u64.wrap n := by
  rw [IntKind.wrap_u64]; unfold wh wl; omega
theorem w_abs_int {n : Int} (h : -9223372036854775808 ≤ n) (h1 : n < 9223372036854775808) : wl (n.natAbs : Int) = n.natAbs ∧ n.natAbs < B := by
  unfold wl B; omega
end Go.MagM
/- Points, and boxes of six and eight cells. Over any program. -/
namespace Go.MagM
open Go.RowKit
theorem Box.c6 {w : World} {g : Nat} {u0 u1 u2 u3 u4 u5 u : Value} {l : List Value} (h : Box w g (u0 :: u1 :: u2 :: u3 :: u4 :: u5 :: u :: l)) : w.cell? ⟨g, 6, none⟩ = some u := h.c 6 _ rfl
theorem Box.c7 {w : World} {g : Nat} {u0 u1 u2 u3 u4 u5 u6 u : Value} {l : List Value} (h : Box w g (u0 :: u1 :: u2 :: u3 :: u4 :: u5 :: u6 :: u :: l)) : w.cell? ⟨g, 7, none⟩ = some u := h.c 7 _ rfl
theorem Box.open6 {w : World} {g : Nat} {u0 u1 u2 u3 u4 u5 : Value} (h : Box w g [u0, u1, u2, u3, u4, u5]) : w.cell? ⟨g, 0, none⟩ = some u0 ∧ w.cell? ⟨g, 1, none⟩ = some u1 ∧ w.cell? ⟨g, 2, none⟩ = some u2 ∧ w.cell? ⟨g, 3, none⟩ = some u3 ∧ w.cell? ⟨g, 4, none⟩ = some u4 ∧ w.cell? ⟨g, 5, none⟩ = some u5 ∧ w.frozen? ⟨g, 0, none⟩ = false ∧ w.frozen? ⟨g, 1, none⟩ = false ∧ w.frozen? ⟨g, 2, none⟩ = false ∧ w.frozen? ⟨g, 3, none⟩ = false ∧ w.frozen? ⟨g, 4, none⟩ = false ∧ w.frozen? ⟨g, 5, none⟩ = false :=
  ⟨h.c 0 _ rfl, h.c 1 _ rfl, h.c 2 _ rfl, h.c 3 _ rfl, h.c 4 _ rfl, h.c 5 _ rfl, h.f 0 _ rfl, h.f 1 _ rfl, h.f 2 _ rfl, h.f 3 _ rfl, h.f 4 _ rfl, h.f 5 _ rfl⟩
theorem Box.open8 {w : World} {g : Nat} {u0 u1 u2 u3 u4 u5 u6 u7 : Value} (h : Box w g [u0, u1, u2, u3, u4, u5, u6, u7]) : w.cell? ⟨g, 0, none⟩ = some u0 ∧ w.cell? ⟨g, 1, none⟩ = some u1 ∧ w.cell? ⟨g, 2, none⟩ = some u2 ∧ w.cell? ⟨g, 3, none⟩ = some u3 ∧ w.cell? ⟨g, 4, none⟩ = some u4 ∧ w.cell? ⟨g, 5, none⟩ = some u5 ∧ w.cell? ⟨g, 6, none⟩ = some u6 ∧ w.cell? ⟨g, 7, none⟩ = some u7 ∧ w.frozen? ⟨g, 0, none⟩ = false ∧ w.frozen? ⟨g, 1, none⟩ = false ∧ w.frozen? ⟨g, 2, none⟩ = false ∧ w.frozen? ⟨g, 3, none⟩ = false ∧ w.frozen? ⟨g, 4, none⟩ = false ∧ w.frozen? ⟨g, 5, none⟩ = false ∧ w.frozen? ⟨g, 6, none⟩ = false ∧ w.frozen? ⟨g, 7, none⟩ = false :=
  ⟨h.c 0 _ rfl, h.c 1 _ rfl, h.c 2 _ rfl, h.c 3 _ rfl, h.c 4 _ rfl, h.c 5 _ rfl, h.c 6 _ rfl, h.c 7 _ rfl, h.f 0 _ rfl, h.f 1 _ rfl, h.f 2 _ rfl, h.f 3 _ rfl, h.f 4 _ rfl, h.f 5 _ rfl, h.f 6 _ rfl, h.f 7 _ rfl⟩
theorem RNum.shape {w : World} {v : Value} {L : Nat} {X : Int} (h : RNum w v L X) : ∃ m o n c, v = .agg #[.bool m, .slice o n c] := by
  obtain ⟨m, _, _, rfl, ⟨o, n, c, _, rfl, _⟩, _⟩ := h; exact ⟨m, o, n, c, rfl⟩
/-- A coordinate that may be. -/
def InP (x : Int) : Prop := -2147483648 ≤ x ∧ x ≤ 2147483648
theorem InP.wrap {x y : Int} (hx : InP x) (hy : InP y) : IntKind.i64.wrap (x - y) = x - y := by
  unfold InP at hx hy; rw [IntKind.wrap_i64]; omega
theorem InP.neg {x y : Int} (hx : InP x) (hy : InP y) : IntKind.i64.wrap (-(x - y)) = -(x - y) := by
  unfold InP at hx hy; rw [IntKind.wrap_i64]; omega
theorem InP.lo {x y : Int} (hx : InP x) (hy : InP y) : -9223372036854775808 ≤ x - y := by unfold InP at hx hy; omega
theorem InP.hi {x y : Int} (hx : InP x) (hy : InP y) : x - y < 9223372036854775808 := by unfold InP at hx hy; omega
theorem InP.lo' {x y : Int} (hx : InP x) (hy : InP y) : -9223372036854775808 ≤ -(x - y) := by unfold InP at hx hy; omega
theorem InP.hi' {x y : Int} (hx : InP x) (hy : InP y) : -(x - y) < 9223372036854775808 := by unfold InP at hx hy; omega
theorem abs_prod {x y : Int} {M N : Nat} (hx : x.natAbs ≤ M) (hy : y.natAbs ≤ N) : (x * y).natAbs ≤ M * N := by rw [Int.natAbs_mul]; exact Nat.mul_le_mul hx hy
/-- The determinant of differences has 128 bits. -/
theorem inW_dets {p q r s : Int} (hp : p.natAbs ≤ 4294967296) (hq : q.natAbs ≤ 4294967296) (hr : r.natAbs ≤ 4294967296) (hs : s.natAbs ≤ 4294967296) : InW (p * s - q * r) := by
  have h1 := abs_prod hp hs; have h2 := abs_prod hq hr
  unfold InW; omega
theorem InP.abs {x y : Int} (hx : InP x) (hy : InP y) : (x - y).natAbs ≤ 4294967296 := by unfold InP at hx hy; omega
theorem InP.abs' {x y : Int} (hx : InP x) (hy : InP y) : (-(x - y)).natAbs ≤ 4294967296 := by unfold InP at hx hy; omega
theorem inW_crs {ax ay bx by' cx cy : Int} (h1 : InP ax) (h2 : InP ay) (h3 : InP bx) (h4 : InP by') (h5 : InP cx) (h6 : InP cy) : InW (crs ax ay bx by' cx cy) :=
  inW_dets (h3.abs h1) (h4.abs h2) (h5.abs h1) (h6.abs h2)
theorem sqd_det (ax ay bx by' : Int) : (bx - ax) * (bx - ax) - (-(by' - ay)) * (by' - ay) = sqd ax ay bx by' := by unfold sqd; grind
theorem inW_sqd {ax ay bx by' : Int} (h1 : InP ax) (h2 : InP ay) (h3 : InP bx) (h4 : InP by') : InW (sqd ax ay bx by') := by
  rw [← sqd_det]; exact inW_dets (h3.abs h1) (h4.abs' h2) (h4.abs h2) (h3.abs h1)
theorem inc_circle (ax ay bx by' cx cy dx dy : Int) : sqd ax ay dx dy * crs dx dy bx by' cx cy + sqd bx by' dx dy * crs dx dy cx cy ax ay + sqd cx cy dx dy * crs dx dy ax ay bx by' = inc ax ay bx by' cx cy dx dy := by unfold inc crs sqd; grind
end Go.MagM
/- From the form of the rows to the walks of layer 6: what a point, and an array of points, reads as. -/
namespace Go.Proofs.Ytdfabocecpcmcaa
open Go.ChangeShapes Go.WideShapes Go.RowKit Go.MagM
theorem ptCells : Try.prog.cellsOf 50 = 2 := by kernel_rfl
theorem ptCell1 : Try.prog.cellsOf 3 = 1 := by kernel_rfl
set_option maxRecDepth 100000 in
theorem view_pt {H : Type} {enc : TypeId × Value → H} {W : World} {b0 : Nat} {v : Value} {d : DataW H} {p : List MemPlace} (hv : Value.okWide Try.prog W .any b0 50 v)
    (h : DataW.Trod enc Try.prog W 0 (fun _ => true) true 50 v d p) :
    ∃ x y : Int, v = .agg #[.int .i64 x, .int .i64 y] := by
  obtain ⟨v0, v1, y0, y1, k, rfl, _, _, h0, h1⟩ := Joins.open_agg2 Try.underlying50 (by kernel_rfl) (by kernel_rfl) hv h
  obtain ⟨x, e0, _, w0⟩ := DataW.trod_int Try.underlying3 h0
  obtain ⟨y, e1, _, w1⟩ := DataW.trod_int Try.underlying3 h1
  simp at e0 e1
  subst e0 e1
  exact ⟨x, y, rfl⟩
/-- Two cells that read as a point. -/
theorem open_pt {H : Type} {enc : TypeId × Value → H} {W : World} {n : Nat} {c0 c1 : Value} {x : DataW H × List MemPlace} (h : DataW.trod enc Try.prog W 0 (fun _ => true) true n 50 [c0, c1] = some x) :
    ∃ a b : Int, c0 = .int .i64 a ∧ c1 = .int .i64 b := by
  obtain ⟨y0, y1, m, rfl, _, h0, h1⟩ := trod_struct2 Try.underlying50 h
  obtain ⟨a, e0, _, _⟩ := DataW.trod_int Try.underlying3 h0
  obtain ⟨b, e1, _, _⟩ := DataW.trod_int Try.underlying3 h1
  simp [ptCell1] at e0 e1
  exact ⟨a, b, e0, e1⟩
theorem array8_of {α : Type} {a : Array α} (h : a.size = 8) : ∃ x0 x1 x2 x3 x4 x5 x6 x7, a = #[x0, x1, x2, x3, x4, x5, x6, x7] := by
  obtain ⟨l⟩ := a
  simp only [List.size_toArray] at h
  match l, h with
  | [x0, x1, x2, x3, x4, x5, x6, x7], _ => exact ⟨x0, x1, x2, x3, x4, x5, x6, x7, rfl⟩
theorem array6_of {α : Type} {a : Array α} (h : a.size = 6) : ∃ x0 x1 x2 x3 x4 x5, a = #[x0, x1, x2, x3, x4, x5] := by
  obtain ⟨l⟩ := a
  simp only [List.size_toArray] at h
  match l, h with
  | [x0, x1, x2, x3, x4, x5], _ => exact ⟨x0, x1, x2, x3, x4, x5, rfl⟩
end Go.Proofs.Ytdfabocecpcmcaa
/- From the form of the rows to the walks of layer 7: what a Spot reads as. -/
namespace Go.Proofs.Ytdfabocecpcmcaa
open Go.ChangeShapes Go.WideShapes Go.RowKit Go.MagM
/-- Three cells that read as a Frac. -/
theorem open_frac {H : Type} {enc : TypeId × Value → H} {W : World} {n : Nat} {c0 c1 c2 : Value} {x : DataW H × List MemPlace} (hf : DataW.trod enc Try.prog W 0 (fun _ => true) true n 28 [c0, c1, c2] = some x) :
    ∃ m ao k c bo l e L X D, c0 = .bool m ∧ c1 = .slice ao k c ∧ c2 = .slice bo l e ∧ FD W (.agg #[.bool m, .slice ao k c, .slice bo l e]) L X D := by
  obtain ⟨y0, y1, n, _, _, h0, h1⟩ := trod_struct2 Try.underlying28 hf
  have h0' : DataW.trod enc Try.prog W 0 (fun _ => true) true n 26 [c0, c1] = some y0 := by
    rw [← h0]; simp [cells25]
  have h1' : DataW.trod enc Try.prog W 0 (fun _ => true) true n 24 [c2] = some y1 := by
    rw [← h1]; simp [cells23]
  obtain ⟨z0, z1, n2, _, _, h2, h3⟩ := trod_struct2 Try.underlying26 h0'
  have h2' : DataW.trod enc Try.prog W 0 (fun _ => true) true n2 4 [c0] = some z0 := by
    rw [← h2]; simp [cells4]
  have h3' : DataW.trod enc Try.prog W 0 (fun _ => true) true n2 24 [c1] = some z1 := by
    rw [← h3]; simp [cells23]
  obtain ⟨m, hm, _⟩ := DataW.trod_bool Try.underlying4 h2'
  simp at hm
  subst hm
  obtain ⟨ao, an, ac, rfl, hc, f, hr⟩ := view_words h3'
  obtain ⟨bo, bn, bc, rfl, hc2, g, hr2⟩ := view_words h1'
  exact ⟨m, ao, an, ac, bo, bn, bc, max an bn, _, _, rfl, rfl, rfl, _, _, _, _, _, _, _, rfl, ⟨m, _, _, rfl, ⟨ao, an, ac, f, rfl, hc, Nat.le_max_left _ _, hr, rfl⟩, rfl⟩, ⟨bo, bn, bc, g, rfl, hc2, Nat.le_max_right _ _, hr2, rfl⟩⟩
theorem spotCells : Try.prog.cellsOf 42 = 6 := by kernel_rfl
/-- Six cells that read as a Spot. -/
theorem open_spot {H : Type} {enc : TypeId × Value → H} {W : World} {n : Nat} {c0 c1 c2 c3 c4 c5 : Value} {x : DataW H × List MemPlace} (hf : DataW.trod enc Try.prog W 0 (fun _ => true) true n 42 [c0, c1, c2, c3, c4, c5] = some x) :
    ∃ m ao k c bo l e m' ao' k' c' bo' l' e' L X D L' X' D', c0 = .bool m ∧ c1 = .slice ao k c ∧ c2 = .slice bo l e ∧ c3 = .bool m' ∧ c4 = .slice ao' k' c' ∧ c5 = .slice bo' l' e' ∧
      FD W (.agg #[.bool m, .slice ao k c, .slice bo l e]) L X D ∧ FD W (.agg #[.bool m', .slice ao' k' c', .slice bo' l' e']) L' X' D' := by
  obtain ⟨y0, y1, n, _, _, h0, h1⟩ := trod_struct2 Try.underlying42 hf
  have h0' : DataW.trod enc Try.prog W 0 (fun _ => true) true n 28 [c0, c1, c2] = some y0 := by
    rw [← h0]; simp [cells27]
  have h1' : DataW.trod enc Try.prog W 0 (fun _ => true) true n 28 [c3, c4, c5] = some y1 := by
    rw [← h1]; simp [cells27]
  obtain ⟨m, ao, k, c, bo, l, e, L, X, D, rfl, rfl, rfl, hF⟩ := open_frac h0'
  obtain ⟨m', ao', k', c', bo', l', e', L', X', D', rfl, rfl, rfl, hF'⟩ := open_frac h1'
  exact ⟨m, ao, k, c, bo, l, e, m', ao', k', c', bo', l', e', L, X, D, L', X', D', rfl, rfl, rfl, rfl, rfl, rfl, hF, hF'⟩
set_option maxRecDepth 100000 in
/-- What a Spot reads as. -/
theorem view_spot {H : Type} {enc : TypeId × Value → H} {W : World} {b0 : Nat} {v : Value} {d : DataW H} {p : List MemPlace} (hv : Value.okWide Try.prog W .any b0 42 v)
    (h : DataW.Trod enc Try.prog W 0 (fun _ => true) true 42 v d p) :
    ∃ m ao k c bo l e m' ao' k' c' bo' l' e' L X D L' X' D', v = .agg #[.bool m, .slice ao k c, .slice bo l e, .bool m', .slice ao' k' c', .slice bo' l' e'] ∧
      FD W (.agg #[.bool m, .slice ao k c, .slice bo l e]) L X D ∧ FD W (.agg #[.bool m', .slice ao' k' c', .slice bo' l' e']) L' X' D' := by
  obtain ⟨cs, rfl, hsz⟩ := okWide_struct Try.underlying42 hv
  obtain ⟨c0, c1, c2, c3, c4, c5, rfl⟩ := array6_of (hsz.trans spotCells)
  obtain ⟨fuel, hf⟩ := h
  obtain ⟨m, ao, k, c, bo, l, e, m', ao', k', c', bo', l', e', L, X, D, L', X', D', rfl, rfl, rfl, rfl, rfl, rfl, hF, hF'⟩ := open_spot (by simpa [Value.cells] using hf)
  exact ⟨m, ao, k, c, bo, l, e, m', ao', k', c', bo', l', e', L, X, D, L', X', D', rfl, hF, hF'⟩
end Go.Proofs.Ytdfabocecpcmcaa
/- Points with rational coordinates, and boxes of nine and eighteen cells. Over any program. -/
namespace Go.MagM
open Go.RowKit
theorem Box.c8 {w : World} {g : Nat} {u0 u1 u2 u3 u4 u5 u6 u7 u : Value} {l : List Value} (h : Box w g (u0 :: u1 :: u2 :: u3 :: u4 :: u5 :: u6 :: u7 :: u :: l)) : w.cell? ⟨g, 8, none⟩ = some u := h.c 8 _ rfl
theorem Box.c9 {w : World} {g : Nat} {u0 u1 u2 u3 u4 u5 u6 u7 u8 u : Value} {l : List Value} (h : Box w g (u0 :: u1 :: u2 :: u3 :: u4 :: u5 :: u6 :: u7 :: u8 :: u :: l)) : w.cell? ⟨g, 9, none⟩ = some u := h.c 9 _ rfl
theorem Box.c10 {w : World} {g : Nat} {u0 u1 u2 u3 u4 u5 u6 u7 u8 u9 u : Value} {l : List Value} (h : Box w g (u0 :: u1 :: u2 :: u3 :: u4 :: u5 :: u6 :: u7 :: u8 :: u9 :: u :: l)) : w.cell? ⟨g, 10, none⟩ = some u := h.c 10 _ rfl
theorem Box.c11 {w : World} {g : Nat} {u0 u1 u2 u3 u4 u5 u6 u7 u8 u9 u10 u : Value} {l : List Value} (h : Box w g (u0 :: u1 :: u2 :: u3 :: u4 :: u5 :: u6 :: u7 :: u8 :: u9 :: u10 :: u :: l)) : w.cell? ⟨g, 11, none⟩ = some u := h.c 11 _ rfl
theorem Box.c12 {w : World} {g : Nat} {u0 u1 u2 u3 u4 u5 u6 u7 u8 u9 u10 u11 u : Value} {l : List Value} (h : Box w g (u0 :: u1 :: u2 :: u3 :: u4 :: u5 :: u6 :: u7 :: u8 :: u9 :: u10 :: u11 :: u :: l)) : w.cell? ⟨g, 12, none⟩ = some u := h.c 12 _ rfl
theorem Box.c13 {w : World} {g : Nat} {u0 u1 u2 u3 u4 u5 u6 u7 u8 u9 u10 u11 u12 u : Value} {l : List Value} (h : Box w g (u0 :: u1 :: u2 :: u3 :: u4 :: u5 :: u6 :: u7 :: u8 :: u9 :: u10 :: u11 :: u12 :: u :: l)) : w.cell? ⟨g, 13, none⟩ = some u := h.c 13 _ rfl
theorem Box.c14 {w : World} {g : Nat} {u0 u1 u2 u3 u4 u5 u6 u7 u8 u9 u10 u11 u12 u13 u : Value} {l : List Value} (h : Box w g (u0 :: u1 :: u2 :: u3 :: u4 :: u5 :: u6 :: u7 :: u8 :: u9 :: u10 :: u11 :: u12 :: u13 :: u :: l)) : w.cell? ⟨g, 14, none⟩ = some u := h.c 14 _ rfl
theorem Box.c15 {w : World} {g : Nat} {u0 u1 u2 u3 u4 u5 u6 u7 u8 u9 u10 u11 u12 u13 u14 u : Value} {l : List Value} (h : Box w g (u0 :: u1 :: u2 :: u3 :: u4 :: u5 :: u6 :: u7 :: u8 :: u9 :: u10 :: u11 :: u12 :: u13 :: u14 :: u :: l)) : w.cell? ⟨g, 15, none⟩ = some u := h.c 15 _ rfl
theorem Box.c16 {w : World} {g : Nat} {u0 u1 u2 u3 u4 u5 u6 u7 u8 u9 u10 u11 u12 u13 u14 u15 u : Value} {l : List Value} (h : Box w g (u0 :: u1 :: u2 :: u3 :: u4 :: u5 :: u6 :: u7 :: u8 :: u9 :: u10 :: u11 :: u12 :: u13 :: u14 :: u15 :: u :: l)) : w.cell? ⟨g, 16, none⟩ = some u := h.c 16 _ rfl
theorem Box.c17 {w : World} {g : Nat} {u0 u1 u2 u3 u4 u5 u6 u7 u8 u9 u10 u11 u12 u13 u14 u15 u16 u : Value} {l : List Value} (h : Box w g (u0 :: u1 :: u2 :: u3 :: u4 :: u5 :: u6 :: u7 :: u8 :: u9 :: u10 :: u11 :: u12 :: u13 :: u14 :: u15 :: u16 :: u :: l)) : w.cell? ⟨g, 17, none⟩ = some u := h.c 17 _ rfl
theorem Box.open4 {w : World} {g : Nat} {u0 u1 u2 u3 : Value} (h : Box w g [u0, u1, u2, u3]) : w.cell? ⟨g, 0, none⟩ = some u0 ∧ w.cell? ⟨g, 1, none⟩ = some u1 ∧ w.cell? ⟨g, 2, none⟩ = some u2 ∧ w.cell? ⟨g, 3, none⟩ = some u3 ∧ w.frozen? ⟨g, 0, none⟩ = false ∧ w.frozen? ⟨g, 1, none⟩ = false ∧ w.frozen? ⟨g, 2, none⟩ = false ∧ w.frozen? ⟨g, 3, none⟩ = false :=
  ⟨h.c 0 _ rfl, h.c 1 _ rfl, h.c 2 _ rfl, h.c 3 _ rfl, h.f 0 _ rfl, h.f 1 _ rfl, h.f 2 _ rfl, h.f 3 _ rfl⟩
theorem Box.open9 {w : World} {g : Nat} {u0 u1 u2 u3 u4 u5 u6 u7 u8 : Value} (h : Box w g [u0, u1, u2, u3, u4, u5, u6, u7, u8]) : w.cell? ⟨g, 0, none⟩ = some u0 ∧ w.cell? ⟨g, 1, none⟩ = some u1 ∧ w.cell? ⟨g, 2, none⟩ = some u2 ∧ w.cell? ⟨g, 3, none⟩ = some u3 ∧ w.cell? ⟨g, 4, none⟩ = some u4 ∧ w.cell? ⟨g, 5, none⟩ = some u5 ∧ w.cell? ⟨g, 6, none⟩ = some u6 ∧ w.cell? ⟨g, 7, none⟩ = some u7 ∧ w.cell? ⟨g, 8, none⟩ = some u8 ∧ w.frozen? ⟨g, 0, none⟩ = false ∧ w.frozen? ⟨g, 1, none⟩ = false ∧ w.frozen? ⟨g, 2, none⟩ = false ∧ w.frozen? ⟨g, 3, none⟩ = false ∧ w.frozen? ⟨g, 4, none⟩ = false ∧ w.frozen? ⟨g, 5, none⟩ = false ∧ w.frozen? ⟨g, 6, none⟩ = false ∧ w.frozen? ⟨g, 7, none⟩ = false ∧ w.frozen? ⟨g, 8, none⟩ = false :=
  ⟨h.c 0 _ rfl, h.c 1 _ rfl, h.c 2 _ rfl, h.c 3 _ rfl, h.c 4 _ rfl, h.c 5 _ rfl, h.c 6 _ rfl, h.c 7 _ rfl, h.c 8 _ rfl, h.f 0 _ rfl, h.f 1 _ rfl, h.f 2 _ rfl, h.f 3 _ rfl, h.f 4 _ rfl, h.f 5 _ rfl, h.f 6 _ rfl, h.f 7 _ rfl, h.f 8 _ rfl⟩
theorem Box.open18 {w : World} {g : Nat} {u0 u1 u2 u3 u4 u5 u6 u7 u8 u9 u10 u11 u12 u13 u14 u15 u16 u17 : Value} (h : Box w g [u0, u1, u2, u3, u4, u5, u6, u7, u8, u9, u10, u11, u12, u13, u14, u15, u16, u17]) : w.cell? ⟨g, 0, none⟩ = some u0 ∧ w.cell? ⟨g, 1, none⟩ = some u1 ∧ w.cell? ⟨g, 2, none⟩ = some u2 ∧ w.cell? ⟨g, 3, none⟩ = some u3 ∧ w.cell? ⟨g, 4, none⟩ = some u4 ∧ w.cell? ⟨g, 5, none⟩ = some u5 ∧ w.cell? ⟨g, 6, none⟩ = some u6 ∧ w.cell? ⟨g, 7, none⟩ = some u7 ∧ w.cell? ⟨g, 8, none⟩ = some u8 ∧ w.cell? ⟨g, 9, none⟩ = some u9 ∧ w.cell? ⟨g, 10, none⟩ = some u10 ∧ w.cell? ⟨g, 11, none⟩ = some u11 ∧ w.cell? ⟨g, 12, none⟩ = some u12 ∧ w.cell? ⟨g, 13, none⟩ = some u13 ∧ w.cell? ⟨g, 14, none⟩ = some u14 ∧ w.cell? ⟨g, 15, none⟩ = some u15 ∧ w.cell? ⟨g, 16, none⟩ = some u16 ∧ w.cell? ⟨g, 17, none⟩ = some u17 ∧ w.frozen? ⟨g, 0, none⟩ = false ∧ w.frozen? ⟨g, 1, none⟩ = false ∧ w.frozen? ⟨g, 2, none⟩ = false ∧ w.frozen? ⟨g, 3, none⟩ = false ∧ w.frozen? ⟨g, 4, none⟩ = false ∧ w.frozen? ⟨g, 5, none⟩ = false ∧ w.frozen? ⟨g, 6, none⟩ = false ∧ w.frozen? ⟨g, 7, none⟩ = false ∧ w.frozen? ⟨g, 8, none⟩ = false ∧ w.frozen? ⟨g, 9, none⟩ = false ∧ w.frozen? ⟨g, 10, none⟩ = false ∧ w.frozen? ⟨g, 11, none⟩ = false ∧ w.frozen? ⟨g, 12, none⟩ = false ∧ w.frozen? ⟨g, 13, none⟩ = false ∧ w.frozen? ⟨g, 14, none⟩ = false ∧ w.frozen? ⟨g, 15, none⟩ = false ∧ w.frozen? ⟨g, 16, none⟩ = false ∧ w.frozen? ⟨g, 17, none⟩ = false :=
  ⟨h.c 0 _ rfl, h.c 1 _ rfl, h.c 2 _ rfl, h.c 3 _ rfl, h.c 4 _ rfl, h.c 5 _ rfl, h.c 6 _ rfl, h.c 7 _ rfl, h.c 8 _ rfl, h.c 9 _ rfl, h.c 10 _ rfl, h.c 11 _ rfl, h.c 12 _ rfl, h.c 13 _ rfl, h.c 14 _ rfl, h.c 15 _ rfl, h.c 16 _ rfl, h.c 17 _ rfl, h.f 0 _ rfl, h.f 1 _ rfl, h.f 2 _ rfl, h.f 3 _ rfl, h.f 4 _ rfl, h.f 5 _ rfl, h.f 6 _ rfl, h.f 7 _ rfl, h.f 8 _ rfl, h.f 9 _ rfl, h.f 10 _ rfl, h.f 11 _ rfl, h.f 12 _ rfl, h.f 13 _ rfl, h.f 14 _ rfl, h.f 15 _ rfl, h.f 16 _ rfl, h.f 17 _ rfl⟩
theorem Box.put6 {w : World} {g : Nat} {u0 u1 u2 u3 u4 u5 : Value} (h : Box w g [u0, u1, u2, u3, u4, u5]) (x0 x1 x2 x3 x4 : Value) : (w.setCell ⟨g, 0, none⟩ x0).cell? ⟨g, 1, none⟩ = some u1 ∧ (w.setCell ⟨g, 0, none⟩ x0).frozen? ⟨g, 1, none⟩ = false ∧ ((w.setCell ⟨g, 0, none⟩ x0).setCell ⟨g, 1, none⟩ x1).cell? ⟨g, 2, none⟩ = some u2 ∧ ((w.setCell ⟨g, 0, none⟩ x0).setCell ⟨g, 1, none⟩ x1).frozen? ⟨g, 2, none⟩ = false ∧ (((w.setCell ⟨g, 0, none⟩ x0).setCell ⟨g, 1, none⟩ x1).setCell ⟨g, 2, none⟩ x2).cell? ⟨g, 3, none⟩ = some u3 ∧ (((w.setCell ⟨g, 0, none⟩ x0).setCell ⟨g, 1, none⟩ x1).setCell ⟨g, 2, none⟩ x2).frozen? ⟨g, 3, none⟩ = false ∧ ((((w.setCell ⟨g, 0, none⟩ x0).setCell ⟨g, 1, none⟩ x1).setCell ⟨g, 2, none⟩ x2).setCell ⟨g, 3, none⟩ x3).cell? ⟨g, 4, none⟩ = some u4 ∧ ((((w.setCell ⟨g, 0, none⟩ x0).setCell ⟨g, 1, none⟩ x1).setCell ⟨g, 2, none⟩ x2).setCell ⟨g, 3, none⟩ x3).frozen? ⟨g, 4, none⟩ = false ∧ (((((w.setCell ⟨g, 0, none⟩ x0).setCell ⟨g, 1, none⟩ x1).setCell ⟨g, 2, none⟩ x2).setCell ⟨g, 3, none⟩ x3).setCell ⟨g, 4, none⟩ x4).cell? ⟨g, 5, none⟩ = some u5 ∧ (((((w.setCell ⟨g, 0, none⟩ x0).setCell ⟨g, 1, none⟩ x1).setCell ⟨g, 2, none⟩ x2).setCell ⟨g, 3, none⟩ x3).setCell ⟨g, 4, none⟩ x4).frozen? ⟨g, 5, none⟩ = false :=
  ⟨(h.set 0 x0).c 1 _ rfl, (h.set 0 x0).f 1 _ rfl, ((h.set 0 x0).set 1 x1).c 2 _ rfl, ((h.set 0 x0).set 1 x1).f 2 _ rfl, (((h.set 0 x0).set 1 x1).set 2 x2).c 3 _ rfl, (((h.set 0 x0).set 1 x1).set 2 x2).f 3 _ rfl, ((((h.set 0 x0).set 1 x1).set 2 x2).set 3 x3).c 4 _ rfl, ((((h.set 0 x0).set 1 x1).set 2 x2).set 3 x3).f 4 _ rfl, (((((h.set 0 x0).set 1 x1).set 2 x2).set 3 x3).set 4 x4).c 5 _ rfl, (((((h.set 0 x0).set 1 x1).set 2 x2).set 3 x3).set 4 x4).f 5 _ rfl⟩
theorem Box.put9 {w : World} {g : Nat} {u0 u1 u2 u3 u4 u5 u6 u7 u8 : Value} (h : Box w g [u0, u1, u2, u3, u4, u5, u6, u7, u8]) (x0 x1 x2 x3 x4 x5 x6 x7 : Value) : (w.setCell ⟨g, 0, none⟩ x0).cell? ⟨g, 1, none⟩ = some u1 ∧ (w.setCell ⟨g, 0, none⟩ x0).frozen? ⟨g, 1, none⟩ = false ∧ ((w.setCell ⟨g, 0, none⟩ x0).setCell ⟨g, 1, none⟩ x1).cell? ⟨g, 2, none⟩ = some u2 ∧ ((w.setCell ⟨g, 0, none⟩ x0).setCell ⟨g, 1, none⟩ x1).frozen? ⟨g, 2, none⟩ = false ∧ (((w.setCell ⟨g, 0, none⟩ x0).setCell ⟨g, 1, none⟩ x1).setCell ⟨g, 2, none⟩ x2).cell? ⟨g, 3, none⟩ = some u3 ∧ (((w.setCell ⟨g, 0, none⟩ x0).setCell ⟨g, 1, none⟩ x1).setCell ⟨g, 2, none⟩ x2).frozen? ⟨g, 3, none⟩ = false ∧ ((((w.setCell ⟨g, 0, none⟩ x0).setCell ⟨g, 1, none⟩ x1).setCell ⟨g, 2, none⟩ x2).setCell ⟨g, 3, none⟩ x3).cell? ⟨g, 4, none⟩ = some u4 ∧ ((((w.setCell ⟨g, 0, none⟩ x0).setCell ⟨g, 1, none⟩ x1).setCell ⟨g, 2, none⟩ x2).setCell ⟨g, 3, none⟩ x3).frozen? ⟨g, 4, none⟩ = false ∧ (((((w.setCell ⟨g, 0, none⟩ x0).setCell ⟨g, 1, none⟩ x1).setCell ⟨g, 2, none⟩ x2).setCell ⟨g, 3, none⟩ x3).setCell ⟨g, 4, none⟩ x4).cell? ⟨g, 5, none⟩ = some u5 ∧ (((((w.setCell ⟨g, 0, none⟩ x0).setCell ⟨g, 1, none⟩ x1).setCell ⟨g, 2, none⟩ x2).setCell ⟨g, 3, none⟩ x3).setCell ⟨g, 4, none⟩ x4).frozen? ⟨g, 5, none⟩ = false ∧ ((((((w.setCell ⟨g, 0, none⟩ x0).setCell ⟨g, 1, none⟩ x1).setCell ⟨g, 2, none⟩ x2).setCell ⟨g, 3, none⟩ x3).setCell ⟨g, 4, none⟩ x4).setCell ⟨g, 5, none⟩ x5).cell? ⟨g, 6, none⟩ = some u6 ∧ ((((((w.setCell ⟨g, 0, none⟩ x0).setCell ⟨g, 1, none⟩ x1).setCell ⟨g, 2, none⟩ x2).setCell ⟨g, 3, none⟩ x3).setCell ⟨g, 4, none⟩ x4).setCell ⟨g, 5, none⟩ x5).frozen? ⟨g, 6, none⟩ = false ∧ (((((((w.setCell ⟨g, 0, none⟩ x0).setCell ⟨g, 1, none⟩ x1).setCell ⟨g, 2, none⟩ x2).setCell ⟨g, 3, none⟩ x3).setCell ⟨g, 4, none⟩ x4).setCell ⟨g, 5, none⟩ x5).setCell ⟨g, 6, none⟩ x6).cell? ⟨g, 7, none⟩ = some u7 ∧ (((((((w.setCell ⟨g, 0, none⟩ x0).setCell ⟨g, 1, none⟩ x1).setCell ⟨g, 2, none⟩ x2).setCell ⟨g, 3, none⟩ x3).setCell ⟨g, 4, none⟩ x4).setCell ⟨g, 5, none⟩ x5).setCell ⟨g, 6, none⟩ x6).frozen? ⟨g, 7, none⟩ = false ∧ ((((((((w.setCell ⟨g, 0, none⟩ x0).setCell ⟨g, 1, none⟩ x1).setCell ⟨g, 2, none⟩ x2).setCell ⟨g, 3, none⟩ x3).setCell ⟨g, 4, none⟩ x4).setCell ⟨g, 5, none⟩ x5).setCell ⟨g, 6, none⟩ x6).setCell ⟨g, 7, none⟩ x7).cell? ⟨g, 8, none⟩ = some u8 ∧ ((((((((w.setCell ⟨g, 0, none⟩ x0).setCell ⟨g, 1, none⟩ x1).setCell ⟨g, 2, none⟩ x2).setCell ⟨g, 3, none⟩ x3).setCell ⟨g, 4, none⟩ x4).setCell ⟨g, 5, none⟩ x5).setCell ⟨g, 6, none⟩ x6).setCell ⟨g, 7, none⟩ x7).frozen? ⟨g, 8, none⟩ = false :=
  ⟨(h.set 0 x0).c 1 _ rfl, (h.set 0 x0).f 1 _ rfl, ((h.set 0 x0).set 1 x1).c 2 _ rfl, ((h.set 0 x0).set 1 x1).f 2 _ rfl, (((h.set 0 x0).set 1 x1).set 2 x2).c 3 _ rfl, (((h.set 0 x0).set 1 x1).set 2 x2).f 3 _ rfl, ((((h.set 0 x0).set 1 x1).set 2 x2).set 3 x3).c 4 _ rfl, ((((h.set 0 x0).set 1 x1).set 2 x2).set 3 x3).f 4 _ rfl, (((((h.set 0 x0).set 1 x1).set 2 x2).set 3 x3).set 4 x4).c 5 _ rfl, (((((h.set 0 x0).set 1 x1).set 2 x2).set 3 x3).set 4 x4).f 5 _ rfl, ((((((h.set 0 x0).set 1 x1).set 2 x2).set 3 x3).set 4 x4).set 5 x5).c 6 _ rfl, ((((((h.set 0 x0).set 1 x1).set 2 x2).set 3 x3).set 4 x4).set 5 x5).f 6 _ rfl, (((((((h.set 0 x0).set 1 x1).set 2 x2).set 3 x3).set 4 x4).set 5 x5).set 6 x6).c 7 _ rfl, (((((((h.set 0 x0).set 1 x1).set 2 x2).set 3 x3).set 4 x4).set 5 x5).set 6 x6).f 7 _ rfl, ((((((((h.set 0 x0).set 1 x1).set 2 x2).set 3 x3).set 4 x4).set 5 x5).set 6 x6).set 7 x7).c 8 _ rfl, ((((((((h.set 0 x0).set 1 x1).set 2 x2).set 3 x3).set 4 x4).set 5 x5).set 6 x6).set 7 x7).f 8 _ rfl⟩
theorem noWord6 (b : Bool) (ao : Option Addr) (n c : Nat) (bo : Option Addr) (k d : Nat) (b' : Bool) (ao' : Option Addr) (n' c' : Nat) (bo' : Option Addr) (k' d' : Nat) : ∀ u ∈ [.bool b, .slice ao n c, .slice bo k d, .bool b', .slice ao' n' c', .slice bo' k' d'], NoWord u := by
  intro u hu; simp at hu; rcases hu with rfl | rfl | rfl | rfl | rfl | rfl
  · exact NoWord.bool _
  · exact NoWord.slice _ _ _
  · exact NoWord.slice _ _ _
  · exact NoWord.bool _
  · exact NoWord.slice _ _ _
  · exact NoWord.slice _ _ _
/-- What was a word is that word. -/
def Kept (w w' : World) : Prop := ∀ (a : Addr) (x : Int), w.cell? a = some (.int .u64 x) → w'.cell? a = some (.int .u64 x)
theorem Kept.refl (w : World) : Kept w w := fun _ _ h => h
theorem Kept.trans {a b c : World} (h : Kept a b) (k : Kept b c) : Kept a c := fun p x e => k p x (h p x e)
theorem Kept.below {w w' : World} (hb : Below w.heap.size w w') : Kept w w' := fun a _ h => (hb.cell (World.block_lt_of_cell? w a h)).trans h
theorem Kept.setOne {w : World} {a : Addr} {u : Value} (hc : w.cell? a = some u) (hu : NoWord u) (v : Value) : Kept w (w.setCell a v) := by
  intro b x h
  have ne : a ≠ b := by
    intro e; rw [e, h] at hc; exact hu _ (Option.some.inj hc).symm
  rw [World.cell?_setCell_other _ _ _ _ (by first | exact ne | exact ne.symm)]; exact h
theorem Reads.kept {w w' : World} {ao : Option Addr} {n : Nat} {f : Nat → Nat} (h : Reads w ao n f) (k : Kept w w') : Reads w' ao n f := by
  intro i hi; obtain ⟨b, o, e, h1, h2⟩ := h i hi; exact ⟨b, o, e, k _ _ h1, h2⟩
theorem Mag.kept {w w' : World} {v : Value} {L N : Nat} (h : Mag w v L N) (k : Kept w w') : Mag w' v L N := by
  obtain ⟨ao, n, c, f, h1, h2, h3, h4, h5⟩ := h; exact ⟨ao, n, c, f, h1, h2, h3, h4.kept k, h5⟩
theorem RMag.kept {w w' : World} {v : Value} {L N : Nat} (h : RMag w v L N) (k : Kept w w') : RMag w' v L N := by
  obtain ⟨ao, n, c, f, h1, h2, h3, h4, h5⟩ := h; exact ⟨ao, n, c, f, h1, h2, h3, h4.kept k, h5⟩
theorem Num.kept {w w' : World} {v : Value} {L : Nat} {N : Int} (h : Num w v L N) (k : Kept w w') : Num w' v L N := by
  obtain ⟨m, vm, M, h1, h2, h3⟩ := h; exact ⟨m, vm, M, h1, h2.kept k, h3⟩
theorem RNum.kept {w w' : World} {v : Value} {L : Nat} {N : Int} (h : RNum w v L N) (k : Kept w w') : RNum w' v L N := by
  obtain ⟨m, vm, M, h1, h2, h3⟩ := h; exact ⟨m, vm, M, h1, h2.kept k, h3⟩
theorem FD.kept {w w' : World} {v : Value} {L : Nat} {X : Int} {D : Nat} (h : FD w v L X D) (k : Kept w w') : FD w' v L X D := by
  obtain ⟨m, ao, n, c, bo, k', d, h1, h2, h3⟩ := h; exact ⟨m, ao, n, c, bo, k', d, h1, h2.kept k, h3.kept k⟩
theorem RF.kept {w w' : World} {v : Value} {L : Nat} {q : Rat} (h : RF w v L q) (k : Kept w w') : RF w' v L q := by
  obtain ⟨m, ao, n, c, bo, k', d, h1, h2, h3⟩ := h; exact ⟨m, ao, n, c, bo, k', d, h1, h2.kept k, h3.kept k⟩
theorem FQ.kept {w w' : World} {v : Value} {L : Nat} {q : Rat} (h : FQ w v L q) (k : Kept w w') : FQ w' v L q := by
  obtain ⟨X, D, h1, h2⟩ := h; exact ⟨X, D, h1.kept k, h2⟩
theorem FQ.of {w : World} {v : Value} {L : Nat} {p q : Rat} (h : FQ w v L p) (e : p = q) : FQ w v L q := e ▸ h
/-- A call's answer is a Spot: two right Fracs of at most L words. -/
def AnsS (w w' : World) (e : Ending) (L : Nat) (p q : Rat) : Prop := ∃ m ao n c bo k d m2 ao2 n2 c2 bo2 k2 d2, e = .returned (.agg #[.bool m, .slice ao n c, .slice bo k d, .bool m2, .slice ao2 n2 c2, .slice bo2 k2 d2]) ∧
  RF w' (.agg #[.bool m, .slice ao n c, .slice bo k d]) L p ∧ RF w' (.agg #[.bool m2, .slice ao2 n2 c2, .slice bo2 k2 d2]) L q ∧ Below w.heap.size w w'
theorem AnsS.of {w w' : World} {e : Ending} {L L' : Nat} {p q p' q' : Rat} (h : AnsS w w' e L p q) (hL : L ≤ L') (hp : p = p') (hq : q = q') : AnsS w w' e L' p' q' := by
  subst hp hq; obtain ⟨m, ao, n, c, bo, k, d, m2, ao2, n2, c2, bo2, k2, d2, h1, h2, h3, h4⟩ := h; exact ⟨m, ao, n, c, bo, k, d, m2, ao2, n2, c2, bo2, k2, d2, h1, h2.more hL, h3.more hL, h4⟩
end Go.MagM
/- A leap of Euclid's steps (Lehmer's way): the mathematics. -/
namespace Go.MagG
/-- Where a leap stands: a, b are what is left of the heads A0, B0; x, y are the factors; s: after steps (else none has been gone). -/
structure Leap (A0 B0 a b x0 x1 y0 y1 : Nat) (odd : Bool) : Prop where
  detA : y1 * a + y0 * b = A0
  detB : x1 * a + x0 * b = B0
  even : odd = false → x0 * y1 = x1 * y0 + 1
  odds : odd = true → y0 * x1 = x0 * y1 + 1
  gone : (y0 = 0 ∧ x0 = 1 ∧ x1 = 0 ∧ y1 = 1 ∧ b ≤ a) ∨ (1 ≤ y0 ∧ 1 ≤ x1 ∧ x0 ≤ y0 ∧ x1 ≤ y1 ∧ y1 ≤ b ∧ y0 + y1 + b ≤ a)
theorem Leap.start {A0 B0 : Nat} (h : B0 ≤ A0) : Leap A0 B0 A0 B0 1 0 0 1 false :=
  ⟨by simp, by simp, fun _ => rfl, fun h => by simp at h, .inl ⟨rfl, rfl, rfl, rfl, h⟩⟩
theorem Leap.le {A0 B0 a b x0 x1 y0 y1 : Nat} {odd : Bool} (h : Leap A0 B0 a b x0 x1 y0 y1 odd) : b ≤ a := by
  rcases h.gone with h | h <;> omega
theorem det_step (q y0 y1 a b r A : Nat) (h3 : a = b * q + r) (h : y1 * a + y0 * b = A) : (y0 + q * y1) * b + y1 * r = A := by grind
theorem det_flip (q x0 x1 y0 y1 : Nat) (h : x0 * y1 = x1 * y0 + 1) : y1 * (x0 + q * x1) = x1 * (y0 + q * y1) + 1 := by grind
theorem det_flop (q x0 x1 y0 y1 : Nat) (h : y0 * x1 = x0 * y1 + 1) : x1 * (y0 + q * y1) = (x0 + q * x1) * y1 + 1 := by grind
/-- One step: the next factors fit in a word, if the numbers do. -/
theorem Leap.next {A0 B0 a b x0 x1 y0 y1 : Nat} {odd : Bool} (h : Leap A0 B0 a b x0 x1 y0 y1 odd) (hb : b ≠ 0) :
    y0 + a / b * y1 ≤ A0 ∧ x0 + a / b * x1 ≤ B0 ∧ (y0 + a / b * y1 ≤ a % b → y1 + (y0 + a / b * y1) ≤ A0) := by
  have e := (Nat.div_add_mod a b).symm
  have h1 := det_step (a / b) y0 y1 a b (a % b) A0 e h.detA
  have h2 := det_step (a / b) x0 x1 a b (a % b) B0 e h.detB
  have hb1 : 1 ≤ b := by omega
  have h3 := Nat.mul_le_mul_left (y0 + a / b * y1) hb1
  have h4 := Nat.mul_le_mul_left (x0 + a / b * x1) hb1
  rw [Nat.mul_one] at h3 h4
  refine ⟨by omega, by omega, fun hr => ?_⟩
  have hny : 1 ≤ y0 + a / b * y1 := by
    rcases h.gone with ⟨g1, _, _, g2, g3⟩ | ⟨g1, _⟩
    · have : 1 ≤ a / b := (Nat.one_le_div_iff (by omega)).2 g3
      rw [g2]; omega
    · omega
  have h5 := Nat.mul_le_mul_left y1 (show 1 ≤ a % b by omega)
  rw [Nat.mul_one] at h5
  omega
theorem Leap.step {A0 B0 a b x0 x1 y0 y1 : Nat} {odd : Bool} (h : Leap A0 B0 a b x0 x1 y0 y1 odd) (hb : b ≠ 0)
    (h1 : y0 + a / b * y1 ≤ a % b) (h2 : y1 + (y0 + a / b * y1) ≤ b - a % b) :
    Leap A0 B0 b (a % b) x1 (x0 + a / b * x1) y1 (y0 + a / b * y1) (!odd) := by
  have e := (Nat.div_add_mod a b).symm
  have hr : a % b < b := Nat.mod_lt _ (by omega)
  refine ⟨det_step _ _ _ _ _ _ _ e h.detA, det_step _ _ _ _ _ _ _ e h.detB, fun ho => ?_, fun ho => ?_, .inr ?_⟩
  · have : odd = true := by simpa using ho
    exact det_flop _ _ _ _ _ (h.odds this)
  · have : odd = false := by simpa using ho
    exact det_flip _ _ _ _ _ (h.even this)
  · have hq : 1 ≤ a / b := (Nat.one_le_div_iff (by omega)).2 h.le
    rcases h.gone with ⟨g1, g2, g3, g4, g5⟩ | ⟨g1, g2, g3, g4, g5, g6⟩
    · subst g1; subst g2; subst g3; subst g4
      simp only [Nat.mul_zero, Nat.mul_one, Nat.zero_add, Nat.add_zero] at h1 h2 ⊢
      omega
    · have h5 := Nat.mul_le_mul_left (a / b) g4
      have h6 := Nat.mul_le_mul_right x1 hq
      omega
theorem sum_even (A0 B0 a b x0 x1 y0 y1 S lA lB P Q : Nat) (hA : y1 * a + y0 * b = A0) (hB : x1 * a + x0 * b = B0) (hd : x0 * y1 = x1 * y0 + 1)
    (hP : P + y0 * lB = a * S + x0 * lA) (hQ : Q + x1 * lA = b * S + y1 * lB) :
    P + y0 * (B0 * S + lB) = x0 * (A0 * S + lA) ∧ Q + x1 * (A0 * S + lA) = y1 * (B0 * S + lB) ∧ A0 * S + lA = y1 * P + y0 * Q ∧ B0 * S + lB = x1 * P + x0 * Q := by
  subst hA; subst hB
  refine ⟨?_, ?_, ?_, ?_⟩ <;> grind
theorem sum_odd (A0 B0 a b x0 x1 y0 y1 S lA lB P Q : Nat) (hA : y1 * a + y0 * b = A0) (hB : x1 * a + x0 * b = B0) (hd : y0 * x1 = x0 * y1 + 1)
    (hP : P + x0 * lA = a * S + y0 * lB) (hQ : Q + y1 * lB = b * S + x1 * lA) :
    P + x0 * (A0 * S + lA) = y0 * (B0 * S + lB) ∧ Q + y1 * (B0 * S + lB) = x1 * (A0 * S + lA) ∧ A0 * S + lA = y1 * P + y0 * Q ∧ B0 * S + lB = x1 * P + x0 * Q := by
  subst hA; subst hB
  refine ⟨?_, ?_, ?_, ?_⟩ <;> grind
/-- A pair with the same divisors: from A, B to P, Q. -/
theorem gcd_mix (A B P Q x0 x1 y0 y1 : Nat) (h1 : P + y0 * B = x0 * A) (h2 : Q + x1 * A = y1 * B) (h3 : A = y1 * P + y0 * Q) (h4 : B = x1 * P + x0 * Q) : Nat.gcd P Q = Nat.gcd A B := by
  apply Nat.dvd_antisymm
  · apply Nat.dvd_gcd
    · rw [h3]; exact Nat.dvd_add (Nat.dvd_mul_left_of_dvd (Nat.gcd_dvd_left _ _) _) (Nat.dvd_mul_left_of_dvd (Nat.gcd_dvd_right _ _) _)
    · rw [h4]; exact Nat.dvd_add (Nat.dvd_mul_left_of_dvd (Nat.gcd_dvd_left _ _) _) (Nat.dvd_mul_left_of_dvd (Nat.gcd_dvd_right _ _) _)
  · apply Nat.dvd_gcd
    · have := Nat.dvd_mul_left_of_dvd (Nat.gcd_dvd_left A B) x0
      rw [← h1] at this
      exact (Nat.dvd_add_iff_left (Nat.dvd_mul_left_of_dvd (Nat.gcd_dvd_right A B) y0)).2 this
    · have := Nat.dvd_mul_left_of_dvd (Nat.gcd_dvd_right A B) y1
      rw [← h2] at this
      exact (Nat.dvd_add_iff_left (Nat.dvd_mul_left_of_dvd (Nat.gcd_dvd_left A B) x1)).2 this
theorem gcd_mox (A B P Q x0 x1 y0 y1 : Nat) (h1 : P + x0 * A = y0 * B) (h2 : Q + y1 * B = x1 * A) (h3 : A = y1 * P + y0 * Q) (h4 : B = x1 * P + x0 * Q) : Nat.gcd P Q = Nat.gcd A B := by
  rw [Nat.gcd_comm A B]
  refine gcd_mix B A P Q y0 y1 x0 x1 h1 h2 h4 h3
theorem sub_room {c u l S t : Nat} (h : c ≤ t) (hl : l < S) : c * l ≤ t * S + u := by
  have := Nat.mul_le_mul h (Nat.le_of_lt hl); omega
/-- What the leap's end tells of the numbers whose heads they were: the new pair. -/
theorem Leap.pair {A0 B0 a b x0 x1 y0 y1 : Nat} {odd : Bool} (h : Leap A0 B0 a b x0 x1 y0 y1 odd) (hy : y0 ≠ 0) (S lA lB : Nat) (hlA : lA < S) (hlB : lB < S) :
    ∃ P Q, (odd = false → P + y0 * (B0 * S + lB) = x0 * (A0 * S + lA) ∧ Q + x1 * (A0 * S + lA) = y1 * (B0 * S + lB)) ∧
      (odd = true → P + x0 * (A0 * S + lA) = y0 * (B0 * S + lB) ∧ Q + y1 * (B0 * S + lB) = x1 * (A0 * S + lA)) ∧
      Q ≤ P ∧ Nat.gcd P Q = Nat.gcd (A0 * S + lA) (B0 * S + lB) ∧ A0 * S + lA = y1 * P + y0 * Q ∧ B0 * S + lB = x1 * P + x0 * Q ∧ 1 ≤ y0 ∧ 1 ≤ x1 ∧ x1 ≤ y1 := by
  obtain ⟨g1, g2, g3, g4, g5, g6⟩ := h.gone.resolve_left (fun g => hy g.1)
  have hab : (y0 + y1) * S + b * S ≤ a * S := by rw [← Nat.add_mul]; exact Nat.mul_le_mul_right S g6
  have e1 : y0 * lB ≤ a * S + x0 * lA := sub_room (by omega) hlB
  have e2 : x1 * lA ≤ b * S + y1 * lB := sub_room (by omega) hlA
  have e3 : x0 * lA ≤ a * S + y0 * lB := sub_room (by omega) hlA
  have e4 : y1 * lB ≤ b * S + x1 * lA := sub_room (by omega) hlB
  have m1 : (y0 + y1) * lB ≤ (y0 + y1) * S := Nat.mul_le_mul_left _ (Nat.le_of_lt hlB)
  have m2 : (x0 + x1) * lA ≤ (y0 + y1) * S := Nat.mul_le_mul (by omega) (Nat.le_of_lt hlA)
  rw [Nat.add_mul] at m1 m2
  cases odd with
  | false =>
    obtain ⟨P, hP⟩ : ∃ P, P + y0 * lB = a * S + x0 * lA := ⟨a * S + x0 * lA - y0 * lB, by omega⟩
    obtain ⟨Q, hQ⟩ : ∃ Q, Q + x1 * lA = b * S + y1 * lB := ⟨b * S + y1 * lB - x1 * lA, by omega⟩
    obtain ⟨r1, r2, r3, r4⟩ := sum_even A0 B0 a b x0 x1 y0 y1 S lA lB P Q h.detA h.detB (h.even rfl) hP hQ
    exact ⟨P, Q, fun _ => ⟨r1, r2⟩, fun h => (by cases h), by omega, gcd_mix _ _ _ _ _ _ _ _ r1 r2 r3 r4, r3, r4, g1, g2, g4⟩
  | true =>
    obtain ⟨P, hP⟩ : ∃ P, P + x0 * lA = a * S + y0 * lB := ⟨a * S + y0 * lB - x0 * lA, by omega⟩
    obtain ⟨Q, hQ⟩ : ∃ Q, Q + y1 * lB = b * S + x1 * lA := ⟨b * S + x1 * lA - y1 * lB, by omega⟩
    obtain ⟨r1, r2, r3, r4⟩ := sum_odd A0 B0 a b x0 x1 y0 y1 S lA lB P Q h.detA h.detB (h.odds rfl) hP hQ
    exact ⟨P, Q, fun h => (by cases h), fun _ => ⟨r1, r2⟩, by omega, gcd_mox _ _ _ _ _ _ _ _ r1 r2 r3 r4, r3, r4, g1, g2, g4⟩
/-- The new pair is less. -/
theorem less_pair (A B P Q x0 x1 y0 y1 : Nat) (h3 : A = y1 * P + y0 * Q) (h4 : B = x1 * P + x0 * Q) (hy0 : 1 ≤ y0) (hx1 : 1 ≤ x1) (hxy : x1 ≤ y1) (hle : Q ≤ P) (hA : 0 < A) : P + Q < A + B ∧ P ≤ A := by
  have h5 := Nat.mul_le_mul_right P (show 1 ≤ y1 by omega)
  have h6 := Nat.mul_le_mul_right P hx1
  have h7 := Nat.mul_le_mul_right Q hy0
  rw [Nat.one_mul] at h5 h6 h7
  have hP : 0 < P := by
    rcases Nat.eq_zero_or_pos P with h | h
    · subst h
      have : Q = 0 := by omega
      subst this; simp at h3; omega
    · exact h
  omega
end Go.MagG
/- The parts of Gcd: gcdWords, at, head. -/
namespace Go.Proofs.Ytdfabocecpcmcaa
open Go.RowKit Go.MagM
set_option maxHeartbeats 1000000 in
theorem gcdWords_any (x y : Nat) (w : World) (hx : x < B) (hy : y < B) :
    Calls Try.prog 73 #[.int .u64 (x : Int), .int .u64 (y : Int)] w fun e w' => ∃ q, e = .returned (.int .u64 ((Nat.gcd x y : Nat) : Int)) ∧ w' = w.drewN q := by
  go_enter Try.func73, Try.ntmps73
  go_wp2
  go_loopw [0, 1] (fun av bv wr => ∃ a b q : Nat, av = .int .u64 a ∧ bv = .int .u64 b ∧ a < B ∧ b < B ∧ Nat.gcd a b = Nat.gcd x y ∧ wr = w.drewN q) (fun _ bv _ => (intOf bv).toNat)
  case atStart => exact ⟨x, y, 0, rfl, rfl, hx, hy, rfl, rfl⟩
  case round =>
    obtain ⟨a, b, q, rfl, rfl, ha, hb, hg, rfl⟩ := hrel
    have HG := Lib.hid hg; have HA := Lib.hid ha; have HBB := Lib.hid hb; clear hg ha hb
    by_cases h0 : b = 0
    · subst h0
      go_wp2
      go_ret
      refine ⟨q, ?_, rfl⟩
      rw [← HG.out, Nat.gcd_zero_right]; rfl
    · have hbb : ((b : Int) != 0) = true := by simp; omega
      have hb0 : (b : Int) ≠ 0 := by omega
      obtain ⟨r, hr⟩ : ∃ r, a % b = r := ⟨_, rfl⟩
      have hmod : (a : Int) % (b : Int) = (r : Int) := by rw [← hr]; simp
      have hrb : r < b := by rw [← hr]; exact Nat.mod_lt _ (by omega)
      have HR := Lib.hid hr; have HRB := Lib.hid hrb; clear hr hrb
      go_wp2
      go_quiet (fail)
      go_wp2
      refine ⟨⟨b, r, q + nq, rfl, by rw [hmod], HBB.out, Nat.lt_trans HRB.out HBB.out, ?_, by rw [World.drewN_drewN]⟩, ?_⟩
      · rw [← HG.out, ← HR.out, Nat.gcd_comm b, ← Nat.gcd_rec, Nat.gcd_comm]
      · have := HRB.out; simp [intOf]; omega
set_option maxHeartbeats 1000000 in
theorem at_any (ao : Option Addr) (n c i : Nat) (f : Nat → Nat) (w : World) (hr : Reads w ao n f) :
    Calls Try.prog 90 #[.slice ao n c, .int .i64 (i : Int)] w fun e w' => e = .returned (.int .u64 (((if i < n then f i else 0 : Nat)) : Int)) ∧ w = w' := by
  by_cases h : i < n
  · obtain ⟨b, o, rfl, hc, _⟩ := hr i h
    rw [if_pos h]
    clear hr
    go_enter Try.func90, Try.ntmps90
    go_wp2
    go_ret
    exact ⟨rfl, rfl⟩
  · rw [if_neg h]
    clear hr
    go_enter Try.func90, Try.ntmps90
    go_wp2
    go_ret
    exact ⟨rfl, rfl⟩
/-- A word of a number, 0 beyond its end. -/
def zx (f : Nat → Nat) (n i : Nat) : Nat := if i < n then f i else 0
theorem zx_lt {f : Nat → Nat} {n : Nat} (h : ∀ i, i < n → f i < B) (i : Nat) : zx f n i < B := by
  unfold zx; split
  · exact h i (by omega)
  · exact B_pos
set_option maxHeartbeats 1000000 in
theorem head_any (ao : Option Addr) (n c T t s : Nat) (f : Nat → Nat) (w : World) (hT : T ≤ 9000000000) (hTt : (T : Int) - 1 = (t : Int)) (hs : s ≤ 63) (hr : Reads w ao n f) :
    Calls Try.prog 82 #[.slice ao n c, .int .i64 (T : Int), .int .i64 (s : Int)] w fun e w' =>
      ∃ q, e = .returned (.int .u64 ((zx f n T * 2 ^ s % B + zx f n t * 2 ^ s / B : Nat) : Int)) ∧ w' = w.drewN q := by
  have hlt := zx_lt hr.lt t
  have a1 : ∀ (i : Nat) (q : Nat), Calls Try.prog 90 #[.slice ao n c, .int .i64 (i : Int)] (w.drewN q) fun e w' => e = .returned (.int .u64 ((zx f n i : Nat) : Int)) ∧ ∃ k, w' = w.drewN k :=
    fun i q => (at_any ao n c i f (w.drewN q) hr).mono fun _ _ h => ⟨h.1, q, h.2.symm⟩
  obtain ⟨x, hx⟩ : ∃ x, zx f n T = x := ⟨_, rfl⟩
  obtain ⟨y, hy⟩ : ∃ y, zx f n t = y := ⟨_, rfl⟩
  have aT := a1 T
  have at' := a1 t
  simp only [hx] at aT ⊢; simp only [hy] at at' hlt ⊢
  have AT := Lib.hid aT; have At := Lib.hid at'; have HL := Lib.hid hlt
  clear a1 hr hx hy aT at' hlt
  have b5 : (0 : Int) ≤ 64 - (s : Int) := by omega
  have hk1 : IntKind.i64.wrap ((T : Int) - 1) = (t : Int) := by rw [IntWalk.i64_in _ (by omega)]; omega
  have b7 : IntKind.i64.wrap (64 - (s : Int)) = 64 - (s : Int) := IntWalk.i64_in _ (by omega)
  clear hTt
  go_enter Try.func82, Try.ntmps82
  go_wp2
  go_quiet ((go_at_call 90; first | with_reducible exact AT.out _ | with_reducible exact At.out _))
  go_wp2
  go_ret
  refine ⟨nq, ?_, rfl⟩
  rw [← orU _ _ _ HL.out (by omega)]; rfl
end Go.Proofs.Ytdfabocecpcmcaa
/- leap. -/
namespace Go.Proofs.Ytdfabocecpcmcaa
open Go.RowKit Go.MagM Go.MagG
set_option maxRecDepth 100000 in
set_option maxHeartbeats 4000000 in
theorem leap_any (A0 B0 : Nat) (w : World) (hA : A0 < B) (hB : B0 < B) (hle : B0 ≤ A0) :
    Calls Try.prog 81 #[.int .u64 (A0 : Int), .int .u64 (B0 : Int)] w fun e w' =>
      ∃ a b x0 x1 y0 y1 odd, Leap A0 B0 a b x0 x1 y0 y1 odd ∧ e = .returned (.tuple #[.agg #[.int .u64 ((x0 : Nat) : Int), .int .u64 ((x1 : Nat) : Int)], .agg #[.int .u64 ((y0 : Nat) : Int), .int .u64 ((y1 : Nat) : Int)], .bool odd]) ∧ Below w.heap.size w w' := by
  have HA := Lib.hid hA; have HB := Lib.hid hB
  have hstart := Leap.start hle
  have HS := Lib.hid hstart
  obtain ⟨b0, b1, hB0⟩ := boxed2 w (.int .u64 1) (.int .u64 0) (.int .u64 0) (.int .u64 1) 105
  have B0' := Lib.hid b0; have B1' := Lib.hid b1; have H0 := Lib.hid hB0
  clear hA hB hle hstart b0 b1 hB0
  go_enter Try.func81, Try.ntmps81
  go_wp2
  go_loopw [0, 1, 6] (fun av bv ov wr => ∃ a b x0 x1 y0 y1 : Nat, ∃ odd : Bool, av = .int .u64 a ∧ bv = .int .u64 b ∧ ov = .bool odd ∧ Leap A0 B0 a b x0 x1 y0 y1 odd ∧
    Box2 wr w.heap.size (.int .u64 (x0 : Int)) (.int .u64 (x1 : Int)) ∧ Box2 wr (w.heap.size + 1) (.int .u64 (y0 : Int)) (.int .u64 (y1 : Int)) ∧ Below w.heap.size w wr ∧ a < B ∧ b < B) (fun _ bv _ _ => (intOf bv).toNat)
  case atStart => exact ⟨A0, B0, 1, 0, 0, 1, false, rfl, rfl, rfl, HS.out, B0'.out, B1'.out, H0.out, HA.out, HB.out⟩
  case round =>
    obtain ⟨a, b, x0, x1, y0, y1, odd, rfl, rfl, rfl, hl, hx, hy, hbel, haB, hbB⟩ := hrel
    have HL := Lib.hid hl; have HBE := Lib.hid hbel; have HX := Lib.hid hx; have HY := Lib.hid hy; have HAB := Lib.hid haB; have HBB := Lib.hid hbB
    clear hl hbel hx hy haB hbB B0' B1' H0 HS
    by_cases h0 : b = 0
    · subst h0
      go_wp2
      obtain ⟨xz0, xz1, xz2, xz3⟩ := HX.out.drew
      obtain ⟨yz0, yz1, yz2, yz3⟩ := HY.out.drew
      obtain ⟨xc0, xc1, xf0, xf1⟩ := HX.out
      obtain ⟨yc0, yc1, yf0, yf1⟩ := HY.out
      have bx := (HX.out.set2 (.int .u64 (x0 : Int)) (.int .u64 (x1 : Int))).far2 (g' := w.heap.size + 1) (by omega) (.int .u64 (y0 : Int)) (.int .u64 (y1 : Int))
      have by' := (HY.out.far2 (g' := w.heap.size) (by omega) (.int .u64 (x0 : Int)) (.int .u64 (x1 : Int))).set2 (.int .u64 (y0 : Int)) (.int .u64 (y1 : Int))
      have hbe := below_set2 (below_set2 HBE.out (g := w.heap.size) (by omega) (.int .u64 (x0 : Int)) (.int .u64 (x1 : Int))) (g := w.heap.size + 1) (by omega) (.int .u64 (y0 : Int)) (.int .u64 (y1 : Int))
      have BX := Lib.hid bx; have BY := Lib.hid by'; have BE := Lib.hid hbe; clear bx by' hbe
      obtain ⟨xs0, xs1, xt0, xt1⟩ := HX.out.set0 (.int .u64 (x0 : Int))
      obtain ⟨yd0, yd1, yg0, yg1⟩ := HY.out.far2 (g' := w.heap.size) (by omega) (.int .u64 (x0 : Int)) (.int .u64 (x1 : Int))
      obtain ⟨ys0, ys1, yt0, yt1⟩ := (HY.out.far2 (g' := w.heap.size) (by omega) (.int .u64 (x0 : Int)) (.int .u64 (x1 : Int))).set0 (.int .u64 (y0 : Int))
      go_region
      clear xz0 xz1 xz2 xz3 yz0 yz1 yz2 yz3 xc0 xc1 xf0 xf1 yc0 yc1 yf0 yf1 xs0 xs1 xt0 xt1 yd0 yd1 yg0 yg1 ys0 ys1 yt0 yt1
      obtain ⟨xc0, xc1, xf0, xf1⟩ := BX.out.drew
      obtain ⟨yc0, yc1, yf0, yf1⟩ := BY.out.drew
      obtain ⟨xd0, xd1, xg0, xg1⟩ := BX.out
      obtain ⟨yd0, yd1, yg0, yg1⟩ := BY.out
      go_wp2
      exact bodyPost_ret (v := .tuple #[.agg #[.int .u64 (x0 : Int), .int .u64 (x1 : Int)], .agg #[.int .u64 (y0 : Int), .int .u64 (y1 : Int)], .bool odd]) (by simp [results, Try.results81, go_sem, xd0, xd1, yd0, yd1]) rfl ⟨_, _, x0, x1, y0, y1, odd, HL.out, rfl, BE.out.drew'⟩
    · skip
      have hbb : ((b : Int) != 0) = true := by simp; omega
      have hb0 : (b : Int) ≠ 0 := by omega
      obtain ⟨n1, n2, n3⟩ := HL.out.next h0
      obtain ⟨q, hq⟩ : ∃ q, a / b = q := ⟨_, rfl⟩
      obtain ⟨r, hr⟩ : ∃ r, a % b = r := ⟨_, rfl⟩
      have hquo : (a : Int) / (b : Int) = (q : Int) := by rw [← hq]; simp
      have hmod : (a : Int) % (b : Int) = (r : Int) := by rw [← hr]; simp
      have hrb : r < b := by rw [← hr]; exact Nat.mod_lt _ (by omega)
      rw [hq] at n1 n2 n3
      rw [hr] at n3
      obtain ⟨m1, hm1⟩ : ∃ m, q * x1 = m := ⟨_, rfl⟩
      obtain ⟨m2, hm2⟩ : ∃ m, q * y1 = m := ⟨_, rfl⟩
      rw [hm2] at n1 n3
      rw [hm1] at n2
      obtain ⟨nx, hnx⟩ : ∃ n, x0 + m1 = n := ⟨_, rfl⟩
      obtain ⟨ny, hny⟩ : ∃ n, y0 + m2 = n := ⟨_, rfl⟩
      rw [hny] at n1 n3
      rw [hnx] at n2
      have hA := HA.out; have hBB := HB.out
      have hqa : q ≤ a := by rw [← hq]; exact Nat.div_le_self _ _
      have haB := HAB.out
      have e0 : IntKind.u64.wrap (q : Int) = (q : Int) := by rw [IntKind.wrap_u64]; unfold B at *; omega
      have e1 : IntKind.u64.wrap ((q : Int) * (x1 : Int)) = (m1 : Int) := by rw [← Int.natCast_mul, hm1, IntKind.wrap_u64]; unfold B at *; omega
      have e3 : IntKind.u64.wrap ((q : Int) * (y1 : Int)) = (m2 : Int) := by rw [← Int.natCast_mul, hm2, IntKind.wrap_u64]; unfold B at *; omega
      have e2 : IntKind.u64.wrap ((x0 : Int) + (m1 : Int)) = (nx : Int) := by rw [IntKind.wrap_u64]; unfold B at *; omega
      have e4 : IntKind.u64.wrap ((y0 : Int) + (m2 : Int)) = (ny : Int) := by rw [IntKind.wrap_u64]; unfold B at *; omega
      have HN := Lib.hid (And.intro hq (And.intro hr (And.intro hm1 (And.intro hm2 (And.intro hnx hny)))))
      have HN3 := Lib.hid n3; have HN1 := Lib.hid n1; have HN2 := Lib.hid n2; have HRB := Lib.hid hrb; have H0' := Lib.hid h0
      clear hq hr hm1 hm2 hnx hny n1 n2 n3 hA hBB hqa haB
      go_wp2
      go_quiet (fail)
      rw [hmod]
      clear hquo hmod hbb hb0
      have hX2 := HX.out.drewN nq; have hY2 := HY.out.drewN nq; have hBE2 := HBE.out.drewN' nq
      generalize wr.drewN nq = w2 at *
      clear HX HY HBE
      have HX := Lib.hid hX2; have HY := Lib.hid hY2; have HBE := Lib.hid hBE2; clear hX2 hY2 hBE2
      obtain ⟨xc0, xc1, xf0, xf1⟩ := HX.out
      obtain ⟨yc0, yc1, yf0, yf1⟩ := HY.out
      go_wp2
      go_quiet (fail)
      clear e0 e1 e2 e3 e4 xc0 xc1 xf0 xf1 yc0 yc1 yf0 yf1
      clear hrb; have hX2 := HX.out.drewN nq; have hY2 := HY.out.drewN nq; have hBE2 := HBE.out.drewN' nq
      generalize w2.drewN nq = w3 at *
      clear HX HY HBE
      have HX := Lib.hid hX2; have HY := Lib.hid hY2; have HBE := Lib.hid hBE2; clear hX2 hY2 hBE2
      by_cases hc1 : r < ny
      · skip
        go_wp2
        obtain ⟨xz0, xz1, xz2, xz3⟩ := HX.out.drew
        obtain ⟨yz0, yz1, yz2, yz3⟩ := HY.out.drew
        obtain ⟨xc0, xc1, xf0, xf1⟩ := HX.out
        obtain ⟨yc0, yc1, yf0, yf1⟩ := HY.out
        have bx := (HX.out.set2 (.int .u64 (x0 : Int)) (.int .u64 (x1 : Int))).far2 (g' := w.heap.size + 1) (by omega) (.int .u64 (y0 : Int)) (.int .u64 (y1 : Int))
        have by' := (HY.out.far2 (g' := w.heap.size) (by omega) (.int .u64 (x0 : Int)) (.int .u64 (x1 : Int))).set2 (.int .u64 (y0 : Int)) (.int .u64 (y1 : Int))
        have hbe := below_set2 (below_set2 HBE.out (g := w.heap.size) (by omega) (.int .u64 (x0 : Int)) (.int .u64 (x1 : Int))) (g := w.heap.size + 1) (by omega) (.int .u64 (y0 : Int)) (.int .u64 (y1 : Int))
        have BX := Lib.hid bx; have BY := Lib.hid by'; have BE := Lib.hid hbe; clear bx by' hbe
        obtain ⟨xs0, xs1, xt0, xt1⟩ := HX.out.set0 (.int .u64 (x0 : Int))
        obtain ⟨yd0, yd1, yg0, yg1⟩ := HY.out.far2 (g' := w.heap.size) (by omega) (.int .u64 (x0 : Int)) (.int .u64 (x1 : Int))
        obtain ⟨ys0, ys1, yt0, yt1⟩ := (HY.out.far2 (g' := w.heap.size) (by omega) (.int .u64 (x0 : Int)) (.int .u64 (x1 : Int))).set0 (.int .u64 (y0 : Int))
        go_region
        clear xz0 xz1 xz2 xz3 yz0 yz1 yz2 yz3 xc0 xc1 xf0 xf1 yc0 yc1 yf0 yf1 xs0 xs1 xt0 xt1 yd0 yd1 yg0 yg1 ys0 ys1 yt0 yt1
        obtain ⟨xc0, xc1, xf0, xf1⟩ := BX.out.drew
        obtain ⟨yc0, yc1, yf0, yf1⟩ := BY.out.drew
        obtain ⟨xd0, xd1, xg0, xg1⟩ := BX.out
        obtain ⟨yd0, yd1, yg0, yg1⟩ := BY.out
        go_wp2
        exact bodyPost_ret (v := .tuple #[.agg #[.int .u64 (x0 : Int), .int .u64 (x1 : Int)], .agg #[.int .u64 (y0 : Int), .int .u64 (y1 : Int)], .bool odd]) (by simp [results, Try.results81, go_sem, xd0, xd1, yd0, yd1]) rfl ⟨_, _, x0, x1, y0, y1, odd, HL.out, rfl, BE.out.drew'⟩
      · have hA := HA.out; have hbB := HBB.out; have hn3 := HN3.out (by omega); have hrb := HRB.out
        obtain ⟨d, hd⟩ : ∃ d, b - r = d := ⟨_, rfl⟩
        obtain ⟨s, hs⟩ : ∃ s, y1 + ny = s := ⟨_, rfl⟩
        have e5 : IntKind.u64.wrap ((b : Int) - (r : Int)) = (d : Int) := by rw [IntKind.wrap_u64]; unfold B at *; omega
        have e6 : IntKind.u64.wrap ((y1 : Int) + (ny : Int)) = (s : Int) := by rw [IntKind.wrap_u64]; unfold B at *; omega
        have HD := Lib.hid hd; have HSS := Lib.hid hs; clear hA hbB hn3 hrb hd hs
        have hc1' : decide (r < ny) = false := by simp; omega
        obtain ⟨xc0, xc1, xf0, xf1⟩ := HX.out
        obtain ⟨yc0, yc1, yf0, yf1⟩ := HY.out
        by_cases hc2 : d < s
        · skip
          go_wp2
          clear e5 e6 xc0 xc1 xf0 xf1 yc0 yc1 yf0 yf1
          obtain ⟨xz0, xz1, xz2, xz3⟩ := HX.out.drew
          obtain ⟨yz0, yz1, yz2, yz3⟩ := HY.out.drew
          obtain ⟨xc0, xc1, xf0, xf1⟩ := HX.out
          obtain ⟨yc0, yc1, yf0, yf1⟩ := HY.out
          have bx := (HX.out.set2 (.int .u64 (x0 : Int)) (.int .u64 (x1 : Int))).far2 (g' := w.heap.size + 1) (by omega) (.int .u64 (y0 : Int)) (.int .u64 (y1 : Int))
          have by' := (HY.out.far2 (g' := w.heap.size) (by omega) (.int .u64 (x0 : Int)) (.int .u64 (x1 : Int))).set2 (.int .u64 (y0 : Int)) (.int .u64 (y1 : Int))
          have hbe := below_set2 (below_set2 HBE.out (g := w.heap.size) (by omega) (.int .u64 (x0 : Int)) (.int .u64 (x1 : Int))) (g := w.heap.size + 1) (by omega) (.int .u64 (y0 : Int)) (.int .u64 (y1 : Int))
          have BX := Lib.hid bx; have BY := Lib.hid by'; have BE := Lib.hid hbe; clear bx by' hbe
          obtain ⟨xs0, xs1, xt0, xt1⟩ := HX.out.set0 (.int .u64 (x0 : Int))
          obtain ⟨yd0, yd1, yg0, yg1⟩ := HY.out.far2 (g' := w.heap.size) (by omega) (.int .u64 (x0 : Int)) (.int .u64 (x1 : Int))
          obtain ⟨ys0, ys1, yt0, yt1⟩ := (HY.out.far2 (g' := w.heap.size) (by omega) (.int .u64 (x0 : Int)) (.int .u64 (x1 : Int))).set0 (.int .u64 (y0 : Int))
          go_region
          clear xz0 xz1 xz2 xz3 yz0 yz1 yz2 yz3 xc0 xc1 xf0 xf1 yc0 yc1 yf0 yf1 xs0 xs1 xt0 xt1 yd0 yd1 yg0 yg1 ys0 ys1 yt0 yt1
          obtain ⟨xc0, xc1, xf0, xf1⟩ := BX.out.drew
          obtain ⟨yc0, yc1, yf0, yf1⟩ := BY.out.drew
          obtain ⟨xd0, xd1, xg0, xg1⟩ := BX.out
          obtain ⟨yd0, yd1, yg0, yg1⟩ := BY.out
          go_wp2
          exact bodyPost_ret (v := .tuple #[.agg #[.int .u64 (x0 : Int), .int .u64 (x1 : Int)], .agg #[.int .u64 (y0 : Int), .int .u64 (y1 : Int)], .bool odd]) (by simp [results, Try.results81, go_sem, xd0, xd1, yd0, yd1]) rfl ⟨_, _, x0, x1, y0, y1, odd, HL.out, rfl, BE.out.drew'⟩
        · skip
          go_wp2
          clear e5 e6 xc0 xc1 xf0 xf1 yc0 yc1 yf0 yf1
          obtain ⟨xz0, xz1, xz2, xz3⟩ := HX.out.drew
          obtain ⟨yz0, yz1, yz2, yz3⟩ := HY.out.drew
          obtain ⟨xc0, xc1, xf0, xf1⟩ := HX.out
          obtain ⟨yc0, yc1, yf0, yf1⟩ := HY.out
          have bx := (HX.out.set2 (.int .u64 (x1 : Int)) (.int .u64 (nx : Int))).far2 (g' := w.heap.size + 1) (by omega) (.int .u64 (y1 : Int)) (.int .u64 (ny : Int))
          have by' := (HY.out.far2 (g' := w.heap.size) (by omega) (.int .u64 (x1 : Int)) (.int .u64 (nx : Int))).set2 (.int .u64 (y1 : Int)) (.int .u64 (ny : Int))
          have hbe := below_set2 (below_set2 HBE.out (g := w.heap.size) (by omega) (.int .u64 (x1 : Int)) (.int .u64 (nx : Int))) (g := w.heap.size + 1) (by omega) (.int .u64 (y1 : Int)) (.int .u64 (ny : Int))
          have BX := Lib.hid bx; have BY := Lib.hid by'; have BE := Lib.hid hbe; clear bx by' hbe
          obtain ⟨xs0, xs1, xt0, xt1⟩ := HX.out.set0 (.int .u64 (x1 : Int))
          obtain ⟨yd0, yd1, yg0, yg1⟩ := HY.out.far2 (g' := w.heap.size) (by omega) (.int .u64 (x1 : Int)) (.int .u64 (nx : Int))
          obtain ⟨ys0, ys1, yt0, yt1⟩ := (HY.out.far2 (g' := w.heap.size) (by omega) (.int .u64 (x1 : Int)) (.int .u64 (nx : Int))).set0 (.int .u64 (y1 : Int))
          go_region
          go_wp2
          have hst := HL.out.step H0'.out
          obtain ⟨k1, k2, k3, k4, k5, k6⟩ := HN.out
          rw [k1, k2, k3, k4, k5, k6] at hst
          refine ⟨⟨b, r, x1, nx, y1, ny, !odd, rfl, rfl, rfl, hst (by omega) (by have := HD.out; have := HSS.out; omega), BX.out.drew, BY.out.drew, BE.out.drew', HBB.out, Nat.lt_trans HRB.out HBB.out⟩, ?_⟩
          have := HRB.out
          simp [intOf]; omega
end Go.Proofs.Ytdfabocecpcmcaa
/- mix. -/
namespace Go.Proofs.Ytdfabocecpcmcaa
open Go.RowKit Go.MagM Go.MagG
theorem mix_over {P H o lo c A : Nat} (h1 : c ≤ A) (h2 : lo < P) {lo3 : Nat} (h3 : lo3 + P * H = A) (h4 : lo + c = lo3 + o * P) : o ≤ H := by
  rcases Nat.lt_or_ge H o with h | h
  · exfalso
    have := Nat.mul_le_mul_left P (show H + 1 ≤ o by omega)
    rw [Nat.mul_add, Nat.mul_one, Nat.mul_comm P o] at this
    omega
  · exact h
theorem mix_sum {P H o lo lo3 c A hi : Nat} (h3 : lo3 + P * H = A) (h4 : lo + c = lo3 + o * P) (h5 : hi + o = H) : lo + P * hi = A - c := by
  subst h5
  rw [Nat.mul_add, Nat.mul_comm P o] at h3
  omega
theorem mix_first (f2 : Nat → Nat) (n d over : Nat) : V (upd (spl (fun _ => 0) f2 0 n) n over) (n + (d + 1)) = V f2 n + over * B ^ n := by
  rw [show n + (d + 1) = n + 1 + d by omega, V_split, V_none (n := d), Nat.mul_zero, Nat.add_zero, V_upd_succ]
  · have := spl_V (fun _ => 0) f2 0 n
    rw [Nat.zero_add] at this
    rw [this, V_zero]; simp
  · intro i _
    rw [upd_other _ _ _ (by omega), spl_out _ _ (.inr (by omega))]
set_option maxRecDepth 100000 in
set_option maxHeartbeats 4000000 in
theorem mix_any (ao : Option Addr) (n ca : Nat) (f : Nat → Nat) (bo : Option Addr) (m cb : Nat) (fb : Nat → Nat) (p q K : Nat) (w : World) (hn : n ≤ 4000000000) (hm : m ≤ 4000000000) (hK : K = max n m + 1)
    (hra : Reads w ao n f) (hrb : Reads w bo m fb) (hp : p < B) (hq : q < B) (hle : V fb m * q ≤ V f n * p) :
    Calls Try.prog 83 #[.slice ao n ca, .int .u64 (p : Int), .slice bo m cb, .int .u64 (q : Int)] w fun e w' =>
      ∃ v, e = .returned v ∧ RMag w' v K (V f n * p - V fb m * q) ∧ Below w.heap.size w w' := by
  have HP := Lib.hid hp; have HQ := Lib.hid hq; have HA := Lib.hid hra; have HB := Lib.hid hrb; have HL := Lib.hid hle
  have hKn : n < K := by omega
  have hKm : m < K := by omega
  have hKx : K ≤ 4000000001 := by omega
  have HK := Lib.hid hK
  clear hp hq hra hrb hle hK
  go_enter Try.func83, Try.ntmps83
  go_wp2_with (first
    | (at_make; refine wpList_make_words rfl (.tmp 16) (.tmp 16) 24 rfl 82 under_words info_u64 .i64 .i64 _ _ K rfl rfl (by rw [HK.out]; omega) (by rw [HK.out]; omega) (by omega) ?_; intro w1 hh1 hb1 hs1; replace hh1 := Lib.hid hh1))
  all_goals
    go_wp2_with fail
    refine (addTimes_any w.heap.size 0 n _ _ _ _ p w1 (by omega) (fun _ => 0) f (Nat.le_refl _) HP.out (hh1.out.less (by omega)) (HA.out.below hb1) (HA.out.apart (Nat.le_refl _))).mono ?_
    rintro e w2 ⟨f2, over, rfl, hov, hh2, ht2, hv2, _⟩
    obtain ⟨hoc, hof, hoB⟩ := hh1.out n (by omega)
    have hoc2 : w2.cell? ⟨w.heap.size, n, none⟩ = some (.int .u64 0) := by
      rw [ht2.cell n (by omega)]; simpa using hoc
    have hof2 : w2.frozen? ⟨w.heap.size, n, none⟩ = false := by rw [ht2.frz]; simpa using hof
    have hh3 : Held (w2.setCell ⟨w.heap.size, n, none⟩ (.int .u64 (over : Int))) w.heap.size 0 K (upd (spl (fun _ => 0) f2 0 n) n over) := by
      have h := (hh1.out.splice (by simpa using ht2) (by simpa using hh2) (by omega)).setCell (k := n) hov hKn
      simpa using h
    have ht3 : Turn w.heap.size 0 K w1 (w2.setCell ⟨w.heap.size, n, none⟩ (.int .u64 (over : Int))) := (ht2.wider (by omega) (by omega)).setCell (by omega) (by omega) _
    have hbe3 : Below w.heap.size w (w2.setCell ⟨w.heap.size, n, none⟩ (.int .u64 (over : Int))) := ht3.below hb1 (Nat.le_refl _) (by omega)
    obtain ⟨f3, hf3⟩ : ∃ f3, upd (spl (fun _ => 0) f2 0 n) n over = f3 := ⟨_, rfl⟩
    have hV3 : V f3 K = V f n * p := by
      obtain ⟨d, hd⟩ : ∃ d, K = n + (d + 1) := ⟨K - n - 1, by omega⟩
      rw [← hf3, hd, mix_first, hv2, V_none (fun _ _ => rfl)]; simp
    rw [hf3] at hh3
    have HH3 := Lib.hid hh3; have HT3 := Lib.hid ht3; have HB3 := Lib.hid hbe3; have HV3 := Lib.hid hV3
    clear hov hh2 ht2 hv2 hoc hof hoB hh3 ht3 hbe3 hf3 hV3
    go_wp2_with fail
    clear hoc2 hof2
    generalize w2.setCell ⟨w.heap.size, n, none⟩ (.int .u64 (over : Int)) = w3 at *
    refine (takeTimes_any w.heap.size 0 m _ _ _ _ q w3 (by omega) f3 fb (Nat.le_refl _) HQ.out (HH3.out.less (by omega)) (HB.out.below HB3.out) (HB.out.apart (Nat.le_refl _))).mono ?_
    rintro e w4 ⟨f4, ov, rfl, hov, hh4, ht4, hv4, _⟩
    have hsp := V_split f3 m (K - m)
    rw [show m + (K - m) = K by omega, HV3.out] at hsp
    have h4lt := V_lt hh4.lt
    have hoH : ov ≤ V (fun i => f3 (m + i)) (K - m) := mix_over HL.out h4lt hsp.symm hv4
    have hb4 := (ht4.wider (o' := 0) (n' := K) (by omega) (by omega)).below HB3.out (Nat.le_refl _) HB3.out.size
    have hpart : Held w4 w.heap.size (0 + m) (K - m) (fun i => f3 (m + i)) := (HH3.out.part (k := m) (m := K - m) (by omega)).turn ht4 (.inr (by omega))
    have hlt : w.heap.size < w4.heap.size := hpart.lt_size (by omega)
    have hal : Below w4.heap.size w4 (w4.alloc (.cells #[.int .u64 (ov : Int)] 82)) := (Below.refl _ _).alloc (Nat.le_refl _) _
    have hrd : Reads (w4.alloc (.cells #[.int .u64 (ov : Int)] 82)) (some ⟨w4.heap.size, 0, none⟩) 1 (fun _ => ov) := by
      intro i hi
      refine ⟨w4.heap.size, 0, rfl, ?_, hov⟩
      have : i = 0 := by omega
      subst this
      exact World.cell?_alloc_new w4 _ _ _
    have HH4 := Lib.hid hh4; have HV4 := Lib.hid hv4; have HSP := Lib.hid hsp; have HOH := Lib.hid hoH; have HB4 := Lib.hid hb4; have HPT := Lib.hid hpart; have HLT := Lib.hid hlt; have HAL := Lib.hid hal; have HRD := Lib.hid hrd
    clear hov hh4 ht4 hv4 hsp h4lt hoH hb4 hpart hlt hal hrd
    have hcap : ¬ (K = m) := by omega
    go_wp2_with fail
    refine (takeFrom_any w.heap.size m (K - m) _ _ 1 _ _ (by omega) (fun i => f3 (m + i)) (fun _ => ov) (by omega) (by have := HPT.out.below HAL.out; simpa using this) HRD.out (fun _ b' o' e => by simp at e; have := HLT.out; omega) (by rw [V_one]; exact HOH.out)).mono ?_
    rintro e w5 ⟨rfl, f5, hh5, ht5, hv5⟩
    rw [V_one] at hv5
    have hlow : Held w5 w.heap.size 0 m f4 := (HH4.out.below HAL.out).turn ht5 (.inl (by omega))
    obtain ⟨F, hF⟩ : ∃ F : Nat → Nat, F = fun i => if i < m then f4 i else f5 (i - m) := ⟨_, rfl⟩
    have hjoin : Held w5 w.heap.size 0 (m + (K - m)) F := by
      refine Held.join (hlow.congr fun i hi => ?_) ((show Held w5 w.heap.size (0 + m) (K - m) f5 by simpa using hh5).congr fun i hi => ?_)
      · rw [hF]; simp [hi]
      · rw [hF]; simp only [show ¬ (m + i < m) by omega, if_false, Nat.add_sub_cancel_left]
    rw [show m + (K - m) = K by omega] at hjoin
    have hVF : V F K = V f n * p - V fb m * q := by
      have h1 := V_split F m (K - m)
      rw [show m + (K - m) = K by omega] at h1
      rw [h1, V_congr (f := F) (g := f4) (n := m) (fun i hi => by rw [hF]; simp [hi]), V_congr (f := fun i => F (m + i)) (g := f5) (n := K - m) (fun i hi => by rw [hF]; simp only [show ¬ (m + i < m) by omega, if_false, Nat.add_sub_cancel_left])]
      exact mix_sum HSP.out.symm HV4.out hv5
    have hb5 : Below w.heap.size w w5 := ht5.below (HB4.out.trans (HAL.out.mono HB4.out.size)) (Nat.le_refl _) (by have := HAL.out.size; have := HB4.out.size; omega)
    have HJ := Lib.hid hjoin; have HVF := Lib.hid hVF; have HB5 := Lib.hid hb5
    clear hjoin hVF hb5 hlow hh5 ht5 hv5 hF
    go_wp2_with fail
    refine (trim_any _ _ _ _ (by omega) F (Nat.le_refl _) HJ.out.reads).mono ?_
    rintro e w6 ⟨rfl, rfl⟩
    go_wp2
    go_ret
    have hfin := RMag.of_trim HJ.out.reads (Nat.le_refl K)
    rw [HVF.out] at hfin
    exact ⟨_, rfl, hfin, HB5.out⟩
end Go.Proofs.Ytdfabocecpcmcaa
/- What head tells: the number over the last bits, rounded down. -/
namespace Go.Proofs.Ytdfabocecpcmcaa
open Go.RowKit Go.MagM
theorem zx_V (f : Nat → Nat) {n k : Nat} (hk : n ≤ k) : V (zx f n) k = V f n := by
  obtain ⟨d, rfl⟩ : ∃ d, k = n + d := ⟨k - n, by omega⟩
  rw [V_split, V_congr (f := zx f n) (g := f) (n := n) (fun i hi => if_pos hi), V_none (f := fun i => zx f n (n + i)) (fun i _ => if_neg (by omega))]; simp
theorem head_val (f : Nat → Nat) (n t s : Nat) (hf : ∀ i, i < n → f i < B) (hn : n ≤ t + 2) (hs : s ≤ 63) (htop : zx f n (t + 1) * 2 ^ s < B) :
    zx f n (t + 1) * 2 ^ s % B + zx f n t * 2 ^ s / B = V f n / (B ^ t * 2 ^ (64 - s)) := by
  have hz : ∀ i, zx f n i < B := zx_lt hf
  have h1 : V f n / B ^ t = zx f n t + zx f n (t + 1) * B := by
    rw [← zx_V f hn]
    have h2 := V_high (zx f n) (k := t) (n := 2) (fun i _ => hz i)
    rw [← h2, show (2 : Nat) = 1 + 1 from rfl, V_succ, V_one, Nat.pow_one]; rfl
  rw [← Nat.div_div_eq_div_mul, h1, Nat.mod_eq_of_lt htop, ← shr_eq _ s (by omega)]
  rw [show zx f n (t + 1) * B = 2 ^ (64 - s) * (zx f n (t + 1) * 2 ^ s) by rw [B_pow s (by omega), Nat.mul_left_comm]]
  rw [Nat.add_mul_div_left _ _ (Nat.pow_pos (by omega)), Nat.add_comm]
end Go.Proofs.Ytdfabocecpcmcaa
/- nearer. -/
namespace Go.Proofs.Ytdfabocecpcmcaa
open Go.RowKit Go.MagM Go.MagG
theorem mix_mag (va vb : Value) (L M A C p q : Nat) (w : World) (hL : L ≤ 4000000000) (hM : M ≤ 4000000000) (ha : Mag w va L A) (hb : Mag w vb M C) (hp : p < B) (hq : q < B) (hle : C * q ≤ A * p) :
    Calls Try.prog 83 #[va, .int .u64 (p : Int), vb, .int .u64 (q : Int)] w fun e w' => ∃ v, e = .returned v ∧ RMag w' v (max L M + 1) (A * p - C * q) ∧ Below w.heap.size w w' := by
  obtain ⟨ao, n, ca, f, rfl, h1, h2, h3, rfl⟩ := ha
  obtain ⟨bo, m, cb, g, rfl, k1, k2, k3, rfl⟩ := hb
  refine (mix_any ao n ca f bo m cb g p q (max n m + 1) w (by omega) (by omega) rfl h3 k3 hp hq hle).mono ?_
  rintro e w' ⟨v, h4, h5, h6⟩
  exact ⟨v, h4, h5.more (by omega), h6⟩
/-- The heads of two numbers, and what is below. -/
theorem heads {f g : Nat → Nat} {n m T t s : Nat} (hf : ∀ i, i < n → f i < B) (hg : ∀ i, i < m → g i < B) (hn : n = T + 1) (hT : T = t + 1) (hmn : m ≤ n) (hle : V g m ≤ V f n) (h0 : f T ≠ 0) (hs : s = 64 - bl (f T)) :
    s ≤ 63 ∧ zx f n T * 2 ^ s % B + zx f n t * 2 ^ s / B = V f n / (B ^ t * 2 ^ (64 - s)) ∧ zx g m T * 2 ^ s % B + zx g m t * 2 ^ s / B = V g m / (B ^ t * 2 ^ (64 - s)) ∧
      zx f n T * 2 ^ s % B + zx f n t * 2 ^ s / B < B ∧ zx g m T * 2 ^ s % B + zx g m t * 2 ^ s / B < B := by
  have hb1 := bl_pos h0
  have hs63 : s ≤ 63 := by omega
  have hxB : f T < B := hf T (by omega)
  have hbl : bl (f T) ≤ 64 := by
    rcases Nat.lt_or_ge 64 (bl (f T)) with h | h
    · exfalso
      have h1 := bl_ge h0
      have h2 : 2 ^ 64 ≤ 2 ^ (bl (f T) - 1) := Nat.pow_le_pow_right (by omega) (by omega)
      have h3 : B = 2 ^ 64 := rfl
      omega
    · exact h
  have hzf : zx f n T = f T := if_pos (by omega)
  have htop : zx f n T * 2 ^ s < B := by
    rw [hzf]
    have h1 := bl_lt (f T)
    have h2 : f T * 2 ^ s < 2 ^ bl (f T) * 2 ^ s := Nat.mul_lt_mul_of_pos_right h1 (Nat.pow_pos (by omega))
    rw [← Nat.pow_add, show bl (f T) + s = 64 by omega] at h2
    exact h2
  have hcmp : zx g m T ≤ zx f n T := by
    rcases Nat.lt_or_ge (zx f n T) (zx g m T) with h | h
    · exfalso
      have h1 : V (zx g m) (T + 1) = V g m := zx_V g (by omega)
      have h2 : V (zx f n) (T + 1) = V f n := zx_V f (by omega)
      rw [V_succ] at h1 h2
      have h3 : V (zx f n) T < B ^ T := V_lt (fun i _ => zx_lt hf i)
      have h4 := Nat.mul_le_mul_right (B ^ T) (show zx f n T + 1 ≤ zx g m T by omega)
      rw [Nat.add_mul, Nat.one_mul] at h4
      omega
    · exact h
  have htop2 : zx g m T * 2 ^ s < B := Nat.lt_of_le_of_lt (Nat.mul_le_mul_right _ hcmp) htop
  have l1 := up_lt (zx f n T) (zx_lt hf t) (show s ≤ 64 by omega)
  have l2 := up_lt (zx g m T) (zx_lt hg t) (show s ≤ 64 by omega)
  subst hT
  exact ⟨hs63, head_val f n t s hf (by omega) hs63 htop, head_val g m t s hg (by omega) hs63 htop2, l1, l2⟩
/-- What nearer answers. -/
def Near (w w' : World) (e : Ending) (L A C : Nat) : Prop := ∃ va vb P Q, e = .returned (.tuple #[va, vb]) ∧ RMag w' va L P ∧ RMag w' vb L Q ∧ Q ≤ P ∧ Nat.gcd P Q = Nat.gcd A C ∧ P + Q < A + C ∧ P ≤ A ∧ Below w.heap.size w w'
set_option maxRecDepth 100000 in
set_option maxHeartbeats 4000000 in
theorem nearer_core (ao : Option Addr) (n ca : Nat) (f : Nat → Nat) (bo : Option Addr) (m cb : Nat) (g : Nat → Nat) (T t s : Nat) (w : World) (hn4 : n ≤ 4000000000) (hn : n = T + 1) (hT : T = t + 1) (hmn : m ≤ n) (hca : n ≤ ca) (hcb : m ≤ cb)
    (hra : Reads w ao n f) (hrb : Reads w bo m g) (rf : Right f n) (rg : Right g m) (hm0 : m ≠ 0) (hle : V g m ≤ V f n) (hs : s = 64 - bl (f T)) :
    Calls Try.prog 70 #[.slice ao n ca, .slice bo m cb] w fun e w' => Near w w' e n (V f n) (V g m) := by
  have hfT : f T ≠ 0 := rf T hn
  obtain ⟨hs63, ha1, hb1, ha2, hb2⟩ := heads hra.lt hrb.lt hn hT hmn hle hfT hs
  have hn1 : (n : Int) - 1 = (T : Int) := by omega
  have hTn : T < n := by omega
  have hT1 : (T : Int) - 1 = (t : Int) := by omega
  have hA1 := fun w' (h : Below w.heap.size w w') => head_any ao n ca T t s f w' (by omega) hT1 hs63 (hra.below h)
  have hB1 := fun w' (h : Below w.heap.size w w') => head_any bo m cb T t s g w' (by omega) hT1 hs63 (hrb.below h)
  obtain ⟨A0, hA0⟩ : ∃ A0, zx f n T * 2 ^ s % B + zx f n t * 2 ^ s / B = A0 := ⟨_, rfl⟩
  obtain ⟨B0, hB0'⟩ : ∃ B0, zx g m T * 2 ^ s % B + zx g m t * 2 ^ s / B = B0 := ⟨_, rfl⟩
  rw [hA0] at ha1 ha2 hA1
  rw [hB0'] at hb1 hb2 hB1
  obtain ⟨S, hS⟩ : ∃ S, B ^ t * 2 ^ (64 - s) = S := ⟨_, rfl⟩
  rw [hS] at ha1 hb1
  have hSp : 0 < S := by rw [← hS]; exact Nat.mul_pos (Bp t) (Nat.pow_pos (by omega))
  obtain ⟨A, hA⟩ : ∃ A, V f n = A := ⟨_, rfl⟩
  obtain ⟨C, hC⟩ : ∃ C, V g m = C := ⟨_, rfl⟩
  have ax_0 : Mag w (.slice ao n ca) n A := ⟨ao, n, ca, f, rfl, hca, Nat.le_refl _, hra, hA⟩
  have bx_0 : Mag w (.slice bo m cb) m C := ⟨bo, m, cb, g, rfl, hcb, Nat.le_refl _, hrb, hC⟩
  have bq_0 : RMag w (.slice bo m cb) m C := ⟨bo, m, cb, g, rfl, hcb, Nat.le_refl _, hrb, hC, rg⟩
  have hC0 : 0 < C := by
    obtain ⟨k, rfl⟩ : ∃ k, m = k + 1 := ⟨m - 1, by omega⟩
    have := rg.ge; have := Bp k; omega
  rw [hA, hC] at hle
  rw [hA] at ha1 ⊢
  rw [hC] at hb1 ⊢
  have h0A : B0 ≤ A0 := by rw [ha1, hb1]; exact Nat.div_le_div_right hle
  have eA : A0 * S + A % S = A := by rw [ha1, Nat.mul_comm]; exact Nat.div_add_mod A S
  have eC : B0 * S + C % S = C := by rw [hb1, Nat.mul_comm]; exact Nat.div_add_mod C S
  have HLP := Lib.hid (leap_any A0 B0 · ha2 hb2 h0A)
  obtain ⟨xb, xo, rfl, hxc, hxB⟩ := hra T hTn
  obtain ⟨x, hx⟩ : ∃ x, f T = x := ⟨_, rfl⟩
  rw [hx] at hxc hxB hs
  have HLD := Lib.hid (lead64_any x · hxB)
  have HS := Lib.hid hs
  have HA1 := Lib.hid hA1; have HB1 := Lib.hid hB1; have HEA := Lib.hid eA; have HEC := Lib.hid eC; have HSP := Lib.hid hSp; have HLE := Lib.hid hle; have HC0 := Lib.hid hC0; have HMN := Lib.hid hmn
  have HHA := Lib.hid ha2; have HHB := Lib.hid hb2
  clear hA1 hB1 eA eC hSp hle ha1 hb1 ha2 hb2 h0A hA hC hS hA0 hB0' hra hrb rf rg hfT hs63 hT1 hn hT hx hxB hs hC0 hm0 hmn hca hcb
  have hB_0 := Below.refl w.heap.size w
  go_enter Try.func70, Try.ntmps70
  go_wp2_with fail
  refine (HLD.out _).mono ?_
  rintro e w' ⟨rfl, rfl⟩
  have hss : ((64 - bl x : Nat) : Int) = (s : Int) := by rw [← HS.out]
  go_wp2_with fail
  refine (HA1.out _ hB_0).mono ?_
  rintro e w1 ⟨q, rfl, hq⟩
  obtain ⟨hb1, hz⟩ := drewN_size hq
  clear hq hz
  have hB_1 := hB_0.trans (hb1.mono hB_0.size)
  have ax_1 := ax_0.below hb1
  have bx_1 := bx_0.below hb1
  have bq_1 := bq_0.below hb1
  clear hb1 hB_0 ax_0 bx_0 bq_0
  go_wp2_with fail
  refine (HB1.out _ hB_1).mono ?_
  rintro e w2 ⟨q, rfl, hq⟩
  obtain ⟨hb2, hz⟩ := drewN_size hq
  clear hq hz
  have hB_2 := hB_1.trans (hb2.mono hB_1.size)
  have ax_2 := ax_1.below hb2
  have bx_2 := bx_1.below hb2
  have bq_2 := bq_1.below hb2
  clear hb2 hB_1 ax_1 bx_1 bq_1
  go_wp2_with fail
  refine (HLP.out _).mono ?_
  rintro e w3 ⟨a, b, x0, x1, y0, y1, odd, hl, rfl, hb3⟩
  have hB_3 := hB_2.trans (hb3.mono hB_2.size)
  have ax_3 := ax_2.below hb3
  have bx_3 := bx_2.below hb3
  have bq_3 := bq_2.below hb3
  clear hb3 hB_2 ax_2 bx_2 bq_2
  have HL := Lib.hid hl; clear hl HA1 HB1 HLP HLD hss HS
  by_cases hy : y0 = 0
  · skip
    have hy' : ((y0 : Int) == 0) = true := by subst hy; rfl
    clear hy
    go_wp2_with fail
    obtain ⟨px_0, py_0, hb4⟩ := boxed2 w3 (.int .u64 (x0 : Int)) (.int .u64 (x1 : Int)) (.int .u64 (y0 : Int)) (.int .u64 (y1 : Int)) 105
    have hB_4 := hB_3.trans (hb4.mono hB_3.size)
    have ax_4 := ax_3.below hb4
    have bx_4 := bx_3.below hb4
    have bq_4 := bq_3.below hb4
    clear hb4 hB_3 ax_3 bx_3 bq_3
    generalize ((w3.alloc (Obj.cells #[Value.int .u64 (x0 : Int), Value.int .u64 (x1 : Int)] 105)).alloc (Obj.cells #[Value.int .u64 (y0 : Int), Value.int .u64 (y1 : Int)] 105)) = w4 at *
    have hmn : m ≤ n := HMN.out
    refine (Div_any _ _ n m A C _ (by omega) (by omega) ax_4 bx_4).mono ?_
    rintro e w9 ⟨vq, vr, rfl, h1, h2, hb9⟩
    have hB_5 := hB_4.trans (hb9.mono hB_4.size)
    have ax_5 := ax_4.below hb9
    have bx_5 := bx_4.below hb9
    have bq_5 := bq_4.below hb9
    have px_1 := px_0.below hb9
    have py_1 := py_0.below hb9
    clear hb9 hB_4 ax_4 bx_4 bq_4 px_0 py_0
    go_wp2
    go_ret2
    have hC := HC0.out
    have hl := Nat.mod_lt A hC
    have hle := HLE.out
    refine ⟨_, _, C, A % C, rfl, bq_5.more hmn, h2, Nat.le_of_lt hl, ?_, by omega, hle, hB_5⟩
    rw [Nat.gcd_comm C, ← Nat.gcd_rec, Nat.gcd_comm]
  · skip
    have hy' : ((y0 : Int) == 0) = false := by simp only [beq_eq_false_iff_ne]; omega
    obtain ⟨P, Q, he, ho, hQP, hgcd, hPA, hPC, k1, k2, k3⟩ := HL.out.pair hy S (A % S) (C % S) (Nat.mod_lt _ HSP.out) (Nat.mod_lt _ HSP.out)
    rw [HEA.out, HEC.out] at he ho hgcd
    rw [HEA.out] at hPA
    rw [HEC.out] at hPC
    have hA0 : 0 < A := Nat.lt_of_lt_of_le HC0.out HLE.out
    obtain ⟨hless, hPle⟩ := less_pair A C P Q x0 x1 y0 y1 hPA hPC k1 k2 k3 hQP hA0
    have hb4 : x0 < B ∧ x1 < B ∧ y0 < B ∧ y1 < B := by
      rcases HL.out.gone with hg | hg
      · exact absurd hg.1 hy
      · have h1 := HL.out.detA
        have h2 := HHA.out
        have h3 := Nat.mul_le_mul_right a (show 1 ≤ y1 by omega)
        rw [Nat.one_mul] at h3
        omega
    obtain ⟨hx0, hx1, hy0, hy1⟩ := hb4
    have hmn : m ≤ n := HMN.out
    have HX0 := Lib.hid hx0; have HX1 := Lib.hid hx1; have HY0 := Lib.hid hy0; have HY1 := Lib.hid hy1; have HMN2 := Lib.hid hmn
    have HQP := Lib.hid hQP; have HG := Lib.hid hgcd; have HLS := Lib.hid hless; have HPL := Lib.hid hPle
    clear hQP hgcd hPA hPC k1 k2 k3 hA0 hless hPle hx0 hx1 hy0 hy1 hmn hy
    cases odd with
    | false =>
      obtain ⟨r1, r2⟩ := he rfl
      clear he ho
      have E1 := Lib.hid (show C * y0 ≤ A * x0 by rw [Nat.mul_comm C, Nat.mul_comm A]; omega)
      have E2 := Lib.hid (show A * x1 ≤ C * y1 by rw [Nat.mul_comm C, Nat.mul_comm A]; omega)
      have E3 := Lib.hid (show A * x0 - C * y0 = P by rw [Nat.mul_comm C, Nat.mul_comm A]; omega)
      have E4 := Lib.hid (show C * y1 - A * x1 = Q by rw [Nat.mul_comm C, Nat.mul_comm A]; omega)
      clear r1 r2
      have hmn : m ≤ n := HMN2.out
      go_wp2
      obtain ⟨px_0, py_0, hb4⟩ := boxed2 w3 (.int .u64 (x0 : Int)) (.int .u64 (x1 : Int)) (.int .u64 (y0 : Int)) (.int .u64 (y1 : Int)) 105
      have hB_4 := hB_3.trans (hb4.mono hB_3.size)
      have ax_4 := ax_3.below hb4
      have bx_4 := bx_3.below hb4
      have bq_4 := bq_3.below hb4
      clear hb4 hB_3 ax_3 bx_3 bq_3
      generalize ((w3.alloc (Obj.cells #[Value.int .u64 (x0 : Int), Value.int .u64 (x1 : Int)] 105)).alloc (Obj.cells #[Value.int .u64 (y0 : Int), Value.int .u64 (y1 : Int)] 105)) = w4 at *
      have hB_5 := hB_4.drew'
      have ax_5 := ax_4.drew
      have bx_5 := bx_4.drew
      have bq_5 := bq_4.drew
      have px_1 := px_0.drew
      have py_1 := py_0.drew
      refine wp_region_noPanic ?_
      refine wp_region_held_drew (S := fun w' => w'.cell? ⟨w3.heap.size, 0, none⟩ = some (.int .u64 (x0 : Int)) ∧ w'.cell? ⟨w3.heap.size, 1, none⟩ = some (.int .u64 (x1 : Int)) ∧ w'.cell? ⟨w3.heap.size + 1, 0, none⟩ = some (.int .u64 (y0 : Int)) ∧ w'.cell? ⟨w3.heap.size + 1, 1, none⟩ = some (.int .u64 (y1 : Int))) (by kernel_rfl) (⟨px_1.c0, px_1.c1, py_1.c0, py_1.c1⟩) (fun hHeld => ?_)
      refine reg_take 0 ?_ ?_ ?_ (by kernel_rfl) (by kernel_rfl) (by kernel_rfl) (fun _ _ _ h => h) ?_ ?_ (by assumption) ?_
      rotate_left 2
      · simp only [List.getElem?_toArray, List.getElem?_cons_zero]; exact rfl
      · rfl
      · intro w hSw; (try dsimp only at hSw); go_simp; try with_reducible rfl
      try simp only [Act.put]
      try simp only [List.setIfInBounds_toArray, List.set_cons_zero, List.set_cons_succ]
      refine reg_take 1 ?_ ?_ ?_ (by kernel_rfl) (by kernel_rfl) (by kernel_rfl) (fun _ _ _ h => h) ?_ ?_ (by assumption) ?_
      rotate_left 2
      · simp only [List.getElem?_toArray, List.getElem?_cons_succ, List.getElem?_cons_zero]; exact rfl
      · rfl
      · intro w hSw; (try dsimp only at hSw); go_simp; try with_reducible rfl
      try simp only [Act.put]
      try simp only [List.setIfInBounds_toArray, List.set_cons_zero, List.set_cons_succ]
      refine reg_take 2 ?_ ?_ ?_ (by kernel_rfl) (by kernel_rfl) (by kernel_rfl) (fun _ _ _ h => h) ?_ ?_ (by assumption) ?_
      rotate_left 2
      · simp only [List.getElem?_toArray, List.getElem?_cons_succ, List.getElem?_cons_zero]; exact rfl
      · rfl
      · intro w hSw; (try dsimp only at hSw); go_simp; try with_reducible rfl
      try simp only [Act.put]
      try simp only [List.setIfInBounds_toArray, List.set_cons_zero, List.set_cons_succ]
      refine reg_take 3 ?_ ?_ ?_ (by kernel_rfl) (by kernel_rfl) (by kernel_rfl) (fun _ _ _ h => h) ?_ ?_ (by assumption) ?_
      rotate_left 2
      · simp only [List.getElem?_toArray, List.getElem?_cons_succ, List.getElem?_cons_zero]; exact rfl
      · rfl
      · intro w hSw; (try dsimp only at hSw); go_simp; try with_reducible rfl
      try simp only [Act.put]
      try simp only [List.setIfInBounds_toArray, List.set_cons_zero, List.set_cons_succ]
      refine reg_take 4 ?_ ?_ ?_ (by kernel_rfl) (by kernel_rfl) (by kernel_rfl) (fun _ _ _ h => h) ?_ ?_ (by assumption) ?_
      rotate_left 2
      · simp only [List.getElem?_toArray, List.getElem?_cons_succ, List.getElem?_cons_zero]; exact rfl
      · rfl
      · intro w hSw; (try dsimp only at hSw); go_simp; try with_reducible rfl
      try simp only [Act.put]
      try simp only [List.setIfInBounds_toArray, List.set_cons_zero, List.set_cons_succ]
      refine reg_take 5 ?_ ?_ ?_ (by kernel_rfl) (by kernel_rfl) (by kernel_rfl) (fun _ _ _ h => h) ?_ ?_ (by assumption) ?_
      rotate_left 2
      · simp only [List.getElem?_toArray, List.getElem?_cons_succ, List.getElem?_cons_zero]; exact rfl
      · rfl
      · intro w hSw; (try dsimp only at hSw); go_simp; try with_reducible rfl
      try simp only [Act.put]
      try simp only [List.setIfInBounds_toArray, List.set_cons_zero, List.set_cons_succ]
      refine reg_take 7 ?_ ?_ ?_ (by kernel_rfl) (by kernel_rfl) (by kernel_rfl) (fun _ _ _ h => h) ?_ ?_ (by assumption) ?_
      rotate_left 2
      · simp only [List.getElem?_toArray, List.getElem?_cons_succ, List.getElem?_cons_zero]; exact rfl
      · rfl
      · intro w hSw; (try dsimp only at hSw); go_simp; try with_reducible rfl
      try simp only [Act.put]
      try simp only [List.setIfInBounds_toArray, List.set_cons_zero, List.set_cons_succ]
      refine reg_take 8 ?_ ?_ ?_ (by kernel_rfl) (by kernel_rfl) (by kernel_rfl) (fun _ _ _ h => h) ?_ ?_ (by assumption) ?_
      rotate_left 2
      · simp only [List.getElem?_toArray, List.getElem?_cons_succ, List.getElem?_cons_zero]; exact rfl
      · rfl
      · intro w hSw; (try dsimp only at hSw); go_simp; try with_reducible rfl
      try simp only [Act.put]
      try simp only [List.setIfInBounds_toArray, List.set_cons_zero, List.set_cons_succ]
      refine reg_take 9 ?_ ?_ ?_ (by kernel_rfl) (by kernel_rfl) (by kernel_rfl) (fun _ _ _ h => h) ?_ ?_ (by assumption) ?_
      rotate_left 2
      · simp only [List.getElem?_toArray, List.getElem?_cons_succ, List.getElem?_cons_zero]; exact rfl
      · rfl
      · intro w hSw; (try dsimp only at hSw); go_simp; try with_reducible rfl
      try simp only [Act.put]
      try simp only [List.setIfInBounds_toArray, List.set_cons_zero, List.set_cons_succ]
      refine reg_take 10 ?_ ?_ ?_ (by kernel_rfl) (by kernel_rfl) (by kernel_rfl) (fun _ _ _ h => h) ?_ ?_ (by assumption) ?_
      rotate_left 2
      · simp only [List.getElem?_toArray, List.getElem?_cons_succ, List.getElem?_cons_zero]; exact rfl
      · rfl
      · intro w hSw; (try dsimp only at hSw); go_simp; try with_reducible rfl
      try simp only [Act.put]
      try simp only [List.setIfInBounds_toArray, List.set_cons_zero, List.set_cons_succ]
      refine reg_take 11 ?_ ?_ ?_ (by kernel_rfl) (by kernel_rfl) (by kernel_rfl) (fun _ _ _ h => h) ?_ ?_ (by assumption) ?_
      rotate_left 2
      · simp only [List.getElem?_toArray, List.getElem?_cons_succ, List.getElem?_cons_zero]; exact rfl
      · rfl
      · intro w hSw; (try dsimp only at hSw); go_simp; try with_reducible rfl
      try simp only [Act.put]
      try simp only [List.setIfInBounds_toArray, List.set_cons_zero, List.set_cons_succ]
      refine reg_take 12 ?_ ?_ ?_ (by kernel_rfl) (by kernel_rfl) (by kernel_rfl) (fun _ _ _ h => h) ?_ ?_ (by assumption) ?_
      rotate_left 2
      · simp only [List.getElem?_toArray, List.getElem?_cons_succ, List.getElem?_cons_zero]; exact rfl
      · rfl
      · intro w hSw; (try dsimp only at hSw); go_simp; try with_reducible rfl
      try simp only [Act.put]
      try simp only [List.setIfInBounds_toArray, List.set_cons_zero, List.set_cons_succ]
      refine reg_call 6 ?_ (by kernel_rfl) ?_ (fun K hK => ?_)
      rotate_left 1
      · simp only [List.getElem?_toArray, List.getElem?_cons_succ, List.getElem?_cons_zero]; exact rfl
      go_simp
      refine (mix_mag _ _ n m A C x0 y0 _ (by omega) (by omega) ax_5 bx_5 HX0.out HY0.out E1.out).mono ?_
      rintro e w5 ⟨v1, rfl, h1_0, hb5⟩
      have hB_6 := hB_5.trans (hb5.mono hB_5.size)
      have ax_6 := ax_5.below hb5
      have bx_6 := bx_5.below hb5
      have bq_6 := bq_5.below hb5
      have px_2 := px_1.below hb5
      have py_2 := py_1.below hb5
      clear hb5 hB_5 ax_5 bx_5 bq_5 px_1 py_1
      go_wp2_with fail
      refine hK.out _ _ ⟨px_2.c0, px_2.c1, py_2.c0, py_2.c1⟩ (fun hHeld => ?_)
      clear hK K
      try simp only [Act.put]
      try simp only [List.setIfInBounds_toArray, List.set_cons_zero, List.set_cons_succ]
      refine reg_call 13 ?_ (by kernel_rfl) ?_ (fun K hK => ?_)
      rotate_left 1
      · simp only [List.getElem?_toArray, List.getElem?_cons_succ, List.getElem?_cons_zero]; exact rfl
      go_simp
      refine (mix_mag _ _ m n C A y1 x1 _ (by omega) (by omega) bx_6 ax_6 HY1.out HX1.out E2.out).mono ?_
      rintro e w6 ⟨v2, rfl, h2_0, hb6⟩
      have hB_7 := hB_6.trans (hb6.mono hB_6.size)
      have ax_7 := ax_6.below hb6
      have bx_7 := bx_6.below hb6
      have bq_7 := bq_6.below hb6
      have px_3 := px_2.below hb6
      have py_3 := py_2.below hb6
      have h1_1 := h1_0.below hb6
      clear hb6 hB_6 ax_6 bx_6 bq_6 px_2 py_2 h1_0
      go_wp2_with fail
      refine hK.out _ _ ⟨px_3.c0, px_3.c1, py_3.c0, py_3.c1⟩ (fun hHeld => ?_)
      clear hK K
      try simp only [Act.put]
      try simp only [List.setIfInBounds_toArray, List.set_cons_zero, List.set_cons_succ]
      refine reg_take 14 ?_ ?_ ?_ (by kernel_rfl) (by kernel_rfl) (by kernel_rfl) (fun _ _ _ h => h) ?_ ?_ (by assumption) ?_
      rotate_left 2
      · simp only [List.getElem?_toArray, List.getElem?_cons_succ, List.getElem?_cons_zero]; exact rfl
      · rfl
      · intro w hSw; (try dsimp only at hSw); go_simp; try with_reducible rfl
      try simp only [Act.put]
      try simp only [List.setIfInBounds_toArray, List.set_cons_zero, List.set_cons_succ]
      refine reg_take 15 ?_ ?_ ?_ (by kernel_rfl) (by kernel_rfl) (by kernel_rfl) (fun _ _ _ h => h) ?_ ?_ (by assumption) ?_
      rotate_left 2
      · simp only [List.getElem?_toArray, List.getElem?_cons_succ, List.getElem?_cons_zero]; exact rfl
      · rfl
      · intro w hSw; (try dsimp only at hSw); go_simp; try with_reducible rfl
      try simp only [Act.put]
      try simp only [List.setIfInBounds_toArray, List.set_cons_zero, List.set_cons_succ]
      refine wpAnyH_done (by kernel_rfl) ?_ _
      refine NoPanic.normal ?_
      go_wp2
      go_ret2
      have hlt := ax_7.lt
      have hP := HPL.out
      have hQ := HQP.out
      exact ⟨_, _, P, Q, rfl, (E3.out ▸ h1_1).short (by omega), (E4.out ▸ h2_0).short (by omega), hQ, HG.out, HLS.out, hP, hB_7⟩
    | true =>
      obtain ⟨r1, r2⟩ := ho rfl
      clear he ho
      have E1 := Lib.hid (show A * x0 ≤ C * y0 by rw [Nat.mul_comm C, Nat.mul_comm A]; omega)
      have E2 := Lib.hid (show C * y1 ≤ A * x1 by rw [Nat.mul_comm C, Nat.mul_comm A]; omega)
      have E3 := Lib.hid (show C * y0 - A * x0 = P by rw [Nat.mul_comm C, Nat.mul_comm A]; omega)
      have E4 := Lib.hid (show A * x1 - C * y1 = Q by rw [Nat.mul_comm C, Nat.mul_comm A]; omega)
      clear r1 r2
      have hmn : m ≤ n := HMN2.out
      go_wp2
      obtain ⟨px_0, py_0, hb4⟩ := boxed2 w3 (.int .u64 (x0 : Int)) (.int .u64 (x1 : Int)) (.int .u64 (y0 : Int)) (.int .u64 (y1 : Int)) 105
      have hB_4 := hB_3.trans (hb4.mono hB_3.size)
      have ax_4 := ax_3.below hb4
      have bx_4 := bx_3.below hb4
      have bq_4 := bq_3.below hb4
      clear hb4 hB_3 ax_3 bx_3 bq_3
      generalize ((w3.alloc (Obj.cells #[Value.int .u64 (x0 : Int), Value.int .u64 (x1 : Int)] 105)).alloc (Obj.cells #[Value.int .u64 (y0 : Int), Value.int .u64 (y1 : Int)] 105)) = w4 at *
      have hB_5 := hB_4.drew'
      have ax_5 := ax_4.drew
      have bx_5 := bx_4.drew
      have bq_5 := bq_4.drew
      have px_1 := px_0.drew
      have py_1 := py_0.drew
      refine wp_region_noPanic ?_
      refine wp_region_held_drew (S := fun w' => w'.cell? ⟨w3.heap.size, 0, none⟩ = some (.int .u64 (x0 : Int)) ∧ w'.cell? ⟨w3.heap.size, 1, none⟩ = some (.int .u64 (x1 : Int)) ∧ w'.cell? ⟨w3.heap.size + 1, 0, none⟩ = some (.int .u64 (y0 : Int)) ∧ w'.cell? ⟨w3.heap.size + 1, 1, none⟩ = some (.int .u64 (y1 : Int))) (by kernel_rfl) (⟨px_1.c0, px_1.c1, py_1.c0, py_1.c1⟩) (fun hHeld => ?_)
      refine reg_take 0 ?_ ?_ ?_ (by kernel_rfl) (by kernel_rfl) (by kernel_rfl) (fun _ _ _ h => h) ?_ ?_ (by assumption) ?_
      rotate_left 2
      · simp only [List.getElem?_toArray, List.getElem?_cons_zero]; exact rfl
      · rfl
      · intro w hSw; (try dsimp only at hSw); go_simp; try with_reducible rfl
      try simp only [Act.put]
      try simp only [List.setIfInBounds_toArray, List.set_cons_zero, List.set_cons_succ]
      refine reg_take 1 ?_ ?_ ?_ (by kernel_rfl) (by kernel_rfl) (by kernel_rfl) (fun _ _ _ h => h) ?_ ?_ (by assumption) ?_
      rotate_left 2
      · simp only [List.getElem?_toArray, List.getElem?_cons_succ, List.getElem?_cons_zero]; exact rfl
      · rfl
      · intro w hSw; (try dsimp only at hSw); go_simp; try with_reducible rfl
      try simp only [Act.put]
      try simp only [List.setIfInBounds_toArray, List.set_cons_zero, List.set_cons_succ]
      refine reg_take 2 ?_ ?_ ?_ (by kernel_rfl) (by kernel_rfl) (by kernel_rfl) (fun _ _ _ h => h) ?_ ?_ (by assumption) ?_
      rotate_left 2
      · simp only [List.getElem?_toArray, List.getElem?_cons_succ, List.getElem?_cons_zero]; exact rfl
      · rfl
      · intro w hSw; (try dsimp only at hSw); go_simp; try with_reducible rfl
      try simp only [Act.put]
      try simp only [List.setIfInBounds_toArray, List.set_cons_zero, List.set_cons_succ]
      refine reg_take 3 ?_ ?_ ?_ (by kernel_rfl) (by kernel_rfl) (by kernel_rfl) (fun _ _ _ h => h) ?_ ?_ (by assumption) ?_
      rotate_left 2
      · simp only [List.getElem?_toArray, List.getElem?_cons_succ, List.getElem?_cons_zero]; exact rfl
      · rfl
      · intro w hSw; (try dsimp only at hSw); go_simp; try with_reducible rfl
      try simp only [Act.put]
      try simp only [List.setIfInBounds_toArray, List.set_cons_zero, List.set_cons_succ]
      refine reg_take 4 ?_ ?_ ?_ (by kernel_rfl) (by kernel_rfl) (by kernel_rfl) (fun _ _ _ h => h) ?_ ?_ (by assumption) ?_
      rotate_left 2
      · simp only [List.getElem?_toArray, List.getElem?_cons_succ, List.getElem?_cons_zero]; exact rfl
      · rfl
      · intro w hSw; (try dsimp only at hSw); go_simp; try with_reducible rfl
      try simp only [Act.put]
      try simp only [List.setIfInBounds_toArray, List.set_cons_zero, List.set_cons_succ]
      refine reg_take 5 ?_ ?_ ?_ (by kernel_rfl) (by kernel_rfl) (by kernel_rfl) (fun _ _ _ h => h) ?_ ?_ (by assumption) ?_
      rotate_left 2
      · simp only [List.getElem?_toArray, List.getElem?_cons_succ, List.getElem?_cons_zero]; exact rfl
      · rfl
      · intro w hSw; (try dsimp only at hSw); go_simp; try with_reducible rfl
      try simp only [Act.put]
      try simp only [List.setIfInBounds_toArray, List.set_cons_zero, List.set_cons_succ]
      refine reg_take 7 ?_ ?_ ?_ (by kernel_rfl) (by kernel_rfl) (by kernel_rfl) (fun _ _ _ h => h) ?_ ?_ (by assumption) ?_
      rotate_left 2
      · simp only [List.getElem?_toArray, List.getElem?_cons_succ, List.getElem?_cons_zero]; exact rfl
      · rfl
      · intro w hSw; (try dsimp only at hSw); go_simp; try with_reducible rfl
      try simp only [Act.put]
      try simp only [List.setIfInBounds_toArray, List.set_cons_zero, List.set_cons_succ]
      refine reg_take 8 ?_ ?_ ?_ (by kernel_rfl) (by kernel_rfl) (by kernel_rfl) (fun _ _ _ h => h) ?_ ?_ (by assumption) ?_
      rotate_left 2
      · simp only [List.getElem?_toArray, List.getElem?_cons_succ, List.getElem?_cons_zero]; exact rfl
      · rfl
      · intro w hSw; (try dsimp only at hSw); go_simp; try with_reducible rfl
      try simp only [Act.put]
      try simp only [List.setIfInBounds_toArray, List.set_cons_zero, List.set_cons_succ]
      refine reg_take 9 ?_ ?_ ?_ (by kernel_rfl) (by kernel_rfl) (by kernel_rfl) (fun _ _ _ h => h) ?_ ?_ (by assumption) ?_
      rotate_left 2
      · simp only [List.getElem?_toArray, List.getElem?_cons_succ, List.getElem?_cons_zero]; exact rfl
      · rfl
      · intro w hSw; (try dsimp only at hSw); go_simp; try with_reducible rfl
      try simp only [Act.put]
      try simp only [List.setIfInBounds_toArray, List.set_cons_zero, List.set_cons_succ]
      refine reg_take 10 ?_ ?_ ?_ (by kernel_rfl) (by kernel_rfl) (by kernel_rfl) (fun _ _ _ h => h) ?_ ?_ (by assumption) ?_
      rotate_left 2
      · simp only [List.getElem?_toArray, List.getElem?_cons_succ, List.getElem?_cons_zero]; exact rfl
      · rfl
      · intro w hSw; (try dsimp only at hSw); go_simp; try with_reducible rfl
      try simp only [Act.put]
      try simp only [List.setIfInBounds_toArray, List.set_cons_zero, List.set_cons_succ]
      refine reg_take 11 ?_ ?_ ?_ (by kernel_rfl) (by kernel_rfl) (by kernel_rfl) (fun _ _ _ h => h) ?_ ?_ (by assumption) ?_
      rotate_left 2
      · simp only [List.getElem?_toArray, List.getElem?_cons_succ, List.getElem?_cons_zero]; exact rfl
      · rfl
      · intro w hSw; (try dsimp only at hSw); go_simp; try with_reducible rfl
      try simp only [Act.put]
      try simp only [List.setIfInBounds_toArray, List.set_cons_zero, List.set_cons_succ]
      refine reg_take 12 ?_ ?_ ?_ (by kernel_rfl) (by kernel_rfl) (by kernel_rfl) (fun _ _ _ h => h) ?_ ?_ (by assumption) ?_
      rotate_left 2
      · simp only [List.getElem?_toArray, List.getElem?_cons_succ, List.getElem?_cons_zero]; exact rfl
      · rfl
      · intro w hSw; (try dsimp only at hSw); go_simp; try with_reducible rfl
      try simp only [Act.put]
      try simp only [List.setIfInBounds_toArray, List.set_cons_zero, List.set_cons_succ]
      refine reg_call 6 ?_ (by kernel_rfl) ?_ (fun K hK => ?_)
      rotate_left 1
      · simp only [List.getElem?_toArray, List.getElem?_cons_succ, List.getElem?_cons_zero]; exact rfl
      go_simp
      refine (mix_mag _ _ m n C A y0 x0 _ (by omega) (by omega) bx_5 ax_5 HY0.out HX0.out E1.out).mono ?_
      rintro e w5 ⟨v1, rfl, h1_0, hb5⟩
      have hB_6 := hB_5.trans (hb5.mono hB_5.size)
      have ax_6 := ax_5.below hb5
      have bx_6 := bx_5.below hb5
      have bq_6 := bq_5.below hb5
      have px_2 := px_1.below hb5
      have py_2 := py_1.below hb5
      clear hb5 hB_5 ax_5 bx_5 bq_5 px_1 py_1
      go_wp2_with fail
      refine hK.out _ _ ⟨px_2.c0, px_2.c1, py_2.c0, py_2.c1⟩ (fun hHeld => ?_)
      clear hK K
      try simp only [Act.put]
      try simp only [List.setIfInBounds_toArray, List.set_cons_zero, List.set_cons_succ]
      refine reg_call 13 ?_ (by kernel_rfl) ?_ (fun K hK => ?_)
      rotate_left 1
      · simp only [List.getElem?_toArray, List.getElem?_cons_succ, List.getElem?_cons_zero]; exact rfl
      go_simp
      refine (mix_mag _ _ n m A C x1 y1 _ (by omega) (by omega) ax_6 bx_6 HX1.out HY1.out E2.out).mono ?_
      rintro e w6 ⟨v2, rfl, h2_0, hb6⟩
      have hB_7 := hB_6.trans (hb6.mono hB_6.size)
      have ax_7 := ax_6.below hb6
      have bx_7 := bx_6.below hb6
      have bq_7 := bq_6.below hb6
      have px_3 := px_2.below hb6
      have py_3 := py_2.below hb6
      have h1_1 := h1_0.below hb6
      clear hb6 hB_6 ax_6 bx_6 bq_6 px_2 py_2 h1_0
      go_wp2_with fail
      refine hK.out _ _ ⟨px_3.c0, px_3.c1, py_3.c0, py_3.c1⟩ (fun hHeld => ?_)
      clear hK K
      try simp only [Act.put]
      try simp only [List.setIfInBounds_toArray, List.set_cons_zero, List.set_cons_succ]
      refine reg_take 14 ?_ ?_ ?_ (by kernel_rfl) (by kernel_rfl) (by kernel_rfl) (fun _ _ _ h => h) ?_ ?_ (by assumption) ?_
      rotate_left 2
      · simp only [List.getElem?_toArray, List.getElem?_cons_succ, List.getElem?_cons_zero]; exact rfl
      · rfl
      · intro w hSw; (try dsimp only at hSw); go_simp; try with_reducible rfl
      try simp only [Act.put]
      try simp only [List.setIfInBounds_toArray, List.set_cons_zero, List.set_cons_succ]
      refine reg_take 15 ?_ ?_ ?_ (by kernel_rfl) (by kernel_rfl) (by kernel_rfl) (fun _ _ _ h => h) ?_ ?_ (by assumption) ?_
      rotate_left 2
      · simp only [List.getElem?_toArray, List.getElem?_cons_succ, List.getElem?_cons_zero]; exact rfl
      · rfl
      · intro w hSw; (try dsimp only at hSw); go_simp; try with_reducible rfl
      try simp only [Act.put]
      try simp only [List.setIfInBounds_toArray, List.set_cons_zero, List.set_cons_succ]
      refine wpAnyH_done (by kernel_rfl) ?_ _
      refine NoPanic.normal ?_
      go_wp2
      go_ret2
      have hlt := ax_7.lt
      have hP := HPL.out
      have hQ := HQP.out
      exact ⟨_, _, P, Q, rfl, (E3.out ▸ h1_1).short (by omega), (E4.out ▸ h2_0).short (by omega), hQ, HG.out, HLS.out, hP, hB_7⟩
end Go.Proofs.Ytdfabocecpcmcaa
