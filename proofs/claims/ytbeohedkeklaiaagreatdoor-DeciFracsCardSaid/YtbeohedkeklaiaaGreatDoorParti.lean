/- From the form of the rows to the walks of layer 2: what an argument reads as. -/
import Derived.Test.YtbeohedkeklaiaaGreatDoorRows
import Derived.Test.YtbeohedkeklaiaaGreatDoorParth
import Derived.ProofKit
import Derived.ChangeVars
import Derived.JoinedOf
import Derived.RowKitTokens
import Derived.Lib.SmallJoins
import Derived.Test.YtbeohedkeklaiaaGreatDoorPartg
import Derived.Test.YtbeohedkeklaiaaGreatDoorPartd
namespace Go.Proofs.YtbeohedkeklaiaaGreatDoor
open Go.ChangeShapes Go.WideShapes Go.RowKit Go.MagM
theorem own0 : ownKnob Tryz.prog.godebug = none := by kernel_rfl
theorem laidOut0 : laidOutB Tryz.prog = true := by kernel_rfl
theorem cells42 : Tryz.prog.cellsOf 49 = 1 := by kernel_rfl
/-- What a list of words reads as: words. -/
theorem view_words {H : Type} {enc : TypeId × Value → H} {W : World} {fuel : Nat} {v : Value} {x : DataW H × List MemPlace}
    (hf : DataW.trod enc Tryz.prog W 0 (fun _ => true) true fuel 30 [v] = some x) :
    ∃ a0 len cap, v = .slice a0 len cap ∧ len ≤ cap ∧ ∃ f, Reads W a0 len f := by
  obtain ⟨d, p⟩ := x
  rcases open_ints Tryz.underlying30 Tryz.underlying49 cells42 hf with ⟨hcs, hx⟩ | ⟨a, len', cap', zs, hcs, _, hl, hm, hz, hx, hcell, hwz⟩
  · simp at hcs
    subst hcs
    exact ⟨_, _, _, rfl, Nat.le_refl _, fun _ => 0, Reads.nil _ _ _⟩
  · simp at hcs
    subst hcs
    simp only [if_true] at hz
    refine ⟨_, _, _, rfl, hl, fun i => (zs.getD i 0).toNat, ?_⟩
    intro i hi
    have hc := hcell i (by omega)
    have hsp := World.cell?_spot (hcell 0 (by omega))
    obtain ⟨b, o, sp⟩ := a
    have hsp' : sp = none := by simpa [Addr.add] using hsp
    subst hsp'
    have hmem : zs.getD i 0 ∈ zs := by
      rw [List.getD_eq_getElem?_getD, List.getElem?_eq_getElem (by omega)]; exact List.getElem_mem _
    have hw := hwz _ hmem
    have hadd : (⟨b, o, none⟩ : Addr).add i = ⟨b, o + i, none⟩ := by unfold Addr.add; split <;> simp_all
    rw [hadd] at hc
    show ∃ b' o', _ ∧ W.cell? ⟨b', o' + i, none⟩ = some (.int .u64 (((zs.getD i 0).toNat : Nat) : Int)) ∧ (zs.getD i 0).toNat < B
    generalize zs.getD i 0 = z at *
    have hr : 0 ≤ z ∧ z < 18446744073709551616 := by
      simp only [Lit.wf, IntKind.min, IntKind.max, IntKind.signed, IntKind.bits, Bool.and_eq_true] at hw
      simp at hw
      omega
    refine ⟨b, o, rfl, ?_, by unfold B; omega⟩
    rw [hc]
    congr 2
    omega
set_option maxRecDepth 100000 in
/-- What a Num reads as: a sign and words. -/
theorem view_num {H : Type} {enc : TypeId × Value → H} {W : World} {b0 : Nat} {v : Value} {d : DataW H} {p : List MemPlace} (hv : Value.okWide Tryz.prog W .any b0 32 v)
    (h : DataW.Trod enc Tryz.prog W 0 (fun _ => true) true 32 v d p) :
    ∃ m ao n c f, v = .agg #[.bool m, .slice ao n c] ∧ n ≤ c ∧ Reads W ao n f := by
  obtain ⟨v0, v1, y0, y1, k, rfl, _, _, h0, h1⟩ := Joins.open_agg2 Tryz.underlying32 (by kernel_rfl) (by kernel_rfl) hv h
  obtain ⟨m, hm, _⟩ := DataW.trod_bool Tryz.underlying4 h0
  simp at hm
  subst hm
  obtain ⟨ao, n, c, rfl, hc, f, hr⟩ := view_words h1
  exact ⟨m, ao, n, c, f, rfl, hc, hr⟩
theorem int_range {x : Int} (h : (Lit.int .i64 x).wf = true) : -9223372036854775808 ≤ x ∧ x < 9223372036854775808 := by
  simp only [Lit.wf, IntKind.min, IntKind.max, IntKind.signed, IntKind.bits, Bool.and_eq_true, decide_eq_true_eq] at h
  simp at h
  omega
end Go.Proofs.YtbeohedkeklaiaaGreatDoor
/- Boxes of any number of cells. Over any program. -/
namespace Go.MagM
open Go.RowKit
/-- Block g is a box that holds vs, and may be written. -/
structure Box (w : World) (g : Nat) (vs : List Value) : Prop where
  c : ∀ i v, vs[i]? = some v → w.cell? ⟨g, i, none⟩ = some v
  f : ∀ i v, vs[i]? = some v → w.frozen? ⟨g, i, none⟩ = false
theorem Box.below {w w' : World} {g : Nat} {vs : List Value} (h : Box w g vs) (hb : Below w.heap.size w w') : Box w' g vs :=
  ⟨fun i v hi => (hb.cell (p := ⟨g, i, none⟩) (World.block_lt_of_cell? w _ (h.c i v hi))).trans (h.c i v hi),
    fun i v hi => (hb.frozen (p := ⟨g, i, none⟩) (World.block_lt_of_cell? w _ (h.c i v hi))).trans (h.f i v hi)⟩
theorem Box.drew {w : World} {g : Nat} {vs : List Value} (h : Box w g vs) : Box w.drew g vs := ⟨h.c, h.f⟩
theorem Box.drewN {w : World} {g : Nat} {vs : List Value} (h : Box w g vs) (n : Nat) : Box (w.drewN n) g vs := ⟨h.c, h.f⟩
theorem Box.lt {w : World} {g : Nat} {v : Value} {vs : List Value} (h : Box w g (v :: vs)) : g < w.heap.size := World.block_lt_of_cell? w _ (h.c 0 v rfl)
theorem Box.set {w : World} {g : Nat} {vs : List Value} (h : Box w g vs) (i : Nat) (x : Value) : Box (w.setCell ⟨g, i, none⟩ x) g (vs.set i x) := by
  refine ⟨fun j v hj => ?_, fun j v hj => ?_⟩
  · rw [List.getElem?_set] at hj
    by_cases e : i = j
    · subst e
      rw [if_pos rfl] at hj
      split at hj
      · next hl =>
        simp at hj; subst hj
        exact World.cell?_setCell_same _ _ _ (h.c i _ (List.getElem?_eq_getElem hl))
      · cases hj
    · rw [if_neg e] at hj
      have ne : (⟨g, i, none⟩ : Addr) ≠ ⟨g, j, none⟩ := by intro k; injection k with k1 k2; exact e k2
      rw [World.cell?_setCell_other _ _ _ _ (by first | exact ne | exact ne.symm)]; exact h.c j v hj
  · rw [World.frozen?_setCell]
    rw [List.getElem?_set] at hj
    by_cases e : i = j
    · subst e
      rw [if_pos rfl] at hj
      split at hj
      · next hl => exact h.f i _ (List.getElem?_eq_getElem hl)
      · cases hj
    · rw [if_neg e] at hj; exact h.f j v hj
theorem Box.far {w : World} {g g' : Nat} {vs : List Value} (h : Box w g vs) (hne : g ≠ g') (i : Nat) (x : Value) : Box (w.setCell ⟨g', i, none⟩ x) g vs := by
  refine ⟨fun j v hj => ?_, fun j v hj => (World.frozen?_setCell _ _ _ _).trans (h.f j v hj)⟩
  have ne : (⟨g', i, none⟩ : Addr) ≠ ⟨g, j, none⟩ := by intro k; injection k with k1; exact hne k1.symm
  rw [World.cell?_setCell_other _ _ _ _ (by first | exact ne | exact ne.symm)]; exact h.c j v hj
theorem box_new (w : World) (vs : List Value) (T : TypeId) : Box (w.alloc (.cells vs.toArray T)) w.heap.size vs := by
  refine ⟨fun i v hi => ?_, fun i v hi => ?_⟩
  · simp [go_sem, hi]
  · simp [go_sem]
theorem Box.two {w : World} {g : Nat} {u v : Value} (h : Box w g [u, v]) : Box2 w g u v := ⟨h.c 0 _ rfl, h.c 1 _ rfl, h.f 0 _ rfl, h.f 1 _ rfl⟩
end Go.MagM
/- Boxes of any number of cells, written whole; what stays where a box is written. Over any program. -/
namespace Go.MagM
open Go.RowKit
/-- Cells i, i + 1, .. of block g are written. -/
def setAll (w : World) (g : Nat) : Nat → List Value → World
  | _, [] => w
  | i, x :: xs => setAll (w.setCell ⟨g, i, none⟩ x) g (i + 1) xs
theorem new_box (w : World) (n : Nat) (hn : w.heap.size = n) (vs : List Value) (T : TypeId) :
    ∃ w1, w.alloc (.cells vs.toArray T) = w1 ∧ Box w1 n vs ∧ Below n w w1 ∧ w1.heap.size = n + 1 := by
  subst hn
  exact ⟨_, rfl, box_new w vs T, (Below.refl _ _).alloc (Nat.le_refl _) _, by simp⟩
theorem Box.c0 {w : World} {g : Nat} {u : Value} {l : List Value} (h : Box w g (u :: l)) : w.cell? ⟨g, 0, none⟩ = some u := h.c 0 _ rfl
theorem Box.c1 {w : World} {g : Nat} {u0 u : Value} {l : List Value} (h : Box w g (u0 :: u :: l)) : w.cell? ⟨g, 1, none⟩ = some u := h.c 1 _ rfl
theorem Box.c2 {w : World} {g : Nat} {u0 u1 u : Value} {l : List Value} (h : Box w g (u0 :: u1 :: u :: l)) : w.cell? ⟨g, 2, none⟩ = some u := h.c 2 _ rfl
theorem Box.c3 {w : World} {g : Nat} {u0 u1 u2 u : Value} {l : List Value} (h : Box w g (u0 :: u1 :: u2 :: u :: l)) : w.cell? ⟨g, 3, none⟩ = some u := h.c 3 _ rfl
theorem Box.c4 {w : World} {g : Nat} {u0 u1 u2 u3 u : Value} {l : List Value} (h : Box w g (u0 :: u1 :: u2 :: u3 :: u :: l)) : w.cell? ⟨g, 4, none⟩ = some u := h.c 4 _ rfl
theorem Box.c5 {w : World} {g : Nat} {u0 u1 u2 u3 u4 u : Value} {l : List Value} (h : Box w g (u0 :: u1 :: u2 :: u3 :: u4 :: u :: l)) : w.cell? ⟨g, 5, none⟩ = some u := h.c 5 _ rfl
theorem Box.open1 {w : World} {g : Nat} {u0 : Value} (h : Box w g [u0]) : w.cell? ⟨g, 0, none⟩ = some u0 ∧ w.frozen? ⟨g, 0, none⟩ = false := ⟨h.c 0 _ rfl, h.f 0 _ rfl⟩
theorem Box.open2 {w : World} {g : Nat} {u0 u1 : Value} (h : Box w g [u0, u1]) : w.cell? ⟨g, 0, none⟩ = some u0 ∧ w.cell? ⟨g, 1, none⟩ = some u1 ∧ w.frozen? ⟨g, 0, none⟩ = false ∧ w.frozen? ⟨g, 1, none⟩ = false := ⟨h.c 0 _ rfl, h.c 1 _ rfl, h.f 0 _ rfl, h.f 1 _ rfl⟩
theorem Box.open3 {w : World} {g : Nat} {u0 u1 u2 : Value} (h : Box w g [u0, u1, u2]) : w.cell? ⟨g, 0, none⟩ = some u0 ∧ w.cell? ⟨g, 1, none⟩ = some u1 ∧ w.cell? ⟨g, 2, none⟩ = some u2 ∧ w.frozen? ⟨g, 0, none⟩ = false ∧ w.frozen? ⟨g, 1, none⟩ = false ∧ w.frozen? ⟨g, 2, none⟩ = false :=
  ⟨h.c 0 _ rfl, h.c 1 _ rfl, h.c 2 _ rfl, h.f 0 _ rfl, h.f 1 _ rfl, h.f 2 _ rfl⟩
/-- What a store of two cells wants behind its first one. -/
theorem Box.put2 {w : World} {g : Nat} {u0 u1 : Value} (h : Box w g [u0, u1]) (x0 : Value) : (w.setCell ⟨g, 0, none⟩ x0).cell? ⟨g, 1, none⟩ = some u1 ∧ (w.setCell ⟨g, 0, none⟩ x0).frozen? ⟨g, 1, none⟩ = false :=
  ⟨(h.set 0 x0).c 1 _ rfl, (h.set 0 x0).f 1 _ rfl⟩
theorem Box.put3 {w : World} {g : Nat} {u0 u1 u2 : Value} (h : Box w g [u0, u1, u2]) (x0 x1 : Value) : (w.setCell ⟨g, 0, none⟩ x0).cell? ⟨g, 1, none⟩ = some u1 ∧ (w.setCell ⟨g, 0, none⟩ x0).frozen? ⟨g, 1, none⟩ = false ∧
    ((w.setCell ⟨g, 0, none⟩ x0).setCell ⟨g, 1, none⟩ x1).cell? ⟨g, 2, none⟩ = some u2 ∧ ((w.setCell ⟨g, 0, none⟩ x0).setCell ⟨g, 1, none⟩ x1).frozen? ⟨g, 2, none⟩ = false :=
  ⟨(h.set 0 x0).c 1 _ rfl, (h.set 0 x0).f 1 _ rfl, ((h.set 0 x0).set 1 x1).c 2 _ rfl, ((h.set 0 x0).set 1 x1).f 2 _ rfl⟩
theorem Box.setTail {g : Nat} : ∀ (xs : List Value) (pre vs : List Value) (w : World), vs.length = xs.length → Box w g (pre ++ vs) → Box (setAll w g pre.length xs) g (pre ++ xs)
  | [], pre, vs, w, hl, h => by
    have : vs = [] := List.length_eq_zero_iff.1 hl
    subst this; exact h
  | x :: xs, pre, [], w, hl, h => by simp at hl
  | x :: xs, pre, v :: vs, w, hl, h => by
    have e : (pre ++ v :: vs).set pre.length x = (pre ++ [x]) ++ vs := by simp
    have h1 := h.set pre.length x
    rw [e] at h1
    have := Box.setTail xs (pre ++ [x]) vs _ (by simpa using hl) h1
    simpa [setAll] using this
/-- A box is written whole. -/
theorem Box.setAll {w : World} {g : Nat} {vs : List Value} (h : Box w g vs) (xs : List Value) (hl : vs.length = xs.length) : Box (setAll w g 0 xs) g xs := Box.setTail xs [] vs w hl h
theorem Box.farFrom {g g' : Nat} (hne : g ≠ g') : ∀ (xs : List Value) (i : Nat) {w : World} {vs : List Value}, Box w g vs → Box (Go.MagM.setAll w g' i xs) g vs
  | [], _, _, _, h => h
  | x :: xs, i, _, _, h => Box.farFrom hne xs (i + 1) (h.far hne i x)
theorem Box.farAll {w : World} {g : Nat} {vs : List Value} (h : Box w g vs) {g' : Nat} (hne : g ≠ g') (xs : List Value) : Box (Go.MagM.setAll w g' 0 xs) g vs := Box.farFrom hne xs 0 h
theorem below_setFrom {M g : Nat} (hg : M ≤ g) {w : World} : ∀ (xs : List Value) (i : Nat) {w' : World}, Below M w w' → Below M w (setAll w' g i xs)
  | [], _, _, h => h
  | x :: xs, i, _, h => below_setFrom hg xs (i + 1) (h.setCell (p := ⟨g, i, none⟩) hg x)
theorem below_setAll {M : Nat} {w w' : World} (h : Below M w w') {g : Nat} (hg : M ≤ g) (xs : List Value) : Below M w (setAll w' g 0 xs) := below_setFrom hg xs 0 h
/-- No word. -/
def NoWord (u : Value) : Prop := ∀ x, u ≠ .int .u64 x
theorem NoWord.bool (b : Bool) : NoWord (.bool b) := fun _ h => by cases h
theorem NoWord.slice (a : Option Addr) (n c : Nat) : NoWord (.slice a n c) := fun _ h => by cases h
theorem NoWord.int (x : Int) : NoWord (.int .i64 x) := fun _ h => by cases h
theorem Reads.setOne {w : World} {ao : Option Addr} {n : Nat} {f : Nat → Nat} (hr : Reads w ao n f) {a : Addr} {u : Value} (hc : w.cell? a = some u) (hu : NoWord u) (v : Value) : Reads (w.setCell a v) ao n f := by
  intro i hi
  obtain ⟨b, o, e, h1, h2⟩ := hr i hi
  refine ⟨b, o, e, ?_, h2⟩
  have ne : a ≠ ⟨b, o + i, none⟩ := by
    intro h; rw [h, h1] at hc
    exact hu _ (Option.some.inj hc).symm
  rw [World.cell?_setCell_other _ _ _ _ (by first | exact ne | exact ne.symm)]; exact h1
/-- Words stay where a box that holds none is written whole. -/
theorem Reads.setTail {ao : Option Addr} {n g : Nat} {f : Nat → Nat} : ∀ (xs : List Value) (pre vs : List Value) {w : World}, vs.length = xs.length → (∀ u ∈ vs, NoWord u) → Box w g (pre ++ vs) → Reads w ao n f → Reads (Go.MagM.setAll w g pre.length xs) ao n f
  | [], _, _, _, _, _, _, h => h
  | x :: xs, pre, [], _, hl, _, _, _ => by simp at hl
  | x :: xs, pre, v :: vs, w, hl, hv, hb, h => by
    have e : (pre ++ v :: vs).set pre.length x = (pre ++ [x]) ++ vs := by simp
    have h1 := hb.set pre.length x
    rw [e] at h1
    have hc : w.cell? ⟨g, pre.length, none⟩ = some v := hb.c pre.length _ (by simp)
    have := Reads.setTail xs (pre ++ [x]) vs (by simpa using hl) (fun u hu => hv u (by simp [hu])) h1 (h.setOne hc (hv v (by simp)) x)
    simpa [Go.MagM.setAll] using this
theorem Reads.setAll {w : World} {ao : Option Addr} {n g : Nat} {f : Nat → Nat} (h : Reads w ao n f) {vs : List Value} (hb : Box w g vs) (hv : ∀ u ∈ vs, NoWord u) (xs : List Value) (hl : vs.length = xs.length) : Reads (Go.MagM.setAll w g 0 xs) ao n f :=
  Reads.setTail xs [] vs hl hv hb h
theorem Mag.setAll {w : World} {v : Value} {L N g : Nat} (h : Mag w v L N) {vs : List Value} (hb : Box w g vs) (hv : ∀ u ∈ vs, NoWord u) (xs : List Value) (hl : vs.length = xs.length) : Mag (Go.MagM.setAll w g 0 xs) v L N := by
  obtain ⟨ao, n, c, f, h1, h2, h3, h4, h5⟩ := h; exact ⟨ao, n, c, f, h1, h2, h3, h4.setAll hb hv xs hl, h5⟩
theorem RMag.setAll {w : World} {v : Value} {L N g : Nat} (h : RMag w v L N) {vs : List Value} (hb : Box w g vs) (hv : ∀ u ∈ vs, NoWord u) (xs : List Value) (hl : vs.length = xs.length) : RMag (Go.MagM.setAll w g 0 xs) v L N := by
  obtain ⟨ao, n, c, f, h1, h2, h3, h4, h5⟩ := h; exact ⟨ao, n, c, f, h1, h2, h3, h4.setAll hb hv xs hl, h5⟩
theorem Num.setAll {w : World} {v : Value} {L g : Nat} {N : Int} (h : Num w v L N) {vs : List Value} (hb : Box w g vs) (hv : ∀ u ∈ vs, NoWord u) (xs : List Value) (hl : vs.length = xs.length) : Num (Go.MagM.setAll w g 0 xs) v L N := by
  obtain ⟨m, vm, M, h1, h2, h3⟩ := h; exact ⟨m, vm, M, h1, h2.setAll hb hv xs hl, h3⟩
theorem RNum.setAll {w : World} {v : Value} {L g : Nat} {N : Int} (h : RNum w v L N) {vs : List Value} (hb : Box w g vs) (hv : ∀ u ∈ vs, NoWord u) (xs : List Value) (hl : vs.length = xs.length) : RNum (Go.MagM.setAll w g 0 xs) v L N := by
  obtain ⟨m, vm, M, h1, h2, h3⟩ := h; exact ⟨m, vm, M, h1, h2.setAll hb hv xs hl, h3⟩
theorem Mag.setOne {w : World} {v : Value} {L N : Nat} (h : Mag w v L N) {a : Addr} {u : Value} (hc : w.cell? a = some u) (hu : NoWord u) (x : Value) : Mag (w.setCell a x) v L N := by
  obtain ⟨ao, n, c, f, h1, h2, h3, h4, h5⟩ := h; exact ⟨ao, n, c, f, h1, h2, h3, h4.setOne hc hu x, h5⟩
theorem RMag.setOne {w : World} {v : Value} {L N : Nat} (h : RMag w v L N) {a : Addr} {u : Value} (hc : w.cell? a = some u) (hu : NoWord u) (x : Value) : RMag (w.setCell a x) v L N := by
  obtain ⟨ao, n, c, f, h1, h2, h3, h4, h5⟩ := h; exact ⟨ao, n, c, f, h1, h2, h3, h4.setOne hc hu x, h5⟩
theorem Num.setOne {w : World} {v : Value} {L : Nat} {N : Int} (h : Num w v L N) {a : Addr} {u : Value} (hc : w.cell? a = some u) (hu : NoWord u) (x : Value) : Num (w.setCell a x) v L N := by
  obtain ⟨m, vm, M, h1, h2, h3⟩ := h; exact ⟨m, vm, M, h1, h2.setOne hc hu x, h3⟩
theorem RNum.setOne {w : World} {v : Value} {L : Nat} {N : Int} (h : RNum w v L N) {a : Addr} {u : Value} (hc : w.cell? a = some u) (hu : NoWord u) (x : Value) : RNum (w.setCell a x) v L N := by
  obtain ⟨m, vm, M, h1, h2, h3⟩ := h; exact ⟨m, vm, M, h1, h2.setOne hc hu x, h3⟩
theorem Mag.num {w : World} {v : Value} {L N : Nat} (h : Mag w v L N) : Num w (.agg #[.bool false, v]) L (N : Int) := ⟨false, v, N, rfl, h, rfl⟩
/-- A cell holds a word. -/
structure WCell (w : World) (b o x : Nat) : Prop where
  c : w.cell? ⟨b, o, none⟩ = some (.int .u64 ((x : Nat) : Int))
theorem WCell.below {w w' : World} {b o x : Nat} (h : WCell w b o x) (hb : Below w.heap.size w w') : WCell w' b o x :=
  ⟨(hb.cell (p := ⟨b, o, none⟩) (World.block_lt_of_cell? w _ h.c)).trans h.c⟩
theorem WCell.drew {w : World} {b o x : Nat} (h : WCell w b o x) : WCell w.drew b o x := ⟨h.c⟩
theorem WCell.setOne {w : World} {b o x : Nat} (h : WCell w b o x) {a : Addr} {u : Value} (hc : w.cell? a = some u) (hu : NoWord u) (v : Value) : WCell (w.setCell a v) b o x := by
  refine ⟨?_⟩
  have ne : a ≠ ⟨b, o, none⟩ := by
    intro e; rw [e, h.c] at hc
    exact hu _ (Option.some.inj hc).symm
  rw [World.cell?_setCell_other _ _ _ _ (by first | exact ne | exact ne.symm)]; exact h.c
theorem WCell.setTail {g b o y : Nat} : ∀ (xs : List Value) (pre vs : List Value) {w : World}, vs.length = xs.length → (∀ u ∈ vs, NoWord u) → Box w g (pre ++ vs) → WCell w b o y → WCell (Go.MagM.setAll w g pre.length xs) b o y
  | [], _, _, _, _, _, _, h => h
  | x :: xs, pre, [], _, hl, _, _, _ => by simp at hl
  | x :: xs, pre, v :: vs, w, hl, hv, hb, h => by
    have e : (pre ++ v :: vs).set pre.length x = (pre ++ [x]) ++ vs := by simp
    have h1 := hb.set pre.length x
    rw [e] at h1
    have hc : w.cell? ⟨g, pre.length, none⟩ = some v := hb.c pre.length _ (by simp)
    have := WCell.setTail xs (pre ++ [x]) vs (by simpa using hl) (fun u hu => hv u (by simp [hu])) h1 (h.setOne hc (hv v (by simp)) x)
    simpa [Go.MagM.setAll] using this
theorem WCell.setAll {w : World} {b o x g : Nat} (h : WCell w b o x) {vs : List Value} (hb : Box w g vs) (hv : ∀ u ∈ vs, NoWord u) (xs : List Value) (hl : vs.length = xs.length) : WCell (Go.MagM.setAll w g 0 xs) b o x :=
  WCell.setTail xs [] vs hl hv hb h
/-- The word on top of a number that isn't 0. -/
theorem RMag.top {w : World} {ao : Option Addr} {n c L N : Nat} (h : RMag w (.slice ao n c) L N) (h0 : N ≠ 0) : ∃ b o k x, ao = some ⟨b, o, none⟩ ∧ n = k + 1 ∧ k + 1 ≤ L ∧ x ≠ 0 ∧ WCell w b (o + k) x := by
  obtain ⟨ao', n', c', f, e, _, h3, h4, h5, h6⟩ := h
  simp at e
  obtain ⟨rfl, rfl, rfl⟩ := e
  cases n with
  | zero => exact absurd h5.symm h0
  | succ k =>
    obtain ⟨b, o, h7, h8, h9⟩ := h4 k (by omega)
    exact ⟨b, o, k, f k, h7, rfl, h3, h6 k rfl, ⟨h8⟩⟩
/-- A number of one word. -/
theorem RMag.lone {w : World} {ao : Option Addr} {n c L N : Nat} (h : RMag w (.slice ao n c) L N) (h0 : N ≠ 0) (hB : N < B) : ∃ b o, ao = some ⟨b, o, none⟩ ∧ n = 1 ∧ WCell w b o N := by
  obtain ⟨ao', n', c', f, e, _, h3, h4, h5, h6⟩ := h
  simp at e
  obtain ⟨rfl, rfl, rfl⟩ := e
  cases n with
  | zero => exact absurd h5.symm h0
  | succ k =>
    have h11 := len_le_of_lt (L := 1) h6 (by rw [h5]; simpa using hB)
    obtain rfl : k = 0 := by omega
    obtain ⟨b, o, h7, h8, h9⟩ := h4 0 (by omega)
    refine ⟨b, o, h7, rfl, ⟨?_⟩⟩
    rw [V_succ, V_zero] at h5
    have : f 0 = N := by simpa using h5
    rw [← this]
    exact h8
theorem noWord2 (b : Bool) (ao : Option Addr) (n c : Nat) : ∀ u ∈ [.bool b, .slice ao n c], NoWord u := by
  intro u hu; simp at hu; rcases hu with rfl | rfl
  · exact NoWord.bool _
  · exact NoWord.slice _ _ _
theorem noWord3 (b : Bool) (ao : Option Addr) (n c : Nat) (bo : Option Addr) (k d : Nat) : ∀ u ∈ [.bool b, .slice ao n c, .slice bo k d], NoWord u := by
  intro u hu; simp at hu; rcases hu with rfl | rfl | rfl
  · exact NoWord.bool _
  · exact NoWord.slice _ _ _
  · exact NoWord.slice _ _ _
theorem Box.two_of {w : World} {g : Nat} {u v : Value} (h : Box2 w g u v) : Box w g [u, v] := by
  refine ⟨fun i x hi => ?_, fun i x hi => ?_⟩
  · match i, hi with
    | 0, hi => simp at hi; subst hi; exact h.c0
    | 1, hi => simp at hi; subst hi; exact h.c1
  · match i, hi with
    | 0, hi => exact h.f0
    | 1, hi => exact h.f1
/-- WHAT A FRAC IS: a number with a sign, and what it is divided by. -/
def FD (w : World) (v : Value) (L : Nat) (X : Int) (D : Nat) : Prop := ∃ m ao n c bo k d, v = .agg #[.bool m, .slice ao n c, .slice bo k d] ∧ Num w (.agg #[.bool m, .slice ao n c]) L X ∧ Mag w (.slice bo k d) L D
/-- The same, and it is right: a rational number. -/
def RF (w : World) (v : Value) (L : Nat) (q : Rat) : Prop := ∃ m ao n c bo k d, v = .agg #[.bool m, .slice ao n c, .slice bo k d] ∧ RNum w (.agg #[.bool m, .slice ao n c]) L q.num ∧ RMag w (.slice bo k d) L q.den
theorem FD.below {w w' : World} {v : Value} {L : Nat} {X : Int} {D : Nat} (h : FD w v L X D) (hb : Below w.heap.size w w') : FD w' v L X D := by
  obtain ⟨m, ao, n, c, bo, k, d, h1, h2, h3⟩ := h; exact ⟨m, ao, n, c, bo, k, d, h1, h2.below hb, h3.below hb⟩
theorem RF.below {w w' : World} {v : Value} {L : Nat} {q : Rat} (h : RF w v L q) (hb : Below w.heap.size w w') : RF w' v L q := by
  obtain ⟨m, ao, n, c, bo, k, d, h1, h2, h3⟩ := h; exact ⟨m, ao, n, c, bo, k, d, h1, h2.below hb, h3.below hb⟩
theorem FD.drew {w : World} {v : Value} {L : Nat} {X : Int} {D : Nat} (h : FD w v L X D) : FD w.drew v L X D := h
theorem RF.drew {w : World} {v : Value} {L : Nat} {q : Rat} (h : RF w v L q) : RF w.drew v L q := h
theorem FD.setOne {w : World} {v : Value} {L : Nat} {X : Int} {D : Nat} (h : FD w v L X D) {a : Addr} {u : Value} (hc : w.cell? a = some u) (hu : NoWord u) (x : Value) : FD (w.setCell a x) v L X D := by
  obtain ⟨m, ao, n, c, bo, k, d, h1, h2, h3⟩ := h; exact ⟨m, ao, n, c, bo, k, d, h1, h2.setOne hc hu x, h3.setOne hc hu x⟩
theorem RF.setOne {w : World} {v : Value} {L : Nat} {q : Rat} (h : RF w v L q) {a : Addr} {u : Value} (hc : w.cell? a = some u) (hu : NoWord u) (x : Value) : RF (w.setCell a x) v L q := by
  obtain ⟨m, ao, n, c, bo, k, d, h1, h2, h3⟩ := h; exact ⟨m, ao, n, c, bo, k, d, h1, h2.setOne hc hu x, h3.setOne hc hu x⟩
theorem FD.setAll {w : World} {v : Value} {L g : Nat} {X : Int} {D : Nat} (h : FD w v L X D) {vs : List Value} (hb : Box w g vs) (hv : ∀ u ∈ vs, NoWord u) (xs : List Value) (hl : vs.length = xs.length) : FD (Go.MagM.setAll w g 0 xs) v L X D := by
  obtain ⟨m, ao, n, c, bo, k, d, h1, h2, h3⟩ := h; exact ⟨m, ao, n, c, bo, k, d, h1, h2.setAll hb hv xs hl, h3.setAll hb hv xs hl⟩
theorem RF.setAll {w : World} {v : Value} {L g : Nat} {q : Rat} (h : RF w v L q) {vs : List Value} (hb : Box w g vs) (hv : ∀ u ∈ vs, NoWord u) (xs : List Value) (hl : vs.length = xs.length) : RF (Go.MagM.setAll w g 0 xs) v L q := by
  obtain ⟨m, ao, n, c, bo, k, d, h1, h2, h3⟩ := h; exact ⟨m, ao, n, c, bo, k, d, h1, h2.setAll hb hv xs hl, h3.setAll hb hv xs hl⟩
theorem FD.more {w : World} {v : Value} {L L' : Nat} {X : Int} {D : Nat} (h : FD w v L X D) (hL : L ≤ L') : FD w v L' X D := by
  obtain ⟨m, ao, n, c, bo, k, d, h1, h2, h3⟩ := h; exact ⟨m, ao, n, c, bo, k, d, h1, h2.more hL, h3.more hL⟩
theorem RF.more {w : World} {v : Value} {L L' : Nat} {q : Rat} (h : RF w v L q) (hL : L ≤ L') : RF w v L' q := by
  obtain ⟨m, ao, n, c, bo, k, d, h1, h2, h3⟩ := h; exact ⟨m, ao, n, c, bo, k, d, h1, h2.more hL, h3.more hL⟩
theorem RF.fd {w : World} {v : Value} {L : Nat} {q : Rat} (h : RF w v L q) : FD w v L q.num q.den := by
  obtain ⟨m, ao, n, c, bo, k, d, h1, h2, h3⟩ := h; exact ⟨m, ao, n, c, bo, k, d, h1, h2.num, h3.mag⟩
theorem RF.of {w : World} {v : Value} {L : Nat} {p q : Rat} (h : RF w v L p) (e : p = q) : RF w v L q := e ▸ h
/-- What a number is divided by: 1, if that is 0. -/
def den1 (D : Nat) : Nat := if D = 0 then 1 else D
theorem den1_pos (D : Nat) : 0 < den1 D := by unfold den1; split <;> omega
theorem den1_ne (D : Nat) : den1 D ≠ 0 := Nat.ne_of_gt (den1_pos D)
theorem den1_of {D : Nat} (h : D ≠ 0) : den1 D = D := if_neg h
/-- The number that a Frac counts. -/
def qv (X : Int) (D : Nat) : Rat := mkRat X (den1 D)
theorem qv_self (q : Rat) : qv q.num q.den = q := by unfold qv; rw [den1_of q.den_nz]; exact Rat.mkRat_self q
/-- What is read as a Frac counts q, right or not. -/
def FQ (w : World) (v : Value) (L : Nat) (q : Rat) : Prop := ∃ X D, FD w v L X D ∧ qv X D = q
theorem FD.q {w : World} {v : Value} {L : Nat} {X : Int} {D : Nat} (h : FD w v L X D) : FQ w v L (qv X D) := ⟨X, D, h, rfl⟩
theorem RF.q {w : World} {v : Value} {L : Nat} {q : Rat} (h : RF w v L q) : FQ w v L q := ⟨_, _, h.fd, qv_self q⟩
theorem FQ.below {w w' : World} {v : Value} {L : Nat} {q : Rat} (h : FQ w v L q) (hb : Below w.heap.size w w') : FQ w' v L q := by
  obtain ⟨X, D, h1, h2⟩ := h; exact ⟨X, D, h1.below hb, h2⟩
theorem FQ.drew {w : World} {v : Value} {L : Nat} {q : Rat} (h : FQ w v L q) : FQ w.drew v L q := h
theorem FQ.more {w : World} {v : Value} {L L' : Nat} {q : Rat} (h : FQ w v L q) (hL : L ≤ L') : FQ w v L' q := by
  obtain ⟨X, D, h1, h2⟩ := h; exact ⟨X, D, h1.more hL, h2⟩
theorem FQ.setOne {w : World} {v : Value} {L : Nat} {q : Rat} (h : FQ w v L q) {a : Addr} {u : Value} (hc : w.cell? a = some u) (hu : NoWord u) (x : Value) : FQ (w.setCell a x) v L q := by
  obtain ⟨X, D, h1, h2⟩ := h; exact ⟨X, D, h1.setOne hc hu x, h2⟩
theorem FQ.setAll {w : World} {v : Value} {L g : Nat} {q : Rat} (h : FQ w v L q) {vs : List Value} (hb : Box w g vs) (hv : ∀ u ∈ vs, NoWord u) (xs : List Value) (hl : vs.length = xs.length) : FQ (Go.MagM.setAll w g 0 xs) v L q := by
  obtain ⟨X, D, h1, h2⟩ := h; exact ⟨X, D, h1.setAll hb hv xs hl, h2⟩
/-- A call's answer is a right Frac of at most L words, q. -/
def AnsF (w w' : World) (e : Ending) (L : Nat) (q : Rat) : Prop := ∃ m ao n c bo k d, e = .returned (.agg #[.bool m, .slice ao n c, .slice bo k d]) ∧ RF w' (.agg #[.bool m, .slice ao n c, .slice bo k d]) L q ∧ Below w.heap.size w w'
theorem AnsF.of {w w' : World} {e : Ending} {L L' : Nat} {p q : Rat} (h : AnsF w w' e L p) (hL : L ≤ L') (he : p = q) : AnsF w w' e L' q := by
  subst he; obtain ⟨m, ao, n, c, bo, k, d, h1, h2, h3⟩ := h; exact ⟨m, ao, n, c, bo, k, d, h1, h2.more hL, h3⟩
theorem FD.num {w : World} {m : Bool} {ao : Option Addr} {n c : Nat} {bo : Option Addr} {k d L D : Nat} {X : Int} (h : FD w (.agg #[.bool m, .slice ao n c, .slice bo k d]) L X D) : Num w (.agg #[.bool m, .slice ao n c]) L X := by
  obtain ⟨_, _, _, _, _, _, _, e, h1, h2⟩ := h
  simp at e
  obtain ⟨rfl, ⟨rfl, rfl, rfl⟩, rfl, rfl, rfl⟩ := e
  exact h1
theorem FD.mag {w : World} {m : Bool} {ao : Option Addr} {n c : Nat} {bo : Option Addr} {k d L D : Nat} {X : Int} (h : FD w (.agg #[.bool m, .slice ao n c, .slice bo k d]) L X D) : Mag w (.slice bo k d) L D := by
  obtain ⟨_, _, _, _, _, _, _, e, h1, h2⟩ := h
  simp at e
  obtain ⟨rfl, ⟨rfl, rfl, rfl⟩, rfl, rfl, rfl⟩ := e
  exact h2
theorem Num.part {w : World} {m : Bool} {vm : Value} {L : Nat} {X : Int} (h : Num w (.agg #[.bool m, vm]) L X) : ∃ N, Mag w vm L N ∧ X = sgn m N := by
  obtain ⟨m', vm', N, e, h1, h2⟩ := h
  simp at e
  obtain ⟨rfl, rfl⟩ := e
  exact ⟨N, h1, h2⟩
theorem RNum.part {w : World} {m : Bool} {vm : Value} {L : Nat} {X : Int} (h : RNum w (.agg #[.bool m, vm]) L X) : ∃ N, RMag w vm L N ∧ X = sgn m N ∧ (m = true → N ≠ 0) := by
  obtain ⟨m', vm', N, e, h1, h2⟩ := h
  simp at e
  obtain ⟨rfl, rfl⟩ := e
  exact ⟨N, h1, h2⟩
theorem FD.neg {w : World} {m : Bool} {ao : Option Addr} {n c : Nat} {bo : Option Addr} {k d L D : Nat} {X : Int} (h : FD w (.agg #[.bool m, .slice ao n c, .slice bo k d]) L X D) : FD w (.agg #[.bool (!m), .slice ao n c, .slice bo k d]) L (-X) D := by
  obtain ⟨N, h1, rfl⟩ := h.num.part
  exact ⟨_, _, _, _, _, _, _, rfl, ⟨!m, _, N, rfl, h1, (sgn_neg m N).symm⟩, h.mag⟩
theorem FD.make {w : World} (m : Bool) {ao : Option Addr} {n c : Nat} {bo : Option Addr} {k d L N D : Nat} (h : Mag w (.slice ao n c) (max L 1) N) (h2 : Mag w (.slice bo k d) L D) : FD w (.agg #[.bool m, .slice ao n c, .slice bo k d]) (max L 1) (sgn m N) D :=
  ⟨_, _, _, _, _, _, _, rfl, ⟨m, _, N, rfl, h, rfl⟩, h2.more (by omega)⟩
/-- A call's answer is a slice of words that count N. -/
def AnsMag (w w' : World) (e : Ending) (L N : Nat) : Prop := ∃ ao n c, e = .returned (.slice ao n c) ∧ Mag w' (.slice ao n c) L N ∧ Below w.heap.size w w'
/-- The same, and it is right. -/
def AnsRMag (w w' : World) (e : Ending) (L N : Nat) : Prop := ∃ ao n c, e = .returned (.slice ao n c) ∧ RMag w' (.slice ao n c) L N ∧ Below w.heap.size w w'
theorem AnsRMag.of {w w' : World} {e : Ending} {L N : Nat} (h : ∃ v, e = .returned v ∧ RMag w' v L N ∧ Below w.heap.size w w') : AnsRMag w w' e L N := by
  obtain ⟨v, rfl, h1, h2⟩ := h
  obtain ⟨ao, n, c, rfl⟩ := h1.slice
  exact ⟨ao, n, c, rfl, h1, h2⟩
end Go.MagM
/- Rational numbers: what the calls of frac answer. Over no program. -/
namespace Go.MagM
open Go.RowKit
theorem bl_ne {D : Nat} (h0 : D ≠ 0) : (((bl D : Nat) : Int) == 0) = false := by
  have := bl_pos h0
  simp only [beq_eq_false_iff_ne]; omega
theorem bl_eq_one {D : Nat} (h : bl D = 1) : D = 1 := by
  have h1 := bl_lt D
  rw [h] at h1
  have : D ≠ 0 := by intro h0; subst h0; simp [bl_zero] at h
  omega
theorem bl_ne_one {D : Nat} (h : D ≠ 1) : (((bl D : Nat) : Int) == 1) = false := by
  have : bl D ≠ 1 := fun e => h (bl_eq_one e)
  simp only [beq_eq_false_iff_ne]; omega
theorem qv_eq (X : Int) (D : Nat) : qv X D = (X : Rat) / ((den1 D : Nat) : Rat) := by
  unfold qv; exact Rat.mkRat_eq_div _ _
theorem sgn_natAbs (m : Bool) (N : Nat) : (sgn m N).natAbs = N := by cases m <;> simp [sgn]
theorem qnum (m : Bool) (N D : Nat) (h : D ≠ 0) : (mkRat (sgn m N) D).num = sgn m (N / Nat.gcd N D) := by
  rw [Rat.num_mkRat, if_neg h, sgn_natAbs, Nat.gcd_comm D N]
  have hd : Nat.gcd N D ∣ N := Nat.gcd_dvd_left _ _
  cases m <;> simp only [sgn, if_true, if_false, Bool.false_eq_true]
  · exact (Int.natCast_ediv _ _).symm
  · rw [Int.neg_ediv_of_dvd (Int.natCast_dvd_natCast.2 hd), Int.natCast_ediv]
theorem qden (m : Bool) (N D : Nat) (h : D ≠ 0) : (mkRat (sgn m N) D).den = D / Nat.gcd N D := by
  rw [Rat.den_mkRat, if_neg h, sgn_natAbs, Nat.gcd_comm D N]
theorem low_any {w : World} {m : Bool} {ao bo : Option Addr} {n c k d L N D : Nat} (h : D ≠ 0) (h1 : RMag w (.slice ao n c) L (N / Nat.gcd N D)) (hm : m = true → N ≠ 0) (h2 : RMag w (.slice bo k d) L (D / Nat.gcd N D)) :
    RF w (.agg #[.bool m, .slice ao n c, .slice bo k d]) L (mkRat (sgn m N) D) := by
  refine ⟨m, ao, n, c, bo, k, d, rfl, ⟨m, _, N / Nat.gcd N D, rfl, h1, qnum m N D h, fun e => ?_⟩, by rw [qden m N D h]; exact h2⟩
  have := hm e
  exact Nat.ne_of_gt (Nat.div_pos (Nat.le_of_dvd (by omega) (Nat.gcd_dvd_left _ _)) (Nat.gcd_pos_of_pos_left _ (by omega)))
theorem low_lone {w : World} {m : Bool} {ao bo : Option Addr} {n c k d L D : Nat} {X : Int} (h : D ≠ 0) (hg : Nat.gcd X.natAbs D = 1) (h1 : RNum w (.agg #[.bool m, .slice ao n c]) L X) (h2 : RMag w (.slice bo k d) L D) :
    RF w (.agg #[.bool m, .slice ao n c, .slice bo k d]) L (mkRat X D) := by
  obtain ⟨N, h3, rfl, h4⟩ := h1.part
  rw [sgn_natAbs] at hg
  exact low_any h (by rw [hg, Nat.div_one]; exact h3) h4 (by rw [hg, Nat.div_one]; exact h2)
theorem low_one {w : World} {m : Bool} {ao bo : Option Addr} {n c k d L : Nat} {X : Int} (h1 : RNum w (.agg #[.bool m, .slice ao n c]) L X) (h2 : RMag w (.slice bo k d) L 1) :
    RF w (.agg #[.bool m, .slice ao n c, .slice bo k d]) L (mkRat X 1) := low_lone (by omega) (Nat.gcd_one_right _) h1 h2
end Go.MagM
/- From the form of the rows to the walks of layer 3: what an argument reads as. -/
namespace Go.Proofs.YtbeohedkeklaiaaGreatDoor
open Go.ChangeShapes Go.WideShapes Go.RowKit Go.MagM
theorem cells25 : Tryz.prog.cellsOf 32 = 2 := by kernel_rfl
theorem cells27 : Tryz.prog.cellsOf 46 = 3 := by kernel_rfl
theorem cells4 : Tryz.prog.cellsOf 4 = 1 := by kernel_rfl
theorem cells23 : Tryz.prog.cellsOf 30 = 1 := by kernel_rfl
set_option maxRecDepth 100000 in
/-- What a Frac reads as: a sign and words, and words. -/
theorem view_frac {H : Type} {enc : TypeId × Value → H} {W : World} {b0 : Nat} {v : Value} {d : DataW H} {p : List MemPlace} (hv : Value.okWide Tryz.prog W .any b0 46 v)
    (h : DataW.Trod enc Tryz.prog W 0 (fun _ => true) true 46 v d p) :
    ∃ m ao n c bo k e X D, v = .agg #[.bool m, .slice ao n c, .slice bo k e] ∧ FD W v (max n k) X D := by
  obtain ⟨cs, rfl, hsz⟩ := okWide_struct Tryz.underlying46 hv
  obtain ⟨c0, c1, c2, rfl⟩ := Joins.array3 (hsz.trans cells27)
  obtain ⟨fuel, hf⟩ := h
  obtain ⟨y0, y1, n, _, _, h0, h1⟩ := trod_struct2 Tryz.underlying46 hf
  have h0' : DataW.trod enc Tryz.prog W 0 (fun _ => true) true n 32 [c0, c1] = some y0 := by
    rw [← h0]; simp [Value.cells, cells25]
  have h1' : DataW.trod enc Tryz.prog W 0 (fun _ => true) true n 30 [c2] = some y1 := by
    rw [← h1]; simp [Value.cells, cells23]
  obtain ⟨z0, z1, n2, _, _, h2, h3⟩ := trod_struct2 Tryz.underlying32 h0'
  have h2' : DataW.trod enc Tryz.prog W 0 (fun _ => true) true n2 4 [c0] = some z0 := by
    rw [← h2]; simp [cells4]
  have h3' : DataW.trod enc Tryz.prog W 0 (fun _ => true) true n2 30 [c1] = some z1 := by
    rw [← h3]; simp [cells23]
  obtain ⟨m, hm, _⟩ := DataW.trod_bool Tryz.underlying4 h2'
  simp at hm
  subst hm
  obtain ⟨ao, an, ac, rfl, hc, f, hr⟩ := view_words h3'
  obtain ⟨bo, bn, bc, rfl, hc2, g, hr2⟩ := view_words h1'
  exact ⟨m, ao, an, ac, bo, bn, bc, _, _, rfl, _, _, _, _, _, _, _, rfl, ⟨m, _, _, rfl, ⟨ao, an, ac, f, rfl, hc, Nat.le_max_left _ _, hr, rfl⟩, rfl⟩, ⟨bo, bn, bc, g, rfl, hc2, Nat.le_max_right _ _, hr2, rfl⟩⟩
set_option maxRecDepth 100000 in
/-- What a Num reads as. -/
theorem view_num' {H : Type} {enc : TypeId × Value → H} {W : World} {b0 : Nat} {v : Value} {d : DataW H} {p : List MemPlace} (hv : Value.okWide Tryz.prog W .any b0 32 v)
    (h : DataW.Trod enc Tryz.prog W 0 (fun _ => true) true 32 v d p) :
    ∃ m ao n c X, v = .agg #[.bool m, .slice ao n c] ∧ Num W v n X := by
  obtain ⟨m, ao, n, c, f, rfl, hc, hr⟩ := view_num hv h
  exact ⟨m, ao, n, c, _, rfl, m, _, _, rfl, ⟨ao, n, c, f, rfl, hc, Nat.le_refl _, hr, rfl⟩, rfl⟩
end Go.Proofs.YtbeohedkeklaiaaGreatDoor
