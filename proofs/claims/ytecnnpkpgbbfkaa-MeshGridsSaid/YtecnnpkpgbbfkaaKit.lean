/- Words in memory: slices that are read, rows that are held and written, what a write leaves. Over any program. -/
import Derived.Test.YtecnnpkpgbbfkaaMath
import Derived.WalkKit
import Derived.Lib.Hide
import Derived.Laws.CopyOwn
import Derived.Laws.IdiomCopy
import Derived.Deep.Draws
import Derived.OwnWalk
namespace Go.MagM
open Go.RowKit
/-- The slice at ao reads as the words f 0 .. f (n - 1). -/
def Reads (w : World) (ao : Option Addr) (n : Nat) (f : Nat → Nat) : Prop :=
 ∀ i, i < n → ∃ b o, ao = some ⟨b, o, none⟩ ∧ w.cell? ⟨b, o + i, none⟩ = some (.int .u64 ((f i : Nat) : Int)) ∧ f i < B
/-- Block g, from o on, holds the words f 0 .. f (n - 1), and they may be written. -/
def Held (w : World) (g o n : Nat) (f : Nat → Nat) : Prop :=
 ∀ i, i < n → w.cell? ⟨g, o + i, none⟩ = some (.int .u64 ((f i : Nat) : Int)) ∧ w.frozen? ⟨g, o + i, none⟩ = false ∧ f i < B
/-- From w to w' nothing has turned but cells o .. o + n - 1 of block g; there may be new blocks. -/
structure Turn (g o n : Nat) (w w' : World) : Prop where
 os : w'.os = w.os
 tape : w'.tape = w.tape
 output : w'.output = w.output
 size : w.heap.size ≤ w'.heap.size
 block : ∀ k, k < w.heap.size → k ≠ g → w'.heap[k]? = w.heap[k]?
 cell : ∀ j, (j < o ∨ o + n ≤ j) → w'.cell? ⟨g, j, none⟩ = w.cell? ⟨g, j, none⟩
 frz : ∀ j, w'.frozen? ⟨g, j, none⟩ = w.frozen? ⟨g, j, none⟩
theorem Turn.refl (g o n : Nat) (w : World) : Turn g o n w w := ⟨rfl, rfl, rfl, Nat.le_refl _, fun _ _ _ => rfl, fun _ _ => rfl, fun _ => rfl⟩
theorem Turn.trans {g o n : Nat} {a b c : World} (h : Turn g o n a b) (k : Turn g o n b c) : Turn g o n a c :=
 ⟨k.os.trans h.os, k.tape.trans h.tape, k.output.trans h.output, Nat.le_trans h.size k.size,
  fun i hi hg => (k.block i (Nat.lt_of_lt_of_le hi h.size) hg).trans (h.block i hi hg), fun j hj => (k.cell j hj).trans (h.cell j hj), fun j => (k.frz j).trans (h.frz j)⟩
theorem Turn.drewN {g o n : Nat} {a w : World} (h : Turn g o n a w) (q : Nat) : Turn g o n a (w.drewN q) := ⟨h.os, h.tape, h.output, h.size, h.block, h.cell, h.frz⟩
theorem Turn.drew {g o n : Nat} {a w : World} (h : Turn g o n a w) : Turn g o n a w.drew := ⟨h.os, h.tape, h.output, h.size, h.block, h.cell, h.frz⟩
theorem Turn.setCell {g o n j : Nat} {a w : World} (h : Turn g o n a w) (h1 : o ≤ j) (h2 : j < o + n) (v : Value) : Turn g o n a (w.setCell ⟨g, j, none⟩ v) :=
 h.trans ⟨rfl, rfl, rfl, by simp [World.setCell], fun k hk hg => Below.heap_setCell _ _ _ _ (by simpa using hg),
  fun i hi => World.cell?_setCell_other _ _ _ _ (by intro e; simp at e <;> omega), fun i => World.frozen?_setCell _ _ _ _⟩
theorem Turn.below {g o n M : Nat} {w0 w w' : World} (h : Turn g o n w w') (hb : Below M w0 w) (hg : M ≤ g) (hm : M ≤ w.heap.size) : Below M w0 w' :=
 hb.trans ⟨h.os, h.tape, h.output, h.size, fun k hk => h.block k (by omega) (by omega)⟩
theorem Turn.of_below {g o n : Nat} {w w' : World} (h : Below w.heap.size w w') (hg : g < w.heap.size) : Turn g o n w w' :=
 ⟨h.os, h.tape, h.output, h.size, fun k hk _ => h.block k hk, fun _ _ => h.cell hg, fun _ => h.frozen hg⟩
theorem Reads.congr {w : World} {ao : Option Addr} {n : Nat} {f g : Nat → Nat} (h : Reads w ao n f) (e : ∀ i, i < n → f i = g i) : Reads w ao n g := by
 intro i hi; obtain ⟨b, o, h1, h2, h3⟩ := h i hi; rw [e i hi] at h2 h3; exact ⟨b, o, h1, h2, h3⟩
theorem Held.congr {w : World} {b o n : Nat} {f g : Nat → Nat} (h : Held w b o n f) (e : ∀ i, i < n → f i = g i) : Held w b o n g := by
 intro i hi; obtain ⟨h1, h2, h3⟩ := h i hi; rw [e i hi] at h1 h3; exact ⟨h1, h2, h3⟩
theorem Reads.lt {w : World} {ao : Option Addr} {n : Nat} {f : Nat → Nat} (h : Reads w ao n f) : ∀ i, i < n → f i < B := fun i hi => by obtain ⟨_, _, _, _, h3⟩ := h i hi; exact h3
theorem Held.lt {w : World} {b o n : Nat} {f : Nat → Nat} (h : Held w b o n f) : ∀ i, i < n → f i < B := fun i hi => (h i hi).2.2
theorem Reads.less {w : World} {ao : Option Addr} {n m : Nat} {f : Nat → Nat} (h : Reads w ao n f) (hm : m ≤ n) : Reads w ao m f := fun i hi => h i (by omega)
theorem Held.less {w : World} {b o n m : Nat} {f : Nat → Nat} (h : Held w b o n f) (hm : m ≤ n) : Held w b o m f := fun i hi => h i (by omega)
theorem Held.part {w : World} {b o n k m : Nat} {f : Nat → Nat} (h : Held w b o n f) (hm : k + m ≤ n) : Held w b (o + k) m (fun i => f (k + i)) := fun i hi => by
 have := h (k + i) (by omega); rwa [← Nat.add_assoc] at this
theorem Held.join {w : World} {b o k m : Nat} {f : Nat → Nat} (h : Held w b o k f) (h' : Held w b (o + k) m (fun i => f (k + i))) : Held w b o (k + m) f := fun i hi => by
 by_cases hk : i < k
 ·exact h i hk
 ·have := h' (i - k) (by omega)
  rw [show o + k + (i - k) = o + i from by omega] at this
  simp only [show k + (i - k) = i from by omega] at this
  exact this
theorem Held.reads {w : World} {b o n : Nat} {f : Nat → Nat} (h : Held w b o n f) : Reads w (some ⟨b, o, none⟩) n f := fun i hi => ⟨b, o, rfl, (h i hi).1, (h i hi).2.2⟩
theorem Reads.nil (w : World) (ao : Option Addr) (f : Nat → Nat) : Reads w ao 0 f := fun i hi => by omega
theorem Held.nil (w : World) (g o : Nat) (f : Nat → Nat) : Held w g o 0 f := fun i hi => by omega
/-- What is read there, if anything, lies in another block. -/
def Apart (bo : Option Addr) (m g : Nat) : Prop := 0 < m → ∀ b' o', bo = some ⟨b', o', none⟩ → b' ≠ g
theorem Reads.apart {w : World} {bo : Option Addr} {m g : Nat} {h : Nat → Nat} (hr : Reads w bo m h) (hg : w.heap.size ≤ g) : Apart bo m g := by
 intro hm b' o' e
 obtain ⟨b, o, e', hc, _⟩ := hr 0 hm
 rw [e] at e'; simp at e'
 have := World.block_lt_of_cell? w _ hc
 simp at this; omega
/-- What is read elsewhere stays. -/
theorem Reads.turn {g o n m : Nat} {w w' : World} {bo : Option Addr} {h : Nat → Nat} (hr : Reads w bo m h) (ht : Turn g o n w w') (hne : Apart bo m g) : Reads w' bo m h := by
 intro i hi
 obtain ⟨b', o', e, hc, hl⟩ := hr i hi
 refine ⟨b', o', e, ?_, hl⟩
 rw [World.cell?_of_block (a := ⟨b', o' + i, none⟩) (ht.block b' (World.block_lt_of_cell? w _ hc) (hne (by omega) b' o' e))]
 exact hc
theorem Reads.below {m : Nat} {w w' : World} {bo : Option Addr} {h : Nat → Nat} (hr : Reads w bo m h) (hb : Below w.heap.size w w') : Reads w' bo m h := by
 intro i hi
 obtain ⟨b', o', e, hc, hl⟩ := hr i hi
 exact ⟨b', o', e, by rw [hb.cell (p := ⟨b', o' + i, none⟩) (World.block_lt_of_cell? w _ hc)]; exact hc, hl⟩
theorem Held.below {g o n : Nat} {w w' : World} {f : Nat → Nat} (hr : Held w g o n f) (hb : Below w.heap.size w w') : Held w' g o n f := by
 intro i hi
 obtain ⟨hc, hf, hl⟩ := hr i hi
 have hlt := World.block_lt_of_cell? w _ hc
 exact ⟨by rw [hb.cell (p := ⟨g, o + i, none⟩) hlt]; exact hc, by rw [hb.frozen (p := ⟨g, o + i, none⟩) hlt]; exact hf, hl⟩
/-- A part of the same row that is not touched stays. -/
theorem Held.turn {g o n o' n' : Nat} {w w' : World} {f : Nat → Nat} (hr : Held w g o' n' f) (ht : Turn g o n w w') (hd : o' + n' ≤ o ∨ o + n ≤ o') : Held w' g o' n' f := by
 intro i hi
 obtain ⟨hc, hf, hl⟩ := hr i hi
 exact ⟨by rw [ht.cell (o' + i) (by omega)]; exact hc, by rw [ht.frz]; exact hf, hl⟩
theorem Held.setCell {w : World} {g o n k x : Nat} {f : Nat → Nat} (h : Held w g o n f) (hx : x < B) (hk : k < n) : Held (w.setCell ⟨g, o + k, none⟩ (.int .u64 ((x : Nat) : Int))) g o n (upd f k x) := by
 intro i hi
 obtain ⟨hc, hf, hl⟩ := h i hi
 rw [World.frozen?_setCell]
 by_cases e : i = k
 ·subst e
  rw [upd_same]
  exact ⟨World.cell?_setCell_same _ _ _ hc, hf, hx⟩
 ·rw [upd_other _ _ _ e]
  exact ⟨by rw [World.cell?_setCell_other _ _ _ _ (by intro e'; simp at e' <;> omega)]; exact hc, hf, hl⟩
theorem Held.drewN {w : World} {g o n : Nat} {f : Nat → Nat} (h : Held w g o n f) (q : Nat) : Held (w.drewN q) g o n f := h
/-- WHAT A SLICE VALUE IS: at most L words, and they count N. -/
def Mag (w : World) (v : Value) (L N : Nat) : Prop := ∃ ao n c f, v = .slice ao n c ∧ n ≤ c ∧ n ≤ L ∧ Reads w ao n f ∧ V f n = N
/-- The same, and it is right: no 0 at its end. -/
def RMag (w : World) (v : Value) (L N : Nat) : Prop := ∃ ao n c f, v = .slice ao n c ∧ n ≤ c ∧ n ≤ L ∧ Reads w ao n f ∧ V f n = N ∧ Right f n
theorem RMag.mag {w : World} {v : Value} {L N : Nat} (h : RMag w v L N) : Mag w v L N := by obtain ⟨ao, n, c, f, h1, h2, h3, h4, h5, _⟩ := h; exact ⟨ao, n, c, f, h1, h2, h3, h4, h5⟩
theorem Mag.below {w w' : World} {v : Value} {L N : Nat} (h : Mag w v L N) (hb : Below w.heap.size w w') : Mag w' v L N := by
 obtain ⟨ao, n, c, f, h1, h2, h3, h4, h5⟩ := h; exact ⟨ao, n, c, f, h1, h2, h3, h4.below hb, h5⟩
theorem RMag.below {w w' : World} {v : Value} {L N : Nat} (h : RMag w v L N) (hb : Below w.heap.size w w') : RMag w' v L N := by
 obtain ⟨ao, n, c, f, h1, h2, h3, h4, h5⟩ := h; exact ⟨ao, n, c, f, h1, h2, h3, h4.below hb, h5⟩
theorem Mag.more {w : World} {v : Value} {L L' N : Nat} (h : Mag w v L N) (hL : L ≤ L') : Mag w v L' N := by
 obtain ⟨ao, n, c, f, h1, h2, h3, h4, h5⟩ := h; exact ⟨ao, n, c, f, h1, h2, by omega, h4, h5⟩
theorem RMag.more {w : World} {v : Value} {L L' N : Nat} (h : RMag w v L N) (hL : L ≤ L') : RMag w v L' N := by
 obtain ⟨ao, n, c, f, h1, h2, h3, h4, h5⟩ := h; exact ⟨ao, n, c, f, h1, h2, by omega, h4, h5⟩
theorem Mag.lt {w : World} {v : Value} {L N : Nat} (h : Mag w v L N) : N < B ^ L := by
 obtain ⟨ao, n, c, f, h1, h2, h3, h4, h5⟩ := h
 have := V_lt h4.lt
 have h6 : B ^ n ≤ B ^ L := Nat.pow_le_pow_right B_pos h3
 omega
theorem RMag.short {w : World} {v : Value} {L N K : Nat} (h : RMag w v L N) (hN : N < B ^ K) : RMag w v K N := by
 obtain ⟨ao, n, c, f, h1, h2, h3, h4, h5, h6⟩ := h
 exact ⟨ao, n, c, f, h1, h2, len_le_of_lt h6 (by rw [h5]; exact hN), h4, h5, h6⟩
theorem RMag.nil (w : World) : RMag w (.slice none 0 0) 0 0 := ⟨none, 0, 0, fun _ => 0, rfl, Nat.le_refl _, Nat.le_refl _, Reads.nil _ _ _, rfl, fun k h => by omega⟩
end Go.MagM
