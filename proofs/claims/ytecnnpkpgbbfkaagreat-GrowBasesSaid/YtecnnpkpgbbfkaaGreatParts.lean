/- Keys of two ints. -/
import Derived.Test.YtecnnpkpgbbfkaaGreatParto
import Derived.WideKeyArr
import Derived.DataShut
import Derived.Test.YtecnnpkpgbbfkaaGreatPartp
import Derived.Test.YtecnnpkpgbbfkaaGreatPartl
import Derived.StillTailTactics
import Derived.BigQuiet
import Derived.Deep.QuietTactic
import Derived.Test.YtecnnpkpgbbfkaaGreatPartk
import Derived.Test.YtecnnpkpgbbfkaaGreatParth
import Derived.Test.YtecnnpkpgbbfkaaGreatParti
import Derived.Test.YtecnnpkpgbbfkaaGreatWalkSk
import Derived.Test.YtecnnpkpgbbfkaaGreatPartg
import Derived.Test.YtecnnpkpgbbfkaaGreatPartm
namespace Go.Proofs.YtecnnpkpgbbfkaaGreat
open Go.RowKit Go.MagM Go.Maps Go.WideMaps Go.WideShapes
theorem keyedI : Keyed Tryz.prog 3 := int_keyed Tryz.underlying3
theorem wf_small {a : Int} (h : -1000000 ≤ a ∧ a ≤ 1000000) : (Lit.int .i64 a).wf = true := by
  rw [Lit.wf_int_iff]; exact ⟨by show -9223372036854775808 ≤ a; omega, by show a ≤ 9223372036854775807; omega⟩
theorem keyI_of {a : Int} (ha : -1000000 ≤ a ∧ a ≤ 1000000) : keyOf Tryz.prog 3 (.int .i64 a) = some (.int .i64 a) := keyOf_int_mk Tryz.underlying3 (wf_small ha)
end Go.Proofs.YtecnnpkpgbbfkaaGreat
/- One triangle and its ghosts are sound; pure. -/
namespace Go.Proofs.YtecnnpkpgbbfkaaGreat
open Go.RowKit Go.MagM
section
variable {P : List (Int × Int)} {a b c : Nat}
theorem newM_get (a b c : Int) (k : Nat) (T : TriM) (h : (newM a b c)[k]? = some T) : (k = 0 ∧ T = ⟨a, b, c, 1, 2, 3, false, false, false⟩) ∨ (k = 1 ∧ T = ⟨c, b, -1, 3, 2, 0, false, false, false⟩) ∨ (k = 2 ∧ T = ⟨a, c, -1, 1, 3, 0, false, false, false⟩) ∨ (k = 3 ∧ T = ⟨b, a, -1, 2, 1, 0, false, false, false⟩) := by
  match k, h with
  | 0, h => simp [newM] at h; exact .inl ⟨rfl, h.symm⟩
  | 1, h => simp [newM] at h; exact .inr (.inl ⟨rfl, h.symm⟩)
  | 2, h => simp [newM] at h; exact .inr (.inr (.inl ⟨rfl, h.symm⟩))
  | 3, h => simp [newM] at h; exact .inr (.inr (.inr ⟨rfl, h.symm⟩))
  | _ + 4, h => simp [newM] at h
end
end Go.Proofs.YtecnnpkpgbbfkaaGreat
/- The triangles of the statements' grids: their edges, their border. Over no program; written ahead of layer 9's code. -/
namespace Go.MagM
/-- The squares of a grid, row by row. -/
def gridSq (w h : Nat) : List (Nat × Nat) := (List.range h).flatMap fun y => (List.range w).map fun x => (x, y)
/-- Both triangles of a square: by one diagonal, or by the other one. -/
def sqT (w : Nat) (p : Nat × Nat) (bit : Bool) : List (Nat × Nat × Nat) :=
 let a := p.2 * (w + 1) + p.1
 let b := p.2 * (w + 1) + (p.1 + 1)
 let c := (p.2 + 1) * (w + 1) + (p.1 + 1)
 let d := (p.2 + 1) * (w + 1) + p.1
 if bit then [(a, b, c), (c, d, a)] else [(b, d, a), (d, b, c)]
def gridT (w h bits : Nat) : List (Nat × Nat × Nat) := ((gridSq w h).zipIdx).flatMap fun q => sqT w q.1 (bits.testBit q.2)
def edgesT (T : List (Nat × Nat × Nat)) : List (Nat × Nat) := T.flatMap fun t => [(t.2.1, t.2.2), (t.2.2, t.1), (t.1, t.2.1)]
/-- Edges that have no other half. -/
def borderT (T : List (Nat × Nat × Nat)) : List (Nat × Nat) := (edgesT T).filter fun e => !(edgesT T).contains (e.2, e.1)
def crossN (w : Nat) (a b c : Nat) : Int :=
 let x := fun v : Nat => ((2 * (v % (w + 1)) : Nat) : Int)
 let y := fun v : Nat => ((2 * (v / (w + 1)) : Nat) : Int)
 (x b - x a) * (y c - y a) - (y b - y a) * (x c - x a)
def goodT (w h : Nat) (T : List (Nat × Nat × Nat)) : Bool :=
 (edgesT T).Nodup && (edgesT T).all (fun e => e.1 != e.2 && e.1 < (w + 1) * (h + 1)) && T.all (fun t => 0 < crossN w t.1 t.2.1 t.2.2) && T.length == 2 * w * h &&
  ((borderT T).map (·.1)).Nodup && ((borderT T).map (·.2)).Nodup && (borderT T).length == 2 * (w + h) && (borderT T).all (fun e => ((borderT T).map (·.2)).contains e.1 && ((borderT T).map (·.1)).contains e.2)
def allGood : Bool := [1, 2].all fun w => [1, 2].all fun h => (List.range 16).all fun bits => goodT w h (gridT w h bits)
set_option maxRecDepth 100000 in
theorem all_good : allGood = true := by decide +kernel
theorem grid_good {w h : Nat} (hw : w = 1 ∨ w = 2) (hh : h = 1 ∨ h = 2) {bits : Nat} (hb : bits < 16) : goodT w h (gridT w h bits) = true := by
 have := all_good
 unfold allGood at this
 rw [List.all_eq_true] at this
 have h1 := this w (by rcases hw with rfl | rfl <;> simp)
 rw [List.all_eq_true] at h1
 have h2 := h1 h (by rcases hh with rfl | rfl <;> simp)
 rw [List.all_eq_true] at h2
 exact h2 bits (List.mem_range.2 hb)
end Go.MagM
/- Triangles and ghosts: all their half-edges are distinct, and each has its other half. Over no program; written ahead of layer 9's code. -/
namespace Go.MagM
theorem nodup_inj {α β : Type} {f : α → β} : ∀ {l : List α}, (l.map f).Nodup → ∀ {x y : α}, x ∈ l → y ∈ l → f x = f y → x = y
 | a :: t, h, x, y, hx, hy, e => by
  have h' := List.nodup_cons.1 h
  rcases List.mem_cons.1 hx with hx | kx
  ·rcases List.mem_cons.1 hy with hy | ky
   ·rw [hx, hy]
   ·exact absurd (List.mem_map.2 ⟨y, ky, by rw [← e, hx]⟩) h'.1
  ·rcases List.mem_cons.1 hy with hy | ky
   ·exact absurd (List.mem_map.2 ⟨x, kx, by rw [e, hy]⟩) h'.1
   ·exact nodup_inj h'.2 kx ky e
/-- The edges of a triangle; its half-edges, its number being s. -/
def edgesV (V : Int × Int × Int) : List (Int × Int) := [(V.2.1, V.2.2), (V.2.2, V.1), (V.1, V.2.1)]
def halfV (s : Nat) (V : Int × Int × Int) : List HalfE := [(s, 0, (V.2.1, V.2.2)), (s, 1, (V.2.2, V.1)), (s, 2, (V.1, V.2.1))]
def halfEs (L : List (Nat × (Int × Int × Int))) : List HalfE := L.flatMap fun p => halfV p.1 p.2
theorem halfEs_edges : ∀ L, (halfEs L).map (fun x => x.2.2) = L.flatMap fun p => edgesV p.2
 | [] => rfl
 | p :: t => by
  have := halfEs_edges t
  unfold halfEs at this ⊢
  rw [List.flatMap_cons, List.map_append, this, List.flatMap_cons]; rfl
theorem mem_halfEs {L : List (Nat × (Int × Int × Int))} {t i : Nat} {e : Int × Int} : (t, i, e) ∈ halfEs L ↔ ∃ V, (t, V) ∈ L ∧ ((i = 0 ∧ e = (V.2.1, V.2.2)) ∨ (i = 1 ∧ e = (V.2.2, V.1)) ∨ (i = 2 ∧ e = (V.1, V.2.1))) := by
 unfold halfEs
 rw [List.mem_flatMap]
 constructor
 ·rintro ⟨⟨s, V⟩, h1, h2⟩
  simp [halfV] at h2
  rcases h2 with ⟨rfl, rfl, rfl⟩ | ⟨rfl, rfl, rfl⟩ | ⟨rfl, rfl, rfl⟩
  ·exact ⟨V, h1, .inl ⟨rfl, rfl⟩⟩
  ·exact ⟨V, h1, .inr (.inl ⟨rfl, rfl⟩)⟩
  ·exact ⟨V, h1, .inr (.inr ⟨rfl, rfl⟩)⟩
 ·rintro ⟨V, h1, h2⟩
  refine ⟨(t, V), h1, ?_⟩
  simp [halfV]
  rcases h2 with ⟨rfl, rfl⟩ | ⟨rfl, rfl⟩ | ⟨rfl, rfl⟩ <;> simp
theorem distinct_of {L : List (Nat × (Int × Int × Int))} (hs : (L.map (·.1)).Nodup) (he : (L.flatMap fun p => edgesV p.2).Nodup) (hn : ∀ e, e ∈ (L.flatMap fun p => edgesV p.2) → e.1 ≠ e.2) : Distinct (halfEs L) := by
 rw [← halfEs_edges] at he hn
 refine ⟨fun t i u j e h1 h2 => ?_, fun t i e e' h1 h2 => ?_, fun t i a b h => ?_⟩
 ·have := nodup_inj he h1 h2 rfl
  simp only [Prod.mk.injEq] at this
  exact ⟨this.1, this.2.1⟩
 ·obtain ⟨V, v1, v2⟩ := mem_halfEs.1 h1
  obtain ⟨U, u1, u2⟩ := mem_halfEs.1 h2
  have := nodup_inj hs v1 u1 rfl
  simp only [Prod.mk.injEq, true_and] at this
  subst this
  rcases v2 with ⟨rfl, rfl⟩ | ⟨rfl, rfl⟩ | ⟨rfl, rfl⟩ <;> rcases u2 with ⟨k, rfl⟩ | ⟨k, rfl⟩ | ⟨k, rfl⟩ <;> first | rfl | omega
 ·exact hn (a, b) (List.mem_map.2 ⟨_, h, rfl⟩)
/-- A triangle of points; a ghost behind an edge of the border. -/
def realV (t : Nat × Nat × Nat) : Int × Int × Int := ((t.1 : Int), (t.2.1 : Int), (t.2.2 : Int))
def ghostV (e : Nat × Nat) : Int × Int × Int := ((e.2 : Int), (e.1 : Int), -1)
def castE (e : Nat × Nat) : Int × Int := ((e.1 : Int), (e.2 : Int))
theorem castE_inj {a b : Nat × Nat} (h : castE a = castE b) : a = b := by
 unfold castE at h
 simp only [Prod.mk.injEq] at h
 exact Prod.ext (by omega) (by omega)
theorem real_edges : ∀ T : List (Nat × Nat × Nat), (T.map realV).flatMap edgesV = (edgesT T).map castE
 | [] => rfl
 | t :: r => by
  have := real_edges r
  unfold edgesT at this ⊢
  rw [List.map_cons, List.flatMap_cons, this, List.flatMap_cons, List.map_append]; rfl
theorem ghost_edges : ∀ Bd : List (Nat × Nat), ∀ e, e ∈ (Bd.map ghostV).flatMap edgesV ↔ ∃ x ∈ Bd, e = ((x.1 : Int), -1) ∨ e = (-1, (x.2 : Int)) ∨ e = ((x.2 : Int), (x.1 : Int)) := by
 intro Bd e
 simp only [List.mem_flatMap, List.mem_map]
 constructor
 ·rintro ⟨V, ⟨x, hx, rfl⟩, h⟩
  simp [edgesV, ghostV] at h
  exact ⟨x, hx, h⟩
 ·rintro ⟨x, hx, h⟩
  exact ⟨ghostV x, ⟨x, hx, rfl⟩, by simp [edgesV, ghostV]; exact h⟩
theorem ghost_nodup : ∀ Bd : List (Nat × Nat), (Bd.map (·.1)).Nodup → (Bd.map (·.2)).Nodup → ((Bd.map ghostV).flatMap edgesV).Nodup
 | [], _, _ => by simp
 | x :: t, h1, h2 => by
  have k1 := List.nodup_cons.1 h1
  have k2 := List.nodup_cons.1 h2
  rw [List.map_cons, List.flatMap_cons, List.nodup_append]
  refine ⟨?_, ghost_nodup t k1.2 k2.2, fun a ha b hb e => ?_⟩
  ·simp [edgesV, ghostV]
  ·subst e
   obtain ⟨y, hy, h⟩ := (ghost_edges t a).1 hb
   have y1 : y.1 ≠ x.1 := fun e => k1.1 (List.mem_map.2 ⟨y, hy, e⟩)
   have y2 : y.2 ≠ x.2 := fun e => k2.1 (List.mem_map.2 ⟨y, hy, e⟩)
   simp [edgesV, ghostV] at ha
   rcases ha with rfl | rfl | rfl <;> rcases h with h | h | h <;> simp only [Prod.mk.injEq] at h <;> omega
/-- What is known of a list of triangles, as a proposition. -/
structure Good (T : List (Nat × Nat × Nat)) : Prop where
 once : (edgesT T).Nodup
 apart : ∀ e, e ∈ edgesT T → e.1 ≠ e.2
 out : ((borderT T).map (·.1)).Nodup
 in_ : ((borderT T).map (·.2)).Nodup
 next : ∀ e, e ∈ borderT T → (∃ x, x ∈ borderT T ∧ x.2 = e.1) ∧ (∃ x, x ∈ borderT T ∧ x.1 = e.2)
theorem Good.of {w h : Nat} {T : List (Nat × Nat × Nat)} (g : goodT w h T = true) : Good T := by
 unfold goodT at g
 simp only [Bool.and_eq_true, decide_eq_true_eq, List.all_eq_true, bne_iff_ne, ne_eq, List.contains_iff_mem, beq_iff_eq] at g
 obtain ⟨⟨⟨⟨⟨⟨⟨g1, g2⟩, _⟩, _⟩, g3⟩, g4⟩, _⟩, g5⟩ := g
 refine ⟨g1, fun e he => (g2 e he).1, g3, g4, fun e he => ?_⟩
 obtain ⟨h1, h2⟩ := g5 e he
 obtain ⟨x, hx, hx2⟩ := List.mem_map.1 h1
 obtain ⟨y, hy, hy2⟩ := List.mem_map.1 h2
 exact ⟨⟨x, hx, hx2⟩, y, hy, hy2⟩
theorem mem_border {T : List (Nat × Nat × Nat)} {e : Nat × Nat} : e ∈ borderT T ↔ e ∈ edgesT T ∧ (e.2, e.1) ∉ edgesT T := by
 unfold borderT
 rw [List.mem_filter]
 simp
/-- All edges of the triangles, and of the ghosts behind the border, whatever the order of these. -/
def allE (T : List (Nat × Nat × Nat)) (Bd : List (Nat × Nat)) : List (Int × Int) := (T.map realV ++ Bd.map ghostV).flatMap edgesV
theorem all_nodup {T : List (Nat × Nat × Nat)} (g : Good T) {Bd : List (Nat × Nat)} (hp : Bd.Perm (borderT T)) : (allE T Bd).Nodup := by
 unfold allE
 rw [List.flatMap_append, real_edges, List.nodup_append]
 refine ⟨?_, ghost_nodup Bd (((hp.map _).nodup_iff).2 g.out) (((hp.map _).nodup_iff).2 g.in_), fun a ha b hb e => ?_⟩
 ·exact List.Pairwise.map castE (fun a b h e => h (castE_inj e)) g.once
 ·subst e
  obtain ⟨x, hx, rfl⟩ := List.mem_map.1 ha
  obtain ⟨y, hy, h⟩ := (ghost_edges Bd _).1 hb
  have hb' := (mem_border.1 (hp.mem_iff.1 hy)).2
  unfold castE at h
  rcases h with h | h | h <;> simp only [Prod.mk.injEq] at h
  ·omega
  ·omega
  ·have : x = (y.2, y.1) := Prod.ext (by have := h.1; simp only []; omega) (by have := h.2; simp only []; omega)
   rw [this] at hx
   exact hb' hx
theorem all_apart {T : List (Nat × Nat × Nat)} (g : Good T) {Bd : List (Nat × Nat)} (hp : Bd.Perm (borderT T)) : ∀ e, e ∈ allE T Bd → e.1 ≠ e.2 := by
 intro e he
 unfold allE at he
 rw [List.flatMap_append, real_edges] at he
 rcases List.mem_append.1 he with he | he
 ·obtain ⟨x, hx, rfl⟩ := List.mem_map.1 he
  have := g.apart x hx
  simp only [castE]; omega
 ·obtain ⟨y, hy, h⟩ := (ghost_edges Bd _).1 he
  have := g.apart y (mem_border.1 (hp.mem_iff.1 hy)).1
  rcases h with rfl | rfl | rfl <;> simp only [] <;> omega
end Go.MagM
/- The statements' Build: join, by half-edges. -/
namespace Go.MagM
open Go.RowKit
def key2 (a b : Int) : Value := .agg #[.int .i64 a, .int .i64 b]
/-- An entry of the map of open edges. -/
def encO (x : (Int × Int) × Nat × Nat) : Value × Value := (key2 x.1.1 x.1.2, .agg #[.int .i64 (x.2.1 : Int), .int .i64 (x.2.2 : Int)])
section
variable {P : Program}
/-- A map that tells which edges are faults. -/
def FaultMap (P : Program) (k : TypeId) (w : World) (fb : Nat) (F : Int → Int → Bool) : Prop :=
 ∃ m, MapB P k w fb m ∧ (∀ e, e ∈ m → ∃ a b, e = (key2 a b, .int .i64 1) ∧ F a b = true) ∧ (∀ a b, F a b = true → (key2 a b, .int .i64 1) ∈ m)
theorem FaultMap.same {k : TypeId} {w w' : World} {fb : Nat} {F : Int → Int → Bool} (h : FaultMap P k w fb F) (e : w'.heap[fb]? = w.heap[fb]?) : FaultMap P k w' fb F := by
 obtain ⟨m, h1, h2, h3⟩ := h
 exact ⟨m, h1.block e, h2, h3⟩
theorem FaultMap.lt {k : TypeId} {w : World} {fb : Nat} {F : Int → Int → Bool} (h : FaultMap P k w fb F) : fb < w.heap.size := by
 obtain ⟨m, h1, -⟩ := h; exact h1.lt
/-- But for a mesh and one block more w' is as w was. -/
structure Keep3 (w w' : World) (mb : Nat) (tv : Value) (ob : Nat) : Prop where
 os : w'.os = w.os
 tape : w'.tape = w.tape
 output : w'.output = w.output
 size : w.heap.size ≤ w'.heap.size
 keep : ∀ k, k < w.heap.size → k ≠ mb → tv.ownBlock ≠ some k → k ≠ ob → w'.heap[k]? = w.heap[k]?
theorem Keep3.refl (w : World) (mb : Nat) (tv : Value) (ob : Nat) : Keep3 w w mb tv ob := ⟨rfl, rfl, rfl, Nat.le_refl _, fun _ _ _ _ _ => rfl⟩
theorem Keep3.trans {a b c : World} {mb : Nat} {tv : Value} {ob : Nat} (h : Keep3 a b mb tv ob) (k : Keep3 b c mb tv ob) : Keep3 a c mb tv ob :=
 ⟨k.os.trans h.os, k.tape.trans h.tape, k.output.trans h.output, Nat.le_trans h.size k.size, fun i hi h1 h2 h3 => (k.keep i (Nat.lt_of_lt_of_le hi h.size) h1 h2 h3).trans (h.keep i hi h1 h2 h3)⟩
theorem Keep3.of_below {w w' : World} {mb : Nat} {tv : Value} {ob : Nat} (h : Below w.heap.size w w') : Keep3 w w' mb tv ob := ⟨h.os, h.tape, h.output, h.size, fun k hk _ _ _ => h.block k hk⟩
theorem Keep3.below {w w' : World} {mb B ob : Nat} {tv : Value} (h : Keep3 w w' mb tv ob) (hB : B ≤ w.heap.size) (hm : B ≤ mb) (ho : B ≤ ob) (ht : ∀ k, tv.ownBlock = some k → B ≤ k) : Below B w w' :=
 ⟨h.os, h.tape, h.output, h.size, fun k hk => h.keep k (by omega) (by omega) (fun e => by have := ht k e; omega) (by omega)⟩
/-- A mesh stays where another block is turned. -/
theorem MeshO.turned {p e : TypeId} {w w' : World} {lo mb pb pc : Nat} {tv : Value} {P : List (Int × Int)} {S : List TriM} {ob : Nat} (h : MeshO p e w lo mb pb pc tv P S) (ht : Turned w w' ob) (h1 : mb ≠ ob) (h2 : pb ≠ ob) (h3 : tv.ownBlock ≠ some ob) : MeshO p e w' lo mb pb pc tv P S :=
 ⟨h.box.same (ht.block mb h1), owns_turned h.prow ht (fun e => h2 (by simpa [Value.ownBlock] using e)), owns_turned h.row ht h3, by rw [ht.size]; exact h.low, h.apart, h.short⟩
end
end Go.MagM
namespace Go.Proofs.YtecnnpkpgbbfkaaGreat
open Go.RowKit Go.MagM Go.Maps
end Go.Proofs.YtecnnpkpgbbfkaaGreat
/- The statements' Build: join. -/
namespace Go.MagM
open Go.RowKit
theorem Distinct.sub {H K : List HalfE} (h : Distinct K) (hs : ∀ x, x ∈ H → x ∈ K) : Distinct H :=
 ⟨fun t i u j e h1 h2 => h.edge t i u j e (hs _ h1) (hs _ h2), fun t i e e' h1 h2 => h.place t i e e' (hs _ h1) (hs _ h2), fun t i a b h1 => h.apart t i a b (hs _ h1)⟩
theorem MeshO.drewN {p e : TypeId} {w : World} {lo mb pb pc : Nat} {tv : Value} {P : List (Int × Int)} {S : List TriM} (h : MeshO p e w lo mb pb pc tv P S) (q : Nat) : MeshO p e (w.drewN q) lo mb pb pc tv P S :=
 ⟨h.box.drewN q, h.prow, h.row, h.low, h.apart, h.short⟩
/-- The points of a triangle to come, by place. -/
def at3 (v0 v1 v2 : Int) : Nat → Int
 | 0 => v0
 | 1 => v1
 | _ => v2
/-- Its first i half-edges, and those that were there. -/
def halfI (H : List HalfE) (t : Nat) (v0 v1 v2 : Int) : Nat → List HalfE
 | 0 => H
 | i + 1 => (t, i, (at3 v0 v1 v2 ((i + 1) % 3), at3 v0 v1 v2 ((i + 2) % 3))) :: halfI H t v0 v1 v2 i
/-- An edge is a fault, between points. -/
def faF (F : Int → Int → Bool) (a b : Int) : Bool := decide (0 ≤ a) && decide (0 ≤ b) && F (if b < a then b else a) (if a < b then b else a)
theorem faF_comm (F : Int → Int → Bool) (a b : Int) : faF F a b = faF F b a := by
 unfold faF
 have e1 : (if b < a then b else a) = (if a < b then a else b) := by split <;> split <;> omega
 have e2 : (if a < b then b else a) = (if b < a then a else b) := by split <;> split <;> omega
 rw [e1, e2, Bool.and_comm (decide (0 ≤ a))]
/-- What join leaves. -/
def JoinEnd (p e k : TypeId) (P0 : Program) (F : Int → Int → Bool) (w : World) (lo mb pb pc : Nat) (tv : Value) (ob : Nat) (P : List (Int × Int)) (S : List TriM) (H' : List HalfE) (w' : World) : Prop :=
 ∃ (S' : List TriM) (op' : List ((Int × Int) × Nat × Nat)), MeshO p e w' lo mb pb pc tv P S' ∧ MapB P0 k w' ob (op'.map encO) ∧ Joined (faF F) H' S' op' ∧ S'.length = S.length ∧ (∀ t', rdV S' t' = rdV S t') ∧ Keep3 w w' mb tv ob
end Go.MagM
namespace Go.Proofs.YtecnnpkpgbbfkaaGreat
open Go.RowKit Go.MagM
end Go.Proofs.YtecnnpkpgbbfkaaGreat
/- What the statements' Build has made so far: triangles one behind the other, in the slots that New left free first. Pure. -/
namespace Go.MagM
/-- All half-edges of these triangles, the last one first. -/
def hRev : List (Int × Int × Int) → List HalfE
 | [] => []
 | v :: r => halfI (hRev r) r.length v.1 v.2.1 v.2.2 3
theorem hRev_mem {x : HalfE} : ∀ {R : List (Int × Int × Int)}, x ∈ hRev R ↔ ∃ v, R.reverse[x.1]? = some v ∧ x ∈ halfV x.1 v
 | [] => by simp [hRev]
 | v :: r => by
  have ih := hRev_mem (x := x) (R := r)
  have e : x ∈ hRev (v :: r) ↔ x ∈ halfV r.length v ∨ x ∈ hRev r := by
   show x ∈ (_, _, _) :: (_, _, _) :: (_, _, _) :: hRev r ↔ x ∈ [_, _, _] ∨ _
   simp only [List.mem_cons, List.not_mem_nil, or_false]
   constructor
   ·rintro (h | h | h | h)
    ·exact .inl (.inr (.inr h))
    ·exact .inl (.inr (.inl h))
    ·exact .inl (.inl h)
    ·exact .inr h
   ·rintro ((h | h | h) | h)
    ·exact .inr (.inr (.inl h))
    ·exact .inr (.inl h)
    ·exact .inl h
    ·exact .inr (.inr (.inr h))
  have hv : ∀ {t : Nat} {u : Int × Int × Int}, x ∈ halfV t u → x.1 = t := by
   intro t u h
   simp only [halfV, List.mem_cons, List.not_mem_nil, or_false] at h
   rcases h with rfl | rfl | rfl <;> rfl
  rw [e, ih]
  constructor
  ·rintro (h | ⟨u, h1, h2⟩)
   ·have := hv h
    refine ⟨v, ?_, by rw [this]; exact h⟩
    rw [this, List.reverse_cons, List.getElem?_append_right (by simp)]; simp
   ·refine ⟨u, ?_, h2⟩
    have hl := (List.getElem?_eq_some_iff.1 h1).1
    rw [List.reverse_cons, List.getElem?_append_left hl]; exact h1
  ·rintro ⟨u, h1, h2⟩
   rw [List.reverse_cons] at h1
   rcases Nat.lt_or_ge x.1 r.reverse.length with hl | hl
   ·rw [List.getElem?_append_left hl] at h1
    exact .inr ⟨u, h1, h2⟩
   ·rw [List.getElem?_append_right hl] at h1
    have hx : x.1 - r.reverse.length = 0 := by
     have := (List.getElem?_eq_some_iff.1 h1).1; simp at this ⊢; omega
    rw [hx] at h1
    simp at h1; subst h1
    have : x.1 = r.length := by simp at hl hx; omega
    rw [this] at h2; exact .inl h2
/-- These triangles lie in the slots, from the first one on; of New's four slots the others are gone. -/
structure BuiltS (S : List TriM) (R : List (Int × Int × Int)) : Prop where
 len : S.length = max 4 R.length
 v : ∀ t x, R.reverse[t]? = some x → rdV S t = some x
 gone : ∀ t, R.length ≤ t → t < 4 → rdV S t = some (-2, -2, -2)
 live : ∀ x, x ∈ R → 0 ≤ x.1
theorem BuiltS.same {S S' : List TriM} {R : List (Int × Int × Int)} (h : BuiltS S R) (hl : S'.length = S.length) (hv : ∀ t, rdV S' t = rdV S t) : BuiltS S' R :=
 ⟨hl.trans h.len, fun t x hx => (hv t).trans (h.v t x hx), fun t h1 h2 => (hv t).trans (h.gone t h1 h2), h.live⟩
theorem gone_of {S : List TriM} {t : Nat} (h : rdV S t = some (-2, -2, -2)) : ∃ T, S[t]? = some T ∧ goneB T = true := by
 obtain ⟨T, h1, h2, h3, h4⟩ := rdV_some h
 exact ⟨T, h1, by unfold goneB; exact decide_eq_true ⟨h2, h3, h4⟩⟩
theorem BuiltS.live_at {S : List TriM} {R : List (Int × Int × Int)} (h : BuiltS S R) {t : Nat} (ht : t < R.length) : ∃ T, S[t]? = some T ∧ goneB T = false := by
 obtain ⟨x, hx⟩ : ∃ x, R.reverse[t]? = some x := ⟨_, List.getElem?_eq_getElem (by simpa using ht)⟩
 have h0 := h.live x (List.mem_reverse.1 (List.mem_of_getElem? hx))
 obtain ⟨a, b, c⟩ := x
 exact live_of (h.v t _ hx) h0
theorem BuiltS.free {S : List TriM} {R : List (Int × Int × Int)} (h : BuiltS S R) : freeK S = if R.length < 4 then some R.length else none := by
 unfold freeK
 have hl := h.len
 split
 ·rename_i hlt
  have e : R.length < S.length := by omega
  obtain ⟨T, hT, hg⟩ := gone_of (h.gone R.length (Nat.le_refl _) hlt)
  rw [List.findIdx?_eq_some_iff_getElem]
  refine ⟨e, ?_, fun j hj => ?_⟩
  ·have := (List.getElem?_eq_some_iff.1 hT).2
   rw [this]; exact hg
  ·obtain ⟨U, hU, hgU⟩ := h.live_at hj
   have := (List.getElem?_eq_some_iff.1 hU).2
   rw [this, hgU]; exact Bool.noConfusion
 ·rename_i hge
  rw [List.findIdx?_eq_none_iff]
  intro T hT
  obtain ⟨j, hj⟩ := List.mem_iff_getElem?.1 hT
  have hjl := (List.getElem?_eq_some_iff.1 hj).1
  obtain ⟨U, hU, hgU⟩ := h.live_at (t := j) (by omega)
  rw [hj] at hU; cases hU; exact hgU
theorem BuiltS.slot {S : List TriM} {R : List (Int × Int × Int)} (h : BuiltS S R) : makeK S = R.length := by
 unfold makeK
 rw [h.free]
 have := h.len
 by_cases hlt : R.length < 4
 ·rw [if_pos hlt]
 ·rw [if_neg hlt]; simp only []; omega
theorem BuiltS.make_at {S : List TriM} {R : List (Int × Int × Int)} (h : BuiltS S R) (a b c : Int) (t : Nat) : (makeM S a b c)[t]? = if t = R.length then some (newT a b c) else S[t]? := by
 unfold makeM
 rw [h.free]
 have := h.len
 by_cases hlt : R.length < 4
 ·rw [if_pos hlt]
  simp only []
  rw [List.getElem?_set]
  by_cases e : R.length = t
  ·rw [if_pos e, if_pos e.symm, if_pos (by omega)]
  ·rw [if_neg e, if_neg (fun x => e x.symm)]
 ·rw [if_neg hlt]
  simp only []
  by_cases e : t = R.length
  ·rw [if_pos e, List.getElem?_append_right (by omega), show t - S.length = 0 by omega]; rfl
  ·rw [if_neg e]
   rcases Nat.lt_or_ge t S.length with g | g
   ·rw [List.getElem?_append_left g]
   ·rw [List.getElem?_append_right g, List.getElem?_eq_none g, List.getElem?_eq_none (by simp; omega)]
theorem BuiltS.make_len {S : List TriM} {R : List (Int × Int × Int)} (h : BuiltS S R) (a b c : Int) : (makeM S a b c).length = max 4 (R.length + 1) := by
 unfold makeM
 rw [h.free]
 have := h.len
 by_cases hlt : R.length < 4
 ·rw [if_pos hlt]; simp only [List.length_set]; omega
 ·rw [if_neg hlt]; simp only [List.length_append, List.length_cons, List.length_nil]; omega
theorem BuiltS.make {S : List TriM} {R : List (Int × Int × Int)} (h : BuiltS S R) (a b c : Int) (h0 : 0 ≤ a) : BuiltS (makeM S a b c) ((a, b, c) :: R) := by
 have hat : ∀ t, rdV (makeM S a b c) t = if t = R.length then some (a, b, c) else rdV S t := fun t => by
  unfold rdV; rw [h.make_at]; split <;> rfl
 refine ⟨by rw [h.make_len]; rfl, fun t x hx => ?_, fun t h1 h2 => ?_, fun x hx => ?_⟩
 ·rw [hat]
  rw [List.reverse_cons] at hx
  rcases Nat.lt_or_ge t R.reverse.length with g | g
  ·rw [List.getElem?_append_left g] at hx
   rw [if_neg (by simp at g; omega)]; exact h.v t x hx
  ·rw [List.getElem?_append_right g] at hx
   have e : t - R.reverse.length = 0 := by have := (List.getElem?_eq_some_iff.1 hx).1; simp at this ⊢; omega
   rw [e] at hx
   simp at hx; subst hx
   rw [if_pos (by simp at g e; omega)]
 ·rw [List.length_cons] at h1
  rw [hat, if_neg (by omega)]; exact h.gone t (by omega) h2
 ·rcases List.mem_cons.1 hx with rfl | hx
  ·exact h0
  ·exact h.live x hx
/-- A triangle more: what was joined stays joined. -/
theorem BuiltS.joined {S : List TriM} {R : List (Int × Int × Int)} (h : BuiltS S R) (a b c : Int) {fa : Int → Int → Bool} {op : List ((Int × Int) × Nat × Nat)} (hJ : Joined fa (hRev R) S op) : Joined fa (hRev R) (makeM S a b c) op := by
 refine hJ.other (by rw [h.make_len, h.len]; omega) fun t i e he => ?_
 obtain ⟨u, hu, -⟩ := hRev_mem.1 he
 have := (List.getElem?_eq_some_iff.1 hu).1
 simp only [List.length_reverse] at this
 rw [h.make_at, if_neg (by omega)]
end Go.MagM
/- The statements' Build. -/
namespace Go.MagM
open Go.RowKit
/-- Triples of ints in a row. -/
def TrIn (w : World) (b : Nat) (V : List (Int × Int × Int)) : Prop :=
 ∀ k x y z, V[k]? = some (x, y, z) → w.cell? ⟨b, k * 3, none⟩ = some (.int .i64 x) ∧ w.cell? ⟨b, k * 3 + 1, none⟩ = some (.int .i64 y) ∧ w.cell? ⟨b, k * 3 + 2, none⟩ = some (.int .i64 z)
theorem TrIn.below {w w' : World} {b : Nat} {V : List (Int × Int × Int)} (h : TrIn w b V) (hb : Below w.heap.size w w') : TrIn w' b V := fun k x y z hk => by
 obtain ⟨h1, h2, h3⟩ := h k x y z hk
 exact ⟨(hb.cell (World.block_lt_of_cell? w _ h1)).trans h1, (hb.cell (World.block_lt_of_cell? w _ h2)).trans h2, (hb.cell (World.block_lt_of_cell? w _ h3)).trans h3⟩
/-- Three cells at o. -/
structure Ats3 (w : World) (b o : Nat) (v0 v1 v2 : Value) : Prop where
 c0 : w.cell? ⟨b, o, none⟩ = some v0
 c1 : w.cell? ⟨b, o + 1, none⟩ = some v1
 c2 : w.cell? ⟨b, o + 2, none⟩ = some v2
theorem Ats3.below {w w' : World} {b o : Nat} {v0 v1 v2 : Value} (h : Ats3 w b o v0 v1 v2) (hb : Below w.heap.size w w') : Ats3 w' b o v0 v1 v2 := by
 have hlt := World.block_lt_of_cell? w _ h.c0
 exact ⟨(hb.cell (p := ⟨b, o, none⟩) hlt).trans h.c0, (hb.cell (p := ⟨b, o + 1, none⟩) hlt).trans h.c1, (hb.cell (p := ⟨b, o + 2, none⟩) hlt).trans h.c2⟩
theorem Ats3.drew {w : World} {b o : Nat} {v0 v1 v2 : Value} (h : Ats3 w b o v0 v1 v2) : Ats3 w.drew b o v0 v1 v2 := ⟨h.c0, h.c1, h.c2⟩
/-- Points that lie as cells. -/
structure PtsC (w : World) (sb : Nat) (P : List (Int × Int)) : Prop where
 c : ∀ j u, (ptsCells P)[j]? = some u → w.cell? ⟨sb, 0 + j, none⟩ = some u
theorem PtsC.below {w w' : World} {sb : Nat} {P : List (Int × Int)} (h : PtsC w sb P) (hb : Below w.heap.size w w') : PtsC w' sb P := ⟨fun j u hj => (hb.cell (World.block_lt_of_cell? w _ (h.c j u hj))).trans (h.c j u hj)⟩
theorem PtsC.drew {w : World} {sb : Nat} {P : List (Int × Int)} (h : PtsC w sb P) : PtsC w.drew sb P := ⟨h.c⟩
theorem owns_low {w : World} {base base' : Nat} {e : TypeId} {size : Nat} {v : Value} {n : Nat} {xs : List Value} (h : w.ownsRow base e size v n xs) (hb : base' ≤ base) : w.ownsRow base' e size v n xs := by
 refine ⟨h.1, ?_⟩
 rcases h.2 with hn | ⟨g, cap, cur, h1, h2, h3⟩
 ·exact .inl hn
 ·exact .inr ⟨g, cap, cur, h1, Nat.le_trans hb h2, h3⟩
/-- A mesh and its points lie at B or above. -/
structure MeshUp (p e : TypeId) (w : World) (B mb pb pc : Nat) (tv : Value) (P : List (Int × Int)) (S : List TriM) : Prop where
 mesh : MeshO p e w B mb pb pc tv P S
 pts : B ≤ pb
theorem MeshUp.below {p e : TypeId} {w w' : World} {B mb pb pc : Nat} {tv : Value} {P : List (Int × Int)} {S : List TriM} (h : MeshUp p e w B mb pb pc tv P S) (hb : Below w.heap.size w w') : MeshUp p e w' B mb pb pc tv P S := ⟨h.mesh.below hb, h.pts⟩
theorem MeshUp.drew {p e : TypeId} {w : World} {B mb pb pc : Nat} {tv : Value} {P : List (Int × Int)} {S : List TriM} (h : MeshUp p e w B mb pb pc tv P S) : MeshUp p e w.drew B mb pb pc tv P S := ⟨h.mesh.drew, h.pts⟩
theorem Ats3.farFrom {b o : Nat} {v0 v1 v2 : Value} {g' : Nat} (hne : b ≠ g') : ∀ (xs : List Value) (i : Nat) {w : World}, Ats3 w b o v0 v1 v2 → Ats3 (setAll w g' i xs) b o v0 v1 v2
 | [], _, _, h => h
 | x :: xs, i, w, h => by
  have e : ∀ j, (w.setCell ⟨g', i, none⟩ x).cell? ⟨b, j, none⟩ = w.cell? ⟨b, j, none⟩ := fun j => World.cell?_setCell_other _ _ _ _ (by intro k; injection k with h1; first | exact hne h1 | exact hne h1.symm)
  exact Ats3.farFrom hne xs (i + 1) ⟨(e _).trans h.c0, (e _).trans h.c1, (e _).trans h.c2⟩
theorem Ats3.farAll {w : World} {b o : Nat} {v0 v1 v2 : Value} (h : Ats3 w b o v0 v1 v2) {g' : Nat} (hne : b ≠ g') (xs : List Value) : Ats3 (setAll w g' 0 xs) b o v0 v1 v2 := Ats3.farFrom hne xs 0 h
theorem PtsC.farAll {w : World} {sb : Nat} {P : List (Int × Int)} (h : PtsC w sb P) {g' : Nat} (hne : sb ≠ g') (xs : List Value) : PtsC (setAll w g' 0 xs) sb P :=
 ⟨fun j u hj => (World.cell?_of_block (a := ⟨sb, 0 + j, none⟩) ((turned_setAll (w := w) xs 0 (Turned.refl w g')).block sb hne)).trans (h.c j u hj)⟩
def isRef : Value → Bool
 | .pointer _ => true
 | .map _ => true
 | _ => false
/-- A pointer, a map: such a value lies in no mesh. -/
theorem MeshO.apart_of {p e : TypeId} {w : World} {lo mb pb pc : Nat} {tv : Value} {P : List (Int × Int)} {S : List TriM} (h : MeshO p e w lo mb pb pc tv P S) (hP : 0 < P.length) (hS : 0 < S.length) {g : Nat} {q : Value} (hg : w.cell? ⟨g, 0, none⟩ = some q) (hq : isRef q = true) : g ≠ mb ∧ g ≠ pb ∧ tv.ownBlock ≠ some g := by
 refine ⟨?_, ?_, ?_⟩
 ·rintro rfl
  have := h.box.c0; rw [hg] at this; cases this; exact absurd hq (by simp [isRef])
 ·rintro rfl
  obtain ⟨x, y, hx⟩ : ∃ x y, P[0]? = some (x, y) := ⟨P[0].1, P[0].2, List.getElem?_eq_getElem hP⟩
  have := (h.pts 0 x y hx).1
  simp only [Nat.zero_mul] at this
  rw [hg] at this; cases this; exact absurd hq (by simp [isRef])
 ·intro e1
  obtain ⟨t, ht⟩ : ∃ t, S[0]? = some t := ⟨_, List.getElem?_eq_getElem hS⟩
  obtain ⟨tb, c, rfl⟩ := h.slot ht
  simp only [Value.ownBlock, Option.some.injEq] at e1
  subst e1
  have := (owns_box h.row).c 0 (.int .i64 t.v0) (by have := triCells_get S 0 0 t ht (by omega); rw [show (0 : Nat) * 9 + 0 = 0 from rfl] at this; rw [this]; rfl)
  rw [hg] at this; cases this; exact absurd hq (by simp [isRef])
theorem MeshUp.setAll {p e : TypeId} {w : World} {B mb pb pc : Nat} {tv : Value} {P : List (Int × Int)} {S : List TriM} (h : MeshUp p e w B mb pb pc tv P S) {g : Nat} {q : Option Addr} {vs : List Value} (hb : Box w g (.pointer q :: vs)) (hne : 0 < P.length ∧ 0 < S.length) (xs : List Value) (_ : (Value.pointer q :: vs).length = xs.length) : MeshUp p e (Go.MagM.setAll w g 0 xs) B mb pb pc tv P S := by
 obtain ⟨h1, h2, h3⟩ := h.mesh.apart_of hne.1 hne.2 hb.c0 rfl
 exact ⟨h.mesh.turned (turned_setAll xs 0 (Turned.refl w g)) (fun e => h1 e.symm) (fun e => h2 e.symm) h3, h.pts⟩
theorem MeshUp.mut {p e : TypeId} {w w' : World} {B mb pb pc : Nat} {tv tv' : Value} {P : List (Int × Int)} {S : List TriM} (h : MeshUp p e w B mb pb pc tv P S) (hm : Mut w w' mb tv tv') (hB : B ≤ w.heap.size) : Below B w w' := hm.below hB h.mesh.low.1 (fun k hk => (h.mesh.row.lt k hk).1)
theorem Box.mut {w w' : World} {mb : Nat} {tv tv' : Value} {g : Nat} {vs : List Value} (h : Box w g vs) (hm : Mut w w' mb tv tv') (hl : g < w.heap.size) (h1 : g ≠ mb) (h2 : tv.ownBlock ≠ some g) : Box w' g vs := h.same (hm.keep g hl h1 h2).1
/-- What Build leaves. -/
def BuildEnd (p e : TypeId) (F : Int → Int → Bool) (B : Nat) (P : List (Int × Int)) (T : List (Nat × Nat × Nat)) (mb : Nat) (w' : World) : Prop :=
 ∃ (pb pc : Nat) (tv : Value) (S : List TriM) (Bd : List (Nat × Nat)), MeshO p e w' B mb pb pc tv P S ∧ B ≤ pb ∧ Bd.Perm (borderT T) ∧ BuiltS S ((Bd.map ghostV).reverse ++ (T.map realV).reverse) ∧ Joined (faF F) (hRev ((Bd.map ghostV).reverse ++ (T.map realV).reverse)) S []
end Go.MagM
namespace Go.Proofs.YtecnnpkpgbbfkaaGreat
open Go.RowKit Go.MagM
end Go.Proofs.YtecnnpkpgbbfkaaGreat
/- What the statements' Build keeps while it joins one triangle behind the other. -/
namespace Go.MagM
open Go.RowKit
theorem distinct_list {W : List (Int × Int × Int)} (hn : (W.flatMap edgesV).Nodup) (ha : ∀ e, e ∈ W.flatMap edgesV → e.1 ≠ e.2) : Distinct (hRev W.reverse) := by
 have e1 : ((W.zipIdx.map fun p => (p.2, p.1)).flatMap fun p : Nat × (Int × Int × Int) => edgesV p.2) = W.flatMap edgesV := by
  rw [List.flatMap_map]
  show (W.zipIdx.flatMap fun p => edgesV p.1) = _
  rw [← List.flatMap_map (f := Prod.fst) (g := edgesV), List.zipIdx_map_fst]
 refine (distinct_of (L := W.zipIdx.map fun p => (p.2, p.1)) ?_ (by rw [e1]; exact hn) (by rw [e1]; exact ha)).sub fun x hx => ?_
 ·rw [List.map_map]
  show (W.zipIdx.map Prod.snd).Nodup
  rw [List.zipIdx_map_snd]; exact List.nodup_range'
 ·obtain ⟨v, h1, h2⟩ := hRev_mem.1 hx
  rw [List.reverse_reverse] at h1
  unfold halfEs
  rw [List.mem_flatMap]
  refine ⟨(x.1, v), List.mem_map.2 ⟨(v, x.1), ?_, rfl⟩, h2⟩
  rw [List.mem_zipIdx_iff_getElem?]; exact h1
/-- A map lies in no mesh. -/
theorem MeshO.apart_map {P0 : Program} {k p e : TypeId} {w : World} {lo mb pb pc : Nat} {tv : Value} {P : List (Int × Int)} {S : List TriM} (h : MeshO p e w lo mb pb pc tv P S) (hP : 0 < P.length) (hS : 0 < S.length) {ob : Nat} {m : List (Value × Value)} (hm : MapB P0 k w ob m) : ob ≠ mb ∧ ob ≠ pb ∧ tv.ownBlock ≠ some ob := by
 have hno : ∀ j, w.cell? ⟨ob, j, none⟩ = none := fun j => by
  obtain ⟨es, clock, h1, -⟩ := hm.at_
  simp [World.cell?, h1]
 refine ⟨?_, ?_, ?_⟩
 ·rintro rfl
  have := h.box.c0; rw [hno] at this; cases this
 ·rintro rfl
  obtain ⟨x, y, hx⟩ : ∃ x y, P[0]? = some (x, y) := ⟨P[0].1, P[0].2, List.getElem?_eq_getElem hP⟩
  have := (h.pts 0 x y hx).1
  rw [hno] at this; cases this
 ·intro e1
  obtain ⟨t, ht⟩ : ∃ t, S[0]? = some t := ⟨_, List.getElem?_eq_getElem hS⟩
  obtain ⟨tb, c, rfl⟩ := h.slot ht
  simp only [Value.ownBlock, Option.some.injEq] at e1
  subst e1
  have := (owns_box h.row).c 0 (.int .i64 t.v0) (by have := triCells_get S 0 0 t ht (by omega); rw [show (0 : Nat) * 9 + 0 = 0 from rfl] at this; rw [this]; rfl)
  rw [hno] at this; cases this
theorem MapB.ne_box {P0 : Program} {k : TypeId} {w : World} {ob g : Nat} {m : List (Value × Value)} {v : Value} {vs : List Value} (hm : MapB P0 k w ob m) (hb : Box w g (v :: vs)) : g ≠ ob := by
 rintro rfl
 obtain ⟨es, clock, h1, -⟩ := hm.at_
 have := hb.c0
 simp [World.cell?, h1] at this
/-- Build's state: so many triangles are made and joined. -/
structure BI (P0 : Program) (p e k : TypeId) (fa : Int → Int → Bool) (w : World) (B mb pb pc ob Bo Bm Bf fb : Nat) (P : List (Int × Int)) (R : List (Int × Int × Int)) (tv : Value) (S : List TriM) (op : List ((Int × Int) × Nat × Nat)) : Prop where
 up : MeshUp p e w B mb pb pc tv P S
 map : MapB P0 k w ob (op.map encO)
 built : BuiltS S R
 joined : Joined fa (hRev R) S op
 bo : Box w Bo [.map (some ob)]
 bm : Box w Bm [.pointer (some ⟨mb, 0, none⟩)]
 bf : Box w Bf [.map (some fb)]
 big : B ≤ ob
section
variable {P0 : Program} {p e k : TypeId} {fa : Int → Int → Bool} {w : World} {B mb pb pc ob Bo Bm Bf fb : Nat} {P : List (Int × Int)} {R : List (Int × Int × Int)} {tv : Value} {S : List TriM} {op : List ((Int × Int) × Nat × Nat)}
theorem BI.pos (h : BI P0 p e k fa w B mb pb pc ob Bo Bm Bf fb P R tv S op) : 0 < S.length := by have := h.built.len; omega
theorem BI.below {w' : World} (h : BI P0 p e k fa w B mb pb pc ob Bo Bm Bf fb P R tv S op) (hb : Below w.heap.size w w') : BI P0 p e k fa w' B mb pb pc ob Bo Bm Bf fb P R tv S op :=
 ⟨h.up.below hb, h.map.below hb, h.built, h.joined, h.bo.below hb, h.bm.below hb, h.bf.below hb, h.big⟩
theorem BI.drew (h : BI P0 p e k fa w B mb pb pc ob Bo Bm Bf fb P R tv S op) : BI P0 p e k fa w.drew B mb pb pc ob Bo Bm Bf fb P R tv S op :=
 ⟨h.up.drew, h.map.drew, h.built, h.joined, h.bo.drew, h.bm.drew, h.bf.drew, h.big⟩
/-- A triangle more is made: what join asks for. -/
theorem BI.made (h : BI P0 p e k fa w B mb pb pc ob Bo Bm Bf fb P R tv S op) (hP : 0 < P.length) {w5 : World} {tv1 : Value} {x y z : Int} (hx : 0 ≤ x) (hm : MeshO p e w5 B mb pb pc tv1 P (makeM S x y z)) (mu : Mut w w5 mb tv tv1) :
  MapB P0 k w5 ob (op.map encO) ∧ Box w5 Bo [.map (some ob)] ∧ Box w5 Bm [.pointer (some ⟨mb, 0, none⟩)] ∧ Box w5 Bf [.map (some fb)] ∧
  (Bo ≠ mb ∧ tv1.ownBlock ≠ some Bo ∧ Bo ≠ ob) ∧ (Bm ≠ mb ∧ tv1.ownBlock ≠ some Bm ∧ Bm ≠ ob) ∧ (Bf ≠ mb ∧ tv1.ownBlock ≠ some Bf ∧ Bf ≠ ob) ∧ (ob ≠ mb ∧ ob ≠ pb ∧ tv1.ownBlock ≠ some ob) ∧
  BuiltS (makeM S x y z) ((x, y, z) :: R) ∧ Joined fa (hRev R) (makeM S x y z) op := by
 have hS := h.pos
 have hS1 : 0 < (makeM S x y z).length := by rw [h.built.make_len]; omega
 obtain ⟨o1, o2, o3⟩ := h.up.mesh.apart_map hP hS h.map
 obtain ⟨a1, a2, a3⟩ := h.up.mesh.apart_of hP hS h.bo.c0 rfl
 obtain ⟨b1, b2, b3⟩ := h.up.mesh.apart_of hP hS h.bm.c0 rfl
 obtain ⟨c1, c2, c3⟩ := h.up.mesh.apart_of hP hS h.bf.c0 rfl
 have hm5 := h.map.block (mu.keep ob h.map.lt o1 o3).1
 have xo := Box.mut h.bo mu h.bo.lt a1 a3
 have xm := Box.mut h.bm mu h.bm.lt b1 b3
 have xf := Box.mut h.bf mu h.bf.lt c1 c3
 obtain ⟨a4, a5, a6⟩ := hm.apart_of hP hS1 xo.c0 rfl
 obtain ⟨b4, b5, b6⟩ := hm.apart_of hP hS1 xm.c0 rfl
 obtain ⟨c4, c5, c6⟩ := hm.apart_of hP hS1 xf.c0 rfl
 exact ⟨hm5, xo, xm, xf, ⟨a4, a6, hm5.ne_box xo⟩, ⟨b4, b6, hm5.ne_box xm⟩, ⟨c4, c6, hm5.ne_box xf⟩, hm.apart_map hP hS1 hm5, h.built.make x y z hx, h.built.joined x y z h.joined⟩
/-- .. and joined. -/
theorem BI.next {F : Int → Int → Bool} (h : BI P0 p e k (faF F) w B mb pb pc ob Bo Bm Bf fb P R tv S op) (hP : 0 < P.length) {w5 w6 : World} {tv1 : Value} {x y z : Int} (hx : 0 ≤ x) (hm : MeshO p e w5 B mb pb pc tv1 P (makeM S x y z)) (mu : Mut w w5 mb tv tv1)
  (hj : JoinEnd p e k P0 F w5 B mb pb pc tv1 ob P (makeM S x y z) (halfI (hRev R) R.length x y z 3) w6) (hB : B ≤ w.heap.size) :
  (∃ S' op', BI P0 p e k (faF F) w6 B mb pb pc ob Bo Bm Bf fb P ((x, y, z) :: R) tv1 S' op') ∧ Below B w w6 := by
 obtain ⟨-, xo, xm, xf, so, sm, sf, sob, hb, -⟩ := h.made hP hx hm mu
 obtain ⟨S', op', m6, map6, j6, l6, v6, k6⟩ := hj
 have hlow := mu.size
 have keep : ∀ {g : Nat} {vs : List Value}, Box w5 g vs → g < w5.heap.size → (g ≠ mb ∧ tv1.ownBlock ≠ some g ∧ g ≠ ob) → Box w6 g vs := fun hg hl hs => hg.same (k6.keep _ hl hs.1 hs.2.1 hs.2.2)
 refine ⟨⟨S', op', ⟨m6, h.up.pts⟩, map6, hb.same l6 v6, j6, keep xo xo.lt so, keep xm xm.lt sm, keep xf xf.lt sf, h.big⟩, ?_⟩
 have b1 : Below B w w5 := h.up.mut mu hB
 exact b1.trans (k6.below (by omega) hm.low.1 h.big (fun g hg => (hm.row.lt g hg).1))
end
end Go.MagM
/- What waits when all triangles have come: the border. Pure. -/
namespace Go.MagM
open Go.RowKit
def unE (e : Int × Int) : Nat × Nat := (e.1.toNat, e.2.toNat)
theorem nodup_of_map {α β : Type} {f : α → β} {l : List α} (h : (l.map f).Nodup) : l.Nodup := List.Pairwise.of_map f (fun _ _ hne e => hne (e ▸ rfl)) h
theorem perm_cast {A B : List (Nat × Nat)} (h : (A.map castE).Perm (B.map castE)) : A.Perm B := by
 have := h.map unE
 rw [List.map_map, List.map_map] at this
 have e : ∀ L : List (Nat × Nat), L.map (unE ∘ castE) = L := fun L => by
  conv => rhs; rw [← List.map_id L]
  rfl
 rwa [e, e] at this
theorem perm_eraseIdx {α : Type} : ∀ (l : List α) (i : Nat) (x : α), l[i]? = some x → l.Perm (x :: l.eraseIdx i)
 | [], _, _, h => by simp at h
 | y :: t, 0, x, h => by simp at h; subst h; exact List.Perm.refl _
 | y :: t, i + 1, x, h => by
  have := perm_eraseIdx t i x (by simpa using h)
  rw [List.eraseIdx_cons_succ]
  exact (this.cons y).trans (List.Perm.swap x y _)
/-- What has come of the open edges, and what is left. -/
structure LeftO (op : List ((Int × Int) × Nat × Nat)) (E : List (Nat × Nat)) (rest : List (Value × Value)) : Prop where
 at_ : ∃ rop : List ((Int × Int) × Nat × Nat), rest = rop.map encO ∧ (E.map castE ++ rop.map (·.1)).Perm (op.map (·.1)) ∧ ∀ x, x ∈ rop → x ∈ op
theorem LeftO.start (op : List ((Int × Int) × Nat × Nat)) : LeftO op [] (op.map encO) := ⟨op, rfl, List.Perm.refl _, fun _ h => h⟩
theorem LeftO.next {op : List ((Int × Int) × Nat × Nat)} {E : List (Nat × Nat)} {rest : List (Value × Value)} (h : LeftO op E rest) {T : List (Nat × Nat × Nat)} (hm : ∀ e, e ∈ op.map (·.1) → ∃ x, x ∈ borderT T ∧ e = castE x) {i : Nat} {x v : Value} (hx : rest[i]? = some (x, v)) :
  ∃ a b : Nat, (a, b) ∈ borderT T ∧ x = .agg #[.int .i64 (a : Int), .int .i64 (b : Int)] ∧ LeftO op (E ++ [(a, b)]) (rest.eraseIdx i) ∧ E.length < op.length := by
 obtain ⟨rop, rfl, hp, hs⟩ := h.at_
 rw [List.getElem?_map] at hx
 obtain ⟨y, hy, hy2⟩ : ∃ y, rop[i]? = some y ∧ encO y = (x, v) := by
  cases h : rop[i]? with
  | none => rw [h] at hx; cases hx
  | some y => rw [h] at hx; exact ⟨y, rfl, by simpa using hx⟩
 obtain ⟨⟨a, b⟩, hab, he⟩ := hm y.1 (List.mem_map.2 ⟨y, hs y (List.mem_of_getElem? hy), rfl⟩)
 obtain ⟨⟨p, q⟩, r⟩ := y
 simp only [castE, Prod.mk.injEq] at he
 obtain ⟨rfl, rfl⟩ := he
 have hi := (List.getElem?_eq_some_iff.1 hy).1
 have hperm : rop.Perm (((((a : Int), (b : Int)), r)) :: rop.eraseIdx i) := perm_eraseIdx rop i _ hy
 refine ⟨a, b, hab, ?_, ⟨rop.eraseIdx i, ?_, ?_, fun z hz => hs z ((List.eraseIdx_sublist _ _).subset hz)⟩, ?_⟩
 ·have := congrArg Prod.fst hy2
  exact this.symm
 ·rw [ChangeMaps.map_eraseIdx]
 ·refine List.Perm.trans ?_ hp
  rw [List.map_append, List.append_assoc]
  refine List.Perm.append_left _ ?_
  have := (hperm.map (·.1)).symm
  simpa [castE] using this
 ·have := hp.length_eq
  rw [List.length_append, List.length_map, List.length_map, List.length_map] at this
  omega
theorem LeftO.done {op : List ((Int × Int) × Nat × Nat)} {E : List (Nat × Nat)} (h : LeftO op E []) {T : List (Nat × Nat × Nat)} (hp : (op.map (·.1)).Perm ((borderT T).map castE)) : E.Perm (borderT T) := by
 obtain ⟨rop, h0, h1, -⟩ := h.at_
 have : rop = [] := by cases rop with
  | nil => rfl
  | cons a t => cases h0
 subst this
 refine perm_cast (List.Perm.trans ?_ hp)
 simpa using h1
end Go.MagM
/- Closed surfaces of triangles: each edge once, across it the other half. What mesh's calls answer of them. Pure. -/
namespace Go.MagM
/-- The triangles V lie in the slots, one by one; all their edges are joined. -/
structure Surf (fa : Int → Int → Bool) (V : List (Int × Int × Int)) (S : List TriM) : Prop where
 len : S.length = V.length
 v : ∀ t : Nat, rdV S t = V[t]?
 live : ∀ x, x ∈ V → 0 ≤ x.1
 distinct : Distinct (hRev V.reverse)
 joined : Joined fa (hRev V.reverse) S []
section
variable {fa : Int → Int → Bool} {V : List (Int × Int × Int)} {S : List TriM}
theorem Surf.get (h : Surf fa V S) {t : Nat} {T : TriM} (hT : S[t]? = some T) : V[t]? = some (T.v0, T.v1, T.v2) := by
 rw [← h.v t]; unfold rdV; rw [hT]; rfl
theorem Surf.at_ (h : Surf fa V S) {t : Nat} {x : Int × Int × Int} (hx : V[t]? = some x) : ∃ T, S[t]? = some T ∧ T.v0 = x.1 ∧ T.v1 = x.2.1 ∧ T.v2 = x.2.2 := by
 have := h.v t
 rw [hx] at this
 obtain ⟨a, b, c⟩ := x
 unfold rdV at this
 cases hs : S[t]? with
 | none => rw [hs] at this; cases this
 | some T =>
  rw [hs] at this
  simp only [Option.map_some, Option.some.injEq, Prod.mk.injEq] at this
  exact ⟨T, rfl, this.1, this.2.1, this.2.2⟩
theorem Surf.alive (h : Surf fa V S) {t : Nat} {T : TriM} (hT : S[t]? = some T) : 0 ≤ T.v0 ∧ goneB T = false := by
 have h0 := h.live _ (List.mem_of_getElem? (h.get hT))
 simp only [] at h0
 exact ⟨h0, by unfold goneB; exact decide_eq_false (by omega)⟩
theorem Surf.half (h : Surf fa V S) {t i : Nat} {T : TriM} (hT : S[t]? = some T) (hi : i < 3) : (t, i, edgeV T i) ∈ hRev V.reverse := by
 refine hRev_mem.2 ⟨(T.v0, T.v1, T.v2), by rw [List.reverse_reverse]; exact h.get hT, ?_⟩
 obtain rfl | rfl | rfl : i = 0 ∨ i = 1 ∨ i = 2 := by omega
 all_goals simp [halfV, edgeV]
theorem Surf.of_half (h : Surf fa V S) {t i : Nat} {e : Int × Int} (hm : (t, i, e) ∈ hRev V.reverse) : ∃ T, S[t]? = some T ∧ i < 3 ∧ edgeV T i = e := by
 obtain ⟨v, h1, h2⟩ := hRev_mem.1 hm
 rw [List.reverse_reverse] at h1
 obtain ⟨T, hT, e0, e1, e2⟩ := h.at_ h1
 obtain ⟨x, y, z⟩ := v
 simp only [] at e0 e1 e2
 subst e0; subst e1; subst e2
 simp only [halfV, List.mem_cons, List.not_mem_nil, or_false, Prod.mk.injEq] at h2
 rcases h2 with ⟨-, rfl, rfl⟩ | ⟨-, rfl, rfl⟩ | ⟨-, rfl, rfl⟩
 ·exact ⟨T, hT, by omega, rfl⟩
 ·exact ⟨T, hT, by omega, rfl⟩
 ·exact ⟨T, hT, by omega, rfl⟩
/-- No edge is there twice. -/
theorem Surf.once (h : Surf fa V S) {t u i j : Nat} {T U : TriM} (hT : S[t]? = some T) (hU : S[u]? = some U) (hi : i < 3) (hj : j < 3) (he : edgeV T i = edgeV U j) : t = u ∧ i = j := by
 have h1 := h.half hT hi
 have h2 := h.half hU hj
 rw [he] at h1
 exact h.distinct.edge _ _ _ _ _ h1 h2
theorem Surf.apart (h : Surf fa V S) {t i : Nat} {T : TriM} (hT : S[t]? = some T) (hi : i < 3) : (edgeV T i).1 ≠ (edgeV T i).2 :=
 h.distinct.apart t i _ _ (h.half hT hi)
theorem Surf.across (h : Surf fa V S) {t u i j : Nat} {T U : TriM} (hT : S[t]? = some T) (hU : S[u]? = some U) (hi : i < 3) (hj : j < 3) (he : edgeV U j = ((edgeV T i).2, (edgeV T i).1)) : T.n i = (u : Int) ∧ T.f i = fa (edgeV T i).1 (edgeV T i).2 := by
 have h2 := h.half hU hj
 rw [he] at h2
 have := h.joined.across t i _ _ u j (h.half hT hi) h2
 unfold rdN at this
 rw [hT] at this
 simp only [Option.map_some, Option.some.injEq, Prod.mk.injEq] at this
 exact this
/-- Each edge has its other half. -/
theorem Surf.other (h : Surf fa V S) {t i : Nat} {T : TriM} (hT : S[t]? = some T) (hi : i < 3) : ∃ (u j : Nat) (U : TriM), S[u]? = some U ∧ j < 3 ∧ edgeV U j = ((edgeV T i).2, (edgeV T i).1) ∧ T.n i = (u : Int) ∧ T.f i = fa (edgeV T i).1 (edgeV T i).2 ∧ U.n j = (t : Int) ∧ U.f j = fa (edgeV T i).2 (edgeV T i).1 := by
 have hm := h.half hT hi
 have hw := h.joined.wait (edgeV T i).1 (edgeV T i).2 t i
 obtain ⟨u, j, hu⟩ : ∃ u j, (u, j, ((edgeV T i).2, (edgeV T i).1)) ∈ hRev V.reverse := by
  refine Classical.byContradiction fun hno => ?_
  have hno' : ∀ u j, (u, j, ((edgeV T i).2, (edgeV T i).1)) ∉ hRev V.reverse := fun u j hu => hno ⟨u, j, hu⟩
  have := hw.2 ⟨hm, hno'⟩
  cases this
 obtain ⟨U, hU, hj, he⟩ := h.of_half hu
 have a1 := h.across hT hU hi hj he
 have a2 := h.across hU hT hj hi (by rw [he])
 rw [he] at a2
 exact ⟨u, j, U, hU, hj, he, a1.1, a1.2, a2.1, a2.2⟩
theorem edgeT_at {T : TriM} {i : Nat} (hi : i < 3) (h : ∀ j k : Nat, j < 3 → k < 3 → edgeV T j = edgeV T k → j = k) : edgeT T (edgeV T i).1 (edgeV T i).2 = (i : Int) :=
 edgeT_hit hi rfl fun j hj e => by have := h j i (by omega) hi e; omega
theorem Surf.edge_at (h : Surf fa V S) {t i : Nat} {T : TriM} (hT : S[t]? = some T) (hi : i < 3) : edgeT T (edgeV T i).1 (edgeV T i).2 = (i : Int) :=
 edgeT_at hi fun _ _ hj hk e => (h.once hT hT hj hk e).2
theorem Surf.linkI (h : Surf fa V S) (hfa : ∀ a b, fa a b = fa b a) {t i : Nat} {T : TriM} (hT : S[t]? = some T) (hi : i < 3) : linkI S t T i = true := by
 obtain ⟨u, j, U, hU, hj, he, h1, h2, h3, h4⟩ := h.other hT hi
 have hg := (h.alive hU).2
 have ha := h.edge_at hU hj
 rw [he] at ha
 simp only [] at ha
 unfold Go.MagM.linkI
 rw [h1, getT_nat, hU]
 simp only []
 rw [hg, ha]
 have e1 : ((j : Int) != -1) = true := by simp
 have e2 : ((j : Int)).toNat = j := rfl
 rw [e1, e2, h3, h4, h2, hfa]
 simp
theorem Surf.linked (h : Surf fa V S) (hfa : ∀ a b, fa a b = fa b a) {t : Nat} {T : TriM} (hT : S[t]? = some T) : linkedT S t T = true :=
 linkedT_yes fun _ hi => h.linkI hfa hT hi
/-- What Find answers. -/
theorem Surf.edgeM_yes (h : Surf fa V S) {t i : Nat} {T : TriM} (hT : S[t]? = some T) (hi : i < 3) : edgeM S (t : Int) (edgeV T i).1 (edgeV T i).2 = (i : Int) := by
 unfold edgeM
 rw [getT_nat, hT]
 simp only []
 rw [(h.alive hT).2, h.edge_at hT hi]; simp
theorem Surf.edgeM_cases (h : Surf fa V S) {t : Nat} (ht : t < S.length) (a b : Int) : edgeM S (t : Int) a b = -1 ∨ ∃ (i : Nat) (T : TriM), S[t]? = some T ∧ i < 3 ∧ edgeV T i = (a, b) ∧ edgeM S (t : Int) a b = (i : Int) := by
 obtain ⟨T, hT⟩ : ∃ T, S[t]? = some T := ⟨_, List.getElem?_eq_getElem ht⟩
 unfold edgeM
 rw [getT_nat, hT]
 simp only []
 rw [(h.alive hT).2]
 rcases edgeT_cases T a b with e | ⟨j, hj, e1, e2⟩
 ·left; simpa using e
 ·right; exact ⟨j, T, rfl, hj, e2, by simpa using e1⟩
theorem Surf.find (h : Surf fa V S) {t i : Nat} {T : TriM} (hT : S[t]? = some T) (hi : i < 3) {a b : Int} (he : edgeV T i = (a, b)) : findM S a b = some (t, (i : Int)) := by
 have ht := (List.getElem?_eq_some_iff.1 hT).1
 have e := h.edgeM_yes hT hi
 rw [he] at e
 simp only [] at e
 rw [findM_hit ht (by rw [e]; omega) (fun j hj => ?_), e]
 rcases h.edgeM_cases (t := j) (by omega) a b with e' | ⟨k, U, hU, hk, e1, -⟩
 ·exact e'
 ·have := (h.once hU hT hk hi (by rw [e1, he])).1; omega
end
/-- Triangles of a mesh, and ghosts behind its border. -/
def allV (T : List (Nat × Nat × Nat)) (Bd : List (Nat × Nat)) : List (Int × Int × Int) := T.map realV ++ Bd.map ghostV
/-- What the statements' Build leaves. -/
structure Built (fa : Int → Int → Bool) (T : List (Nat × Nat × Nat)) (Bd : List (Nat × Nat)) (S : List TriM) : Prop where
 good : Good T
 perm : Bd.Perm (borderT T)
 surf : Surf fa (allV T Bd) S
theorem all_distinct {T : List (Nat × Nat × Nat)} (g : Good T) {Bd : List (Nat × Nat)} (hp : Bd.Perm (borderT T)) : Distinct (hRev (allV T Bd).reverse) :=
 distinct_list (all_nodup g hp) (all_apart g hp)
theorem Built.of {fa : Int → Int → Bool} {T : List (Nat × Nat × Nat)} {Bd : List (Nat × Nat)} {S : List TriM} (g : Good T) (h4 : 4 ≤ T.length + (borderT T).length) (hp : Bd.Perm (borderT T))
  (hb : BuiltS S ((Bd.map ghostV).reverse ++ (T.map realV).reverse)) (hj : Joined fa (hRev ((Bd.map ghostV).reverse ++ (T.map realV).reverse)) S []) : Built fa T Bd S := by
 have hr : (Bd.map ghostV).reverse ++ (T.map realV).reverse = (allV T Bd).reverse := by unfold allV; rw [List.reverse_append]
 rw [hr] at hb hj
 have hl : S.length = (allV T Bd).length := by
  have := hb.len
  rw [List.length_reverse] at this
  rw [this]
  have : (allV T Bd).length = T.length + (borderT T).length := by unfold allV; simp [hp.length_eq]
  omega
 refine ⟨g, hp, ⟨hl, fun t => ?_, fun x hx => hb.live x (List.mem_reverse.2 hx), all_distinct g hp, hj⟩⟩
 cases hx : (allV T Bd)[t]? with
 | some x => exact hb.v t x (by rw [List.reverse_reverse]; exact hx)
 | none =>
  unfold rdV
  rw [List.getElem?_eq_none (by rw [hl]; exact List.getElem?_eq_none_iff.1 hx)]; rfl
section
variable {fa : Int → Int → Bool} {T : List (Nat × Nat × Nat)} {Bd : List (Nat × Nat)} {S : List TriM}
theorem Built.len (h : Built fa T Bd S) : S.length = T.length + Bd.length := by
 rw [h.surf.len]; unfold allV; simp
theorem Built.real (h : Built fa T Bd S) {t : Nat} {x : Nat × Nat × Nat} (hx : T[t]? = some x) : ∃ X, S[t]? = some X ∧ X.v0 = (x.1 : Int) ∧ X.v1 = (x.2.1 : Int) ∧ X.v2 = (x.2.2 : Int) := by
 refine h.surf.at_ (x := realV x) ?_
 unfold allV
 have hl := (List.getElem?_eq_some_iff.1 hx).1
 rw [List.getElem?_append_left (by simpa using hl), List.getElem?_map, hx]; rfl
theorem Built.ghost (h : Built fa T Bd S) {k : Nat} {e : Nat × Nat} (he : Bd[k]? = some e) : ∃ X, S[T.length + k]? = some X ∧ X.v0 = (e.2 : Int) ∧ X.v1 = (e.1 : Int) ∧ X.v2 = -1 := by
 refine h.surf.at_ (x := ghostV e) ?_
 unfold allV
 rw [List.getElem?_append_right (by simp), List.length_map, Nat.add_sub_cancel_left, List.getElem?_map, he]; rfl
/-- Each slot has a real triangle, or a ghost. -/
theorem Built.cases (h : Built fa T Bd S) {t : Nat} {X : TriM} (hX : S[t]? = some X) : (∃ x, T[t]? = some x ∧ X.v0 = (x.1 : Int) ∧ X.v1 = (x.2.1 : Int) ∧ X.v2 = (x.2.2 : Int)) ∨ (∃ k e, t = T.length + k ∧ Bd[k]? = some e ∧ X.v0 = (e.2 : Int) ∧ X.v1 = (e.1 : Int) ∧ X.v2 = -1) := by
 have ht := (List.getElem?_eq_some_iff.1 hX).1
 rw [h.len] at ht
 by_cases hlt : t < T.length
 ·obtain ⟨x, hx⟩ : ∃ x, T[t]? = some x := ⟨_, List.getElem?_eq_getElem hlt⟩
  obtain ⟨Y, hY, h1⟩ := h.real hx
  rw [hX] at hY; cases hY
  exact .inl ⟨x, hx, h1⟩
 ·obtain ⟨e, he⟩ : ∃ e, Bd[t - T.length]? = some e := ⟨_, List.getElem?_eq_getElem (by omega)⟩
  obtain ⟨Y, hY, h1⟩ := h.ghost he
  rw [show T.length + (t - T.length) = t by omega, hX] at hY; cases hY
  exact .inr ⟨t - T.length, e, by omega, he, h1⟩
theorem Built.real_iff (h : Built fa T Bd S) (t : Nat) : realM S (t : Int) = decide (t < T.length) := by
 unfold realM
 rw [getT_nat]
 by_cases ht : t < S.length
 ·obtain ⟨X, hX⟩ : ∃ X, S[t]? = some X := ⟨_, List.getElem?_eq_getElem ht⟩
  rw [hX]
  simp only []
  unfold realT
  rcases h.cases hX with ⟨x, hx, e0, e1, e2⟩ | ⟨k, e, rfl, he, e0, e1, e2⟩
  ·have := (List.getElem?_eq_some_iff.1 hx).1
   rw [decide_eq_true this, decide_eq_true (by omega)]
  ·rw [decide_eq_false (by omega), decide_eq_false (by omega)]
 ·rw [List.getElem?_eq_none (by omega)]
  have := h.len
  simp only []
  rw [decide_eq_false (by omega)]
end
end Go.MagM
/- Where a walk ends: at a triangle that holds the point, at a ghost that has it beyond, or by looking at all. Pure. -/
namespace Go.MagM
open Go.RowKit
/-- Where a triangle's corner lies. -/
def ptT (P : List (Int × Int)) (T : TriM) (k : Nat) : Int × Int := ptA P (T.v k).toNat
/-- Across each edge of a real triangle lies one that has it the other way round. -/
def Across (S : List TriM) : Prop := ∀ (t : Nat) (T : TriM) (i : Nat), S[t]? = some T → realT T = true → i < 3 → ∃ (u j : Nat) (U : TriM), S[u]? = some U ∧ j < 3 ∧ T.n i = (u : Int) ∧ U.v ((j + 1) % 3) = T.v ((i + 2) % 3) ∧ U.v ((j + 2) % 3) = T.v ((i + 1) % 3)
end Go.MagM
/- cavity's readers: ends, edge, corners. Written by tools/cav1.py. -/
namespace Go.MagM
open Go.RowKit
theorem box9v {w : World} {g : Nat} {T : TriM} (h : Box w g T.cells) {k : Nat} (hk : k < 3) : w.cell? ⟨g, k, none⟩ = some (.int .i64 (T.v k)) := by
 obtain rfl | rfl | rfl : k = 0 ∨ k = 1 ∨ k = 2 := by omega
 ·exact h.c 0 _ rfl
 ·exact h.c 1 _ rfl
 ·exact h.c 2 _ rfl
theorem edgeV_is (T : TriM) {i : Nat} (hi : i < 3) : edgeV T i = (T.v ((i + 1) % 3), T.v ((i + 2) % 3)) := by
 obtain rfl | rfl | rfl : i = 0 ∨ i = 1 ∨ i = 2 := by omega
 all_goals rfl
/-- A triangle's corner that is a point of the mesh. -/
def corK (P : List (Int × Int)) (T : TriM) (k : Nat) : List (Int × Int) := if 0 ≤ T.v k ∧ T.v k < (P.length : Int) then [ptT P T k] else []
/-- Where one begins: behind Ghost, if there is one. -/
def corF (T : TriM) : Nat := (placeT T (-1) + 1).toNat
def corsN (P : List (Int × Int)) (T : TriM) : Nat → List (Int × Int)
 | 0 => []
 | n + 1 => corsN P T n ++ corK P T ((corF T + n) % 3)
def cors (P : List (Int × Int)) (T : TriM) : List (Int × Int) := corsN P T 3
theorem corK_le (P : List (Int × Int)) (T : TriM) (k : Nat) : (corK P T k).length ≤ 1 := by unfold corK; split <;> simp
theorem corsN_le (P : List (Int × Int)) (T : TriM) : ∀ n, (corsN P T n).length ≤ n
 | 0 => Nat.le_refl _
 | n + 1 => by have := corsN_le P T n; have := corK_le P T ((corF T + n) % 3); rw [corsN, List.length_append]; omega
theorem corF_lt (T : TriM) : corF T ≤ 3 := by
 unfold corF
 rcases placeT_cases T (-1) with e | e | e | e <;> rw [e] <;> decide
end Go.MagM
namespace Go.Proofs.YtecnnpkpgbbfkaaGreat
open Go.RowKit Go.MagM
set_option maxRecDepth 100000 in
set_option maxHeartbeats 4000000 in
theorem cvEnds_any (T : TriM) (i : Nat) (hi : i < 3) (w : World) : Calls Tryz.prog 225 #[triV T, .int .i64 (i : Int)] w fun e w' => e = .returned (.tuple #[.int .i64 (edgeV T i).1, .int .i64 (edgeV T i).2]) ∧ Below w.heap.size w w' := by
 rw [edgeV_is T hi]
 obtain ⟨v0, v1, v2, n0, n1, n2, f0, f1, f2⟩ := T
 unfold triV
 simp only []
 obtain ⟨w1, hw1, hp, hb1, hs1⟩ := new_box w _ rfl [.int .i64 v0, .int .i64 v1, .int .i64 v2, .int .i64 n0, .int .i64 n1, .int .i64 n2, .bool f0, .bool f1, .bool f2] 41
 have m1 := mod3_one hi
 have m2 := mod3_two hi
 obtain ⟨k1, hk1⟩ : ∃ k1, (i + 1) % 3 = k1 := ⟨_, rfl⟩
 obtain ⟨k2, hk2⟩ : ∃ k2, (i + 2) % 3 = k2 := ⟨_, rfl⟩
 rw [hk1] at m1; rw [hk2] at m2
 have hk13 : k1 < 3 := by omega
 have hk23 : k2 < 3 := by omega
 rw [hk1, hk2]
 obtain ⟨x1, hx1⟩ : ∃ x, (⟨v0, v1, v2, n0, n1, n2, f0, f1, f2⟩ : TriM).v k1 = x := ⟨_, rfl⟩
 obtain ⟨x2, hx2⟩ : ∃ x, (⟨v0, v1, v2, n0, n1, n2, f0, f1, f2⟩ : TriM).v k2 = x := ⟨_, rfl⟩
 have y1 := box9v (T := ⟨v0, v1, v2, n0, n1, n2, f0, f1, f2⟩) hp hk13
 have y2 := box9v (T := ⟨v0, v1, v2, n0, n1, n2, f0, f1, f2⟩) hp hk23
 rw [hx1] at y1; rw [hx2] at y2
 rw [hx1, hx2]
 have HB1 := Lib.hid hb1
 have i7 : (0 : Int) ≤ (k1 : Int) := by omega
 have i8 : (k1 : Int) < 3 := by omega
 have i9 : (0 : Int) ≤ (k2 : Int) := by omega
 have i10 : (k2 : Int) < 3 := by omega
 clear hp hb1 hs1 hk1 hk2 hx1 hx2
 go_enter Tryz.func225, Tryz.ntmps225
 go_wp2
 refine wp_region_noPanic ?_
 refine wp_region_held_drew (S := fun w' => w'.cell? ⟨w.heap.size, k1, none⟩ = some (.int .i64 x1) ∧ w'.cell? ⟨w.heap.size, k2, none⟩ = some (.int .i64 x2)) (by kernel_rfl) (⟨y1, y2⟩) (fun hHeld => ?_)
 refine rU 0 _ _ ?_
 (try simp only [Act.put]);try simp only [sA,sZ,sS]
 refine rU 1 _ _ ?_
 (try simp only [Act.put]);try simp only [sA,sZ,sS]
 refine rU 2 _ _ ?_
 (try simp only [Act.put]);try simp only [sA,sZ,sS]
 refine rU 3 _ _ ?_
 (try simp only [Act.put]);try simp only [sA,sZ,sS]
 refine rU 4 _ _ ?_
 (try simp only [Act.put]);try simp only [sA,sZ,sS]
 refine rU 5 _ _ ?_
 (try simp only [Act.put]);try simp only [sA,sZ,sS]
 refine rU 6 _ _ ?_
 (try simp only [Act.put]);try simp only [sA,sZ,sS]
 refine rU 7 _ _ ?_
 (try simp only [Act.put]);try simp only [sA,sZ,sS]
 refine rU 8 _ _ ?_
 (try simp only [Act.put]);try simp only [sA,sZ,sS]
 refine rU 9 _ _ ?_
 (try simp only [Act.put]);try simp only [sA,sZ,sS]
 refine rU 10 _ _ ?_
 (try simp only [Act.put]);try simp only [sA,sZ,sS]
 refine rU 11 _ _ ?_
 (try simp only [Act.put]);try simp only [sA,sZ,sS]
 refine rU 12 _ _ ?_
 (try simp only [Act.put]);try simp only [sA,sZ,sS]
 refine rU 13 _ _ ?_
 (try simp only [Act.put]);try simp only [sA,sZ,sS]
 refine wpAnyH_done (by kernel_rfl) ?_ _
 refine NoPanic.normal ?_
 go_wp2
 go_ret2
 exact ⟨rfl, HB1.out.drew'⟩
set_option maxRecDepth 100000 in
set_option maxHeartbeats 8000000 in
theorem cvEdge_any {mb pb pc : Nat} {ta : Option Addr} {tc : Nat} {P : List (Int × Int)} {S : List TriM} (t : Nat) (T : TriM) (a b : Int) (w : World) (h : MeshR w mb pb pc ta tc P S) (hT : S[t]? = some T) :
  Calls Tryz.prog 224 #[.pointer (some ⟨mb, 0, none⟩), .int .i64 (t : Int), .int .i64 a, .int .i64 b] w fun e w' => e = .returned (.int .i64 (edgeT T a b)) ∧ Below w.heap.size w w' := by
 have hsh := h.short.2
 have hlt := (List.getElem?_eq_some_iff.1 hT).1
 obtain ⟨len, hlen⟩ : ∃ len, S.length = len := ⟨_, rfl⟩
 have q1 : decide ((t : Int) < 0) = false := decide_eq_false (by omega)
 have q2 : decide ((len : Int) ≤ (t : Int)) = false := decide_eq_false (by omega)
 have q3 : decide (len ≤ t) = false := decide_eq_false (by omega)
 have i1 : (0 : Int) ≤ (t : Int) := by omega
 have i2 : (t : Int) < (len : Int) := by omega
 have b1 := h.box.c1
 rw [hlen] at b1 hsh hlt
 obtain ⟨r, hr⟩ : ∃ r, edgeT T a b = r := ⟨_, rfl⟩
 rw [hr]
 have H := Lib.hid h; have HT := Lib.hid hT; have HLEN := Lib.hid hlen; have HR := Lib.hid hr
 clear h hT hlen hr
 go_enter Tryz.func224, Tryz.ntmps224
 go_wp2
 clear b1
 go_loopw [23] (fun iv wr => ∃ i : Nat, i ≤ 3 ∧ iv = .int .i64 (i : Int) ∧ (∀ j : Nat, j < i → edgeV T j ≠ (a, b)) ∧ Below w.heap.size w wr) (fun iv _ => 3 - (intOf iv).toNat)
 case atStart => exact ⟨0, by omega, rfl, fun j hj => by omega, Below.refl _ _⟩
 case round =>
  obtain ⟨i, hi, rfl, hne, hbw⟩ := hrel
  have HNE := Lib.hid hne; clear hne
  by_cases hlt3 : i < 3
  ·have hr_0 := H.out.below hbw
   obtain ⟨tb, hta, -, h9⟩ := hr_0.tris.get HT.out
   subst hta
   have b1 := hr_0.box.c1
   rw [HLEN.out] at b1
   obtain ⟨c0, c1, c2, c3, c4, c5, c6, c7, c8⟩ := h9
   have HEN := Lib.hid (fun W => cvEnds_any T i hlt3 W)
   obtain ⟨x, y, hxy⟩ : ∃ x y, edgeV T i = (x, y) := ⟨_, _, rfl⟩
   have HEN2 := Lib.hid (show ∀ W : World, Calls Tryz.prog 225 #[triV T, .int .i64 (i : Int)] W fun e w' => e = .returned (.tuple #[.int .i64 x, .int .i64 y]) ∧ Below W.heap.size W w' from fun W => by have h := HEN.out W; rw [hxy] at h; exact h)
   have HXY := Lib.hid hxy; have HBW := Lib.hid hbw
   obtain ⟨v0, v1, v2, n0, n1, n2, f0, f1, f2⟩ := T
   simp only [] at c0 c1 c2 c3 c4 c5 c6 c7 c8
   unfold triV at HEN2
   simp only [] at HEN2
   clear hr_0 hxy hbw HEN
   go_wp2_with fail
   refine (HEN2.out _).mono ?_
   rintro e w2 ⟨rfl, hb2⟩
   have HB2 := Lib.hid (HBW.out.trans (hb2.mono HBW.out.size))
   clear hb2 c0 c1 c2 c3 c4 c5 c6 c7 c8 b1
   by_cases hxa : x = a
   ·by_cases hyb : y = b
    ·subst hxa; subst hyb
     have p1 : (x == x) = true := by simp
     have p2 : (y == y) = true := by simp
     go_wp2
     go_ret
     exact ⟨by rw [← HR.out, edgeT_hit hlt3 HXY.out HNE.out]; rfl, HB2.out⟩
    ·have p1 : (x == a) = true := by simpa using hxa
     have p2 : (y == b) = false := by simpa using hyb
     have HYB := Lib.hid hyb
     clear hxa hyb
     go_wp2
     go_roundw
     case rel =>
      refine ⟨i + 1, by omega, by go_num, fun j hj => ?_, HB2.out⟩
      rcases Nat.lt_or_ge j i with g | g
      ·exact HNE.out j g
      ·obtain rfl : j = i := by omega
       rw [HXY.out]; intro e; cases e; exact HYB.out rfl
     case measure => simp [intOf]; omega
   ·have p1 : (x == a) = false := by simpa using hxa
    have HXA := Lib.hid hxa
    clear hxa
    go_wp2
    go_roundw
    case rel =>
     refine ⟨i + 1, by omega, by go_num, fun j hj => ?_, HB2.out⟩
     rcases Nat.lt_or_ge j i with g | g
     ·exact HNE.out j g
     ·obtain rfl : j = i := by omega
      rw [HXY.out]; intro e; cases e; exact HXA.out rfl
    case measure => simp [intOf]; omega
  ·obtain rfl : i = 3 := by omega
   have HB2 := Lib.hid hbw
   clear hbw
   go_wp2
   go_ret
   exact ⟨by rw [← HR.out, edgeT_miss HNE.out]; rfl, HB2.out⟩
end Go.Proofs.YtecnnpkpgbbfkaaGreat
/- What the statements' Build leaves is sound, in whatever order the ghosts come. Pure. -/
namespace Go.MagM
/-- The edge of the border ahead. -/
def prevB (B : List (Nat × Nat)) (e : Nat × Nat) : Nat × Nat := (B.find? fun p => p.2 == e.1).getD (0, 0)
/-- Round the border, to the right, till the first edge comes again. -/
def cycB (B : List (Nat × Nat)) (first : Nat × Nat) : Nat → Nat × Nat → List (Nat × Nat)
 | 0, _ => []
 | n + 1, e => e :: (if prevB B e = first then [] else cycB B first n (prevB B e))
/-- The border's points, to the left. -/
def rimB (B : List (Nat × Nat)) (n : Nat) (e : Nat × Nat) : List Nat := ((cycB B e n e).map (·.2)).reverse
section
variable {fa : Int → Int → Bool} {T : List (Nat × Nat × Nat)} {Bd : List (Nat × Nat)} {S : List TriM}
theorem Built.mem (h : Built fa T Bd S) {e : Nat × Nat} : e ∈ Bd ↔ e ∈ borderT T := h.perm.mem_iff
theorem Built.nodup (h : Built fa T Bd S) : Bd.Nodup := by
 have h1 : (Bd.map (·.1)).Nodup := ((h.perm.map _).nodup_iff).2 h.good.out
 exact nodup_of_map h1
theorem prevB_is (g : Good T) {e : Nat × Nat} (he : e ∈ borderT T) : prevB (borderT T) e ∈ borderT T ∧ (prevB (borderT T) e).2 = e.1 := by
 obtain ⟨⟨x, hx, hx2⟩, -⟩ := g.next e he
 unfold prevB
 cases hf : (borderT T).find? (fun p => p.2 == e.1) with
 | none =>
  have := List.find?_eq_none.1 hf x hx
  simp [hx2] at this
 | some p =>
  have h1 := List.find?_some hf
  have h2 := List.mem_of_find?_eq_some hf
  exact ⟨h2, by simpa using h1⟩
theorem Built.place_ghost (h : Built fa T Bd S) {k : Nat} {e : Nat × Nat} (he : Bd[k]? = some e) : placeM S ((T.length + k : Nat) : Int) (-1) = 2 := by
 obtain ⟨X, hX, e0, e1, e2⟩ := h.ghost he
 unfold placeM
 rw [getT_nat, hX]
 simp only []
 rw [(h.surf.alive hX).2]
 simp only [Bool.false_eq_true, if_false]
 unfold placeT
 rw [if_neg (by omega), if_neg (by omega), if_pos e2.symm]
theorem Built.place_real (h : Built fa T Bd S) {t : Nat} (ht : t < T.length) : placeM S (t : Int) (-1) = -1 := by
 obtain ⟨x, hx⟩ : ∃ x, T[t]? = some x := ⟨_, List.getElem?_eq_getElem ht⟩
 obtain ⟨X, hX, e0, e1, e2⟩ := h.real hx
 unfold placeM
 rw [getT_nat, hX]
 simp only []
 rw [(h.surf.alive hX).2]
 simp only [Bool.false_eq_true, if_false]
 unfold placeT
 rw [if_neg (by omega), if_neg (by omega), if_neg (by omega)]
theorem Built.first (h : Built fa T Bd S) (hb : Bd ≠ []) : firstM S (-1) = ((T.length : Nat) : Int) := by
 obtain ⟨e, he⟩ : ∃ e, Bd[0]? = some e := by
  cases hB : Bd with
  | nil => exact absurd hB hb
  | cons e l => exact ⟨e, rfl⟩
 have hl : 0 < Bd.length := (List.getElem?_eq_some_iff.1 he).1
 have := h.place_ghost he
 rw [Nat.add_zero] at this
 exact firstM_hit (by rw [h.len]; omega) (by rw [this]; omega) (fun j hj => h.place_real hj)
theorem Built.step (h : Built fa T Bd S) {k k' : Nat} {e e' : Nat × Nat} (he : Bd[k]? = some e) (he' : Bd[k']? = some e') (hn : e'.2 = e.1) : stepM S (-1) ((T.length + k : Nat) : Int) = ((T.length + k' : Nat) : Int) := by
 obtain ⟨X, hX, e0, e1, e2⟩ := h.ghost he
 obtain ⟨Y, hY, f0, f1, f2⟩ := h.ghost he'
 unfold stepM
 rw [getT_nat, hX]
 simp only []
 have hp : placeT X (-1) = 2 := by
  unfold placeT
  rw [if_neg (by omega), if_neg (by omega), if_pos e2.symm]
 rw [hp, show (((2 : Int)).toNat + 1) % 3 = 0 from rfl]
 have := (h.surf.across hX hY (i := 0) (j := 1) (by omega) (by omega) (by
  show (Y.v2, Y.v0) = (X.v2, X.v1)
  rw [f2, f0, e2, e1, hn])).1
 exact this
theorem Built.walk (h : Built fa T Bd S) {k0 : Nat} {e0 : Nat × Nat} (h0 : Bd[k0]? = some e0) : ∀ (n k : Nat) (e : Nat × Nat), Bd[k]? = some e → rimZ S (walkM S (-1) ((T.length + k0 : Nat) : Int) n ((T.length + k : Nat) : Int)) = (cycB (borderT T) e0 n e).map (fun x => (x.2 : Int))
 | 0, _, _, _ => rfl
 | n + 1, k, e, he => by
  have hp := h.place_ghost he
  obtain ⟨X, hX, x0, x1, x2⟩ := h.ghost he
  obtain ⟨hm, hn⟩ := prevB_is h.good (h.mem.1 (List.mem_of_getElem? he))
  obtain ⟨k', hk'⟩ := List.mem_iff_getElem?.1 (h.mem.2 hm)
  have hs := h.step he hk' hn
  have ih := Built.walk h h0 n k' _ hk'
  unfold walkM cycB
  rw [hp, if_neg (by omega), hs]
  have hv : vAt S (T.length + k) 0 = (e.2 : Int) := by unfold vAt; rw [hX]; exact x0
  have hd : (((T.length + k' : Nat) : Int) = ((T.length + k0 : Nat) : Int)) ↔ prevB (borderT T) e = e0 := by
   constructor
   ·intro q
    have : k' = k0 := by omega
    subst this
    rw [hk'] at h0; exact Option.some.inj h0
   ·intro q
    rw [q] at hk'
    have hkl := (List.getElem?_eq_some_iff.1 hk').1
    have := (List.getElem?_inj hkl h.nodup).1 (hk'.trans h0.symm)
    omega
  by_cases hq : prevB (borderT T) e = e0
  ·rw [if_pos (hd.2 hq), if_pos hq]
   simp only [rimZ, List.map_cons, List.map_nil]
   rw [show (((2 : Int)).toNat + 1) % 3 = 0 from rfl, Int.toNat_natCast, hv]
  ·rw [if_neg (fun x => hq (hd.1 x)), if_neg hq]
   unfold rimZ at ih ⊢
   rw [List.map_cons, List.map_cons, ih]
   simp only [Int.toNat_natCast]
   rw [show (((2 : Int)).toNat + 1) % 3 = 0 from rfl, hv]
theorem Built.border (h : Built fa T Bd S) {e0 : Nat × Nat} (h0 : Bd[0]? = some e0) : borderM S = (rimB (borderT T) (T.length + (borderT T).length) e0).map (fun v : Nat => (v : Int)) := by
 have hb : Bd ≠ [] := by rintro rfl; simp at h0
 unfold borderM rimB
 rw [h.first hb]
 have := h.walk h0 S.length 0 e0 h0
 rw [Nat.add_zero] at this
 rw [this, h.len, h.perm.length_eq, List.map_reverse, List.map_map]; rfl
theorem Built.rest (h : Built fa T Bd S) {k : Nat} {e : Nat × Nat} (he : Bd[k]? = some e) {X : TriM} (hX : S[T.length + k]? = some X) : realM S X.n2 = true := by
 obtain ⟨Y, hY, e0, e1, e2⟩ := h.ghost he
 rw [hX] at hY; cases hY
 obtain ⟨u, j, U, hU, hj, hE, hn, -⟩ := h.surf.other hX (i := 2) (by omega)
 have hE' : edgeV U j = ((e.1 : Int), (e.2 : Int)) := by rw [hE]; show (X.v1, X.v0) = _; rw [e0, e1]
 have hn' : X.n2 = (u : Int) := hn
 rw [hn', h.real_iff]
 rcases h.cases hU with ⟨x, hx, -⟩ | ⟨k', e', rfl, he', f0, f1, f2⟩
 ·exact decide_eq_true (List.getElem?_eq_some_iff.1 hx).1
 ·exfalso
  have hb := mem_border.1 (h.mem.1 (List.mem_of_getElem? he))
  have hb' := mem_border.1 (h.mem.1 (List.mem_of_getElem? he'))
  obtain rfl | rfl | rfl : j = 0 ∨ j = 1 ∨ j = 2 := by omega
  ·simp only [edgeV, Prod.mk.injEq] at hE'; omega
  ·simp only [edgeV, Prod.mk.injEq] at hE'; omega
  ·simp only [edgeV, Prod.mk.injEq] at hE'
   have q : e' = (e.2, e.1) := Prod.ext (by simp only []; omega) (by simp only []; omega)
   rw [q] at hb'
   exact hb.2 hb'.1
end
end Go.MagM
namespace Go.Proofs.YtecnnpkpgbbfkaaGreat
open Go.RowKit Go.MagM
section
variable {F : Int → Int → Bool} {T : List (Nat × Nat × Nat)} {Bd : List (Nat × Nat)} {S : List TriM} {P : List (Int × Int)}
theorem built_gh (h : Built (faF F) T Bd S) : ∀ k, k ≤ S.length → ghN S k = k - T.length
 | 0, _ => by simp [ghN]
 | k + 1, hk => by
  have ih := built_gh h k (by omega)
  by_cases hlt : k < T.length
  ·rw [ghN_none (h.place_real hlt), ih]; omega
  ·have hl := h.len
   obtain ⟨e, he⟩ : ∃ e, Bd[k - T.length]? = some e := ⟨_, List.getElem?_eq_getElem (by omega)⟩
   have hp := h.place_ghost he
   rw [show T.length + (k - T.length) = k by omega] at hp
   rw [ghN_some (by rw [hp]; omega), ih]; omega
theorem built_formed (h : Built (faF F) T Bd S) (ht : ∀ t, t ∈ T → 0 < turnM P (t.1 : Int) (t.2.1 : Int) (t.2.2 : Int)) {k : Nat} {X : TriM} (hX : S[k]? = some X) : formedT P S X = true := by
 unfold formedT
 rcases h.cases hX with ⟨x, hx, e0, e1, e2⟩ | ⟨j, e, rfl, he, e0, e1, e2⟩
 ·have hp : placeT X (-1) = -1 := by
   unfold placeT
   rw [if_neg (by omega), if_neg (by omega), if_neg (by omega)]
  rw [if_pos hp, e0, e1, e2]
  exact decide_eq_true (ht x (List.mem_of_getElem? hx))
 ·have hp : placeT X (-1) = 2 := by
   unfold placeT
   rw [if_neg (by omega), if_neg (by omega), if_pos e2.symm]
  rw [hp, if_neg (by omega), if_neg (by omega), if_neg (by omega), h.rest he hX]
  obtain ⟨_, _, _, _, _, _, _, g0, _⟩ := h.surf.other hX (i := 0) (by omega)
  obtain ⟨_, _, _, _, _, _, _, g1, _⟩ := h.surf.other hX (i := 1) (by omega)
  have f0 : X.f0 = false := by
   have : X.f0 = faF F X.v1 X.v2 := g0
   rw [this, e2]; unfold faF; simp
  have f1 : X.f1 = false := by
   have : X.f1 = faF F X.v2 X.v0 := g1
   rw [this, e2]; unfold faF; simp
  rw [f0, f1]; rfl
theorem built_sound (h : Built (faF F) T Bd S) (ht : ∀ t, t ∈ T → 0 < turnM P (t.1 : Int) (t.2.1 : Int) (t.2.2 : Int)) (hb : borderT T ≠ [])
  (hc : ∀ e0, e0 ∈ borderT T → (rimB (borderT T) (T.length + (borderT T).length) e0).length = (borderT T).length ∧ (∀ v, v ∈ rimB (borderT T) (T.length + (borderT T).length) e0 → v < P.length) ∧ convexM P (rimB (borderT T) (T.length + (borderT T).length) e0) = true) : SoundIs P S true := by
 have hbl : 0 < (borderT T).length := List.length_pos_iff.2 hb
 have hBl := h.perm.length_eq
 obtain ⟨e0, he0⟩ : ∃ e0, Bd[0]? = some e0 := ⟨_, List.getElem?_eq_getElem (by omega)⟩
 obtain ⟨c1, c2, c3⟩ := hc e0 (h.mem.1 (List.mem_of_getElem? he0))
 have hbo := h.border he0
 refine .inr ⟨rfl, fun k X hX => ?_, ?_, ?_, _, hbo, c2, c3⟩
 ·unfold okT; rw [built_formed h ht hX, h.surf.linked (faF_comm F) hX]; simp
 ·intro e
  rw [hbo] at e
  have := congrArg List.length e
  rw [List.length_map, c1, List.length_nil] at this
  omega
 ·rw [hbo, List.length_map, c1, built_gh h _ (Nat.le_refl _), h.len]; omega
end
/-- The points of a grid. -/
def gridP (w h : Nat) : List (Int × Int) := (List.range (h + 1)).flatMap fun y => (List.range (w + 1)).map fun x => (((2 * x : Nat) : Int), ((2 * y : Nat) : Int))
def soundG (w h bits : Nat) : Bool :=
 (gridT w h bits).all (fun t => decide (0 < turnM (gridP w h) (t.1 : Int) (t.2.1 : Int) (t.2.2 : Int))) && !(borderT (gridT w h bits)).isEmpty &&
 (borderT (gridT w h bits)).all (fun e0 =>
  (rimB (borderT (gridT w h bits)) ((gridT w h bits).length + (borderT (gridT w h bits)).length) e0).length == (borderT (gridT w h bits)).length &&
  (rimB (borderT (gridT w h bits)) ((gridT w h bits).length + (borderT (gridT w h bits)).length) e0).all (fun v => decide (v < (gridP w h).length)) &&
  convexM (gridP w h) (rimB (borderT (gridT w h bits)) ((gridT w h bits).length + (borderT (gridT w h bits)).length) e0)) &&
 decide (4 ≤ (gridT w h bits).length + (borderT (gridT w h bits)).length) && decide ((gridT w h bits).length ≤ 8) && (gridT w h bits).all (fun t => decide (t.1 < (gridP w h).length) && decide (t.2.1 < (gridP w h).length) && decide (t.2.2 < (gridP w h).length)) &&
 (gridP w h).all (fun p => decide (0 ≤ p.1 ∧ p.1 ≤ 4 ∧ 0 ≤ p.2 ∧ p.2 ≤ 4)) && decide ((gridP w h).length = (w + 1) * (h + 1))
def allSound : Bool := [1, 2].all fun w => [1, 2].all fun h => (List.range 16).all fun bits => soundG w h bits
set_option maxRecDepth 100000 in
theorem all_sound : allSound = true := by decide +kernel
theorem grid_soundG {w h : Nat} (hw : w = 1 ∨ w = 2) (hh : h = 1 ∨ h = 2) {bits : Nat} (hb : bits < 16) : soundG w h bits = true := by
 have := all_sound
 unfold allSound at this
 rw [List.all_eq_true] at this
 have h1 := this w (by rcases hw with rfl | rfl <;> simp)
 rw [List.all_eq_true] at h1
 have h2 := h1 h (by rcases hh with rfl | rfl <;> simp)
 rw [List.all_eq_true] at h2
 exact h2 bits (List.mem_range.2 hb)
/-- What is known of a grid. -/
structure GridOk (w h bits : Nat) : Prop where
 good : MagM.Good (gridT w h bits)
 turn : ∀ t, t ∈ gridT w h bits → 0 < turnM (gridP w h) (t.1 : Int) (t.2.1 : Int) (t.2.2 : Int)
 some_ : borderT (gridT w h bits) ≠ []
 rim : ∀ e0, e0 ∈ borderT (gridT w h bits) → (rimB (borderT (gridT w h bits)) ((gridT w h bits).length + (borderT (gridT w h bits)).length) e0).length = (borderT (gridT w h bits)).length ∧ (∀ v, v ∈ rimB (borderT (gridT w h bits)) ((gridT w h bits).length + (borderT (gridT w h bits)).length) e0 → v < (gridP w h).length) ∧ convexM (gridP w h) (rimB (borderT (gridT w h bits)) ((gridT w h bits).length + (borderT (gridT w h bits)).length) e0) = true
 four : 4 ≤ (gridT w h bits).length + (borderT (gridT w h bits)).length
 few : (gridT w h bits).length ≤ 8
 pts : ∀ t, t ∈ gridT w h bits → t.1 < (gridP w h).length ∧ t.2.1 < (gridP w h).length ∧ t.2.2 < (gridP w h).length
 small : ∀ p, p ∈ gridP w h → 0 ≤ p.1 ∧ p.1 ≤ 4 ∧ 0 ≤ p.2 ∧ p.2 ≤ 4
 many : (gridP w h).length = (w + 1) * (h + 1)
theorem grid_ok {w h : Nat} (hw : w = 1 ∨ w = 2) (hh : h = 1 ∨ h = 2) {bits : Nat} (hb : bits < 16) : GridOk w h bits := by
 have g := MagM.Good.of (grid_good hw hh hb)
 have s := grid_soundG hw hh hb
 unfold soundG at s
 simp only [Bool.and_eq_true, decide_eq_true_eq, List.all_eq_true, beq_iff_eq, Bool.not_eq_true', List.isEmpty_eq_false_iff] at s
 obtain ⟨⟨⟨⟨⟨⟨⟨s1, s2⟩, s3⟩, s4⟩, s5⟩, s6⟩, s7⟩, s8⟩ := s
 exact ⟨g, s1, s2, fun e he => by obtain ⟨⟨q1, q2⟩, q3⟩ := s3 e he; exact ⟨q1, q2, q3⟩, s4, s5, fun t ht => by obtain ⟨⟨q1, q2⟩, q3⟩ := s6 t ht; exact ⟨q1, q2, q3⟩, s7, s8⟩
end Go.Proofs.YtecnnpkpgbbfkaaGreat
/- The statements' Grid: its points and triangles, place by place; bits; the map of faults. -/
namespace Go.MagM
open Go.RowKit
theorem MeshO.low' {p e : TypeId} {w : World} {B B' mb pb pc : Nat} {tv : Value} {P : List (Int × Int)} {S : List TriM} (h : MeshO p e w B mb pb pc tv P S) (hB : B' ≤ B) : MeshO p e w B' mb pb pc tv P S :=
 ⟨h.box, owns_low h.prow hB, owns_low h.row hB, ⟨Nat.le_trans hB h.low.1, h.low.2⟩, h.apart, h.short⟩
theorem BuildEnd.low {p e : TypeId} {F : Int → Int → Bool} {B B' : Nat} {P : List (Int × Int)} {T : List (Nat × Nat × Nat)} {mb : Nat} {w : World} (h : BuildEnd p e F B P T mb w) (hB : B' ≤ B) : BuildEnd p e F B' P T mb w := by
 obtain ⟨pb, pc, tv, S, Bd, h1, h2, h3⟩ := h
 exact ⟨pb, pc, tv, S, Bd, h1.low' hB, Nat.le_trans hB h2, h3⟩
end Go.MagM
namespace Go.Proofs.YtecnnpkpgbbfkaaGreat
open Go.RowKit Go.MagM Go.Maps
end Go.Proofs.YtecnnpkpgbbfkaaGreat
/- cavity's corners. -/
namespace Go.MagM
open Go.RowKit
theorem box3v {w : World} {g : Nat} {T : TriM} (h : Box w g [.int .i64 T.v0, .int .i64 T.v1, .int .i64 T.v2]) {k : Nat} (hk : k < 3) : w.cell? ⟨g, k, none⟩ = some (.int .i64 (T.v k)) := by
 obtain rfl | rfl | rfl : k = 0 ∨ k = 1 ∨ k = 2 := by omega
 ·exact h.c 0 _ rfl
 ·exact h.c 1 _ rfl
 ·exact h.c 2 _ rfl
theorem mod3_sum {f k : Nat} (hf : f ≤ 3) (hk : k < 3) : (IntKind.i64.wrap ((f : Int) + (k : Int))).tmod 3 = (((f + k) % 3 : Nat) : Int) := by
 obtain rfl | rfl | rfl | rfl : f = 0 ∨ f = 1 ∨ f = 2 ∨ f = 3 := by omega
 all_goals (obtain rfl | rfl | rfl : k = 0 ∨ k = 1 ∨ k = 2 := by omega)
 all_goals decide
theorem cors_le (P : List (Int × Int)) (T : TriM) : (cors P T).length ≤ 3 := corsN_le P T 3
end Go.MagM
namespace Go.Proofs.YtecnnpkpgbbfkaaGreat
open Go.RowKit Go.MagM
set_option maxRecDepth 100000 in
set_option maxHeartbeats 8000000 in
theorem cvCorners_any {mb pb pc : Nat} {ta : Option Addr} {tc : Nat} {P : List (Int × Int)} {S : List TriM} (t : Nat) (T : TriM) (w : World) (h : MeshR w mb pb pc ta tc P S) (hT : S[t]? = some T) :
  Calls Tryz.prog 77 #[.pointer (some ⟨mb, 0, none⟩), .int .i64 (t : Int)] w fun e w' => ∃ v, e = .returned v ∧ RowN w' (w.heap.size + 1) 33 2 v (cors P T).length (ptsCells (cors P T)) ∧ Below w.heap.size w w' := by
 have hsh := h.short
 have hlt := (List.getElem?_eq_some_iff.1 hT).1
 obtain ⟨len, hlen⟩ : ∃ len, S.length = len := ⟨_, rfl⟩
 obtain ⟨pn, hpn⟩ : ∃ pn, P.length = pn := ⟨_, rfl⟩
 have q1 : decide ((t : Int) < 0) = false := decide_eq_false (by omega)
 have q2 : decide ((len : Int) ≤ (t : Int)) = false := decide_eq_false (by omega)
 have q3 : decide (len ≤ t) = false := decide_eq_false (by omega)
 have i1 : (0 : Int) ≤ (t : Int) := by omega
 have i2 : (t : Int) < (len : Int) := by omega
 have b1 := h.box.c1
 rw [hlen] at b1 hsh hlt
 rw [hpn] at hsh
 obtain ⟨tb, hta, -, h9⟩ := h.tris.get hT
 subst hta
 obtain ⟨c0, c1, c2, c3, c4, c5, c6, c7, c8⟩ := h9
 obtain ⟨i0, hi, hz0, hz1, hz2⟩ := info_parts infoPt
 have HI := Lib.hid hi; have HZ0 := Lib.hid hz0; have HZ1 := Lib.hid hz1; have HZ2 := Lib.hid hz2
 clear hi hz0 hz1 hz2
 obtain ⟨w1, hw1, hp, hb1, hs1⟩ := new_box w _ rfl [.int .i64 T.v0, .int .i64 T.v1, .int .i64 T.v2] 38
 obtain ⟨r, hr⟩ : ∃ r : Int, placeT T (-1) = r := ⟨_, rfl⟩
 obtain ⟨f, hf⟩ : ∃ f, corF T = f := ⟨_, rfl⟩
 have hfr : IntKind.i64.wrap (r + 1) = (f : Int) := by
  rw [← hf, ← hr]; unfold corF; rcases placeT_cases T (-1) with e | e | e | e <;> rw [e] <;> decide
 have hf3 : f ≤ 3 := hf ▸ corF_lt T
 have HIX := Lib.hid (show Calls Tryz.prog 60 #[.slice (some ⟨w.heap.size, 0, none⟩) 3 3, .int .i64 (-1)] w1 fun e w' => e = .returned (.int .i64 r) ∧ w1 = w' from by
  have := index_any w.heap.size 0 3 3 [T.v0, T.v1, T.v2] (-1) w1 rfl (by omega) (fun j v hj => by
   obtain ⟨hl, -⟩ := List.getElem?_eq_some_iff.1 hj
   have hj3 : j < 3 := by simpa using hl
   obtain rfl | rfl | rfl : j = 0 ∨ j = 1 ∨ j = 2 := by omega
   ·cases hj; exact hp.c 0 _ rfl
   ·cases hj; exact hp.c 1 _ rfl
   ·cases hj; exact hp.c 2 _ rfl)
  rw [place_idx, hr] at this; exact this)
 have H := Lib.hid (h.below hb1); have HT := Lib.hid hT; have HPN := Lib.hid hpn; have HR := Lib.hid hr; have HF := Lib.hid hf
 have HP := Lib.hid hp; have HB1 := Lib.hid hb1
 have HS1 := Lib.hid (show w1.heap.size = w.heap.size + 1 from by omega)
 have HF3 := Lib.hid hf3
 clear h hT hlen hpn hr hf hp hb1 hs1 hf3
 go_enter Tryz.func77, Tryz.ntmps77
 go_wp2_with fail
 refine HIX.out.mono ?_
 rintro e w2 ⟨rfl, rfl⟩
 clear b1 c0 c1 c2 c3 c4 c5 c6 c7 c8 hw1 i1 i2
 go_wp2
 clear hfr
 go_loopw [7, 32] (fun pv iv wr => ∃ (k : Nat) (vv : Value), k ≤ 3 ∧ iv = .int .i64 (k : Int) ∧ vv = pv ∧ RowN wr (w.heap.size + 1) 33 2 vv (corsN P T k).length (ptsCells (corsN P T k)) ∧ Box wr w.heap.size [.int .i64 T.v0, .int .i64 T.v1, .int .i64 T.v2] ∧ Below w1.heap.size w1 wr ∧ Below w.heap.size w wr) (fun _ iv _ => 3 - (intOf iv).toNat)
 case atStart => exact ⟨0, _, Nat.zero_le _, rfl, rfl, RowN.nil _ _ _ _, HP.out, Below.refl _ _, HB1.out⟩
 case round =>
  obtain ⟨k, vv, hk, rfl, rfl, hrow, hbx, hbo, hbw⟩ := hrel
  by_cases hlt3 : k < 3
  ·have hj : (f + k) % 3 < 3 := Nat.mod_lt _ (by omega)
   have hm := mod3_sum HF3.out hlt3
   obtain ⟨j, hje⟩ : ∃ j, (f + k) % 3 = j := ⟨_, rfl⟩
   rw [hje] at hj hm
   have hm2 : (wrap64 ((f : Int) + (k : Int))).tmod 3 = (j : Int) := by rw [← IntWalk.i64_left]; exact hm
   obtain ⟨x, hx⟩ : ∃ x, T.v j = x := ⟨_, rfl⟩
   have y1 := box3v hbx hj
   rw [hx] at y1
   have HST := Lib.hid (show corsN P T (k + 1) = corsN P T k ++ corK P T j by rw [corsN, HF.out, hje])
   have j1 : (0 : Int) ≤ (j : Int) := by omega
   have j2 : (j : Int) < 3 := by omega
   have hr_0 := H.out.below hbo
   have b0 := hr_0.box.c 0 _ rfl
   rw [HPN.out] at b0
   have HX := Lib.hid hx
   clear hje hx hj
   by_cases hx0 : 0 ≤ x
   ·obtain ⟨a, rfl⟩ := Int.eq_ofNat_of_zero_le hx0
    have g1 : decide (0 ≤ (a : Int)) = true := decide_eq_true (by omega)
    by_cases hap : a < pn
    ·have g2 : decide ((a : Int) < (pn : Int)) = true := decide_eq_true (by omega)
     have g3 : decide (a < pn) = true := decide_eq_true hap
     have j4 : (a : Int) < (pn : Int) := by omega
     have hck : corK P T j = [ptA P a] := by unfold corK ptT; rw [HX.out, HPN.out, if_pos ⟨hx0, j4⟩]; rfl
     obtain ⟨⟨px, py⟩, hpa⟩ : ∃ q, ptA P a = q := ⟨_, rfl⟩
     have hat := ptA_at (P := P) (v := a) (by rw [HPN.out]; exact hap)
     rw [hpa] at hat hck
     obtain ⟨d0, d1⟩ := hr_0.pt hat
     obtain ⟨w3, hw3, pz, hb3, hs3⟩ := new_box wr _ rfl [.int .i64 px, .int .i64 py] 33
     have hrow3 := hrow.below hb3
     have hbx3 := hbx.below hb3
     have hbw3 := hbw.trans (hb3.mono hbw.size)
     have hbo3 := hbo.trans (hb3.mono hbo.size)
     have hcl := corsN_le P T k
     have hz1 := HS1.out
     have hz2 := hbo.size
     obtain ⟨v1, w4, hrun, rown, hgrow, hkept⟩ := run_append_row (P := Tryz.prog) w3 (w.heap.size + 1) 22 22 33 i0 (.agg #[.int .i64 0, .int .i64 0]) 2 16 (by kernel_rfl) HI.out HZ0.out HZ1.out HZ2.out rfl (noWordI2 _ _) _ (corsN P T k).length _ hrow3 ⟨wr.heap.size, 0, none⟩ 1 1 [.int .i64 px, .int .i64 py] (by omega) rfl pz.news (by intro u hu; simp at hu; rcases hu with rfl | rfl <;> rfl) (noWordI2 _ _) (by unfold maxLen; omega) (by omega) (by omega)
     have hne : ∀ g, vv.ownBlock = some g → w.heap.size + 1 ≤ g := fun g hg => (hrow3.lt g hg).1
     have hbx4 := hbx3.grown hgrow (fun e => by have := hne _ e; omega) hbx3.lt
     have hbw4 : Below w.heap.size w w4 := hbw3.grown hgrow (by omega) (fun g hg => by have := hne g hg; omega)
     have hbo4 : Below w1.heap.size w1 w4 := hbo3.grown hgrow (by omega) (fun g hg => by have := hne g hg; omega)
     have rown2 : RowN w4 (w.heap.size + 1) 33 2 v1 (corsN P T (k + 1)).length (ptsCells (corsN P T (k + 1))) := by
      rw [HST.out, hck, List.length_append, ptsCells_app]; exact rown
     have FIN := Lib.hid (And.intro rown2 (And.intro hbx4 (And.intro hbo4 hbw4)))
     clear hrow hbx hbo hbw hr_0 pz hb3 hs3 hrow3 hbx3 hbw3 hbo3 rown hgrow hkept hne hbx4 hbw4 hbo4 rown2 hcl hat hck hz1 hz2
     go_wp2_with (refine wpList_append_row rfl _ _ 22 rfl rfl rfl hrun ?_)
     have FI := FIN.out
     exact ⟨⟨k + 1, _, by omega, by go_num, rfl, FI.1, FI.2.1, FI.2.2.1, FI.2.2.2⟩, by simp [intOf]; omega⟩
    ·have g2 : decide ((a : Int) < (pn : Int)) = false := decide_eq_false (by omega)
     have g3 : decide (a < pn) = false := decide_eq_false hap
     have HNO := Lib.hid (show corK P T j = [] by unfold corK; rw [HX.out, HPN.out, if_neg (by omega)])
     have FIN := Lib.hid (And.intro hrow (And.intro hbx (And.intro hbo hbw)))
     clear hrow hbx hbo hbw hr_0
     go_wp2
     have FI := FIN.out
     refine ⟨⟨k + 1, _, by omega, by go_num, rfl, ?_, FI.2.1, FI.2.2.1, FI.2.2.2⟩, by simp [intOf]; omega⟩
     rw [HST.out, HNO.out, List.append_nil]; exact FI.1
   ·have g1 : decide (0 ≤ x) = false := decide_eq_false hx0
    have HNO := Lib.hid (show corK P T j = [] by unfold corK; rw [HX.out, if_neg (by omega)])
    have FIN := Lib.hid (And.intro hrow (And.intro hbx (And.intro hbo hbw)))
    clear hrow hbx hbo hbw hr_0
    go_wp2
    have FI := FIN.out
    refine ⟨⟨k + 1, _, by omega, by go_num, rfl, ?_, FI.2.1, FI.2.2.1, FI.2.2.2⟩, by simp [intOf]; omega⟩
    rw [HST.out, HNO.out, List.append_nil]; exact FI.1
  ·obtain rfl : k = 3 := by omega
   have FIN := Lib.hid (And.intro hrow hbw)
   clear hrow hbx hbo hbw
   go_wp2
   go_ret
   exact ⟨_, rfl, FIN.out.1, FIN.out.2⟩
end Go.Proofs.YtecnnpkpgbbfkaaGreat
/- Sums of two and three, and of none. -/
namespace Go.Proofs.YtecnnpkpgbbfkaaGreat
open Go.RowKit Go.MagM
theorem sum_three (ao : Option Addr) (c L1 L2 L3 : Nat) (X Y Z : Int) (w : World) (h1 : L1 ≤ 1000000000) (h2 : L2 ≤ 1000000000) (h3 : L3 ≤ 1000000000) (h : Nums w ao [(L1, X), (L2, Y), (L3, Z)]) :
    Calls Tryz.prog 56 #[.slice ao 3 c] w fun e w' => AnsNum w w' e (max L1 (max L2 L3) + 3) (X + Y + Z) := by
  refine (Sum_go ao 3 c _ w rfl (by omega) (fun L Z hm => ?_) h).mono fun e w' g => g.of ?_ ?_
  · simp at hm; omega
  · simp [sumLen]; omega
  · simp [sumVal, Int.add_assoc]
theorem Nums.drew {w : World} {ao : Option Addr} {l : List (Nat × Int)} (h : Nums w ao l) : Nums w.drew ao l := h
end Go.Proofs.YtecnnpkpgbbfkaaGreat
/- The calls of pred: Circle. -/
namespace Go.Proofs.YtecnnpkpgbbfkaaGreat
open Go.RowKit Go.MagM
theorem nums3_box {w : World} {g : Nat} {L1 L2 L3 : Nat} {X Y Z : Int} {m1 m2 m3 : Bool} {o1 o2 o3 : Option Addr} {n1 c1 n2 c2 n3 c3 : Nat} (h : Box w g [.bool m1, .slice o1 n1 c1, .bool m2, .slice o2 n2 c2, .bool m3, .slice o3 n3 c3])
  (h1 : Num w (.agg #[.bool m1, .slice o1 n1 c1]) L1 X) (h2 : Num w (.agg #[.bool m2, .slice o2 n2 c2]) L2 Y) (h3 : Num w (.agg #[.bool m3, .slice o3 n3 c3]) L3 Z) :
  Nums w (some ⟨g, 0, none⟩) [(L1, X), (L2, Y), (L3, Z)] := by
 intro i L Z hi
 have hi2 : i < 3 := by have := (List.getElem?_eq_some_iff.1 hi).1; simpa using this
 obtain rfl | rfl | rfl : i = 0 ∨ i = 1 ∨ i = 2 := by omega
 ·simp at hi; obtain ⟨rfl, rfl⟩ := hi
  exact ⟨_, 0, m1, o1, n1, c1, rfl, h.c0, h.c1, h1⟩
 ·simp at hi; obtain ⟨rfl, rfl⟩ := hi
  exact ⟨_, 0, m2, o2, n2, c2, rfl, h.c2, h.c3, h2⟩
 ·simp at hi; obtain ⟨rfl, rfl⟩ := hi
  exact ⟨_, 0, m3, o3, n3, c3, rfl, h.c4, h.c5, h3⟩
theorem Sign_named (va : Value) (L : Nat) (X s : Int) (w : World) (hL : L ≤ 4000000000) (ha : Num w va L X) (h : X.sign = s) :
  Calls Tryz.prog 55 #[va] w fun e w' => e = .returned (.int .i64 s) ∧ Below w.heap.size w w' := by
 subst h; exact Sign_any va L X w hL ha
set_option maxHeartbeats 16000000 in
theorem Circle_w (a0 a1 b0 b1 v0 v1 u0 u1 : Int) (D0 A0 D1 A1 D2 A2 t : Int) (k0 : ∀ w, Calls Tryz.prog 58 #[.agg #[.int .i64 a0, .int .i64 a1], .agg #[.int .i64 u0, .int .i64 u1]] w fun e w' => AnsNum w w' e 2 D0) (k1 : ∀ w, Calls Tryz.prog 59 #[.agg #[.int .i64 u0, .int .i64 u1], .agg #[.int .i64 b0, .int .i64 b1], .agg #[.int .i64 v0, .int .i64 v1]] w fun e w' => AnsNum w w' e 2 A0) (k3 : ∀ w, Calls Tryz.prog 58 #[.agg #[.int .i64 b0, .int .i64 b1], .agg #[.int .i64 u0, .int .i64 u1]] w fun e w' => AnsNum w w' e 2 D1) (k4 : ∀ w, Calls Tryz.prog 59 #[.agg #[.int .i64 u0, .int .i64 u1], .agg #[.int .i64 v0, .int .i64 v1], .agg #[.int .i64 a0, .int .i64 a1]] w fun e w' => AnsNum w w' e 2 A1) (k6 : ∀ w, Calls Tryz.prog 58 #[.agg #[.int .i64 v0, .int .i64 v1], .agg #[.int .i64 u0, .int .i64 u1]] w fun e w' => AnsNum w w' e 2 D2) (k7 : ∀ w, Calls Tryz.prog 59 #[.agg #[.int .i64 u0, .int .i64 u1], .agg #[.int .i64 a0, .int .i64 a1], .agg #[.int .i64 b0, .int .i64 b1]] w fun e w' => AnsNum w w' e 2 A2) (ht : (D0 * A0 + D1 * A1 + D2 * A2).sign = t) (w : World) :
  Calls Tryz.prog 19 #[.agg #[.int .i64 a0, .int .i64 a1], .agg #[.int .i64 b0, .int .i64 b1], .agg #[.int .i64 v0, .int .i64 v1], .agg #[.int .i64 u0, .int .i64 u1]] w fun e w' => e = .returned (.int .i64 t) ∧ Below w.heap.size w w' := by
 have hB_0 := Below.refl w.heap.size w
 have K0 := Lib.hid k0; have K1 := Lib.hid k1; have K3 := Lib.hid k3; have K4 := Lib.hid k4; have K6 := Lib.hid k6; have K7 := Lib.hid k7; have HT := Lib.hid ht
 clear k0 k1 k3 k4 k6 k7 ht
 obtain ⟨w1, hw1, pa_0, hb1, hs1⟩ := new_box w (w.heap.size) rfl [.int .i64 a0, .int .i64 a1] 33
 have hb1' : Below w.heap.size w w1 := hb1.mono (by omega)
 clear hb1
 have hB_1 := hB_0.trans (hb1'.mono hB_0.size)
 clear hb1' hB_0
 obtain ⟨w2, hw2, pb_0, hb2, hs2⟩ := new_box w1 (w.heap.size + 1) hs1 [.int .i64 b0, .int .i64 b1] 33
 have hb2' : Below w1.heap.size w1 w2 := hb2.mono (by omega)
 clear hb2
 have hB_2 := hB_1.trans (hb2'.mono hB_1.size)
 have pa_1 := pa_0.below hb2'
 clear hb2' hB_1 pa_0
 obtain ⟨w3, hw3, pv_0, hb3, hs3⟩ := new_box w2 (w.heap.size + 1 + 1) hs2 [.int .i64 v0, .int .i64 v1] 33
 have hb3' : Below w2.heap.size w2 w3 := hb3.mono (by omega)
 clear hb3
 have hB_3 := hB_2.trans (hb3'.mono hB_2.size)
 have pa_2 := pa_1.below hb3'
 have pb_1 := pb_0.below hb3'
 clear hb3' hB_2 pa_1 pb_0
 obtain ⟨w4, hw4, pu_0, hb4, hs4⟩ := new_box w3 (w.heap.size + 1 + 1 + 1) hs3 [.int .i64 u0, .int .i64 u1] 33
 have hb4' : Below w3.heap.size w3 w4 := hb4.mono (by omega)
 clear hb4
 have hB_4 := hB_3.trans (hb4'.mono hB_3.size)
 have pa_3 := pa_2.below hb4'
 have pb_2 := pb_1.below hb4'
 have pv_1 := pv_0.below hb4'
 clear hb4' hB_3 pa_2 pb_1 pv_0
 go_enter Tryz.func19, Tryz.ntmps19
 obtain ⟨pae0, pae1, pae2, pae3⟩ := pa_3.open2
 obtain ⟨pbe0, pbe1, pbe2, pbe3⟩ := pb_2.open2
 obtain ⟨pve0, pve1, pve2, pve3⟩ := pv_1.open2
 obtain ⟨pue0, pue1, pue2, pue3⟩ := pu_0.open2
 go_wp2
 clear pae0 pae1 pae2 pae3 pbe0 pbe1 pbe2 pbe3 pve0 pve1 pve2 pve3 pue0 pue1 pue2 pue3
 have hWq_0 := Below.refl w4.heap.size w4
 have hsq : w.heap.size ≤ w4.heap.size := hB_4.size
 have hlqpa := pa_3.lt
 have hlqpb := pb_2.lt
 have hlqpv := pv_1.lt
 have hlqpu := pu_0.lt
 have hB_5 := hB_4.drew'
 have pa_4 := pa_3.drew
 have pb_3 := pb_2.drew
 have pv_2 := pv_1.drew
 have pu_1 := pu_0.drew
 have hWq_1 := hWq_0.drew'
 clear hB_4 pa_3 pb_2 pv_1 pu_0 hWq_0
 refine wp_region_noPanic ?_
 refine wp_region_held_drew (S := fun w' => w'.cell? ⟨w.heap.size, 0, none⟩ = some (.int .i64 a0) ∧ w'.cell? ⟨w.heap.size, 1, none⟩ = some (.int .i64 a1) ∧ w'.cell? ⟨w.heap.size + 1, 0, none⟩ = some (.int .i64 b0) ∧ w'.cell? ⟨w.heap.size + 1, 1, none⟩ = some (.int .i64 b1) ∧ w'.cell? ⟨w.heap.size + 1 + 1, 0, none⟩ = some (.int .i64 v0) ∧ w'.cell? ⟨w.heap.size + 1 + 1, 1, none⟩ = some (.int .i64 v1) ∧ w'.cell? ⟨w.heap.size + 1 + 1 + 1, 0, none⟩ = some (.int .i64 u0) ∧ w'.cell? ⟨w.heap.size + 1 + 1 + 1, 1, none⟩ = some (.int .i64 u1)) (by kernel_rfl) (⟨pa_4.c0, pa_4.c1, pb_3.c0, pb_3.c1, pv_2.c0, pv_2.c1, pu_1.c0, pu_1.c1⟩) (fun hHeld => ?_)
 refine rU 0 _ _ ?_
 (try simp only [Act.put]);try simp only [sA,sZ,sS]
 refine rU 1 _ _ ?_
 (try simp only [Act.put]);try simp only [sA,sZ,sS]
 refine rU 3 _ _ ?_
 (try simp only [Act.put]);try simp only [sA,sZ,sS]
 refine rU 4 _ _ ?_
 (try simp only [Act.put]);try simp only [sA,sZ,sS]
 refine rU 5 _ _ ?_
 (try simp only [Act.put]);try simp only [sA,sZ,sS]
 refine rU 8 _ _ ?_
 (try simp only [Act.put]);try simp only [sA,sZ,sS]
 refine rU 9 _ _ ?_
 (try simp only [Act.put]);try simp only [sA,sZ,sS]
 refine rU 11 _ _ ?_
 (try simp only [Act.put]);try simp only [sA,sZ,sS]
 refine rU 12 _ _ ?_
 (try simp only [Act.put]);try simp only [sA,sZ,sS]
 refine rU 13 _ _ ?_
 (try simp only [Act.put]);try simp only [sA,sZ,sS]
 refine rU 16 _ _ ?_
 (try simp only [Act.put]);try simp only [sA,sZ,sS]
 refine rU 17 _ _ ?_
 (try simp only [Act.put]);try simp only [sA,sZ,sS]
 refine rU 19 _ _ ?_
 (try simp only [Act.put]);try simp only [sA,sZ,sS]
 refine rU 20 _ _ ?_
 (try simp only [Act.put]);try simp only [sA,sZ,sS]
 refine rU 21 _ _ ?_
 (try simp only [Act.put]);try simp only [sA,sZ,sS]
 refine reg_grab (fun WWq aq hWW hAA => ?_)
 have HWq := Lib.hid hWW; have HAq := Lib.hid hAA; clear hWW hAA hHeld
 have stq_11t : ∀ (w' : World) (m1 : Bool) (o1 : Option Addr) (n1 : Nat) (c1 : Nat) (m2 : Bool) (o2 : Option Addr) (n2 : Nat) (c2 : Nat) (m3 : Bool) (o3 : Option Addr) (n3 : Nat) (c3 : Nat) (m4 : Bool) (o4 : Option Addr) (n4 : Nat) (c4 : Nat) (m5 : Bool) (o5 : Option Addr) (n5 : Nat) (c5 : Nat) (m6 : Bool) (o6 : Option Addr) (n6 : Nat) (c6 : Nat) (m7 : Bool) (o7 : Option Addr) (n7 : Nat) (c7 : Nat) (m8 : Bool) (o8 : Option Addr) (n8 : Nat) (c8 : Nat) (m9 : Bool) (o9 : Option Addr) (n9 : Nat) (c9 : Nat) (m10 : Bool) (o10 : Option Addr) (n10 : Nat) (c10 : Nat) (gpq : Nat), Below w.heap.size w w' → Box w' (w.heap.size) [.int .i64 a0, .int .i64 a1] → Box w' (w.heap.size + 1) [.int .i64 b0, .int .i64 b1] → Box w' (w.heap.size + 1 + 1) [.int .i64 v0, .int .i64 v1] → Box w' (w.heap.size + 1 + 1 + 1) [.int .i64 u0, .int .i64 u1] → Below w4.heap.size w4 w' → RNum w' (.agg #[.bool m1, .slice o1 n1 c1]) (2) (D0) → RNum w' (.agg #[.bool m2, .slice o2 n2 c2]) (2) (A0) → RNum w' (.agg #[.bool m3, .slice o3 n3 c3]) (4) (D0 * A0) → RNum w' (.agg #[.bool m4, .slice o4 n4 c4]) (2) (D1) → RNum w' (.agg #[.bool m5, .slice o5 n5 c5]) (2) (A1) → RNum w' (.agg #[.bool m6, .slice o6 n6 c6]) (4) (D1 * A1) → RNum w' (.agg #[.bool m7, .slice o7 n7 c7]) (2) (D2) → RNum w' (.agg #[.bool m8, .slice o8 n8 c8]) (2) (A2) → RNum w' (.agg #[.bool m9, .slice o9 n9 c9]) (4) (D2 * A2) → RNum w' (.agg #[.bool m10, .slice o10 n10 c10]) (7) (D0 * A0 + D1 * A1 + D2 * A2) → Box w' gpq [.bool m3, .slice o3 n3 c3, .bool m6, .slice o6 n6 c6, .bool m9, .slice o9 n9 c9] → w4.heap.size ≤ gpq → WWq 0 #[true, true, true, true, true, true, true, true, true, true, true, true, true, true, true, true, true, true, true, true, true, true, true, true, true, true, true, true] (((((((((((((aq.put (some 11) (.agg #[.bool m1, .slice o1 n1 c1])).put (some 15) (.agg #[.bool m2, .slice o2 n2 c2])).put (some 16) (.agg #[.bool m3, .slice o3 n3 c3])).put (some 19) (.agg #[.bool m4, .slice o4 n4 c4])).put (some 23) (.agg #[.bool m5, .slice o5 n5 c5])).put (some 24) (.agg #[.bool m6, .slice o6 n6 c6])).put (some 27) (.agg #[.bool m7, .slice o7 n7 c7])).put (some 31) (.agg #[.bool m8, .slice o8 n8 c8])).put (some 32) (.agg #[.bool m9, .slice o9 n9 c9])).put (some 33) (.slice (some ⟨gpq, 0, none⟩) 3 3)).put (some 34) (.agg #[.bool m10, .slice o10 n10 c10])).put (some 35) (.int .i64 t)).put (some 8) (.int .i64 t)) w' := by
  intro w5 m1 o1 n1 c1 m2 o2 n2 c2 m3 o3 n3 c3 m4 o4 n4 c4 m5 o5 n5 c5 m6 o6 n6 c6 m7 o7 n7 c7 m8 o8 n8 c8 m9 o9 n9 c9 m10 o10 n10 c10 gpq hB_0 pa_0 pb_0 pv_0 pu_0 hWq_0 f1_0 f2_0 f3_0 f4_0 f5_0 f6_0 f7_0 f8_0 f9_0 f10_0 pq_0 hgpq
  rw [HWq.out, HAq.out]
  (try simp only [Act.put]);try simp only [sA,sZ,sS]
  clear hWq_0
  refine wpAnyH_done (by kernel_rfl) ?_ _
  refine NoPanic.normal ?_
  go_wp2
  go_ret
  exact ⟨rfl, hB_0⟩
 simp only [HAq.out, Act.put, sA,sZ,sS] at stq_11t
 have stq_10t : ∀ (w' : World) (m1 : Bool) (o1 : Option Addr) (n1 : Nat) (c1 : Nat) (m2 : Bool) (o2 : Option Addr) (n2 : Nat) (c2 : Nat) (m3 : Bool) (o3 : Option Addr) (n3 : Nat) (c3 : Nat) (m4 : Bool) (o4 : Option Addr) (n4 : Nat) (c4 : Nat) (m5 : Bool) (o5 : Option Addr) (n5 : Nat) (c5 : Nat) (m6 : Bool) (o6 : Option Addr) (n6 : Nat) (c6 : Nat) (m7 : Bool) (o7 : Option Addr) (n7 : Nat) (c7 : Nat) (m8 : Bool) (o8 : Option Addr) (n8 : Nat) (c8 : Nat) (m9 : Bool) (o9 : Option Addr) (n9 : Nat) (c9 : Nat) (m10 : Bool) (o10 : Option Addr) (n10 : Nat) (c10 : Nat) (gpq : Nat), Below w.heap.size w w' → Box w' (w.heap.size) [.int .i64 a0, .int .i64 a1] → Box w' (w.heap.size + 1) [.int .i64 b0, .int .i64 b1] → Box w' (w.heap.size + 1 + 1) [.int .i64 v0, .int .i64 v1] → Box w' (w.heap.size + 1 + 1 + 1) [.int .i64 u0, .int .i64 u1] → Below w4.heap.size w4 w' → RNum w' (.agg #[.bool m1, .slice o1 n1 c1]) (2) (D0) → RNum w' (.agg #[.bool m2, .slice o2 n2 c2]) (2) (A0) → RNum w' (.agg #[.bool m3, .slice o3 n3 c3]) (4) (D0 * A0) → RNum w' (.agg #[.bool m4, .slice o4 n4 c4]) (2) (D1) → RNum w' (.agg #[.bool m5, .slice o5 n5 c5]) (2) (A1) → RNum w' (.agg #[.bool m6, .slice o6 n6 c6]) (4) (D1 * A1) → RNum w' (.agg #[.bool m7, .slice o7 n7 c7]) (2) (D2) → RNum w' (.agg #[.bool m8, .slice o8 n8 c8]) (2) (A2) → RNum w' (.agg #[.bool m9, .slice o9 n9 c9]) (4) (D2 * A2) → RNum w' (.agg #[.bool m10, .slice o10 n10 c10]) (7) (D0 * A0 + D1 * A1 + D2 * A2) → Box w' gpq [.bool m3, .slice o3 n3 c3, .bool m6, .slice o6 n6 c6, .bool m9, .slice o9 n9 c9] → w4.heap.size ≤ gpq → WWq 2 #[true, true, true, true, true, true, true, true, true, true, true, true, true, true, true, true, true, true, true, true, true, true, true, true, true, true, false, false] (((((((((((aq.put (some 11) (.agg #[.bool m1, .slice o1 n1 c1])).put (some 15) (.agg #[.bool m2, .slice o2 n2 c2])).put (some 16) (.agg #[.bool m3, .slice o3 n3 c3])).put (some 19) (.agg #[.bool m4, .slice o4 n4 c4])).put (some 23) (.agg #[.bool m5, .slice o5 n5 c5])).put (some 24) (.agg #[.bool m6, .slice o6 n6 c6])).put (some 27) (.agg #[.bool m7, .slice o7 n7 c7])).put (some 31) (.agg #[.bool m8, .slice o8 n8 c8])).put (some 32) (.agg #[.bool m9, .slice o9 n9 c9])).put (some 33) (.slice (some ⟨gpq, 0, none⟩) 3 3)).put (some 34) (.agg #[.bool m10, .slice o10 n10 c10])) w' := by
  intro w6 m1 o1 n1 c1 m2 o2 n2 c2 m3 o3 n3 c3 m4 o4 n4 c4 m5 o5 n5 c5 m6 o6 n6 c6 m7 o7 n7 c7 m8 o8 n8 c8 m9 o9 n9 c9 m10 o10 n10 c10 gpq hB_0 pa_0 pb_0 pv_0 pu_0 hWq_0 f1_0 f2_0 f3_0 f4_0 f5_0 f6_0 f7_0 f8_0 f9_0 f10_0 pq_0 hgpq
  rw [HWq.out, HAq.out]
  (try simp only [Act.put]);try simp only [sA,sZ,sS]
  refine reg_all1 26 ?_ (by kernel_rfl) ?_ (fun K hK => ?_)
  rotate_left 1
  ·simp only [gA,gS,gZ]; exact rfl
  ·go_simp
   refine (Sign_named _ 7 _ t _ (by omega) f10_0.num HT.out).mono ?_
   rintro e w7 ⟨rfl, hb7⟩
   have hB_1 := hB_0.trans (hb7.mono hB_0.size)
   have pa_1 := pa_0.below hb7
   have pb_1 := pb_0.below hb7
   have pv_1 := pv_0.below hb7
   have pu_1 := pu_0.below hb7
   have hWq_1 := hWq_0.trans (hb7.mono hWq_0.size)
   have f1_1 := f1_0.below hb7
   have f2_1 := f2_0.below hb7
   have f3_1 := f3_0.below hb7
   have f4_1 := f4_0.below hb7
   have f5_1 := f5_0.below hb7
   have f6_1 := f6_0.below hb7
   have f7_1 := f7_0.below hb7
   have f8_1 := f8_0.below hb7
   have f9_1 := f9_0.below hb7
   have f10_1 := f10_0.below hb7
   have pq_1 := pq_0.below hb7
   clear hb7 hB_0 pa_0 pb_0 pv_0 pu_0 hWq_0 f1_0 f2_0 f3_0 f4_0 f5_0 f6_0 f7_0 f8_0 f9_0 f10_0 pq_0
   go_wp2_with fail
   refine hK.out _ _ ⟨pa_1.c0, pa_1.c1, pb_1.c0, pb_1.c1, pv_1.c0, pv_1.c1, pu_1.c0, pu_1.c1⟩ (fun hHeld => ?_)
   clear hK K
   (try simp only [Act.put]);try simp only [sA,sZ,sS]
   refine rU 27 _ _ ?_
   (try simp only [Act.put]);try simp only [sA,sZ,sS]
   rw [← HWq.out]
   exact stq_11t _ m1 o1 n1 c1 m2 o2 n2 c2 m3 o3 n3 c3 m4 o4 n4 c4 m5 o5 n5 c5 m6 o6 n6 c6 m7 o7 n7 c7 m8 o8 n8 c8 m9 o9 n9 c9 m10 o10 n10 c10 gpq hB_1 pa_1 pb_1 pv_1 pu_1 hWq_1 f1_1 f2_1 f3_1 f4_1 f5_1 f6_1 f7_1 f8_1 f9_1 f10_1 pq_1 (by omega)
 try simp only [HAq.out, Act.put, sA,sZ,sS] at stq_10t
 have stq_9t : ∀ (w' : World) (m1 : Bool) (o1 : Option Addr) (n1 : Nat) (c1 : Nat) (m2 : Bool) (o2 : Option Addr) (n2 : Nat) (c2 : Nat) (m3 : Bool) (o3 : Option Addr) (n3 : Nat) (c3 : Nat) (m4 : Bool) (o4 : Option Addr) (n4 : Nat) (c4 : Nat) (m5 : Bool) (o5 : Option Addr) (n5 : Nat) (c5 : Nat) (m6 : Bool) (o6 : Option Addr) (n6 : Nat) (c6 : Nat) (m7 : Bool) (o7 : Option Addr) (n7 : Nat) (c7 : Nat) (m8 : Bool) (o8 : Option Addr) (n8 : Nat) (c8 : Nat) (m9 : Bool) (o9 : Option Addr) (n9 : Nat) (c9 : Nat) (gpq : Nat), Below w.heap.size w w' → Box w' (w.heap.size) [.int .i64 a0, .int .i64 a1] → Box w' (w.heap.size + 1) [.int .i64 b0, .int .i64 b1] → Box w' (w.heap.size + 1 + 1) [.int .i64 v0, .int .i64 v1] → Box w' (w.heap.size + 1 + 1 + 1) [.int .i64 u0, .int .i64 u1] → Below w4.heap.size w4 w' → RNum w' (.agg #[.bool m1, .slice o1 n1 c1]) (2) (D0) → RNum w' (.agg #[.bool m2, .slice o2 n2 c2]) (2) (A0) → RNum w' (.agg #[.bool m3, .slice o3 n3 c3]) (4) (D0 * A0) → RNum w' (.agg #[.bool m4, .slice o4 n4 c4]) (2) (D1) → RNum w' (.agg #[.bool m5, .slice o5 n5 c5]) (2) (A1) → RNum w' (.agg #[.bool m6, .slice o6 n6 c6]) (4) (D1 * A1) → RNum w' (.agg #[.bool m7, .slice o7 n7 c7]) (2) (D2) → RNum w' (.agg #[.bool m8, .slice o8 n8 c8]) (2) (A2) → RNum w' (.agg #[.bool m9, .slice o9 n9 c9]) (4) (D2 * A2) → Box w' gpq [.bool m3, .slice o3 n3 c3, .bool m6, .slice o6 n6 c6, .bool m9, .slice o9 n9 c9] → w4.heap.size ≤ gpq → WWq 3 #[true, true, true, true, true, true, true, true, true, true, true, true, true, true, true, true, true, true, true, true, true, true, true, true, true, false, false, false] ((((((((((aq.put (some 11) (.agg #[.bool m1, .slice o1 n1 c1])).put (some 15) (.agg #[.bool m2, .slice o2 n2 c2])).put (some 16) (.agg #[.bool m3, .slice o3 n3 c3])).put (some 19) (.agg #[.bool m4, .slice o4 n4 c4])).put (some 23) (.agg #[.bool m5, .slice o5 n5 c5])).put (some 24) (.agg #[.bool m6, .slice o6 n6 c6])).put (some 27) (.agg #[.bool m7, .slice o7 n7 c7])).put (some 31) (.agg #[.bool m8, .slice o8 n8 c8])).put (some 32) (.agg #[.bool m9, .slice o9 n9 c9])).put (some 33) (.slice (some ⟨gpq, 0, none⟩) 3 3)) w' := by
  intro w8 m1 o1 n1 c1 m2 o2 n2 c2 m3 o3 n3 c3 m4 o4 n4 c4 m5 o5 n5 c5 m6 o6 n6 c6 m7 o7 n7 c7 m8 o8 n8 c8 m9 o9 n9 c9 gpq hB_0 pa_0 pb_0 pv_0 pu_0 hWq_0 f1_0 f2_0 f3_0 f4_0 f5_0 f6_0 f7_0 f8_0 f9_0 pq_0 hgpq
  rw [HWq.out, HAq.out]
  (try simp only [Act.put]);try simp only [sA,sZ,sS]
  refine reg_all1 25 ?_ (by kernel_rfl) ?_ (fun K hK => ?_)
  rotate_left 1
  ·simp only [gA,gS,gZ]; exact rfl
  ·go_simp
   refine (sum_three (some ⟨gpq, 0, none⟩) 3 4 4 4 _ _ _ _ (by omega) (by omega) (by omega) (nums3_box pq_0 f3_0.num f6_0.num f9_0.num)).mono ?_
   rintro e w9 ⟨m10, o10, n10, c10, rfl, f10_0, hb9⟩
   have hB_1 := hB_0.trans (hb9.mono hB_0.size)
   have pa_1 := pa_0.below hb9
   have pb_1 := pb_0.below hb9
   have pv_1 := pv_0.below hb9
   have pu_1 := pu_0.below hb9
   have hWq_1 := hWq_0.trans (hb9.mono hWq_0.size)
   have f1_1 := f1_0.below hb9
   have f2_1 := f2_0.below hb9
   have f3_1 := f3_0.below hb9
   have f4_1 := f4_0.below hb9
   have f5_1 := f5_0.below hb9
   have f6_1 := f6_0.below hb9
   have f7_1 := f7_0.below hb9
   have f8_1 := f8_0.below hb9
   have f9_1 := f9_0.below hb9
   have pq_1 := pq_0.below hb9
   clear hb9 hB_0 pa_0 pb_0 pv_0 pu_0 hWq_0 f1_0 f2_0 f3_0 f4_0 f5_0 f6_0 f7_0 f8_0 f9_0 pq_0
   go_wp2_with fail
   refine hK.out _ _ ⟨pa_1.c0, pa_1.c1, pb_1.c0, pb_1.c1, pv_1.c0, pv_1.c1, pu_1.c0, pu_1.c1⟩ (fun hHeld => ?_)
   clear hK K
   (try simp only [Act.put]);try simp only [sA,sZ,sS]
   rw [← HWq.out]
   exact stq_10t _ m1 o1 n1 c1 m2 o2 n2 c2 m3 o3 n3 c3 m4 o4 n4 c4 m5 o5 n5 c5 m6 o6 n6 c6 m7 o7 n7 c7 m8 o8 n8 c8 m9 o9 n9 c9 m10 o10 n10 c10 gpq hB_1 pa_1 pb_1 pv_1 pu_1 hWq_1 f1_1 f2_1 f3_1 f4_1 f5_1 f6_1 f7_1 f8_1 f9_1 f10_0 pq_1 (by omega)
 try simp only [HAq.out, Act.put, sA,sZ,sS] at stq_9t
 have stq_9f : ∀ (w' : World) (m1 : Bool) (o1 : Option Addr) (n1 : Nat) (c1 : Nat) (m2 : Bool) (o2 : Option Addr) (n2 : Nat) (c2 : Nat) (m3 : Bool) (o3 : Option Addr) (n3 : Nat) (c3 : Nat) (m4 : Bool) (o4 : Option Addr) (n4 : Nat) (c4 : Nat) (m5 : Bool) (o5 : Option Addr) (n5 : Nat) (c5 : Nat) (m6 : Bool) (o6 : Option Addr) (n6 : Nat) (c6 : Nat) (m7 : Bool) (o7 : Option Addr) (n7 : Nat) (c7 : Nat) (m8 : Bool) (o8 : Option Addr) (n8 : Nat) (c8 : Nat) (m9 : Bool) (o9 : Option Addr) (n9 : Nat) (c9 : Nat), Below w.heap.size w w' → Box w' (w.heap.size) [.int .i64 a0, .int .i64 a1] → Box w' (w.heap.size + 1) [.int .i64 b0, .int .i64 b1] → Box w' (w.heap.size + 1 + 1) [.int .i64 v0, .int .i64 v1] → Box w' (w.heap.size + 1 + 1 + 1) [.int .i64 u0, .int .i64 u1] → Below w4.heap.size w4 w' → RNum w' (.agg #[.bool m1, .slice o1 n1 c1]) (2) (D0) → RNum w' (.agg #[.bool m2, .slice o2 n2 c2]) (2) (A0) → RNum w' (.agg #[.bool m3, .slice o3 n3 c3]) (4) (D0 * A0) → RNum w' (.agg #[.bool m4, .slice o4 n4 c4]) (2) (D1) → RNum w' (.agg #[.bool m5, .slice o5 n5 c5]) (2) (A1) → RNum w' (.agg #[.bool m6, .slice o6 n6 c6]) (4) (D1 * A1) → RNum w' (.agg #[.bool m7, .slice o7 n7 c7]) (2) (D2) → RNum w' (.agg #[.bool m8, .slice o8 n8 c8]) (2) (A2) → RNum w' (.agg #[.bool m9, .slice o9 n9 c9]) (4) (D2 * A2) → WWq 4 #[true, true, true, true, true, true, true, true, true, true, true, true, true, true, true, true, true, true, true, true, true, true, true, true, false, false, false, false] (((((((((aq.put (some 11) (.agg #[.bool m1, .slice o1 n1 c1])).put (some 15) (.agg #[.bool m2, .slice o2 n2 c2])).put (some 16) (.agg #[.bool m3, .slice o3 n3 c3])).put (some 19) (.agg #[.bool m4, .slice o4 n4 c4])).put (some 23) (.agg #[.bool m5, .slice o5 n5 c5])).put (some 24) (.agg #[.bool m6, .slice o6 n6 c6])).put (some 27) (.agg #[.bool m7, .slice o7 n7 c7])).put (some 31) (.agg #[.bool m8, .slice o8 n8 c8])).put (some 32) (.agg #[.bool m9, .slice o9 n9 c9])) w' := by
  intro w10 m1 o1 n1 c1 m2 o2 n2 c2 m3 o3 n3 c3 m4 o4 n4 c4 m5 o5 n5 c5 m6 o6 n6 c6 m7 o7 n7 c7 m8 o8 n8 c8 m9 o9 n9 c9 hB_0 pa_0 pb_0 pv_0 pu_0 hWq_0 f1_0 f2_0 f3_0 f4_0 f5_0 f6_0 f7_0 f8_0 f9_0
  rw [HWq.out, HAq.out]
  (try simp only [Act.put]);try simp only [sA,sZ,sS]
  refine reg_all1 24 ?_ (by kernel_rfl) ?_ (fun K hK => ?_)
  rotate_left 1
  ·simp only [gA,gS,gZ]; exact rfl
  ·go_simp
   have hgn : w4.heap.size ≤ w10.heap.size := hWq_0.size
   obtain ⟨w11, hww11, pq_0, hb11, -⟩ := new_box w10 _ rfl [.bool m3, .slice o3 n3 c3, .bool m6, .slice o6 n6 c6, .bool m9, .slice o9 n9 c9] 101
   rw [hww11]
   have hB_1 := hB_0.trans (hb11.mono hB_0.size)
   have pa_1 := pa_0.below hb11
   have pb_1 := pb_0.below hb11
   have pv_1 := pv_0.below hb11
   have pu_1 := pu_0.below hb11
   have hWq_1 := hWq_0.trans (hb11.mono hWq_0.size)
   have f1_1 := f1_0.below hb11
   have f2_1 := f2_0.below hb11
   have f3_1 := f3_0.below hb11
   have f4_1 := f4_0.below hb11
   have f5_1 := f5_0.below hb11
   have f6_1 := f6_0.below hb11
   have f7_1 := f7_0.below hb11
   have f8_1 := f8_0.below hb11
   have f9_1 := f9_0.below hb11
   clear hb11 hB_0 pa_0 pb_0 pv_0 pu_0 hWq_0 f1_0 f2_0 f3_0 f4_0 f5_0 f6_0 f7_0 f8_0 f9_0
   refine hK.out _ _ ⟨pa_1.c0, pa_1.c1, pb_1.c0, pb_1.c1, pv_1.c0, pv_1.c1, pu_1.c0, pu_1.c1⟩ (fun hHeld => ?_)
   clear hK K
   (try simp only [Act.put]);try simp only [sA,sZ,sS]
   rw [← HWq.out]
   exact stq_9t _ m1 o1 n1 c1 m2 o2 n2 c2 m3 o3 n3 c3 m4 o4 n4 c4 m5 o5 n5 c5 m6 o6 n6 c6 m7 o7 n7 c7 m8 o8 n8 c8 m9 o9 n9 c9 w10.heap.size hB_1 pa_1 pb_1 pv_1 pu_1 hWq_1 f1_1 f2_1 f3_1 f4_1 f5_1 f6_1 f7_1 f8_1 f9_1 pq_0 (by omega)
 try simp only [HAq.out, Act.put, sA,sZ,sS] at stq_9f
 have stq_8f : ∀ (w' : World) (m1 : Bool) (o1 : Option Addr) (n1 : Nat) (c1 : Nat) (m2 : Bool) (o2 : Option Addr) (n2 : Nat) (c2 : Nat) (m3 : Bool) (o3 : Option Addr) (n3 : Nat) (c3 : Nat) (m4 : Bool) (o4 : Option Addr) (n4 : Nat) (c4 : Nat) (m5 : Bool) (o5 : Option Addr) (n5 : Nat) (c5 : Nat) (m6 : Bool) (o6 : Option Addr) (n6 : Nat) (c6 : Nat) (m7 : Bool) (o7 : Option Addr) (n7 : Nat) (c7 : Nat) (m8 : Bool) (o8 : Option Addr) (n8 : Nat) (c8 : Nat), Below w.heap.size w w' → Box w' (w.heap.size) [.int .i64 a0, .int .i64 a1] → Box w' (w.heap.size + 1) [.int .i64 b0, .int .i64 b1] → Box w' (w.heap.size + 1 + 1) [.int .i64 v0, .int .i64 v1] → Box w' (w.heap.size + 1 + 1 + 1) [.int .i64 u0, .int .i64 u1] → Below w4.heap.size w4 w' → RNum w' (.agg #[.bool m1, .slice o1 n1 c1]) (2) (D0) → RNum w' (.agg #[.bool m2, .slice o2 n2 c2]) (2) (A0) → RNum w' (.agg #[.bool m3, .slice o3 n3 c3]) (4) (D0 * A0) → RNum w' (.agg #[.bool m4, .slice o4 n4 c4]) (2) (D1) → RNum w' (.agg #[.bool m5, .slice o5 n5 c5]) (2) (A1) → RNum w' (.agg #[.bool m6, .slice o6 n6 c6]) (4) (D1 * A1) → RNum w' (.agg #[.bool m7, .slice o7 n7 c7]) (2) (D2) → RNum w' (.agg #[.bool m8, .slice o8 n8 c8]) (2) (A2) → WWq 5 #[true, true, true, true, true, true, true, true, true, true, true, true, true, true, true, true, true, true, true, true, true, true, true, false, false, false, false, false] ((((((((aq.put (some 11) (.agg #[.bool m1, .slice o1 n1 c1])).put (some 15) (.agg #[.bool m2, .slice o2 n2 c2])).put (some 16) (.agg #[.bool m3, .slice o3 n3 c3])).put (some 19) (.agg #[.bool m4, .slice o4 n4 c4])).put (some 23) (.agg #[.bool m5, .slice o5 n5 c5])).put (some 24) (.agg #[.bool m6, .slice o6 n6 c6])).put (some 27) (.agg #[.bool m7, .slice o7 n7 c7])).put (some 31) (.agg #[.bool m8, .slice o8 n8 c8])) w' := by
  intro w12 m1 o1 n1 c1 m2 o2 n2 c2 m3 o3 n3 c3 m4 o4 n4 c4 m5 o5 n5 c5 m6 o6 n6 c6 m7 o7 n7 c7 m8 o8 n8 c8 hB_0 pa_0 pb_0 pv_0 pu_0 hWq_0 f1_0 f2_0 f3_0 f4_0 f5_0 f6_0 f7_0 f8_0
  rw [HWq.out, HAq.out]
  (try simp only [Act.put]);try simp only [sA,sZ,sS]
  refine reg_all1 23 ?_ (by kernel_rfl) ?_ (fun K hK => ?_)
  rotate_left 1
  ·simp only [gA,gS,gZ]; exact rfl
  ·go_simp
   refine (nMul_any _ _ 2 2 D2 A2 _ (by omega) (by omega) f7_0.num f8_0.num).mono ?_
   rintro e w13 ⟨m9, o9, n9, c9, rfl, f9_0, hb13⟩
   have hB_1 := hB_0.trans (hb13.mono hB_0.size)
   have pa_1 := pa_0.below hb13
   have pb_1 := pb_0.below hb13
   have pv_1 := pv_0.below hb13
   have pu_1 := pu_0.below hb13
   have hWq_1 := hWq_0.trans (hb13.mono hWq_0.size)
   have f1_1 := f1_0.below hb13
   have f2_1 := f2_0.below hb13
   have f3_1 := f3_0.below hb13
   have f4_1 := f4_0.below hb13
   have f5_1 := f5_0.below hb13
   have f6_1 := f6_0.below hb13
   have f7_1 := f7_0.below hb13
   have f8_1 := f8_0.below hb13
   clear hb13 hB_0 pa_0 pb_0 pv_0 pu_0 hWq_0 f1_0 f2_0 f3_0 f4_0 f5_0 f6_0 f7_0 f8_0
   go_wp2_with fail
   refine hK.out _ _ ⟨pa_1.c0, pa_1.c1, pb_1.c0, pb_1.c1, pv_1.c0, pv_1.c1, pu_1.c0, pu_1.c1⟩ (fun hHeld => ?_)
   clear hK K
   (try simp only [Act.put]);try simp only [sA,sZ,sS]
   rw [← HWq.out]
   exact stq_9f _ m1 o1 n1 c1 m2 o2 n2 c2 m3 o3 n3 c3 m4 o4 n4 c4 m5 o5 n5 c5 m6 o6 n6 c6 m7 o7 n7 c7 m8 o8 n8 c8 m9 o9 n9 c9 hB_1 pa_1 pb_1 pv_1 pu_1 hWq_1 f1_1 f2_1 f3_1 f4_1 f5_1 f6_1 f7_1 f8_1 f9_0
 try simp only [HAq.out, Act.put, sA,sZ,sS] at stq_8f
 have stq_7f : ∀ (w' : World) (m1 : Bool) (o1 : Option Addr) (n1 : Nat) (c1 : Nat) (m2 : Bool) (o2 : Option Addr) (n2 : Nat) (c2 : Nat) (m3 : Bool) (o3 : Option Addr) (n3 : Nat) (c3 : Nat) (m4 : Bool) (o4 : Option Addr) (n4 : Nat) (c4 : Nat) (m5 : Bool) (o5 : Option Addr) (n5 : Nat) (c5 : Nat) (m6 : Bool) (o6 : Option Addr) (n6 : Nat) (c6 : Nat) (m7 : Bool) (o7 : Option Addr) (n7 : Nat) (c7 : Nat), Below w.heap.size w w' → Box w' (w.heap.size) [.int .i64 a0, .int .i64 a1] → Box w' (w.heap.size + 1) [.int .i64 b0, .int .i64 b1] → Box w' (w.heap.size + 1 + 1) [.int .i64 v0, .int .i64 v1] → Box w' (w.heap.size + 1 + 1 + 1) [.int .i64 u0, .int .i64 u1] → Below w4.heap.size w4 w' → RNum w' (.agg #[.bool m1, .slice o1 n1 c1]) (2) (D0) → RNum w' (.agg #[.bool m2, .slice o2 n2 c2]) (2) (A0) → RNum w' (.agg #[.bool m3, .slice o3 n3 c3]) (4) (D0 * A0) → RNum w' (.agg #[.bool m4, .slice o4 n4 c4]) (2) (D1) → RNum w' (.agg #[.bool m5, .slice o5 n5 c5]) (2) (A1) → RNum w' (.agg #[.bool m6, .slice o6 n6 c6]) (4) (D1 * A1) → RNum w' (.agg #[.bool m7, .slice o7 n7 c7]) (2) (D2) → WWq 6 #[true, true, true, true, true, true, true, true, true, true, true, true, true, true, true, true, true, true, true, true, true, true, false, false, false, false, false, false] (((((((aq.put (some 11) (.agg #[.bool m1, .slice o1 n1 c1])).put (some 15) (.agg #[.bool m2, .slice o2 n2 c2])).put (some 16) (.agg #[.bool m3, .slice o3 n3 c3])).put (some 19) (.agg #[.bool m4, .slice o4 n4 c4])).put (some 23) (.agg #[.bool m5, .slice o5 n5 c5])).put (some 24) (.agg #[.bool m6, .slice o6 n6 c6])).put (some 27) (.agg #[.bool m7, .slice o7 n7 c7])) w' := by
  intro w14 m1 o1 n1 c1 m2 o2 n2 c2 m3 o3 n3 c3 m4 o4 n4 c4 m5 o5 n5 c5 m6 o6 n6 c6 m7 o7 n7 c7 hB_0 pa_0 pb_0 pv_0 pu_0 hWq_0 f1_0 f2_0 f3_0 f4_0 f5_0 f6_0 f7_0
  rw [HWq.out, HAq.out]
  (try simp only [Act.put]);try simp only [sA,sZ,sS]
  refine reg_all1 22 ?_ (by kernel_rfl) ?_ (fun K hK => ?_)
  rotate_left 1
  ·simp only [gA,gS,gZ]; exact rfl
  ·go_simp
   refine (K7.out _).mono ?_
   rintro e w15 ⟨m8, o8, n8, c8, rfl, f8_0, hb15⟩
   have hB_1 := hB_0.trans (hb15.mono hB_0.size)
   have pa_1 := pa_0.below hb15
   have pb_1 := pb_0.below hb15
   have pv_1 := pv_0.below hb15
   have pu_1 := pu_0.below hb15
   have hWq_1 := hWq_0.trans (hb15.mono hWq_0.size)
   have f1_1 := f1_0.below hb15
   have f2_1 := f2_0.below hb15
   have f3_1 := f3_0.below hb15
   have f4_1 := f4_0.below hb15
   have f5_1 := f5_0.below hb15
   have f6_1 := f6_0.below hb15
   have f7_1 := f7_0.below hb15
   clear hb15 hB_0 pa_0 pb_0 pv_0 pu_0 hWq_0 f1_0 f2_0 f3_0 f4_0 f5_0 f6_0 f7_0
   go_wp2_with fail
   refine hK.out _ _ ⟨pa_1.c0, pa_1.c1, pb_1.c0, pb_1.c1, pv_1.c0, pv_1.c1, pu_1.c0, pu_1.c1⟩ (fun hHeld => ?_)
   clear hK K
   (try simp only [Act.put]);try simp only [sA,sZ,sS]
   rw [← HWq.out]
   exact stq_8f _ m1 o1 n1 c1 m2 o2 n2 c2 m3 o3 n3 c3 m4 o4 n4 c4 m5 o5 n5 c5 m6 o6 n6 c6 m7 o7 n7 c7 m8 o8 n8 c8 hB_1 pa_1 pb_1 pv_1 pu_1 hWq_1 f1_1 f2_1 f3_1 f4_1 f5_1 f6_1 f7_1 f8_0
 try simp only [HAq.out, Act.put, sA,sZ,sS] at stq_7f
 have stq_6f : ∀ (w' : World) (m1 : Bool) (o1 : Option Addr) (n1 : Nat) (c1 : Nat) (m2 : Bool) (o2 : Option Addr) (n2 : Nat) (c2 : Nat) (m3 : Bool) (o3 : Option Addr) (n3 : Nat) (c3 : Nat) (m4 : Bool) (o4 : Option Addr) (n4 : Nat) (c4 : Nat) (m5 : Bool) (o5 : Option Addr) (n5 : Nat) (c5 : Nat) (m6 : Bool) (o6 : Option Addr) (n6 : Nat) (c6 : Nat), Below w.heap.size w w' → Box w' (w.heap.size) [.int .i64 a0, .int .i64 a1] → Box w' (w.heap.size + 1) [.int .i64 b0, .int .i64 b1] → Box w' (w.heap.size + 1 + 1) [.int .i64 v0, .int .i64 v1] → Box w' (w.heap.size + 1 + 1 + 1) [.int .i64 u0, .int .i64 u1] → Below w4.heap.size w4 w' → RNum w' (.agg #[.bool m1, .slice o1 n1 c1]) (2) (D0) → RNum w' (.agg #[.bool m2, .slice o2 n2 c2]) (2) (A0) → RNum w' (.agg #[.bool m3, .slice o3 n3 c3]) (4) (D0 * A0) → RNum w' (.agg #[.bool m4, .slice o4 n4 c4]) (2) (D1) → RNum w' (.agg #[.bool m5, .slice o5 n5 c5]) (2) (A1) → RNum w' (.agg #[.bool m6, .slice o6 n6 c6]) (4) (D1 * A1) → WWq 7 #[true, true, true, true, true, true, true, true, true, true, true, true, true, true, true, true, true, true, false, true, true, true, false, false, false, false, false, false] ((((((aq.put (some 11) (.agg #[.bool m1, .slice o1 n1 c1])).put (some 15) (.agg #[.bool m2, .slice o2 n2 c2])).put (some 16) (.agg #[.bool m3, .slice o3 n3 c3])).put (some 19) (.agg #[.bool m4, .slice o4 n4 c4])).put (some 23) (.agg #[.bool m5, .slice o5 n5 c5])).put (some 24) (.agg #[.bool m6, .slice o6 n6 c6])) w' := by
  intro w16 m1 o1 n1 c1 m2 o2 n2 c2 m3 o3 n3 c3 m4 o4 n4 c4 m5 o5 n5 c5 m6 o6 n6 c6 hB_0 pa_0 pb_0 pv_0 pu_0 hWq_0 f1_0 f2_0 f3_0 f4_0 f5_0 f6_0
  rw [HWq.out, HAq.out]
  (try simp only [Act.put]);try simp only [sA,sZ,sS]
  refine reg_all1 18 ?_ (by kernel_rfl) ?_ (fun K hK => ?_)
  rotate_left 1
  ·simp only [gA,gS,gZ]; exact rfl
  ·go_simp
   refine (K6.out _).mono ?_
   rintro e w17 ⟨m7, o7, n7, c7, rfl, f7_0, hb17⟩
   have hB_1 := hB_0.trans (hb17.mono hB_0.size)
   have pa_1 := pa_0.below hb17
   have pb_1 := pb_0.below hb17
   have pv_1 := pv_0.below hb17
   have pu_1 := pu_0.below hb17
   have hWq_1 := hWq_0.trans (hb17.mono hWq_0.size)
   have f1_1 := f1_0.below hb17
   have f2_1 := f2_0.below hb17
   have f3_1 := f3_0.below hb17
   have f4_1 := f4_0.below hb17
   have f5_1 := f5_0.below hb17
   have f6_1 := f6_0.below hb17
   clear hb17 hB_0 pa_0 pb_0 pv_0 pu_0 hWq_0 f1_0 f2_0 f3_0 f4_0 f5_0 f6_0
   go_wp2_with fail
   refine hK.out _ _ ⟨pa_1.c0, pa_1.c1, pb_1.c0, pb_1.c1, pv_1.c0, pv_1.c1, pu_1.c0, pu_1.c1⟩ (fun hHeld => ?_)
   clear hK K
   (try simp only [Act.put]);try simp only [sA,sZ,sS]
   rw [← HWq.out]
   exact stq_7f _ m1 o1 n1 c1 m2 o2 n2 c2 m3 o3 n3 c3 m4 o4 n4 c4 m5 o5 n5 c5 m6 o6 n6 c6 m7 o7 n7 c7 hB_1 pa_1 pb_1 pv_1 pu_1 hWq_1 f1_1 f2_1 f3_1 f4_1 f5_1 f6_1 f7_0
 try simp only [HAq.out, Act.put, sA,sZ,sS] at stq_6f
 have stq_5f : ∀ (w' : World) (m1 : Bool) (o1 : Option Addr) (n1 : Nat) (c1 : Nat) (m2 : Bool) (o2 : Option Addr) (n2 : Nat) (c2 : Nat) (m3 : Bool) (o3 : Option Addr) (n3 : Nat) (c3 : Nat) (m4 : Bool) (o4 : Option Addr) (n4 : Nat) (c4 : Nat) (m5 : Bool) (o5 : Option Addr) (n5 : Nat) (c5 : Nat), Below w.heap.size w w' → Box w' (w.heap.size) [.int .i64 a0, .int .i64 a1] → Box w' (w.heap.size + 1) [.int .i64 b0, .int .i64 b1] → Box w' (w.heap.size + 1 + 1) [.int .i64 v0, .int .i64 v1] → Box w' (w.heap.size + 1 + 1 + 1) [.int .i64 u0, .int .i64 u1] → Below w4.heap.size w4 w' → RNum w' (.agg #[.bool m1, .slice o1 n1 c1]) (2) (D0) → RNum w' (.agg #[.bool m2, .slice o2 n2 c2]) (2) (A0) → RNum w' (.agg #[.bool m3, .slice o3 n3 c3]) (4) (D0 * A0) → RNum w' (.agg #[.bool m4, .slice o4 n4 c4]) (2) (D1) → RNum w' (.agg #[.bool m5, .slice o5 n5 c5]) (2) (A1) → WWq 8 #[true, true, true, true, true, true, true, true, true, true, true, true, true, true, true, false, true, true, false, true, true, true, false, false, false, false, false, false] (((((aq.put (some 11) (.agg #[.bool m1, .slice o1 n1 c1])).put (some 15) (.agg #[.bool m2, .slice o2 n2 c2])).put (some 16) (.agg #[.bool m3, .slice o3 n3 c3])).put (some 19) (.agg #[.bool m4, .slice o4 n4 c4])).put (some 23) (.agg #[.bool m5, .slice o5 n5 c5])) w' := by
  intro w18 m1 o1 n1 c1 m2 o2 n2 c2 m3 o3 n3 c3 m4 o4 n4 c4 m5 o5 n5 c5 hB_0 pa_0 pb_0 pv_0 pu_0 hWq_0 f1_0 f2_0 f3_0 f4_0 f5_0
  rw [HWq.out, HAq.out]
  (try simp only [Act.put]);try simp only [sA,sZ,sS]
  refine reg_all1 15 ?_ (by kernel_rfl) ?_ (fun K hK => ?_)
  rotate_left 1
  ·simp only [gA,gS,gZ]; exact rfl
  ·go_simp
   refine (nMul_any _ _ 2 2 D1 A1 _ (by omega) (by omega) f4_0.num f5_0.num).mono ?_
   rintro e w19 ⟨m6, o6, n6, c6, rfl, f6_0, hb19⟩
   have hB_1 := hB_0.trans (hb19.mono hB_0.size)
   have pa_1 := pa_0.below hb19
   have pb_1 := pb_0.below hb19
   have pv_1 := pv_0.below hb19
   have pu_1 := pu_0.below hb19
   have hWq_1 := hWq_0.trans (hb19.mono hWq_0.size)
   have f1_1 := f1_0.below hb19
   have f2_1 := f2_0.below hb19
   have f3_1 := f3_0.below hb19
   have f4_1 := f4_0.below hb19
   have f5_1 := f5_0.below hb19
   clear hb19 hB_0 pa_0 pb_0 pv_0 pu_0 hWq_0 f1_0 f2_0 f3_0 f4_0 f5_0
   go_wp2_with fail
   refine hK.out _ _ ⟨pa_1.c0, pa_1.c1, pb_1.c0, pb_1.c1, pv_1.c0, pv_1.c1, pu_1.c0, pu_1.c1⟩ (fun hHeld => ?_)
   clear hK K
   (try simp only [Act.put]);try simp only [sA,sZ,sS]
   rw [← HWq.out]
   exact stq_6f _ m1 o1 n1 c1 m2 o2 n2 c2 m3 o3 n3 c3 m4 o4 n4 c4 m5 o5 n5 c5 m6 o6 n6 c6 hB_1 pa_1 pb_1 pv_1 pu_1 hWq_1 f1_1 f2_1 f3_1 f4_1 f5_1 f6_0
 try simp only [HAq.out, Act.put, sA,sZ,sS] at stq_5f
 have stq_4f : ∀ (w' : World) (m1 : Bool) (o1 : Option Addr) (n1 : Nat) (c1 : Nat) (m2 : Bool) (o2 : Option Addr) (n2 : Nat) (c2 : Nat) (m3 : Bool) (o3 : Option Addr) (n3 : Nat) (c3 : Nat) (m4 : Bool) (o4 : Option Addr) (n4 : Nat) (c4 : Nat), Below w.heap.size w w' → Box w' (w.heap.size) [.int .i64 a0, .int .i64 a1] → Box w' (w.heap.size + 1) [.int .i64 b0, .int .i64 b1] → Box w' (w.heap.size + 1 + 1) [.int .i64 v0, .int .i64 v1] → Box w' (w.heap.size + 1 + 1 + 1) [.int .i64 u0, .int .i64 u1] → Below w4.heap.size w4 w' → RNum w' (.agg #[.bool m1, .slice o1 n1 c1]) (2) (D0) → RNum w' (.agg #[.bool m2, .slice o2 n2 c2]) (2) (A0) → RNum w' (.agg #[.bool m3, .slice o3 n3 c3]) (4) (D0 * A0) → RNum w' (.agg #[.bool m4, .slice o4 n4 c4]) (2) (D1) → WWq 9 #[true, true, true, true, true, true, true, true, true, true, true, true, true, true, false, false, true, true, false, true, true, true, false, false, false, false, false, false] ((((aq.put (some 11) (.agg #[.bool m1, .slice o1 n1 c1])).put (some 15) (.agg #[.bool m2, .slice o2 n2 c2])).put (some 16) (.agg #[.bool m3, .slice o3 n3 c3])).put (some 19) (.agg #[.bool m4, .slice o4 n4 c4])) w' := by
  intro w20 m1 o1 n1 c1 m2 o2 n2 c2 m3 o3 n3 c3 m4 o4 n4 c4 hB_0 pa_0 pb_0 pv_0 pu_0 hWq_0 f1_0 f2_0 f3_0 f4_0
  rw [HWq.out, HAq.out]
  (try simp only [Act.put]);try simp only [sA,sZ,sS]
  refine reg_all1 14 ?_ (by kernel_rfl) ?_ (fun K hK => ?_)
  rotate_left 1
  ·simp only [gA,gS,gZ]; exact rfl
  ·go_simp
   refine (K4.out _).mono ?_
   rintro e w21 ⟨m5, o5, n5, c5, rfl, f5_0, hb21⟩
   have hB_1 := hB_0.trans (hb21.mono hB_0.size)
   have pa_1 := pa_0.below hb21
   have pb_1 := pb_0.below hb21
   have pv_1 := pv_0.below hb21
   have pu_1 := pu_0.below hb21
   have hWq_1 := hWq_0.trans (hb21.mono hWq_0.size)
   have f1_1 := f1_0.below hb21
   have f2_1 := f2_0.below hb21
   have f3_1 := f3_0.below hb21
   have f4_1 := f4_0.below hb21
   clear hb21 hB_0 pa_0 pb_0 pv_0 pu_0 hWq_0 f1_0 f2_0 f3_0 f4_0
   go_wp2_with fail
   refine hK.out _ _ ⟨pa_1.c0, pa_1.c1, pb_1.c0, pb_1.c1, pv_1.c0, pv_1.c1, pu_1.c0, pu_1.c1⟩ (fun hHeld => ?_)
   clear hK K
   (try simp only [Act.put]);try simp only [sA,sZ,sS]
   rw [← HWq.out]
   exact stq_5f _ m1 o1 n1 c1 m2 o2 n2 c2 m3 o3 n3 c3 m4 o4 n4 c4 m5 o5 n5 c5 hB_1 pa_1 pb_1 pv_1 pu_1 hWq_1 f1_1 f2_1 f3_1 f4_1 f5_0
 try simp only [HAq.out, Act.put, sA,sZ,sS] at stq_4f
 have stq_3f : ∀ (w' : World) (m1 : Bool) (o1 : Option Addr) (n1 : Nat) (c1 : Nat) (m2 : Bool) (o2 : Option Addr) (n2 : Nat) (c2 : Nat) (m3 : Bool) (o3 : Option Addr) (n3 : Nat) (c3 : Nat), Below w.heap.size w w' → Box w' (w.heap.size) [.int .i64 a0, .int .i64 a1] → Box w' (w.heap.size + 1) [.int .i64 b0, .int .i64 b1] → Box w' (w.heap.size + 1 + 1) [.int .i64 v0, .int .i64 v1] → Box w' (w.heap.size + 1 + 1 + 1) [.int .i64 u0, .int .i64 u1] → Below w4.heap.size w4 w' → RNum w' (.agg #[.bool m1, .slice o1 n1 c1]) (2) (D0) → RNum w' (.agg #[.bool m2, .slice o2 n2 c2]) (2) (A0) → RNum w' (.agg #[.bool m3, .slice o3 n3 c3]) (4) (D0 * A0) → WWq 10 #[true, true, true, true, true, true, true, true, true, true, false, true, true, true, false, false, true, true, false, true, true, true, false, false, false, false, false, false] (((aq.put (some 11) (.agg #[.bool m1, .slice o1 n1 c1])).put (some 15) (.agg #[.bool m2, .slice o2 n2 c2])).put (some 16) (.agg #[.bool m3, .slice o3 n3 c3])) w' := by
  intro w22 m1 o1 n1 c1 m2 o2 n2 c2 m3 o3 n3 c3 hB_0 pa_0 pb_0 pv_0 pu_0 hWq_0 f1_0 f2_0 f3_0
  rw [HWq.out, HAq.out]
  (try simp only [Act.put]);try simp only [sA,sZ,sS]
  refine reg_all1 10 ?_ (by kernel_rfl) ?_ (fun K hK => ?_)
  rotate_left 1
  ·simp only [gA,gS,gZ]; exact rfl
  ·go_simp
   refine (K3.out _).mono ?_
   rintro e w23 ⟨m4, o4, n4, c4, rfl, f4_0, hb23⟩
   have hB_1 := hB_0.trans (hb23.mono hB_0.size)
   have pa_1 := pa_0.below hb23
   have pb_1 := pb_0.below hb23
   have pv_1 := pv_0.below hb23
   have pu_1 := pu_0.below hb23
   have hWq_1 := hWq_0.trans (hb23.mono hWq_0.size)
   have f1_1 := f1_0.below hb23
   have f2_1 := f2_0.below hb23
   have f3_1 := f3_0.below hb23
   clear hb23 hB_0 pa_0 pb_0 pv_0 pu_0 hWq_0 f1_0 f2_0 f3_0
   go_wp2_with fail
   refine hK.out _ _ ⟨pa_1.c0, pa_1.c1, pb_1.c0, pb_1.c1, pv_1.c0, pv_1.c1, pu_1.c0, pu_1.c1⟩ (fun hHeld => ?_)
   clear hK K
   (try simp only [Act.put]);try simp only [sA,sZ,sS]
   rw [← HWq.out]
   exact stq_4f _ m1 o1 n1 c1 m2 o2 n2 c2 m3 o3 n3 c3 m4 o4 n4 c4 hB_1 pa_1 pb_1 pv_1 pu_1 hWq_1 f1_1 f2_1 f3_1 f4_0
 try simp only [HAq.out, Act.put, sA,sZ,sS] at stq_3f
 have stq_2f : ∀ (w' : World) (m1 : Bool) (o1 : Option Addr) (n1 : Nat) (c1 : Nat) (m2 : Bool) (o2 : Option Addr) (n2 : Nat) (c2 : Nat), Below w.heap.size w w' → Box w' (w.heap.size) [.int .i64 a0, .int .i64 a1] → Box w' (w.heap.size + 1) [.int .i64 b0, .int .i64 b1] → Box w' (w.heap.size + 1 + 1) [.int .i64 v0, .int .i64 v1] → Box w' (w.heap.size + 1 + 1 + 1) [.int .i64 u0, .int .i64 u1] → Below w4.heap.size w4 w' → RNum w' (.agg #[.bool m1, .slice o1 n1 c1]) (2) (D0) → RNum w' (.agg #[.bool m2, .slice o2 n2 c2]) (2) (A0) → WWq 11 #[true, true, true, true, true, true, true, false, true, true, false, true, true, true, false, false, true, true, false, true, true, true, false, false, false, false, false, false] ((aq.put (some 11) (.agg #[.bool m1, .slice o1 n1 c1])).put (some 15) (.agg #[.bool m2, .slice o2 n2 c2])) w' := by
  intro w24 m1 o1 n1 c1 m2 o2 n2 c2 hB_0 pa_0 pb_0 pv_0 pu_0 hWq_0 f1_0 f2_0
  rw [HWq.out, HAq.out]
  (try simp only [Act.put]);try simp only [sA,sZ,sS]
  refine reg_all1 7 ?_ (by kernel_rfl) ?_ (fun K hK => ?_)
  rotate_left 1
  ·simp only [gA,gS,gZ]; exact rfl
  ·go_simp
   refine (nMul_any _ _ 2 2 D0 A0 _ (by omega) (by omega) f1_0.num f2_0.num).mono ?_
   rintro e w25 ⟨m3, o3, n3, c3, rfl, f3_0, hb25⟩
   have hB_1 := hB_0.trans (hb25.mono hB_0.size)
   have pa_1 := pa_0.below hb25
   have pb_1 := pb_0.below hb25
   have pv_1 := pv_0.below hb25
   have pu_1 := pu_0.below hb25
   have hWq_1 := hWq_0.trans (hb25.mono hWq_0.size)
   have f1_1 := f1_0.below hb25
   have f2_1 := f2_0.below hb25
   clear hb25 hB_0 pa_0 pb_0 pv_0 pu_0 hWq_0 f1_0 f2_0
   go_wp2_with fail
   refine hK.out _ _ ⟨pa_1.c0, pa_1.c1, pb_1.c0, pb_1.c1, pv_1.c0, pv_1.c1, pu_1.c0, pu_1.c1⟩ (fun hHeld => ?_)
   clear hK K
   (try simp only [Act.put]);try simp only [sA,sZ,sS]
   rw [← HWq.out]
   exact stq_3f _ m1 o1 n1 c1 m2 o2 n2 c2 m3 o3 n3 c3 hB_1 pa_1 pb_1 pv_1 pu_1 hWq_1 f1_1 f2_1 f3_0
 try simp only [HAq.out, Act.put, sA,sZ,sS] at stq_2f
 have stq_1f : ∀ (w' : World) (m1 : Bool) (o1 : Option Addr) (n1 : Nat) (c1 : Nat), Below w.heap.size w w' → Box w' (w.heap.size) [.int .i64 a0, .int .i64 a1] → Box w' (w.heap.size + 1) [.int .i64 b0, .int .i64 b1] → Box w' (w.heap.size + 1 + 1) [.int .i64 v0, .int .i64 v1] → Box w' (w.heap.size + 1 + 1 + 1) [.int .i64 u0, .int .i64 u1] → Below w4.heap.size w4 w' → RNum w' (.agg #[.bool m1, .slice o1 n1 c1]) (2) (D0) → WWq 12 #[true, true, true, true, true, true, false, false, true, true, false, true, true, true, false, false, true, true, false, true, true, true, false, false, false, false, false, false] (aq.put (some 11) (.agg #[.bool m1, .slice o1 n1 c1])) w' := by
  intro w26 m1 o1 n1 c1 hB_0 pa_0 pb_0 pv_0 pu_0 hWq_0 f1_0
  rw [HWq.out, HAq.out]
  (try simp only [Act.put]);try simp only [sA,sZ,sS]
  refine reg_all1 6 ?_ (by kernel_rfl) ?_ (fun K hK => ?_)
  rotate_left 1
  ·simp only [gA,gS,gZ]; exact rfl
  ·go_simp
   refine (K1.out _).mono ?_
   rintro e w27 ⟨m2, o2, n2, c2, rfl, f2_0, hb27⟩
   have hB_1 := hB_0.trans (hb27.mono hB_0.size)
   have pa_1 := pa_0.below hb27
   have pb_1 := pb_0.below hb27
   have pv_1 := pv_0.below hb27
   have pu_1 := pu_0.below hb27
   have hWq_1 := hWq_0.trans (hb27.mono hWq_0.size)
   have f1_1 := f1_0.below hb27
   clear hb27 hB_0 pa_0 pb_0 pv_0 pu_0 hWq_0 f1_0
   go_wp2_with fail
   refine hK.out _ _ ⟨pa_1.c0, pa_1.c1, pb_1.c0, pb_1.c1, pv_1.c0, pv_1.c1, pu_1.c0, pu_1.c1⟩ (fun hHeld => ?_)
   clear hK K
   (try simp only [Act.put]);try simp only [sA,sZ,sS]
   rw [← HWq.out]
   exact stq_2f _ m1 o1 n1 c1 m2 o2 n2 c2 hB_1 pa_1 pb_1 pv_1 pu_1 hWq_1 f1_1 f2_0
 try simp only [HAq.out, Act.put, sA,sZ,sS] at stq_1f
 have stq_0f : ∀ (w' : World), Below w.heap.size w w' → Box w' (w.heap.size) [.int .i64 a0, .int .i64 a1] → Box w' (w.heap.size + 1) [.int .i64 b0, .int .i64 b1] → Box w' (w.heap.size + 1 + 1) [.int .i64 v0, .int .i64 v1] → Box w' (w.heap.size + 1 + 1 + 1) [.int .i64 u0, .int .i64 u1] → Below w4.heap.size w4 w' → WWq 13 #[true, true, false, true, true, true, false, false, true, true, false, true, true, true, false, false, true, true, false, true, true, true, false, false, false, false, false, false] aq w' := by
  intro w28 hB_0 pa_0 pb_0 pv_0 pu_0 hWq_0
  rw [HWq.out, HAq.out]
  (try simp only [Act.put]);try simp only [sA,sZ,sS]
  refine reg_all1 2 ?_ (by kernel_rfl) ?_ (fun K hK => ?_)
  rotate_left 1
  ·simp only [gA,gS,gZ]; exact rfl
  ·go_simp
   refine (K0.out _).mono ?_
   rintro e w29 ⟨m1, o1, n1, c1, rfl, f1_0, hb29⟩
   have hB_1 := hB_0.trans (hb29.mono hB_0.size)
   have pa_1 := pa_0.below hb29
   have pb_1 := pb_0.below hb29
   have pv_1 := pv_0.below hb29
   have pu_1 := pu_0.below hb29
   have hWq_1 := hWq_0.trans (hb29.mono hWq_0.size)
   clear hb29 hB_0 pa_0 pb_0 pv_0 pu_0 hWq_0
   go_wp2_with fail
   refine hK.out _ _ ⟨pa_1.c0, pa_1.c1, pb_1.c0, pb_1.c1, pv_1.c0, pv_1.c1, pu_1.c0, pu_1.c1⟩ (fun hHeld => ?_)
   clear hK K
   (try simp only [Act.put]);try simp only [sA,sZ,sS]
   rw [← HWq.out]
   exact stq_1f _ m1 o1 n1 c1 hB_1 pa_1 pb_1 pv_1 pu_1 hWq_1 f1_0
 exact stq_0f _ hB_5 pa_4 pb_3 pv_2 pu_1 hWq_1
theorem Circle_is (a0 a1 b0 b1 v0 v1 u0 u1 : Int) {t : Int} (ha0 : InP a0) (ha1 : InP a1) (hb0 : InP b0) (hb1 : InP b1) (hv0 : InP v0) (hv1 : InP v1) (hu0 : InP u0) (hu1 : InP u1) (h : (inc a0 a1 b0 b1 v0 v1 u0 u1).sign = t) (w : World) :
  Calls Tryz.prog 19 #[.agg #[.int .i64 a0, .int .i64 a1], .agg #[.int .i64 b0, .int .i64 b1], .agg #[.int .i64 v0, .int .i64 v1], .agg #[.int .i64 u0, .int .i64 u1]] w fun e w' => e = .returned (.int .i64 t) ∧ Below w.heap.size w w' :=
 Circle_w a0 a1 b0 b1 v0 v1 u0 u1 _ _ _ _ _ _ t (fun w => Dist2_any a0 a1 u0 u1 ha0 ha1 hu0 hu1 w) (fun w => Area2_any u0 u1 b0 b1 v0 v1 hu0 hu1 hb0 hb1 hv0 hv1 w) (fun w => Dist2_any b0 b1 u0 u1 hb0 hb1 hu0 hu1 w) (fun w => Area2_any u0 u1 v0 v1 a0 a1 hu0 hu1 hv0 hv1 ha0 ha1 w) (fun w => Dist2_any v0 v1 u0 u1 hv0 hv1 hu0 hu1 w) (fun w => Area2_any u0 u1 a0 a1 b0 b1 hu0 hu1 ha0 ha1 hb0 hb1 w)
  (by rw [inc_circle]; exact h) w
end Go.Proofs.YtecnnpkpgbbfkaaGreat
/- cavity's Conflict. Written by tools/cav2.py. -/
namespace Go.MagM
open Go.RowKit
theorem corsN_in {P : List (Int × Int)} {T : TriM} {q : Int × Int} : ∀ n, q ∈ corsN P T n → q ∈ P
 | 0, h => by cases h
 | n + 1, h => by
  rw [corsN] at h
  rcases List.mem_append.1 h with h | h
  ·exact corsN_in n h
  ·unfold corK at h
   split at h
   ·rename_i hc
    simp only [List.mem_singleton] at h
    have hl : (T.v ((corF T + n) % 3)).toNat < P.length := by omega
    rw [h]; unfold ptT ptA
    rw [List.getElem?_eq_getElem hl]
    exact List.getElem_mem hl
   ·cases h
/-- What lies in a row of points. -/
theorem RowN.ptCell {w : World} {base : Nat} {e : TypeId} {n : Nat} {l : List (Int × Int)} {g c : Nat} (h : RowN w base e 2 (.slice (some ⟨g, 0, none⟩) n c) n (ptsCells l)) {j : Nat} {u : Value} (hj : (ptsCells l)[j]? = some u) : w.cell? ⟨g, j, none⟩ = some u := h.cells rfl j u hj
theorem sign_pos {x : Int} : (0 : Int) < x.sign ↔ 0 < x := by
 rcases Int.lt_trichotomy x 0 with h | h | h
 ·rw [Int.sign_eq_neg_one_of_neg h]; omega
 ·subst h; simp
 ·rw [Int.sign_eq_one_of_pos h]; omega
end Go.MagM
namespace Go.Proofs.YtecnnpkpgbbfkaaGreat
open Go.RowKit Go.MagM
/-- Do these corners have p in conflict? -/
def conflictL (l : List (Int × Int)) (p : Int × Int) : Bool := match l with
 | [a, b, c] => decide (0 < inc a.1 a.2 b.1 b.2 c.1 c.2 p.1 p.2)
 | [a, b] => decide (0 < crs a.1 a.2 b.1 b.2 p.1 p.2) || (decide (¬ (p.1 = a.1 ∧ p.2 = a.2) ∧ ¬ (p.1 = b.1 ∧ p.2 = b.2)) && onP p.1 p.2 a.1 a.2 b.1 b.2)
 | _ => false
def conflictM (P : List (Int × Int)) (T : TriM) (p : Int × Int) : Bool := conflictL (cors P T) p
set_option maxRecDepth 100000 in
set_option maxHeartbeats 8000000 in
theorem cvConflict_any {mb pb pc : Nat} {ta : Option Addr} {tc : Nat} {P : List (Int × Int)} {S : List TriM} (t : Nat) (T : TriM) (p0 p1 : Int) (w : World) (h : MeshR w mb pb pc ta tc P S) (hP : InPs P) (hp : InP p0 ∧ InP p1) (hT : S[t]? = some T) :
  Calls Tryz.prog 32 #[.pointer (some ⟨mb, 0, none⟩), .int .i64 (t : Int), .agg #[.int .i64 p0, .int .i64 p1]] w fun e w' => e = .returned (.bool (conflictM P T (p0, p1))) ∧ Below w.heap.size w w' := by
 obtain ⟨w1, hw1, hp1, hb1, hs1⟩ := new_box w _ rfl [.int .i64 p0, .int .i64 p1] 33
 have HC := Lib.hid (cvCorners_any t T w1 (h.below hb1) hT)
 have HIN := Lib.hid (show ∀ q ∈ cors P T, InP q.1 ∧ InP q.2 from fun q hq => hP q (corsN_in 3 hq))
 obtain ⟨r, hr⟩ : ∃ r, conflictM P T (p0, p1) = r := ⟨_, rfl⟩
 obtain ⟨l, hl⟩ : ∃ l, cors P T = l := ⟨_, rfl⟩
 rw [hl] at HC HIN
 rw [hr]
 have HR := Lib.hid (show conflictL l (p0, p1) = r from by rw [← hl]; exact hr)
 have HPP := Lib.hid hp; have HP1 := Lib.hid hp1; have HB1 := Lib.hid hb1
 have HS1 := Lib.hid hs1
 have hl3 : l.length ≤ 3 := by rw [← hl]; exact cors_le P T
 clear h hP hT hr hl hp hp1 hb1 hs1
 go_enter Tryz.func32, Tryz.ntmps32
 go_wp2_with fail
 refine HC.out.mono ?_
 rintro e w2 ⟨v, rfl, hrow, hb2⟩
 clear hw1
 have HB2 := Lib.hid (HB1.out.trans (hb2.mono HB1.out.size))
 have HP2 := Lib.hid (HP1.out.below hb2)
 have HROW := Lib.hid hrow
 clear hb2
 rcases l with _ | ⟨⟨a0, a1⟩, _ | ⟨⟨b0, b1⟩, _ | ⟨⟨c0, c1⟩, _ | ⟨d, l4⟩⟩⟩⟩
 ·obtain ⟨ao, c, rfl⟩ : ∃ ao c, v = .slice ao 0 c := by
   rcases hrow.2 with ⟨h1, -⟩ | ⟨g, cap, cur, h1, -⟩
   ·exact ⟨_, _, h1⟩
   ·exact ⟨_, _, h1⟩
  clear hrow
  go_wp2
  go_ret
  exact ⟨by rw [← HR.out]; rfl, HB2.out⟩
 ·obtain ⟨g, c, rfl⟩ : ∃ g c, v = .slice (some ⟨g, 0, none⟩) 1 c := by
   rcases hrow.2 with ⟨-, h1⟩ | ⟨g, cap, cur, h1, -⟩
   ·cases h1
   ·exact ⟨g, cap, h1⟩
  clear hrow
  go_wp2
  go_ret
  exact ⟨by rw [← HR.out]; rfl, HB2.out⟩
 ·obtain ⟨g, c, rfl⟩ : ∃ g c, v = .slice (some ⟨g, 0, none⟩) 2 c := by
   rcases hrow.2 with ⟨-, h1⟩ | ⟨g, cap, cur, h1, -⟩
   ·cases h1
   ·exact ⟨g, cap, h1⟩
  have hA := HIN.out (a0, a1) (by simp)
  have hB := HIN.out (b0, b1) (by simp)
  have HO := Lib.hid (fun W => Orient_any a0 a1 b0 b1 p0 p1 hA.1 hA.2 hB.1 hB.2 HPP.out.1 HPP.out.2 W)
  have HBT := Lib.hid (fun W => Between_any p0 p1 a0 a1 b0 b1 _ (fun W => On_is p0 p1 a0 a1 b0 b1 HPP.out.1 HPP.out.2 hA.1 hA.2 hB.1 hB.2 _ rfl W) W)
  have K0 := Lib.hid (show w2.cell? ⟨g, 0, none⟩ = some (.int .i64 a0) ∧ w2.cell? ⟨g, 1, none⟩ = some (.int .i64 a1) ∧ w2.cell? ⟨g, 2, none⟩ = some (.int .i64 b0) ∧ w2.cell? ⟨g, 3, none⟩ = some (.int .i64 b1) ∧ w2.cell? ⟨w.heap.size, 0, none⟩ = some (.int .i64 p0) ∧ w2.cell? ⟨w.heap.size, 1, none⟩ = some (.int .i64 p1) from ⟨HROW.out.ptCell rfl, HROW.out.ptCell rfl, HROW.out.ptCell rfl, HROW.out.ptCell rfl, HP2.out.c 0 _ rfl, HP2.out.c 1 _ rfl⟩)
  obtain ⟨s, hs⟩ : ∃ s, (crs a0 a1 b0 b1 p0 p1).sign = s := ⟨_, rfl⟩
  rw [hs] at HO
  have hcs : decide (0 < crs a0 a1 b0 b1 p0 p1) = decide (0 < s) := by rw [← hs, decide_eq_decide]; exact sign_pos.symm
  obtain ⟨q, hq⟩ : ∃ q, (decide (¬ (p0 = a0 ∧ p1 = a1) ∧ ¬ (p0 = b0 ∧ p1 = b1)) && onP p0 p1 a0 a1 b0 b1) = q := ⟨_, rfl⟩
  rw [hq] at HBT
  have HRQ := Lib.hid (show (decide (0 < s) || q) = r by rw [← HR.out, ← hq, ← hcs]; rfl)
  clear hrow hA hB hs hcs hq
  by_cases hs0 : 0 < s
  ·have e1 : decide (0 < s) = true := decide_eq_true hs0
   have HRT := Lib.hid (show true = r by rw [← HRQ.out, e1]; rfl)
   clear hs0
   go_wp2
   refine wp_region_noPanic ?_
   refine wp_region_held_drew (S := fun w' => w'.cell? ⟨g, 0, none⟩ = some (.int .i64 a0) ∧ w'.cell? ⟨g, 1, none⟩ = some (.int .i64 a1) ∧ w'.cell? ⟨g, 2, none⟩ = some (.int .i64 b0) ∧ w'.cell? ⟨g, 3, none⟩ = some (.int .i64 b1) ∧ w'.cell? ⟨w.heap.size, 0, none⟩ = some (.int .i64 p0) ∧ w'.cell? ⟨w.heap.size, 1, none⟩ = some (.int .i64 p1)) (by kernel_rfl) (K0.out) (fun hHeld => ?_)
   refine rU 0 _ _ ?_
   (try simp only [Act.put]);try simp only [sA,sZ,sS]
   refine rU 1 _ _ ?_
   (try simp only [Act.put]);try simp only [sA,sZ,sS]
   refine rU 2 _ _ ?_
   (try simp only [Act.put]);try simp only [sA,sZ,sS]
   refine rU 3 _ _ ?_
   (try simp only [Act.put]);try simp only [sA,sZ,sS]
   refine rU 4 _ _ ?_
   (try simp only [Act.put]);try simp only [sA,sZ,sS]
   refine rU 5 _ _ ?_
   (try simp only [Act.put]);try simp only [sA,sZ,sS]
   refine rU 6 _ _ ?_
   (try simp only [Act.put]);try simp only [sA,sZ,sS]
   refine reg_call 7 ?_ (by kernel_rfl) ?_ (fun K hK => ?_);rotate_left 1
   ·simp only [gA,gS,gZ]; exact rfl
   go_simp
   refine (HO.out _).mono ?_
   rintro e w3 ⟨rfl, hb3⟩
   have HB3 := Lib.hid hb3; clear hb3
   refine hK.out _ _ (⟨(HB3.out.cell (World.block_lt_of_cell? _ _ K0.out.1)).trans K0.out.1, (HB3.out.cell (World.block_lt_of_cell? _ _ K0.out.2.1)).trans K0.out.2.1, (HB3.out.cell (World.block_lt_of_cell? _ _ K0.out.2.2.1)).trans K0.out.2.2.1, (HB3.out.cell (World.block_lt_of_cell? _ _ K0.out.2.2.2.1)).trans K0.out.2.2.2.1, (HB3.out.cell (World.block_lt_of_cell? _ _ K0.out.2.2.2.2.1)).trans K0.out.2.2.2.2.1, (HB3.out.cell (World.block_lt_of_cell? _ _ K0.out.2.2.2.2.2)).trans K0.out.2.2.2.2.2⟩) (fun hHeld => ?_)
   clear hK K
   (try simp only [Act.put]);try simp only [sA,sZ,sS]
   refine rU 8 _ _ ?_
   (try simp only [Act.put]);try simp only [sA,sZ,sS]
   refine rU 9 _ _ ?_
   (try simp only [Act.put]);try simp only [sA,sZ,sS]
   refine rS 10 ?_ ?_ ?_ ?_;rotate_left 1
   ·simp only [gA,gS,gZ]; exact rfl
   ·rfl
   (try simp only [Act.put]);try simp only [sA,sZ,sS]
   refine rS 11 ?_ ?_ ?_ ?_;rotate_left 1
   ·simp only [gA,gS,gZ]; exact rfl
   ·rfl
   (try simp only [Act.put]);try simp only [sA,sZ,sS]
   refine rS 12 ?_ ?_ ?_ ?_;rotate_left 1
   ·simp only [gA,gS,gZ]; exact rfl
   ·rfl
   (try simp only [Act.put]);try simp only [sA,sZ,sS]
   refine rS 13 ?_ ?_ ?_ ?_;rotate_left 1
   ·simp only [gA,gS,gZ]; exact rfl
   ·rfl
   (try simp only [Act.put]);try simp only [sA,sZ,sS]
   refine rS 14 ?_ ?_ ?_ ?_;rotate_left 1
   ·simp only [gA,gS,gZ]; exact rfl
   ·rfl
   (try simp only [Act.put]);try simp only [sA,sZ,sS]
   refine rS 15 ?_ ?_ ?_ ?_;rotate_left 1
   ·simp only [gA,gS,gZ]; exact rfl
   ·rfl
   (try simp only [Act.put]);try simp only [sA,sZ,sS]
   refine rS 16 ?_ ?_ ?_ ?_;rotate_left 1
   ·simp only [gA,gS,gZ]; exact rfl
   ·rfl
   (try simp only [Act.put]);try simp only [sA,sZ,sS]
   refine rS 17 ?_ ?_ ?_ ?_;rotate_left 1
   ·simp only [gA,gS,gZ]; exact rfl
   ·rfl
   (try simp only [Act.put]);try simp only [sA,sZ,sS]
   refine rU 18 _ _ ?_
   (try simp only [Act.put]);try simp only [sA,sZ,sS]
   refine rU 19 _ _ ?_
   (try simp only [Act.put]);try simp only [sA,sZ,sS]
   refine wpAnyH_done (by kernel_rfl) ?_ _
   refine NoPanic.normal ?_
   go_wp2
   go_ret
   exact ⟨by rw [← HRT.out]; rfl, HB2.out.drew'.trans (HB3.out.mono HB2.out.size)⟩
  ·have e1 : decide (0 < s) = false := decide_eq_false hs0
   have HRT := Lib.hid (show q = r by rw [← HRQ.out, e1]; rfl)
   clear hs0
   go_wp2
   refine wp_region_noPanic ?_
   refine wp_region_held_drew (S := fun w' => w'.cell? ⟨g, 0, none⟩ = some (.int .i64 a0) ∧ w'.cell? ⟨g, 1, none⟩ = some (.int .i64 a1) ∧ w'.cell? ⟨g, 2, none⟩ = some (.int .i64 b0) ∧ w'.cell? ⟨g, 3, none⟩ = some (.int .i64 b1) ∧ w'.cell? ⟨w.heap.size, 0, none⟩ = some (.int .i64 p0) ∧ w'.cell? ⟨w.heap.size, 1, none⟩ = some (.int .i64 p1)) (by kernel_rfl) (K0.out) (fun hHeld => ?_)
   refine rU 0 _ _ ?_
   (try simp only [Act.put]);try simp only [sA,sZ,sS]
   refine rU 1 _ _ ?_
   (try simp only [Act.put]);try simp only [sA,sZ,sS]
   refine rU 2 _ _ ?_
   (try simp only [Act.put]);try simp only [sA,sZ,sS]
   refine rU 3 _ _ ?_
   (try simp only [Act.put]);try simp only [sA,sZ,sS]
   refine rU 4 _ _ ?_
   (try simp only [Act.put]);try simp only [sA,sZ,sS]
   refine rU 5 _ _ ?_
   (try simp only [Act.put]);try simp only [sA,sZ,sS]
   refine rU 6 _ _ ?_
   (try simp only [Act.put]);try simp only [sA,sZ,sS]
   refine reg_call 7 ?_ (by kernel_rfl) ?_ (fun K hK => ?_);rotate_left 1
   ·simp only [gA,gS,gZ]; exact rfl
   go_simp
   refine (HO.out _).mono ?_
   rintro e w3 ⟨rfl, hb3⟩
   have HB3 := Lib.hid hb3; clear hb3
   have K1 := Lib.hid (show w3.cell? ⟨g, 0, none⟩ = some (.int .i64 a0) ∧ w3.cell? ⟨g, 1, none⟩ = some (.int .i64 a1) ∧ w3.cell? ⟨g, 2, none⟩ = some (.int .i64 b0) ∧ w3.cell? ⟨g, 3, none⟩ = some (.int .i64 b1) ∧ w3.cell? ⟨w.heap.size, 0, none⟩ = some (.int .i64 p0) ∧ w3.cell? ⟨w.heap.size, 1, none⟩ = some (.int .i64 p1) from ⟨(HB3.out.cell (World.block_lt_of_cell? _ _ K0.out.1)).trans K0.out.1, (HB3.out.cell (World.block_lt_of_cell? _ _ K0.out.2.1)).trans K0.out.2.1, (HB3.out.cell (World.block_lt_of_cell? _ _ K0.out.2.2.1)).trans K0.out.2.2.1, (HB3.out.cell (World.block_lt_of_cell? _ _ K0.out.2.2.2.1)).trans K0.out.2.2.2.1, (HB3.out.cell (World.block_lt_of_cell? _ _ K0.out.2.2.2.2.1)).trans K0.out.2.2.2.2.1, (HB3.out.cell (World.block_lt_of_cell? _ _ K0.out.2.2.2.2.2)).trans K0.out.2.2.2.2.2⟩)
   refine hK.out _ _ (K1.out) (fun hHeld => ?_)
   clear hK K
   (try simp only [Act.put]);try simp only [sA,sZ,sS]
   refine rU 8 _ _ ?_
   (try simp only [Act.put]);try simp only [sA,sZ,sS]
   refine rU 9 _ _ ?_
   (try simp only [Act.put]);try simp only [sA,sZ,sS]
   refine rU 10 _ _ ?_
   (try simp only [Act.put]);try simp only [sA,sZ,sS]
   refine rU 11 _ _ ?_
   (try simp only [Act.put]);try simp only [sA,sZ,sS]
   refine rU 12 _ _ ?_
   (try simp only [Act.put]);try simp only [sA,sZ,sS]
   refine rU 13 _ _ ?_
   (try simp only [Act.put]);try simp only [sA,sZ,sS]
   refine rU 14 _ _ ?_
   (try simp only [Act.put]);try simp only [sA,sZ,sS]
   refine rU 15 _ _ ?_
   (try simp only [Act.put]);try simp only [sA,sZ,sS]
   refine rU 16 _ _ ?_
   (try simp only [Act.put]);try simp only [sA,sZ,sS]
   refine reg_call 17 ?_ (by kernel_rfl) ?_ (fun K hK => ?_);rotate_left 1
   ·simp only [gA,gS,gZ]; exact rfl
   go_simp
   refine (HBT.out _).mono ?_
   rintro e w4 ⟨rfl, hb4⟩
   have HB4 := Lib.hid hb4; clear hb4
   refine hK.out _ _ (⟨(HB4.out.cell (World.block_lt_of_cell? _ _ K1.out.1)).trans K1.out.1, (HB4.out.cell (World.block_lt_of_cell? _ _ K1.out.2.1)).trans K1.out.2.1, (HB4.out.cell (World.block_lt_of_cell? _ _ K1.out.2.2.1)).trans K1.out.2.2.1, (HB4.out.cell (World.block_lt_of_cell? _ _ K1.out.2.2.2.1)).trans K1.out.2.2.2.1, (HB4.out.cell (World.block_lt_of_cell? _ _ K1.out.2.2.2.2.1)).trans K1.out.2.2.2.2.1, (HB4.out.cell (World.block_lt_of_cell? _ _ K1.out.2.2.2.2.2)).trans K1.out.2.2.2.2.2⟩) (fun hHeld => ?_)
   clear hK K
   (try simp only [Act.put]);try simp only [sA,sZ,sS]
   refine rU 18 _ _ ?_
   (try simp only [Act.put]);try simp only [sA,sZ,sS]
   refine rU 19 _ _ ?_
   (try simp only [Act.put]);try simp only [sA,sZ,sS]
   refine wpAnyH_done (by kernel_rfl) ?_ _
   refine NoPanic.normal ?_
   go_wp2
   go_ret
   exact ⟨by rw [← HRT.out]; rfl, (HB2.out.drew'.trans (HB3.out.mono HB2.out.size)).trans (HB4.out.mono (HB2.out.drew'.trans (HB3.out.mono HB2.out.size)).size)⟩
 ·obtain ⟨g, c, rfl⟩ : ∃ g c, v = .slice (some ⟨g, 0, none⟩) 3 c := by
   rcases hrow.2 with ⟨-, h1⟩ | ⟨g, cap, cur, h1, -⟩
   ·cases h1
   ·exact ⟨g, cap, h1⟩
  have hA := HIN.out (a0, a1) (by simp)
  have hB := HIN.out (b0, b1) (by simp)
  have hC := HIN.out (c0, c1) (by simp)
  obtain ⟨s, hs⟩ : ∃ s, (inc a0 a1 b0 b1 c0 c1 p0 p1).sign = s := ⟨_, rfl⟩
  have HO := Lib.hid (fun W => Circle_is a0 a1 b0 b1 c0 c1 p0 p1 hA.1 hA.2 hB.1 hB.2 hC.1 hC.2 HPP.out.1 HPP.out.2 hs W)
  have HRQ := Lib.hid (show decide (0 < s) = r by rw [← HR.out, ← hs, decide_eq_decide.2 sign_pos]; rfl)
  have K0 := Lib.hid (show w2.cell? ⟨g, 0, none⟩ = some (.int .i64 a0) ∧ w2.cell? ⟨g, 1, none⟩ = some (.int .i64 a1) ∧ w2.cell? ⟨g, 2, none⟩ = some (.int .i64 b0) ∧ w2.cell? ⟨g, 3, none⟩ = some (.int .i64 b1) ∧ w2.cell? ⟨g, 4, none⟩ = some (.int .i64 c0) ∧ w2.cell? ⟨g, 5, none⟩ = some (.int .i64 c1) ∧ w2.cell? ⟨w.heap.size, 0, none⟩ = some (.int .i64 p0) ∧ w2.cell? ⟨w.heap.size, 1, none⟩ = some (.int .i64 p1) from ⟨HROW.out.ptCell rfl, HROW.out.ptCell rfl, HROW.out.ptCell rfl, HROW.out.ptCell rfl, HROW.out.ptCell rfl, HROW.out.ptCell rfl, HP2.out.c 0 _ rfl, HP2.out.c 1 _ rfl⟩)
  clear hrow hA hB hC hs
  go_wp2
  refine wp_region_noPanic ?_
  refine wp_region_held_drew (S := fun w' => w'.cell? ⟨g, 0, none⟩ = some (.int .i64 a0) ∧ w'.cell? ⟨g, 1, none⟩ = some (.int .i64 a1) ∧ w'.cell? ⟨g, 2, none⟩ = some (.int .i64 b0) ∧ w'.cell? ⟨g, 3, none⟩ = some (.int .i64 b1) ∧ w'.cell? ⟨g, 4, none⟩ = some (.int .i64 c0) ∧ w'.cell? ⟨g, 5, none⟩ = some (.int .i64 c1) ∧ w'.cell? ⟨w.heap.size, 0, none⟩ = some (.int .i64 p0) ∧ w'.cell? ⟨w.heap.size, 1, none⟩ = some (.int .i64 p1)) (by kernel_rfl) (K0.out) (fun hHeld => ?_)
  refine rU 0 _ _ ?_
  (try simp only [Act.put]);try simp only [sA,sZ,sS]
  refine rU 1 _ _ ?_
  (try simp only [Act.put]);try simp only [sA,sZ,sS]
  refine rU 2 _ _ ?_
  (try simp only [Act.put]);try simp only [sA,sZ,sS]
  refine rU 3 _ _ ?_
  (try simp only [Act.put]);try simp only [sA,sZ,sS]
  refine rU 4 _ _ ?_
  (try simp only [Act.put]);try simp only [sA,sZ,sS]
  refine rU 5 _ _ ?_
  (try simp only [Act.put]);try simp only [sA,sZ,sS]
  refine rU 6 _ _ ?_
  (try simp only [Act.put]);try simp only [sA,sZ,sS]
  refine rU 7 _ _ ?_
  (try simp only [Act.put]);try simp only [sA,sZ,sS]
  refine rU 8 _ _ ?_
  (try simp only [Act.put]);try simp only [sA,sZ,sS]
  refine rU 9 _ _ ?_
  (try simp only [Act.put]);try simp only [sA,sZ,sS]
  refine reg_call 10 ?_ (by kernel_rfl) ?_ (fun K hK => ?_);rotate_left 1
  ·simp only [gA,gS,gZ]; exact rfl
  go_simp
  refine (HO.out _).mono ?_
  rintro e w3 ⟨rfl, hb3⟩
  have HB3 := Lib.hid hb3; clear hb3
  refine hK.out _ _ (⟨(HB3.out.cell (World.block_lt_of_cell? _ _ K0.out.1)).trans K0.out.1, (HB3.out.cell (World.block_lt_of_cell? _ _ K0.out.2.1)).trans K0.out.2.1, (HB3.out.cell (World.block_lt_of_cell? _ _ K0.out.2.2.1)).trans K0.out.2.2.1, (HB3.out.cell (World.block_lt_of_cell? _ _ K0.out.2.2.2.1)).trans K0.out.2.2.2.1, (HB3.out.cell (World.block_lt_of_cell? _ _ K0.out.2.2.2.2.1)).trans K0.out.2.2.2.2.1, (HB3.out.cell (World.block_lt_of_cell? _ _ K0.out.2.2.2.2.2.1)).trans K0.out.2.2.2.2.2.1, (HB3.out.cell (World.block_lt_of_cell? _ _ K0.out.2.2.2.2.2.2.1)).trans K0.out.2.2.2.2.2.2.1, (HB3.out.cell (World.block_lt_of_cell? _ _ K0.out.2.2.2.2.2.2.2)).trans K0.out.2.2.2.2.2.2.2⟩) (fun hHeld => ?_)
  clear hK K
  (try simp only [Act.put]);try simp only [sA,sZ,sS]
  refine rU 11 _ _ ?_
  (try simp only [Act.put]);try simp only [sA,sZ,sS]
  refine rU 12 _ _ ?_
  (try simp only [Act.put]);try simp only [sA,sZ,sS]
  refine wpAnyH_done (by kernel_rfl) ?_ _
  refine NoPanic.normal ?_
  go_wp2
  go_ret
  exact ⟨by rw [← HRQ.out]; rfl, HB2.out.drew'.trans (HB3.out.mono HB2.out.size)⟩
 ·simp at hl3
end Go.Proofs.YtecnnpkpgbbfkaaGreat
/- A hole: its map. -/
namespace Go.MagM
/-- The map's entries. -/
def hasE (ts : List Int) : List (Value × Value) := ts.map fun t => (.int .i64 t, .agg #[])
end Go.MagM
namespace Go.Proofs.YtecnnpkpgbbfkaaGreat
open Go.RowKit Go.MagM Go.Maps
/-- A triangle is looked up. -/
theorem hole_look {w : World} {b : Nat} {ts : List Int} (h : MapB Tryz.prog 3 w b (hasE ts)) {t : Int} (ht : -1000000 ≤ t ∧ t ≤ 1000000) :
  (Instr.lookup 213 (.map (some b)) (.int .i64 t) true).run Tryz.prog w = .ok (.tuple #[.agg #[], .bool (decide (t ∈ ts))]) w := by
 rcases h.look keyedI Tryz.underlying213 (keyI_of ht) (z := .agg #[]) (by kernel_rfl) true with ⟨v, hv, hr⟩ | ⟨hno, hr⟩
 ·obtain ⟨x, hx, e⟩ := List.mem_map.1 hv
  simp only [Prod.mk.injEq, Value.int.injEq, true_and] at e
  obtain ⟨rfl, rfl⟩ := e
  rw [hr, decide_eq_true hx]; rfl
 ·rw [hr, decide_eq_false (fun hx => hno (.agg #[]) (List.mem_map.2 ⟨t, hx, rfl⟩))]; rfl
/-- A triangle comes. -/
theorem hole_store {w : World} {b : Nat} {ts : List Int} (h : MapB Tryz.prog 3 w b (hasE ts)) {t : Int} (ht : -1000000 ≤ t ∧ t ≤ 1000000) (hno : t ∉ ts) :
  ∃ w', (Instr.mapUpdate 213 (.map (some b)) (.int .i64 t) (.agg #[])).run Tryz.prog w = .ok () w' ∧ Turned w w' b ∧ MapB Tryz.prog 3 w' b (hasE (ts ++ [t])) := by
 obtain ⟨w', m', h1, h2, h3, h4⟩ := h.store keyedI Tryz.underlying213 (keyI_of ht) (.agg #[])
 refine ⟨w', h1, h2, ?_⟩
 rcases h4 with ⟨-, rfl⟩ | ⟨j, u, hj, -⟩
 ·unfold hasE; rw [List.map_append]; exact h3
 ·exfalso
  obtain ⟨x, hx, e⟩ := List.mem_map.1 (List.mem_of_getElem? hj)
  simp only [Prod.mk.injEq, Value.int.injEq, true_and] at e
  obtain ⟨rfl, -⟩ := e
  exact hno hx
set_option maxRecDepth 100000 in
set_option maxHeartbeats 4000000 in
theorem cvHolds_any (hb b : Nat) (ts : List Int) (t : Int) (w : World) (hc : w.cell? ⟨hb, 2, none⟩ = some (.map (some b))) (hm : MapB Tryz.prog 3 w b (hasE ts)) (ht : -1000000 ≤ t ∧ t ≤ 1000000) :
  Calls Tryz.prog 200 #[.pointer (some ⟨hb, 0, none⟩), .int .i64 t] w fun e w' => e = .returned (.bool (decide (t ∈ ts))) ∧ Below w.heap.size w w' := by
 obtain ⟨w1, hw1, hp, hb1, hs1⟩ := new_box w _ rfl [] 264
 have hlk := hole_look hm ht
 obtain ⟨q, hq⟩ : ∃ q, decide (t ∈ ts) = q := ⟨_, rfl⟩
 rw [hq] at hlk ⊢
 have HB := Lib.hid hb1
 clear hb1 hs1 hp hm hq
 go_enter Tryz.func200, Tryz.ntmps200
 go_wp2
 go_ret
 exact ⟨rfl, HB.out⟩
end Go.Proofs.YtecnnpkpgbbfkaaGreat
/- A hole: what it takes. -/
namespace Go.MagM
/-- What a hole has behind take. -/
def takeM (P : List (Int × Int)) (T : TriM) (t : Int) (ts : List Int) : List Int := if 0 < (cors P T).length ∧ t ∉ ts then ts ++ [t] else ts
end Go.MagM
namespace Go.Proofs.YtecnnpkpgbbfkaaGreat
open Go.RowKit Go.MagM Go.Maps
/-- A hole lies at hb: its list, its map. -/
structure HoleR (w : World) (lo hb mb b : Nat) (v : Value) (ts : List Int) : Prop where
 box : Box w hb [.pointer (some ⟨mb, 0, none⟩), v, .map (some b)]
 row : RowN w lo 3 1 v ts.length (intCells ts)
 map : MapB Tryz.prog 3 w b (hasE ts)
 low : lo ≤ hb ∧ lo ≤ b ∧ hb ≠ b ∧ v.ownBlock ≠ some hb ∧ v.ownBlock ≠ some b
 short : ts.length ≤ 1000000
theorem HoleR.below {w w' : World} {lo hb mb b : Nat} {v : Value} {ts : List Int} (h : HoleR w lo hb mb b v ts) (hw : Below w.heap.size w w') : HoleR w' lo hb mb b v ts :=
 ⟨h.box.below hw, h.row.below hw, h.map.below hw, h.low, h.short⟩
/-- But for the hole's own blocks all stays; its list stays where it was or lies behind. -/
structure KeepH (w w' : World) (hb b : Nat) (v v' : Value) : Prop where
 block : ∀ g, g < w.heap.size → g ≠ hb → g ≠ b → v.ownBlock ≠ some g → w'.heap[g]? = w.heap[g]?
 own : v'.ownBlock = v.ownBlock ∨ ∀ k, v'.ownBlock = some k → w.heap.size ≤ k
 size : w.heap.size ≤ w'.heap.size
theorem KeepH.of_below {w w' : World} {hb b : Nat} {v : Value} (h : Below w.heap.size w w') : KeepH w w' hb b v v :=
 ⟨fun g hg _ _ _ => h.block g hg, .inl rfl, h.size⟩
theorem KeepH.trans {w w1 w2 : World} {hb b : Nat} {v v1 v2 : Value} (h : KeepH w w1 hb b v v1) (h2 : KeepH w1 w2 hb b v1 v2) : KeepH w w2 hb b v v2 := by
 have hs := h.size
 refine ⟨fun g hg a c d => (h2.block g (by omega) a c ?_).trans (h.block g hg a c d), ?_, Nat.le_trans h.size h2.size⟩
 ·rcases h.own with e | e
  ·rw [e]; exact d
  ·intro k; have := e _ k; omega
 ·rcases h2.own with e | e
  ·rcases h.own with e1 | e1
   ·exact .inl (e.trans e1)
   ·exact .inr fun k hk => e1 k (e ▸ hk)
  ·exact .inr fun k hk => by have := e k hk; omega
theorem Box.keepH {w w' : World} {hb b g : Nat} {v v' : Value} {vs : List Value} (h : Box w g vs) (hk : KeepH w w' hb b v v') (hl : g < w.heap.size) (h1 : g ≠ hb) (h2 : g ≠ b) (h3 : v.ownBlock ≠ some g) : Box w' g vs := h.same (hk.block g hl h1 h2 h3)
set_option maxRecDepth 100000 in
set_option maxHeartbeats 8000000 in
theorem cvTake_any {w0 : World} {mb pb pc hb b : Nat} {ta : Option Addr} {tc : Nat} {P : List (Int × Int)} {S : List TriM} {v : Value} {ts : List Int} (t : Nat) (T : TriM) (w : World) (h : MeshR w0 mb pb pc ta tc P S) (hB : Below w0.heap.size w0 w) (hH : HoleR w w0.heap.size hb mb b v ts) (hT : S[t]? = some T) (hts : ts.length < 1000000) :
  Calls Tryz.prog 198 #[.pointer (some ⟨hb, 0, none⟩), .int .i64 (t : Int)] w fun e w' => e = .returned (.tuple #[]) ∧ (∃ v', HoleR w' w0.heap.size hb mb b v' (takeM P T t ts) ∧ KeepH w w' hb b v v') ∧ Below w0.heap.size w0 w' := by
 have htl : t < S.length := (List.getElem?_eq_some_iff.1 hT).1
 have htr : -1000000 ≤ (t : Int) ∧ (t : Int) ≤ 1000000 := by have := h.short.2; omega
 have HC := Lib.hid (cvCorners_any t T w (h.below hB) hT)
 have HB := Lib.hid hB; have HH := Lib.hid hH; have HTR := Lib.hid htr; have HTS := Lib.hid hts
 have b0 := hH.box.c0
 obtain ⟨i0, hi, hz0, hz1, hz2⟩ := info_parts infoI
 have HI := Lib.hid hi; have HZ0 := Lib.hid hz0; have HZ1 := Lib.hid hz1; have HZ2 := Lib.hid hz2
 clear hi hz0 hz1 hz2 h hB hH hT htl htr hts
 go_enter Tryz.func198, Tryz.ntmps198
 go_wp2_with fail
 refine HC.out.mono ?_
 rintro e w2 ⟨cv, rfl, hrow, hb2⟩
 clear b0
 have HH2 := Lib.hid (HH.out.below hb2)
 have HB2 := Lib.hid (HB.out.trans (hb2.mono HB.out.size))
 have BW2 := Lib.hid hb2
 clear hb2
 obtain ⟨n, hn⟩ : ∃ n, (cors P T).length = n := ⟨_, rfl⟩
 rw [hn] at hrow
 obtain ⟨ao, c, rfl⟩ : ∃ ao c, cv = .slice ao n c := by
  rcases hrow.2 with ⟨h1, h2⟩ | ⟨g, cap, cur, h1, -⟩
  ·exact ⟨_, _, by rw [h1, h2]⟩
  ·exact ⟨_, _, h1⟩
 have HN := Lib.hid hn
 clear hrow hn
 by_cases hn0 : 0 < n
 ·have e1 : decide ((0 : Int) < (n : Int)) = true := decide_eq_true (by omega)
  have e2 : decide (0 < n) = true := decide_eq_true hn0
  have HN0 := Lib.hid hn0
  clear hn0
  go_wp2_with fail
  refine (cvHolds_any hb b ts t w2 HH2.out.box.c2 HH2.out.map HTR.out).mono ?_
  rintro e w3 ⟨rfl, hb3⟩
  have HH3 := Lib.hid (HH2.out.below hb3)
  have HB3 := Lib.hid (HB2.out.trans (hb3.mono HB2.out.size))
  have BW3 := Lib.hid (BW2.out.trans (hb3.mono BW2.out.size))
  clear hb3
  by_cases hin : (t : Int) ∈ ts
  ·have e3 : decide ((t : Int) ∈ ts) = true := decide_eq_true hin
   rw [e3]
   have HM := Lib.hid (show takeM P T t ts = ts by unfold takeM; rw [if_neg (by simp [hin])])
   clear hin e3
   go_wp2
   go_end0
   exact ⟨rfl, ⟨v, by rw [HM.out]; exact HH3.out, KeepH.of_below BW3.out⟩, HB3.out⟩
  ·have e3 : decide ((t : Int) ∈ ts) = false := decide_eq_false hin
   rw [e3]
   have HM := Lib.hid (show takeM P T t ts = ts ++ [(t : Int)] by unfold takeM; rw [if_pos ⟨by rw [HN.out]; exact HN0.out, hin⟩])
   have HIN := Lib.hid hin
   clear hin e3
   have hz := HH3.out.low
   have hzb := HB3.out.size
   have hts := HTS.out
   have d1 := HH3.out.box.c1
   obtain ⟨w4, hw4, pz, hb4, hs4⟩ := new_box w3 _ rfl [.int .i64 (t : Int)] 3
   have H4 := HH3.out.below hb4
   obtain ⟨v1, w5, hrun, rown, hgrow, hkept⟩ := run_append_row (P := Tryz.prog) w4 w0.heap.size 44 44 3 i0 (.int .i64 0) 1 8 (by kernel_rfl) HI.out HZ0.out HZ1.out HZ2.out rfl (by intro u hu; simp [Value.cells] at hu; subst hu; exact NoWord.int _) _ ts.length _ H4.row ⟨w3.heap.size, 0, none⟩ 1 1 [.int .i64 (t : Int)] (by omega) rfl pz.news (by intro u hu; simp at hu; subst hu; rfl) (by intro u hu; simp at hu; subst hu; exact NoWord.int _) (by unfold maxLen; omega) (by omega) (by omega)
   obtain ⟨v2, w5', hrun2, -, -, hwh⟩ := run_append_where (P := Tryz.prog) w4 w0.heap.size 44 44 3 i0 (.int .i64 0) 1 8 (by kernel_rfl) HI.out HZ0.out HZ1.out HZ2.out rfl _ ts.length _ H4.row.own ⟨w3.heap.size, 0, none⟩ 1 1 [.int .i64 (t : Int)] (by omega) rfl pz.news (by intro u hu; simp at hu; subst hu; rfl) (by unfold maxLen; omega) (by omega) (by omega)
   obtain ⟨rfl, rfl⟩ : v1 = v2 ∧ w5 = w5' := by
    have e := Result.ok.inj (hrun.symm.trans hrun2)
    exact ⟨e.1, e.2⟩
   obtain ⟨ln, hln⟩ : ∃ ln, ts.length + 1 = ln := ⟨_, rfl⟩
   obtain ⟨gv, gc, rfl⟩ : ∃ g c, v1 = .slice (some ⟨g, 0, none⟩) ln c := by
    rcases rown.2 with ⟨-, h1⟩ | ⟨g, cap, cur, h1, -⟩
    ·omega
    ·exact ⟨g, cap, by rw [← hln]; exact h1⟩
   have hv1 : (Value.slice (some ⟨gv, 0, none⟩) ln gc).ownBlock ≠ some hb ∧ (Value.slice (some ⟨gv, 0, none⟩) ln gc).ownBlock ≠ some b := by
    rcases hwh with e | e
    ·rw [e]; exact hz.2.2.2
    ·have l1 := H4.box.lt
     have l2 := H4.map.lt
     exact ⟨fun k => by have := e _ k; omega, fun k => by have := e _ k; omega⟩
   have hbx5 := H4.box.grown hgrow hz.2.2.2.1 H4.box.lt
   have hmp5 := H4.map.block (hgrow.block b H4.map.lt (fun k => hz.2.2.2.2 k.symm))
   have hB5 : Below w0.heap.size w0 w5 := (HB3.out.trans (hb4.mono (by omega))).grown hgrow (by omega) (fun k hk => (H4.row.lt k hk).1)
   obtain ⟨w6, hw6⟩ : ∃ w6, w5.setCell ⟨hb, 1, none⟩ (.slice (some ⟨gv, 0, none⟩) ln gc) = w6 := ⟨_, rfl⟩
   have hbx6 : Box w6 hb [.pointer (some ⟨mb, 0, none⟩), .slice (some ⟨gv, 0, none⟩) ln gc, .map (some b)] := by rw [← hw6]; exact hbx5.set 1 _
   have hmp6 : MapB Tryz.prog 3 w6 b (hasE ts) := by rw [← hw6]; exact hmp5.block (heap_set_far _ _ _ _ _ (Ne.symm hz.2.2.1))
   have hrow6 := rown.block (w' := w6) (fun k hk _ => by rw [← hw6]; exact heap_set_far _ _ _ _ _ (fun e => hv1.1 (e ▸ hk)))
   have hB6 : Below w0.heap.size w0 w6 := by rw [← hw6]; exact hB5.setCell (p := ⟨hb, 1, none⟩) hz.1 _
   obtain ⟨w7, hst, htu, hmp7⟩ := hole_store hmp6 HTR.out HIN.out
   have H7 : HoleR w7 w0.heap.size hb mb b (.slice (some ⟨gv, 0, none⟩) ln gc) (takeM P T t ts) := by
    rw [HM.out]
    refine ⟨hbx6.turned htu hz.2.2.1, ?_, hmp7, ⟨hz.1, hz.2.1, hz.2.2.1, hv1⟩, by rw [List.length_append]; simp; omega⟩
    have := hrow6.turned htu (fun k hk e => hv1.2 (e ▸ hk))
    rw [List.length_append]; unfold intCells; rw [List.map_append]; exact this
   have b34 : Below w.heap.size w w4 := BW3.out.trans (hb4.mono BW3.out.size)
   have hown : (Value.slice (some ⟨gv, 0, none⟩) ln gc).ownBlock = v.ownBlock ∨ ∀ k, (Value.slice (some ⟨gv, 0, none⟩) ln gc).ownBlock = some k → w.heap.size ≤ k := by
    rcases hwh with e | e
    ·exact .inl e
    ·exact .inr fun k hk => by have := e k hk; have := b34.size; omega
   have KH := Lib.hid (show KeepH w w7 hb b v (.slice (some ⟨gv, 0, none⟩) ln gc) from ⟨fun g hg a c d => by
    have l4 : g < w4.heap.size := by have := b34.size; omega
    rw [htu.block g c, ← hw6, heap_set_far _ _ _ _ _ a, hgrow.block g l4 (fun k => d k.symm), b34.block g hg], hown, by
    have := b34.size; have := hgrow.size; have : w6.heap.size = w5.heap.size := by rw [← hw6]; simp
    rw [htu.size]; omega⟩)
   have FIN := Lib.hid (And.intro H7 (hB6.trans (htu.below hz.2.1)))
   have d2 := hbx5.c1
   have d3 := hbx5.f 1 _ rfl
   have d4 := hbx6.c2
   clear hz hzb hts b34 hown pz hb4 hs4 H4 rown hgrow hkept hrun2 hwh hv1 hbx5 hmp5 hB5 hbx6 hmp6 hrow6 hB6 htu hmp7 H7
   go_wp2_with (refine wpList_append_row rfl _ _ 44 rfl rfl rfl hrun ?_)
   go_end0
   exact ⟨rfl, ⟨_, FIN.out.1, KH.out⟩, FIN.out.2⟩
 ·have e1 : decide ((0 : Int) < (n : Int)) = false := decide_eq_false (by omega)
  have e2 : decide (0 < n) = false := decide_eq_false hn0
  have HM := Lib.hid (show takeM P T t ts = ts by unfold takeM; rw [HN.out, if_neg (fun h => hn0 h.1)])
  clear hn0
  go_wp2
  go_end0
  exact ⟨rfl, ⟨v, by rw [HM.out]; exact HH2.out, KeepH.of_below BW2.out⟩, HB2.out⟩
end Go.Proofs.YtecnnpkpgbbfkaaGreat
/- How a hole spreads, step by step. Pure. -/
namespace Go.Proofs.YtecnnpkpgbbfkaaGreat
open Go.RowKit Go.MagM
/-- Is what has this number in conflict? -/
def confT (P : List (Int × Int)) (S : List TriM) (p : Int × Int) (u : Int) : Bool := match S[u.toNat]? with
 | some U => conflictM P U p
 | none => false
/-- What a hole has behind a number is taken. -/
def takeS (P : List (Int × Int)) (S : List TriM) (u : Int) (ts : List Int) : List Int := match S[u.toNat]? with
 | some U => takeM P U u ts
 | none => ts
/-- Across edge i of T. -/
def stepM (P : List (Int × Int)) (S : List TriM) (p : Int × Int) (T : TriM) (i : Nat) (ts : List Int) : List Int :=
 if T.f i = false ∧ T.n i ∉ ts ∧ confT P S p (T.n i) = true then takeS P S (T.n i) ts else ts
/-- Across the first n of T's edges. -/
def innerM (P : List (Int × Int)) (S : List TriM) (p : Int × Int) (T : TriM) : Nat → List Int → List Int
 | 0, ts => ts
 | n + 1, ts => stepM P S p T n (innerM P S p T n ts)
/-- From the n-th of those that are taken on. -/
def spreadM (P : List (Int × Int)) (S : List TriM) (p : Int × Int) : Nat → Nat → List Int → List Int
 | 0, _, ts => ts
 | fuel + 1, n, ts => match ts[n]? with
  | none => ts
  | some t => match S[t.toNat]? with
   | none => spreadM P S p fuel (n + 1) ts
   | some T => spreadM P S p fuel (n + 1) (innerM P S p T 3 ts)
/-- A list of triangles, each once. -/
structure InS (S : List TriM) (ts : List Int) : Prop where
 once : ts.Nodup
 is : ∀ t ∈ ts, ∃ u : Nat, t = (u : Int) ∧ u < S.length
/-- All neighbours are there. -/
def Nexts (S : List TriM) : Prop := ∀ (t : Nat) (T : TriM), S[t]? = some T → ∀ i, i < 3 → ∃ u : Nat, T.n i = (u : Int) ∧ u < S.length
theorem InS.nil (S : List TriM) : InS S [] := ⟨List.nodup_nil, fun _ h => by cases h⟩
theorem InS.take {S : List TriM} {ts : List Int} (h : InS S ts) (P : List (Int × Int)) {u : Nat} {U : TriM} (hU : S[u]? = some U) : InS S (takeM P U (u : Int) ts) := by
 unfold takeM
 split
 ·rename_i hc
  refine ⟨?_, fun t ht => ?_⟩
  ·rw [List.nodup_append]
   refine ⟨h.once, by simp, fun x hx y hy e => ?_⟩
   simp only [List.mem_singleton] at hy
   subst hy; subst e
   exact hc.2 hx
  ·rcases List.mem_append.1 ht with ht | ht
   ·exact h.is t ht
   ·simp only [List.mem_singleton] at ht
    exact ⟨u, ht, (List.getElem?_eq_some_iff.1 hU).1⟩
 ·exact h
theorem InS.takeS {S : List TriM} {ts : List Int} (h : InS S ts) (P : List (Int × Int)) {z : Int} (hz : ∃ u : Nat, z = (u : Int) ∧ u < S.length) : InS S (takeS P S z ts) := by
 obtain ⟨u, rfl, hu⟩ := hz
 unfold Go.Proofs.YtecnnpkpgbbfkaaGreat.takeS
 rw [Int.toNat_natCast, List.getElem?_eq_getElem hu]
 exact h.take P (List.getElem?_eq_getElem hu)
theorem InS.step {S : List TriM} {ts : List Int} (h : InS S ts) (P : List (Int × Int)) (p : Int × Int) {T : TriM} {i : Nat} (hz : ∃ u : Nat, T.n i = (u : Int) ∧ u < S.length) : InS S (stepM P S p T i ts) := by
 unfold stepM
 split
 ·exact h.takeS P hz
 ·exact h
theorem InS.inner {S : List TriM} {ts : List Int} (h : InS S ts) (P : List (Int × Int)) (p : Int × Int) {T : TriM} (hz : ∀ i, i < 3 → ∃ u : Nat, T.n i = (u : Int) ∧ u < S.length) : ∀ n, n ≤ 3 → InS S (innerM P S p T n ts)
 | 0, _ => h
 | n + 1, hn => (InS.inner h P p hz n (by omega)).step P p (hz n (by omega))
/-- Each once: no more of them than there are. -/
theorem InS.le {S : List TriM} {ts : List Int} (h : InS S ts) : ts.length ≤ S.length := by
 have hm : (ts.map Int.toNat).Nodup := by
  rw [List.nodup_iff_pairwise_ne, List.pairwise_map]
  refine (List.nodup_iff_pairwise_ne.1 h.once).imp_of_mem ?_
  intro a b ha hb hne e
  obtain ⟨x, rfl, -⟩ := h.is a ha
  obtain ⟨y, rfl, -⟩ := h.is b hb
  exact hne (by simp at e; rw [e])
 have hs : ∀ x ∈ ts.map Int.toNat, x ∈ List.range S.length := by
  intro x hx
  obtain ⟨t, ht, rfl⟩ := List.mem_map.1 hx
  obtain ⟨u, rfl, hu⟩ := h.is t ht
  simpa using hu
 have := List.Nodup.length_le_of_subset hm (fun x hx => hs x hx)
 simpa using this
/-- Where the list ends the spreading ends. -/
theorem spreadM_end (P : List (Int × Int)) (S : List TriM) (p : Int × Int) {ts : List Int} : ∀ (fuel : Nat) {n : Nat}, ts.length ≤ n → spreadM P S p fuel n ts = ts
 | 0, _, _ => rfl
 | fuel + 1, n, h => by rw [spreadM, List.getElem?_eq_none h]
/-- One more of them is gone through. -/
theorem spreadM_on (P : List (Int × Int)) (S : List TriM) (p : Int × Int) {ts : List Int} {fuel n t : Nat} {T : TriM} (h : ts[n]? = some (t : Int)) (hT : S[t]? = some T) : spreadM P S p (fuel + 1) n ts = spreadM P S p fuel (n + 1) (innerM P S p T 3 ts) := by
 rw [spreadM, h]
 simp only [Int.toNat_natCast, hT]
end Go.Proofs.YtecnnpkpgbbfkaaGreat
/- cavity's side. Written by tools/cav3.py. -/
namespace Go.Proofs.YtecnnpkpgbbfkaaGreat
open Go.RowKit Go.MagM Go.Maps
set_option maxRecDepth 100000 in
set_option maxHeartbeats 8000000 in
theorem cvSide0 {mb pb pc hb : Nat} {ta : Option Addr} {tc : Nat} {P : List (Int × Int)} {S : List TriM} (t u : Nat) (v0 v1 v2 n1 n2 : Int) (f0 f1 f2 : Bool) (U : TriM) (w : World) (h : MeshR w mb pb pc ta tc P S) (hc : w.cell? ⟨hb, 0, none⟩ = some (.pointer (some ⟨mb, 0, none⟩))) (hT : S[t]? = some (⟨v0, v1, v2, (u : Int), n1, n2, f0, f1, f2⟩ : TriM)) (hU : S[u]? = some U) :
  Calls Tryz.prog 201 #[.pointer (some ⟨hb, 0, none⟩), .int .i64 (t : Int), .int .i64 0] w fun e w' => e = .returned (.agg #[.int .i64 v1, .int .i64 v2, .int .i64 (u : Int), .int .i64 (edgeT U v2 v1), .bool f0]) ∧ Below w.heap.size w w' := by
 obtain ⟨w1, hw1, pl, hb1, hs1⟩ := new_box w _ rfl [.int .i64 0, .int .i64 0, .int .i64 0, .int .i64 0, .bool false] 211
 have NE := Lib.hid (show w1.heap.size ≠ w.heap.size by omega)
 have hc1 : w1.cell? ⟨hb, 0, none⟩ = some (.pointer (some ⟨mb, 0, none⟩)) := (hb1.cell (World.block_lt_of_cell? _ _ hc)).trans hc
 have h1 := h.below hb1
 obtain ⟨w2, hw2, px, hb2, hs2⟩ := new_box w1 _ rfl [.int .i64 v0, .int .i64 v1, .int .i64 v2, .int .i64 (u : Int), .int .i64 n1, .int .i64 n2, .bool f0, .bool f1, .bool f2] 41
 have hlt := (List.getElem?_eq_some_iff.1 hT).1
 have hsh := h.short.2
 obtain ⟨len, hlen⟩ : ∃ len, S.length = len := ⟨_, rfl⟩
 have i1 : (0 : Int) ≤ (t : Int) := by omega
 have i2 : (t : Int) < (len : Int) := by omega
 have b1 := h1.box.c1
 rw [hlen] at b1 hsh hlt
 obtain ⟨tb, hta, -, h9⟩ := h1.tris.get hT
 subst hta
 obtain ⟨c0, c1, c2, c3, c4, c5, c6, c7, c8⟩ := h9
 simp only [] at c0 c1 c2 c3 c4 c5 c6 c7 c8
 have HEN := Lib.hid (show ∀ W : World, Calls Tryz.prog 225 #[.agg #[.int .i64 v0, .int .i64 v1, .int .i64 v2, .int .i64 (u : Int), .int .i64 n1, .int .i64 n2, .bool f0, .bool f1, .bool f2], .int .i64 0] W fun e w' => e = .returned (.tuple #[.int .i64 v1, .int .i64 v2]) ∧ Below W.heap.size W w' from fun W => cvEnds_any (⟨v0, v1, v2, (u : Int), n1, n2, f0, f1, f2⟩ : TriM) 0 (by omega) W)
 obtain ⟨j, hj⟩ : ∃ j, edgeT U v2 v1 = j := ⟨_, rfl⟩
 rw [hj]
 have HED := Lib.hid (show ∀ W : World, Below w1.heap.size w1 W → Calls Tryz.prog 224 #[.pointer (some ⟨mb, 0, none⟩), .int .i64 (u : Int), .int .i64 v2, .int .i64 v1] W fun e w' => e = .returned (.int .i64 j) ∧ Below W.heap.size W w' from fun W hW => by have := cvEdge_any u U v2 v1 W (h1.below hW) hU; rw [hj] at this; exact this)
 have HB1 := Lib.hid hb1; have HB2 := Lib.hid hb2
 have PL2 := Lib.hid (pl.below hb2); have PX2 := Lib.hid px
 have d0 := px.c 0 _ rfl; have d1 := px.c 1 _ rfl; have d2 := px.c 2 _ rfl; have d3 := px.c 3 _ rfl; have d4 := px.c 4 _ rfl; have d5 := px.c 5 _ rfl; have d6 := px.c 6 _ rfl; have d7 := px.c 7 _ rfl; have d8 := px.c 8 _ rfl
 have HC1 := Lib.hid hc1; have HC0 := Lib.hid hc
 clear h hc hT hU hb1 hb2 hs1 hs2 pl px h1 hlen hj
 go_enter Tryz.func201, Tryz.ntmps201
 go_wp2_with fail
 refine (HEN.out _).mono ?_
 rintro e w3 ⟨rfl, hb3⟩
 clear hw1 hw2 d0 d1 d2 d3 d4 d5 d6 d7 d8 c0 c1 c2 c3 c4 c5 c6 c7 c8 b1 hc1 i1 i2
 have HB3 := Lib.hid (HB2.out.trans (hb3.mono HB2.out.size))
 have PL := Lib.hid (PL2.out.below hb3); have PX := Lib.hid (PX2.out.below hb3)
 clear hb3
 have d0 := PX.out.c 3 _ rfl
 go_wp2
 clear d0
 refine wp_region_noPanic ?_
 refine wp_region_held_drew (S := fun w' => w'.cell? ⟨hb, 0, none⟩ = some (.pointer (some ⟨mb, 0, none⟩)) ∧ w'.cell? ⟨w1.heap.size, 6, none⟩ = some (.bool f0)) (by kernel_rfl) (⟨(HB3.out.cell (World.block_lt_of_cell? _ _ HC1.out)).trans HC1.out, PX.out.c 6 _ rfl⟩) (fun hHeld => ?_)
 refine rU 0 _ _ ?_
 (try simp only [Act.put]);try simp only [sA,sZ,sS]
 refine rU 1 _ _ ?_
 (try simp only [Act.put]);try simp only [sA,sZ,sS]
 refine rU 2 _ _ ?_
 (try simp only [Act.put]);try simp only [sA,sZ,sS]
 refine rU 3 _ _ ?_
 (try simp only [Act.put]);try simp only [sA,sZ,sS]
 refine rU 4 _ _ ?_
 (try simp only [Act.put]);try simp only [sA,sZ,sS]
 refine rU 5 _ _ ?_
 (try simp only [Act.put]);try simp only [sA,sZ,sS]
 refine rU 6 _ _ ?_
 (try simp only [Act.put]);try simp only [sA,sZ,sS]
 refine rU 7 _ _ ?_
 (try simp only [Act.put]);try simp only [sA,sZ,sS]
 refine rU 8 _ _ ?_
 (try simp only [Act.put]);try simp only [sA,sZ,sS]
 refine rU 9 _ _ ?_
 (try simp only [Act.put]);try simp only [sA,sZ,sS]
 refine rU 11 _ _ ?_
 (try simp only [Act.put]);try simp only [sA,sZ,sS]
 refine rU 12 _ _ ?_
 (try simp only [Act.put]);try simp only [sA,sZ,sS]
 refine rU 13 _ _ ?_
 (try simp only [Act.put]);try simp only [sA,sZ,sS]
 refine rU 14 _ _ ?_
 (try simp only [Act.put]);try simp only [sA,sZ,sS]
 refine reg_call 10 ?_ (by kernel_rfl) ?_ (fun K hK => ?_);rotate_left 1
 ·simp only [gA,gS,gZ]; exact rfl
 go_simp
 refine (HED.out _ HB3.out.drew').mono ?_
 rintro e w4 ⟨rfl, hb4⟩
 have HB4 := Lib.hid hb4; clear hb4
 have PX4 := Lib.hid ((PX.out.drew).below HB4.out)
 have HB34 := Lib.hid (HB3.out.drew'.trans (HB4.out.mono HB3.out.size))
 refine hK.out _ _ (⟨(HB34.out.cell (World.block_lt_of_cell? _ _ HC1.out)).trans HC1.out, PX4.out.c 6 _ rfl⟩) (fun hHeld => ?_)
 clear hK K
 (try simp only [Act.put]);try simp only [sA,sZ,sS]
 refine rU 15 _ _ ?_
 (try simp only [Act.put]);try simp only [sA,sZ,sS]
 refine reg_call 16 ?_ (by kernel_rfl) ?_ (fun K hK => ?_);rotate_left 1
 ·simp only [gA,gS,gZ]; exact rfl
 have hbq := HB34.out
 have plq := (PL.out.drew).below HB4.out
 obtain ⟨wz, hwz⟩ : ∃ wz, setAll w4 w.heap.size 0 [.int .i64 v1, .int .i64 v2, .int .i64 (u : Int), .int .i64 j, .bool f0] = wz := ⟨_, rfl⟩
 have pz : Box wz w.heap.size [.int .i64 v1, .int .i64 v2, .int .i64 (u : Int), .int .i64 j, .bool f0] := by rw [← hwz]; exact plq.setAll [.int .i64 v1, .int .i64 v2, .int .i64 (u : Int), .int .i64 j, .bool f0] rfl
 have hbz : Below w.heap.size w wz := by rw [← hwz]; exact below_setAll (HB1.out.trans (hbq.mono HB1.out.size)) (Nat.le_refl _) _
 have hne : w1.heap.size ≠ w.heap.size := NE.out
 have pxz : Box wz w1.heap.size [.int .i64 v0, .int .i64 v1, .int .i64 v2, .int .i64 (u : Int), .int .i64 n1, .int .i64 n2, .bool f0, .bool f1, .bool f2] := by rw [← hwz]; exact (((((PX4.out.far hne _ _).far hne _ _).far hne _ _).far hne _ _).far hne _ _)
 have z0 := pz.c 0 _ rfl; have z1 := pz.c 1 _ rfl; have z2 := pz.c 2 _ rfl; have z3 := pz.c 3 _ rfl; have z4 := pz.c 4 _ rfl
 have o0 := plq.c 0 _ rfl; have o1 := plq.c 1 _ rfl; have o2 := plq.c 2 _ rfl; have o3 := plq.c 3 _ rfl; have o4 := plq.c 4 _ rfl
 have g0 := plq.f 0 _ rfl; have g1 := plq.f 1 _ rfl; have g2 := plq.f 2 _ rfl; have g3 := plq.f 3 _ rfl; have g4 := plq.f 4 _ rfl
 have HWZ := Lib.hid hwz; have HBZ := Lib.hid hbz; have HZ := Lib.hid (And.intro z0 (And.intro z1 (And.intro z2 (And.intro z3 z4)))); have PXZ := Lib.hid pxz
 clear hbq plq hwz pz hbz hne pxz z0 z1 z2 z3 z4
 go_simp
 clear o0 o1 o2 o3 o4 g0 g1 g2 g3 g4
 have hwz := HWZ.out
 simp only [setAll] at hwz
 rw [hwz]
 refine hK.out _ _ (⟨(HBZ.out.cell (World.block_lt_of_cell? _ _ HC0.out)).trans HC0.out, PXZ.out.c 6 _ rfl⟩) (fun hHeld => ?_)
 clear hK K
 (try simp only [Act.put]);try simp only [sA,sZ,sS]
 refine wpAnyH_done (by kernel_rfl) ?_ _
 refine NoPanic.normal ?_
 go_wp2
 have z0 := HZ.out.1; have z1 := HZ.out.2.1; have z2 := HZ.out.2.2.1; have z3 := HZ.out.2.2.2.1; have z4 := HZ.out.2.2.2.2
 (try simp only [Exit.inBlock, Exit.then])
 refine bodyPost_ret (v := .agg #[.int .i64 v1, .int .i64 v2, .int .i64 (u : Int), .int .i64 j, .bool f0]) ?_ rfl ?_
 ·simp [results, Tryz.results201, go_sem, z0, z1, z2, z3, z4]
 ·exact ⟨rfl, HBZ.out⟩
set_option maxRecDepth 100000 in
set_option maxHeartbeats 8000000 in
theorem cvSide1 {mb pb pc hb : Nat} {ta : Option Addr} {tc : Nat} {P : List (Int × Int)} {S : List TriM} (t u : Nat) (v0 v1 v2 n0 n2 : Int) (f0 f1 f2 : Bool) (U : TriM) (w : World) (h : MeshR w mb pb pc ta tc P S) (hc : w.cell? ⟨hb, 0, none⟩ = some (.pointer (some ⟨mb, 0, none⟩))) (hT : S[t]? = some (⟨v0, v1, v2, n0, (u : Int), n2, f0, f1, f2⟩ : TriM)) (hU : S[u]? = some U) :
  Calls Tryz.prog 201 #[.pointer (some ⟨hb, 0, none⟩), .int .i64 (t : Int), .int .i64 1] w fun e w' => e = .returned (.agg #[.int .i64 v2, .int .i64 v0, .int .i64 (u : Int), .int .i64 (edgeT U v0 v2), .bool f1]) ∧ Below w.heap.size w w' := by
 obtain ⟨w1, hw1, pl, hb1, hs1⟩ := new_box w _ rfl [.int .i64 0, .int .i64 0, .int .i64 0, .int .i64 0, .bool false] 211
 have NE := Lib.hid (show w1.heap.size ≠ w.heap.size by omega)
 have hc1 : w1.cell? ⟨hb, 0, none⟩ = some (.pointer (some ⟨mb, 0, none⟩)) := (hb1.cell (World.block_lt_of_cell? _ _ hc)).trans hc
 have h1 := h.below hb1
 obtain ⟨w2, hw2, px, hb2, hs2⟩ := new_box w1 _ rfl [.int .i64 v0, .int .i64 v1, .int .i64 v2, .int .i64 n0, .int .i64 (u : Int), .int .i64 n2, .bool f0, .bool f1, .bool f2] 41
 have hlt := (List.getElem?_eq_some_iff.1 hT).1
 have hsh := h.short.2
 obtain ⟨len, hlen⟩ : ∃ len, S.length = len := ⟨_, rfl⟩
 have i1 : (0 : Int) ≤ (t : Int) := by omega
 have i2 : (t : Int) < (len : Int) := by omega
 have b1 := h1.box.c1
 rw [hlen] at b1 hsh hlt
 obtain ⟨tb, hta, -, h9⟩ := h1.tris.get hT
 subst hta
 obtain ⟨c0, c1, c2, c3, c4, c5, c6, c7, c8⟩ := h9
 simp only [] at c0 c1 c2 c3 c4 c5 c6 c7 c8
 have HEN := Lib.hid (show ∀ W : World, Calls Tryz.prog 225 #[.agg #[.int .i64 v0, .int .i64 v1, .int .i64 v2, .int .i64 n0, .int .i64 (u : Int), .int .i64 n2, .bool f0, .bool f1, .bool f2], .int .i64 1] W fun e w' => e = .returned (.tuple #[.int .i64 v2, .int .i64 v0]) ∧ Below W.heap.size W w' from fun W => cvEnds_any (⟨v0, v1, v2, n0, (u : Int), n2, f0, f1, f2⟩ : TriM) 1 (by omega) W)
 obtain ⟨j, hj⟩ : ∃ j, edgeT U v0 v2 = j := ⟨_, rfl⟩
 rw [hj]
 have HED := Lib.hid (show ∀ W : World, Below w1.heap.size w1 W → Calls Tryz.prog 224 #[.pointer (some ⟨mb, 0, none⟩), .int .i64 (u : Int), .int .i64 v0, .int .i64 v2] W fun e w' => e = .returned (.int .i64 j) ∧ Below W.heap.size W w' from fun W hW => by have := cvEdge_any u U v0 v2 W (h1.below hW) hU; rw [hj] at this; exact this)
 have HB1 := Lib.hid hb1; have HB2 := Lib.hid hb2
 have PL2 := Lib.hid (pl.below hb2); have PX2 := Lib.hid px
 have d0 := px.c 0 _ rfl; have d1 := px.c 1 _ rfl; have d2 := px.c 2 _ rfl; have d3 := px.c 3 _ rfl; have d4 := px.c 4 _ rfl; have d5 := px.c 5 _ rfl; have d6 := px.c 6 _ rfl; have d7 := px.c 7 _ rfl; have d8 := px.c 8 _ rfl
 have HC1 := Lib.hid hc1; have HC0 := Lib.hid hc
 clear h hc hT hU hb1 hb2 hs1 hs2 pl px h1 hlen hj
 go_enter Tryz.func201, Tryz.ntmps201
 go_wp2_with fail
 refine (HEN.out _).mono ?_
 rintro e w3 ⟨rfl, hb3⟩
 clear hw1 hw2 d0 d1 d2 d3 d4 d5 d6 d7 d8 c0 c1 c2 c3 c4 c5 c6 c7 c8 b1 hc1 i1 i2
 have HB3 := Lib.hid (HB2.out.trans (hb3.mono HB2.out.size))
 have PL := Lib.hid (PL2.out.below hb3); have PX := Lib.hid (PX2.out.below hb3)
 clear hb3
 have d0 := PX.out.c 4 _ rfl
 go_wp2
 clear d0
 refine wp_region_noPanic ?_
 refine wp_region_held_drew (S := fun w' => w'.cell? ⟨hb, 0, none⟩ = some (.pointer (some ⟨mb, 0, none⟩)) ∧ w'.cell? ⟨w1.heap.size, 7, none⟩ = some (.bool f1)) (by kernel_rfl) (⟨(HB3.out.cell (World.block_lt_of_cell? _ _ HC1.out)).trans HC1.out, PX.out.c 7 _ rfl⟩) (fun hHeld => ?_)
 refine rU 0 _ _ ?_
 (try simp only [Act.put]);try simp only [sA,sZ,sS]
 refine rU 1 _ _ ?_
 (try simp only [Act.put]);try simp only [sA,sZ,sS]
 refine rU 2 _ _ ?_
 (try simp only [Act.put]);try simp only [sA,sZ,sS]
 refine rU 3 _ _ ?_
 (try simp only [Act.put]);try simp only [sA,sZ,sS]
 refine rU 4 _ _ ?_
 (try simp only [Act.put]);try simp only [sA,sZ,sS]
 refine rU 5 _ _ ?_
 (try simp only [Act.put]);try simp only [sA,sZ,sS]
 refine rU 6 _ _ ?_
 (try simp only [Act.put]);try simp only [sA,sZ,sS]
 refine rU 7 _ _ ?_
 (try simp only [Act.put]);try simp only [sA,sZ,sS]
 refine rU 8 _ _ ?_
 (try simp only [Act.put]);try simp only [sA,sZ,sS]
 refine rU 9 _ _ ?_
 (try simp only [Act.put]);try simp only [sA,sZ,sS]
 refine rU 11 _ _ ?_
 (try simp only [Act.put]);try simp only [sA,sZ,sS]
 refine rU 12 _ _ ?_
 (try simp only [Act.put]);try simp only [sA,sZ,sS]
 refine rU 13 _ _ ?_
 (try simp only [Act.put]);try simp only [sA,sZ,sS]
 refine rU 14 _ _ ?_
 (try simp only [Act.put]);try simp only [sA,sZ,sS]
 refine reg_call 10 ?_ (by kernel_rfl) ?_ (fun K hK => ?_);rotate_left 1
 ·simp only [gA,gS,gZ]; exact rfl
 go_simp
 refine (HED.out _ HB3.out.drew').mono ?_
 rintro e w4 ⟨rfl, hb4⟩
 have HB4 := Lib.hid hb4; clear hb4
 have PX4 := Lib.hid ((PX.out.drew).below HB4.out)
 have HB34 := Lib.hid (HB3.out.drew'.trans (HB4.out.mono HB3.out.size))
 refine hK.out _ _ (⟨(HB34.out.cell (World.block_lt_of_cell? _ _ HC1.out)).trans HC1.out, PX4.out.c 7 _ rfl⟩) (fun hHeld => ?_)
 clear hK K
 (try simp only [Act.put]);try simp only [sA,sZ,sS]
 refine rU 15 _ _ ?_
 (try simp only [Act.put]);try simp only [sA,sZ,sS]
 refine reg_call 16 ?_ (by kernel_rfl) ?_ (fun K hK => ?_);rotate_left 1
 ·simp only [gA,gS,gZ]; exact rfl
 have hbq := HB34.out
 have plq := (PL.out.drew).below HB4.out
 obtain ⟨wz, hwz⟩ : ∃ wz, setAll w4 w.heap.size 0 [.int .i64 v2, .int .i64 v0, .int .i64 (u : Int), .int .i64 j, .bool f1] = wz := ⟨_, rfl⟩
 have pz : Box wz w.heap.size [.int .i64 v2, .int .i64 v0, .int .i64 (u : Int), .int .i64 j, .bool f1] := by rw [← hwz]; exact plq.setAll [.int .i64 v2, .int .i64 v0, .int .i64 (u : Int), .int .i64 j, .bool f1] rfl
 have hbz : Below w.heap.size w wz := by rw [← hwz]; exact below_setAll (HB1.out.trans (hbq.mono HB1.out.size)) (Nat.le_refl _) _
 have hne : w1.heap.size ≠ w.heap.size := NE.out
 have pxz : Box wz w1.heap.size [.int .i64 v0, .int .i64 v1, .int .i64 v2, .int .i64 n0, .int .i64 (u : Int), .int .i64 n2, .bool f0, .bool f1, .bool f2] := by rw [← hwz]; exact (((((PX4.out.far hne _ _).far hne _ _).far hne _ _).far hne _ _).far hne _ _)
 have z0 := pz.c 0 _ rfl; have z1 := pz.c 1 _ rfl; have z2 := pz.c 2 _ rfl; have z3 := pz.c 3 _ rfl; have z4 := pz.c 4 _ rfl
 have o0 := plq.c 0 _ rfl; have o1 := plq.c 1 _ rfl; have o2 := plq.c 2 _ rfl; have o3 := plq.c 3 _ rfl; have o4 := plq.c 4 _ rfl
 have g0 := plq.f 0 _ rfl; have g1 := plq.f 1 _ rfl; have g2 := plq.f 2 _ rfl; have g3 := plq.f 3 _ rfl; have g4 := plq.f 4 _ rfl
 have HWZ := Lib.hid hwz; have HBZ := Lib.hid hbz; have HZ := Lib.hid (And.intro z0 (And.intro z1 (And.intro z2 (And.intro z3 z4)))); have PXZ := Lib.hid pxz
 clear hbq plq hwz pz hbz hne pxz z0 z1 z2 z3 z4
 go_simp
 clear o0 o1 o2 o3 o4 g0 g1 g2 g3 g4
 have hwz := HWZ.out
 simp only [setAll] at hwz
 rw [hwz]
 refine hK.out _ _ (⟨(HBZ.out.cell (World.block_lt_of_cell? _ _ HC0.out)).trans HC0.out, PXZ.out.c 7 _ rfl⟩) (fun hHeld => ?_)
 clear hK K
 (try simp only [Act.put]);try simp only [sA,sZ,sS]
 refine wpAnyH_done (by kernel_rfl) ?_ _
 refine NoPanic.normal ?_
 go_wp2
 have z0 := HZ.out.1; have z1 := HZ.out.2.1; have z2 := HZ.out.2.2.1; have z3 := HZ.out.2.2.2.1; have z4 := HZ.out.2.2.2.2
 (try simp only [Exit.inBlock, Exit.then])
 refine bodyPost_ret (v := .agg #[.int .i64 v2, .int .i64 v0, .int .i64 (u : Int), .int .i64 j, .bool f1]) ?_ rfl ?_
 ·simp [results, Tryz.results201, go_sem, z0, z1, z2, z3, z4]
 ·exact ⟨rfl, HBZ.out⟩
set_option maxRecDepth 100000 in
set_option maxHeartbeats 8000000 in
theorem cvSide2 {mb pb pc hb : Nat} {ta : Option Addr} {tc : Nat} {P : List (Int × Int)} {S : List TriM} (t u : Nat) (v0 v1 v2 n0 n1 : Int) (f0 f1 f2 : Bool) (U : TriM) (w : World) (h : MeshR w mb pb pc ta tc P S) (hc : w.cell? ⟨hb, 0, none⟩ = some (.pointer (some ⟨mb, 0, none⟩))) (hT : S[t]? = some (⟨v0, v1, v2, n0, n1, (u : Int), f0, f1, f2⟩ : TriM)) (hU : S[u]? = some U) :
  Calls Tryz.prog 201 #[.pointer (some ⟨hb, 0, none⟩), .int .i64 (t : Int), .int .i64 2] w fun e w' => e = .returned (.agg #[.int .i64 v0, .int .i64 v1, .int .i64 (u : Int), .int .i64 (edgeT U v1 v0), .bool f2]) ∧ Below w.heap.size w w' := by
 obtain ⟨w1, hw1, pl, hb1, hs1⟩ := new_box w _ rfl [.int .i64 0, .int .i64 0, .int .i64 0, .int .i64 0, .bool false] 211
 have NE := Lib.hid (show w1.heap.size ≠ w.heap.size by omega)
 have hc1 : w1.cell? ⟨hb, 0, none⟩ = some (.pointer (some ⟨mb, 0, none⟩)) := (hb1.cell (World.block_lt_of_cell? _ _ hc)).trans hc
 have h1 := h.below hb1
 obtain ⟨w2, hw2, px, hb2, hs2⟩ := new_box w1 _ rfl [.int .i64 v0, .int .i64 v1, .int .i64 v2, .int .i64 n0, .int .i64 n1, .int .i64 (u : Int), .bool f0, .bool f1, .bool f2] 41
 have hlt := (List.getElem?_eq_some_iff.1 hT).1
 have hsh := h.short.2
 obtain ⟨len, hlen⟩ : ∃ len, S.length = len := ⟨_, rfl⟩
 have i1 : (0 : Int) ≤ (t : Int) := by omega
 have i2 : (t : Int) < (len : Int) := by omega
 have b1 := h1.box.c1
 rw [hlen] at b1 hsh hlt
 obtain ⟨tb, hta, -, h9⟩ := h1.tris.get hT
 subst hta
 obtain ⟨c0, c1, c2, c3, c4, c5, c6, c7, c8⟩ := h9
 simp only [] at c0 c1 c2 c3 c4 c5 c6 c7 c8
 have HEN := Lib.hid (show ∀ W : World, Calls Tryz.prog 225 #[.agg #[.int .i64 v0, .int .i64 v1, .int .i64 v2, .int .i64 n0, .int .i64 n1, .int .i64 (u : Int), .bool f0, .bool f1, .bool f2], .int .i64 2] W fun e w' => e = .returned (.tuple #[.int .i64 v0, .int .i64 v1]) ∧ Below W.heap.size W w' from fun W => cvEnds_any (⟨v0, v1, v2, n0, n1, (u : Int), f0, f1, f2⟩ : TriM) 2 (by omega) W)
 obtain ⟨j, hj⟩ : ∃ j, edgeT U v1 v0 = j := ⟨_, rfl⟩
 rw [hj]
 have HED := Lib.hid (show ∀ W : World, Below w1.heap.size w1 W → Calls Tryz.prog 224 #[.pointer (some ⟨mb, 0, none⟩), .int .i64 (u : Int), .int .i64 v1, .int .i64 v0] W fun e w' => e = .returned (.int .i64 j) ∧ Below W.heap.size W w' from fun W hW => by have := cvEdge_any u U v1 v0 W (h1.below hW) hU; rw [hj] at this; exact this)
 have HB1 := Lib.hid hb1; have HB2 := Lib.hid hb2
 have PL2 := Lib.hid (pl.below hb2); have PX2 := Lib.hid px
 have d0 := px.c 0 _ rfl; have d1 := px.c 1 _ rfl; have d2 := px.c 2 _ rfl; have d3 := px.c 3 _ rfl; have d4 := px.c 4 _ rfl; have d5 := px.c 5 _ rfl; have d6 := px.c 6 _ rfl; have d7 := px.c 7 _ rfl; have d8 := px.c 8 _ rfl
 have HC1 := Lib.hid hc1; have HC0 := Lib.hid hc
 clear h hc hT hU hb1 hb2 hs1 hs2 pl px h1 hlen hj
 go_enter Tryz.func201, Tryz.ntmps201
 go_wp2_with fail
 refine (HEN.out _).mono ?_
 rintro e w3 ⟨rfl, hb3⟩
 clear hw1 hw2 d0 d1 d2 d3 d4 d5 d6 d7 d8 c0 c1 c2 c3 c4 c5 c6 c7 c8 b1 hc1 i1 i2
 have HB3 := Lib.hid (HB2.out.trans (hb3.mono HB2.out.size))
 have PL := Lib.hid (PL2.out.below hb3); have PX := Lib.hid (PX2.out.below hb3)
 clear hb3
 have d0 := PX.out.c 5 _ rfl
 go_wp2
 clear d0
 refine wp_region_noPanic ?_
 refine wp_region_held_drew (S := fun w' => w'.cell? ⟨hb, 0, none⟩ = some (.pointer (some ⟨mb, 0, none⟩)) ∧ w'.cell? ⟨w1.heap.size, 8, none⟩ = some (.bool f2)) (by kernel_rfl) (⟨(HB3.out.cell (World.block_lt_of_cell? _ _ HC1.out)).trans HC1.out, PX.out.c 8 _ rfl⟩) (fun hHeld => ?_)
 refine rU 0 _ _ ?_
 (try simp only [Act.put]);try simp only [sA,sZ,sS]
 refine rU 1 _ _ ?_
 (try simp only [Act.put]);try simp only [sA,sZ,sS]
 refine rU 2 _ _ ?_
 (try simp only [Act.put]);try simp only [sA,sZ,sS]
 refine rU 3 _ _ ?_
 (try simp only [Act.put]);try simp only [sA,sZ,sS]
 refine rU 4 _ _ ?_
 (try simp only [Act.put]);try simp only [sA,sZ,sS]
 refine rU 5 _ _ ?_
 (try simp only [Act.put]);try simp only [sA,sZ,sS]
 refine rU 6 _ _ ?_
 (try simp only [Act.put]);try simp only [sA,sZ,sS]
 refine rU 7 _ _ ?_
 (try simp only [Act.put]);try simp only [sA,sZ,sS]
 refine rU 8 _ _ ?_
 (try simp only [Act.put]);try simp only [sA,sZ,sS]
 refine rU 9 _ _ ?_
 (try simp only [Act.put]);try simp only [sA,sZ,sS]
 refine rU 11 _ _ ?_
 (try simp only [Act.put]);try simp only [sA,sZ,sS]
 refine rU 12 _ _ ?_
 (try simp only [Act.put]);try simp only [sA,sZ,sS]
 refine rU 13 _ _ ?_
 (try simp only [Act.put]);try simp only [sA,sZ,sS]
 refine rU 14 _ _ ?_
 (try simp only [Act.put]);try simp only [sA,sZ,sS]
 refine reg_call 10 ?_ (by kernel_rfl) ?_ (fun K hK => ?_);rotate_left 1
 ·simp only [gA,gS,gZ]; exact rfl
 go_simp
 refine (HED.out _ HB3.out.drew').mono ?_
 rintro e w4 ⟨rfl, hb4⟩
 have HB4 := Lib.hid hb4; clear hb4
 have PX4 := Lib.hid ((PX.out.drew).below HB4.out)
 have HB34 := Lib.hid (HB3.out.drew'.trans (HB4.out.mono HB3.out.size))
 refine hK.out _ _ (⟨(HB34.out.cell (World.block_lt_of_cell? _ _ HC1.out)).trans HC1.out, PX4.out.c 8 _ rfl⟩) (fun hHeld => ?_)
 clear hK K
 (try simp only [Act.put]);try simp only [sA,sZ,sS]
 refine rU 15 _ _ ?_
 (try simp only [Act.put]);try simp only [sA,sZ,sS]
 refine reg_call 16 ?_ (by kernel_rfl) ?_ (fun K hK => ?_);rotate_left 1
 ·simp only [gA,gS,gZ]; exact rfl
 have hbq := HB34.out
 have plq := (PL.out.drew).below HB4.out
 obtain ⟨wz, hwz⟩ : ∃ wz, setAll w4 w.heap.size 0 [.int .i64 v0, .int .i64 v1, .int .i64 (u : Int), .int .i64 j, .bool f2] = wz := ⟨_, rfl⟩
 have pz : Box wz w.heap.size [.int .i64 v0, .int .i64 v1, .int .i64 (u : Int), .int .i64 j, .bool f2] := by rw [← hwz]; exact plq.setAll [.int .i64 v0, .int .i64 v1, .int .i64 (u : Int), .int .i64 j, .bool f2] rfl
 have hbz : Below w.heap.size w wz := by rw [← hwz]; exact below_setAll (HB1.out.trans (hbq.mono HB1.out.size)) (Nat.le_refl _) _
 have hne : w1.heap.size ≠ w.heap.size := NE.out
 have pxz : Box wz w1.heap.size [.int .i64 v0, .int .i64 v1, .int .i64 v2, .int .i64 n0, .int .i64 n1, .int .i64 (u : Int), .bool f0, .bool f1, .bool f2] := by rw [← hwz]; exact (((((PX4.out.far hne _ _).far hne _ _).far hne _ _).far hne _ _).far hne _ _)
 have z0 := pz.c 0 _ rfl; have z1 := pz.c 1 _ rfl; have z2 := pz.c 2 _ rfl; have z3 := pz.c 3 _ rfl; have z4 := pz.c 4 _ rfl
 have o0 := plq.c 0 _ rfl; have o1 := plq.c 1 _ rfl; have o2 := plq.c 2 _ rfl; have o3 := plq.c 3 _ rfl; have o4 := plq.c 4 _ rfl
 have g0 := plq.f 0 _ rfl; have g1 := plq.f 1 _ rfl; have g2 := plq.f 2 _ rfl; have g3 := plq.f 3 _ rfl; have g4 := plq.f 4 _ rfl
 have HWZ := Lib.hid hwz; have HBZ := Lib.hid hbz; have HZ := Lib.hid (And.intro z0 (And.intro z1 (And.intro z2 (And.intro z3 z4)))); have PXZ := Lib.hid pxz
 clear hbq plq hwz pz hbz hne pxz z0 z1 z2 z3 z4
 go_simp
 clear o0 o1 o2 o3 o4 g0 g1 g2 g3 g4
 have hwz := HWZ.out
 simp only [setAll] at hwz
 rw [hwz]
 refine hK.out _ _ (⟨(HBZ.out.cell (World.block_lt_of_cell? _ _ HC0.out)).trans HC0.out, PXZ.out.c 8 _ rfl⟩) (fun hHeld => ?_)
 clear hK K
 (try simp only [Act.put]);try simp only [sA,sZ,sS]
 refine wpAnyH_done (by kernel_rfl) ?_ _
 refine NoPanic.normal ?_
 go_wp2
 have z0 := HZ.out.1; have z1 := HZ.out.2.1; have z2 := HZ.out.2.2.1; have z3 := HZ.out.2.2.2.1; have z4 := HZ.out.2.2.2.2
 (try simp only [Exit.inBlock, Exit.then])
 refine bodyPost_ret (v := .agg #[.int .i64 v0, .int .i64 v1, .int .i64 (u : Int), .int .i64 j, .bool f2]) ?_ rfl ?_
 ·simp [results, Tryz.results201, go_sem, z0, z1, z2, z3, z4]
 ·exact ⟨rfl, HBZ.out⟩
end Go.Proofs.YtecnnpkpgbbfkaaGreat
/- cavity's across; side for every edge. -/
namespace Go.Proofs.YtecnnpkpgbbfkaaGreat
open Go.RowKit Go.MagM Go.Maps
/-- A Side as a value. -/
def sideV (a b u j : Int) (f : Bool) : Value := .agg #[.int .i64 a, .int .i64 b, .int .i64 u, .int .i64 j, .bool f]
theorem cvSide_any {mb pb pc hb : Nat} {ta : Option Addr} {tc : Nat} {P : List (Int × Int)} {S : List TriM} (t u i : Nat) (hi : i < 3) (T U : TriM) (hu : T.n i = (u : Int)) (w : World) (h : MeshR w mb pb pc ta tc P S) (hc : w.cell? ⟨hb, 0, none⟩ = some (.pointer (some ⟨mb, 0, none⟩))) (hT : S[t]? = some T) (hU : S[u]? = some U) :
  Calls Tryz.prog 201 #[.pointer (some ⟨hb, 0, none⟩), .int .i64 (t : Int), .int .i64 (i : Int)] w fun e w' => e = .returned (sideV (edgeV T i).1 (edgeV T i).2 (u : Int) (edgeT U (edgeV T i).2 (edgeV T i).1) (T.f i)) ∧ Below w.heap.size w w' := by
 obtain ⟨v0, v1, v2, n0, n1, n2, f0, f1, f2⟩ := T
 obtain rfl | rfl | rfl : i = 0 ∨ i = 1 ∨ i = 2 := by omega
 ·obtain rfl : n0 = (u : Int) := hu
  exact cvSide0 t u v0 v1 v2 n1 n2 f0 f1 f2 U w h hc hT hU
 ·obtain rfl : n1 = (u : Int) := hu
  exact cvSide1 t u v0 v1 v2 n0 n2 f0 f1 f2 U w h hc hT hU
 ·obtain rfl : n2 = (u : Int) := hu
  exact cvSide2 t u v0 v1 v2 n0 n1 f0 f1 f2 U w h hc hT hU
end Go.Proofs.YtecnnpkpgbbfkaaGreat
/- cavity's begin. Written by tools/cav4.py. -/
namespace Go.Proofs.YtecnnpkpgbbfkaaGreat
open Go.RowKit Go.MagM Go.Maps
theorem HoleR.mono {w : World} {lo lo' hb mb b : Nat} {v : Value} {ts : List Int} (h : HoleR w lo hb mb b v ts) (hl : lo' ≤ lo) : HoleR w lo' hb mb b v ts := by
 refine ⟨h.box, ⟨h.row.1, ?_⟩, h.map, ⟨by have := h.low; omega, by have := h.low; omega, h.low.2.2⟩, h.short⟩
 rcases h.row.2 with h1 | ⟨g, cap, cur, h1, h2, h3⟩
 ·exact .inl h1
 ·exact .inr ⟨g, cap, cur, h1, by omega, h3⟩
set_option maxRecDepth 100000 in
set_option maxHeartbeats 8000000 in
theorem cvBegin_off {mb pb pc : Nat} {ta : Option Addr} {tc : Nat} {P : List (Int × Int)} {S : List TriM} (t : Nat) (T : TriM) (kd : Int) (a b : Int) (w : World) (h : MeshR w mb pb pc ta tc P S) (hT : S[t]? = some T) (hkd : (kd == 1) = false) :
  Calls Tryz.prog 152 #[.pointer (some ⟨mb, 0, none⟩), .agg #[.int .i64 kd, .int .i64 (t : Int), .int .i64 a, .int .i64 b]] w fun e w' => ∃ (hb m : Nat) (v : Value), e = .returned (.pointer (some ⟨hb, 0, none⟩)) ∧ HoleR w' w.heap.size hb mb m v (takeM P T (t : Int) []) ∧ Below w.heap.size w w' := by
 obtain ⟨w1, hw1, pp, hb1, hs1⟩ := new_box w _ rfl [.int .i64 kd, .int .i64 (t : Int), .int .i64 a, .int .i64 b] 113
 obtain ⟨hrun, hmap⟩ := run_new_map (P := Tryz.prog) w1 213 3
 obtain ⟨w2, hw2⟩ : ∃ w2, w1.alloc (.map #[] 0) = w2 := ⟨_, rfl⟩
 rw [hw2] at hrun hmap
 have hb2 : Below w1.heap.size w1 w2 := by rw [← hw2]; exact (Below.refl _ _).alloc (Nat.le_refl _) _
 have hs2 : w2.heap.size = w1.heap.size + 1 := by rw [← hw2]; simp
 obtain ⟨w3, hw3, ph, hb3, hs3⟩ := new_box w2 _ rfl [.pointer (some ⟨mb, 0, none⟩), .slice none 0 0, .map (some w1.heap.size)] 215
 have HH := Lib.hid (show HoleR w3 w1.heap.size w2.heap.size mb w1.heap.size (.slice none 0 0) [] from ⟨ph, RowN.nil _ _ _ _, hmap.below hb3, ⟨by omega, by omega, by omega, by simp [Value.ownBlock], by simp [Value.ownBlock]⟩, by simp⟩)
 have HB3 := Lib.hid (show Below w1.heap.size w1 w3 from hb2.trans (hb3.mono (by omega)))
 have HB1 := Lib.hid hb1
 have PP := Lib.hid ((pp.below hb2).below hb3)
 have H := Lib.hid (h.below hb1); have PP1 := Lib.hid pp; have HT := Lib.hid hT
 have p1 := PP.out.c 1 _ rfl
 clear pp hmap hb1 hb2 hb3 hs1 hs2 hs3 ph h hT hw2
 go_enter Tryz.func152, Tryz.ntmps152
 go_wp2_with fail
 refine (cvTake_any t T w3 H.out HB3.out HH.out HT.out (by simp)).mono ?_
 rintro e w4 ⟨rfl, ⟨v4, hh4, -⟩, hb4⟩
 have HH4 := Lib.hid hh4; have HB4 := Lib.hid hb4
 clear hh4 hb4 p1 hrun hw1 hw3
 have PP4 := Lib.hid (PP1.out.below HB4.out)
 have p0 := PP4.out.c 0 _ rfl; have p1 := PP4.out.c 1 _ rfl; have p2 := PP4.out.c 2 _ rfl; have p3 := PP4.out.c 3 _ rfl
 go_wp2
 go_ret
 exact ⟨_, _, _, rfl, HH4.out.mono HB1.out.size, HB1.out.trans (HB4.out.mono HB1.out.size)⟩
end Go.Proofs.YtecnnpkpgbbfkaaGreat
/- cavity's rim, side by side, ahead of inRow. -/
namespace Go.MagM
open Go.RowKit
/-- A Side. -/
structure SideM where
 a : Int
 b : Int
 u : Int
 i : Int
 f : Bool
def SideM.cells (s : SideM) : List Value := [.int .i64 s.a, .int .i64 s.b, .int .i64 s.u, .int .i64 s.i, .bool s.f]
def sideCells (l : List SideM) : List Value := l.flatMap SideM.cells
theorem sideCells_app (l k : List SideM) : sideCells (l ++ k) = sideCells l ++ sideCells k := List.flatMap_append
theorem sideCells_get : ∀ (l : List SideM) (i j : Nat) (s : SideM), l[i]? = some s → j < 5 → (sideCells l)[i * 5 + j]? = s.cells[j]?
 | s :: l, 0, j, s', h, hj => by
  cases h
  show (s.cells ++ sideCells l)[0 * 5 + j]? = _
  rw [Nat.zero_mul, Nat.zero_add, List.getElem?_append_left (by show j < 5; exact hj)]
 | s :: l, i + 1, j, s', h, hj => by
  show (s.cells ++ sideCells l)[(i + 1) * 5 + j]? = _
  rw [List.getElem?_append_right (by show 5 ≤ _; omega)]
  have e : (i + 1) * 5 + j - s.cells.length = i * 5 + j := by show (i + 1) * 5 + j - 5 = _; omega
  rw [e]
  exact sideCells_get l i j s' (by simpa using h) hj
/-- Which of U's edges goes so. -/
def outI (S : List TriM) (u a b : Int) : Int := match S[u.toNat]? with
 | some U => edgeT U a b
 | none => -1
/-- Edge i of T, as a side. -/
def sideS (S : List TriM) (T : TriM) (i : Nat) : SideM := ⟨(edgeV T i).1, (edgeV T i).2, T.n i, outI S (T.n i) (edgeV T i).2 (edgeV T i).1, T.f i⟩
/-- The sides of T's first n edges across which lies what isn't taken. -/
def rimI (S : List TriM) (ts : List Int) (T : TriM) : Nat → List SideM
 | 0 => []
 | n + 1 => rimI S ts T n ++ (if T.n n ∈ ts then [] else [sideS S T n])
def rimT (S : List TriM) (ts : List Int) (t : Int) : List SideM := match S[t.toNat]? with
 | some T => rimI S ts T 3
 | none => []
/-- The sides of the first n of those that are taken. -/
def rimP (S : List TriM) (ts : List Int) : Nat → List SideM
 | 0 => []
 | n + 1 => rimP S ts n ++ (match ts[n]? with
  | some t => rimT S ts t
  | none => [])
theorem rimI_le (S : List TriM) (ts : List Int) (T : TriM) : ∀ n, (rimI S ts T n).length ≤ n
 | 0 => Nat.le_refl _
 | n + 1 => by
  have := rimI_le S ts T n
  rw [rimI, List.length_append]
  split <;> simp <;> omega
theorem rimT_le (S : List TriM) (ts : List Int) (t : Int) : (rimT S ts t).length ≤ 3 := by
 unfold rimT; split
 ·exact rimI_le _ _ _ _
 ·simp
theorem rimP_le (S : List TriM) (ts : List Int) : ∀ n, (rimP S ts n).length ≤ 3 * n
 | 0 => Nat.le_refl _
 | n + 1 => by
  have := rimP_le S ts n
  rw [rimP, List.length_append]
  cases ts[n]? with
  | none => simp; omega
  | some t => have := rimT_le S ts t; simp only []; omega
theorem rimP_on {S : List TriM} {ts : List Int} {n t : Nat} {T : TriM} (h : ts[n]? = some (t : Int)) (hT : S[t]? = some T) : rimP S ts (n + 1) = rimP S ts n ++ rimI S ts T 3 := by
 rw [rimP, h]
 simp only []
 unfold rimT
 rw [Int.toNat_natCast, hT]
end Go.MagM
namespace Go.Proofs.YtecnnpkpgbbfkaaGreat
open Go.RowKit Go.MagM Go.Maps
theorem infoSide : (Tryz.prog.info? 211).map (fun i => (i.zero, i.size, i.bytes)) = some (some (.agg #[.int .i64 0, .int .i64 0, .int .i64 0, .int .i64 0, .bool false]), 5, 40) := by kernel_rfl
theorem sideV_is (S : List TriM) (T : TriM) (i : Nat) {u : Nat} {U : TriM} (hu : T.n i = (u : Int)) (hU : S[u]? = some U) : sideV (edgeV T i).1 (edgeV T i).2 (u : Int) (edgeT U (edgeV T i).2 (edgeV T i).1) (T.f i) = .agg (sideS S T i).cells.toArray := by
 unfold sideV sideS SideM.cells outI
 simp only []
 rw [hu, Int.toNat_natCast, hU]
end Go.Proofs.YtecnnpkpgbbfkaaGreat
/- What fill leaves: a triangle for each side of a rim (pure). -/
namespace Go.MagM
open Go.RowKit
/-- A triangle that is there. -/
def Alive (S : List TriM) (t : Nat) : Prop := ∃ T, S[t]? = some T ∧ goneB T = false
theorem Alive.lt {S : List TriM} {t : Nat} (h : Alive S t) : t < S.length := by
 obtain ⟨T, hT, -⟩ := h
 exact (List.getElem?_eq_some_iff.1 hT).1
theorem newT_aliveG (a b c : Int) (hc : c ≠ -2) : goneB (newT a b c) = false := by
 unfold goneB newT; exact decide_eq_false (fun h => hc h.2.2)
theorem free_gone {S : List TriM} {k : Nat} (h : freeK S = some k) : ∃ T, S[k]? = some T ∧ goneB T = true := by
 unfold freeK at h
 obtain ⟨h1, h2, -⟩ := List.findIdx?_eq_some_iff_getElem.1 h
 exact ⟨S[k], List.getElem?_eq_getElem h1, h2⟩
theorem alive_make {S : List TriM} {t : Nat} (h : Alive S t) (a b c : Int) : Alive (makeM S a b c) t := by
 obtain ⟨T, hT, hg⟩ := h
 unfold makeM
 cases hf : freeK S with
 | none => exact ⟨T, by rw [List.getElem?_append_left (List.getElem?_eq_some_iff.1 hT).1]; exact hT, hg⟩
 | some k =>
  obtain ⟨U, hU, hgU⟩ := free_gone hf
  have hne : k ≠ t := fun e => by subst e; rw [hU] at hT; cases hT; rw [hg] at hgU; cases hgU
  exact ⟨T, by rw [List.getElem?_set_ne hne]; exact hT, hg⟩
theorem alive_made (S : List TriM) (a b c : Int) (hc : c ≠ -2) : Alive (makeM S a b c) (makeK S) := by
 unfold makeM makeK
 cases hf : freeK S with
 | none => exact ⟨newT a b c, by simp, newT_aliveG a b c hc⟩
 | some k =>
  obtain ⟨U, hU, -⟩ := free_gone hf
  exact ⟨newT a b c, by rw [List.getElem?_set_self (List.getElem?_eq_some_iff.1 hU).1], newT_aliveG a b c hc⟩
theorem alive_link {S : List TriM} {t : Nat} (h : Alive S t) (t' i u j : Nat) (f : Bool) : Alive (linkL S t' i u j f) t := by
 obtain ⟨T, hT, hg⟩ := h
 have h1 := linkL_v S t' i u j f t
 unfold rdV at h1
 rw [hT] at h1
 cases hT' : (linkL S t' i u j f)[t]? with
 | none => rw [hT'] at h1; cases h1
 | some T' =>
  rw [hT'] at h1
  simp only [Option.map_some, Option.some.injEq, Prod.mk.injEq] at h1
  refine ⟨T', hT' ▸ rfl, ?_⟩
  unfold goneB at hg ⊢
  rw [h1.1, h1.2.1, h1.2.2]; exact hg
theorem makeM_len (S : List TriM) (a b c : Int) : S.length ≤ (makeM S a b c).length ∧ (makeM S a b c).length ≤ S.length + 1 := by
 unfold makeM
 cases freeK S with
 | none => simp
 | some k => simp
/-- Behind so many sides: the triangles, and the numbers of those that were made. -/
def fillA (R : List SideM) (v : Int) (S : List TriM) : Nat → List TriM × List Nat
 | 0 => (S, [])
 | n + 1 => match R[n]? with
  | none => fillA R v S n
  | some s => (linkL (makeM (fillA R v S n).1 s.a s.b v) (makeK (fillA R v S n).1) 2 s.u.toNat s.i.toNat s.f, (fillA R v S n).2 ++ [makeK (fillA R v S n).1])
def fillB (R : List SideM) (pl : List Int) (M : List Nat) (S : List TriM) : Nat → List TriM
 | 0 => S
 | n + 1 => match R[n]? with
  | none => fillB R pl M S n
  | some s => linkL (fillB R pl M S n) (natA M n) 0 (natA M ((n + 1) % R.length)) 1 (decide (s.b ∈ pl))
def fillM (R : List SideM) (v : Int) (pl : List Int) (S : List TriM) : List TriM := fillB R pl (fillA R v S R.length).2 (fillA R v S R.length).1 R.length
/-- What lies behind each side is there. -/
def RimOkG (S : List TriM) (R : List SideM) : Prop := ∀ s, s ∈ R → ∃ u i : Nat, s.u = (u : Int) ∧ s.i = (i : Int) ∧ i < 3 ∧ Alive S u
theorem fillA_some {R : List SideM} {v : Int} {S : List TriM} {n : Nat} {s : SideM} (h : R[n]? = some s) : fillA R v S (n + 1) = (linkL (makeM (fillA R v S n).1 s.a s.b v) (makeK (fillA R v S n).1) 2 s.u.toNat s.i.toNat s.f, (fillA R v S n).2 ++ [makeK (fillA R v S n).1]) := by rw [fillA, h]
theorem fillB_some {R : List SideM} {pl : List Int} {M : List Nat} {S : List TriM} {n : Nat} {s : SideM} (h : R[n]? = some s) : fillB R pl M S (n + 1) = linkL (fillB R pl M S n) (natA M n) 0 (natA M ((n + 1) % R.length)) 1 (decide (s.b ∈ pl)) := by rw [fillB, h]
theorem fillA_ok {R : List SideM} {v : Int} {S : List TriM} (hv : v ≠ -2) : ∀ n, n ≤ R.length → (fillA R v S n).2.length = n ∧ (fillA R v S n).1.length ≤ S.length + n ∧ (∀ t, Alive S t → Alive (fillA R v S n).1 t) ∧ (∀ k, k ∈ (fillA R v S n).2 → Alive (fillA R v S n).1 k)
 | 0, _ => ⟨rfl, Nat.le_refl _, fun _ h => h, fun k h => by cases h⟩
 | n + 1, hn => by
  obtain ⟨h1, h2, h3, h4⟩ := fillA_ok (R := R) (S := S) hv n (by omega)
  have hs : R[n]? = some R[n] := List.getElem?_eq_getElem (by omega)
  rw [fillA_some hs]
  refine ⟨by simp [h1], ?_, fun t ht => alive_link (alive_make (h3 t ht) _ _ _) _ _ _ _ _, fun k hk => alive_link ?_ _ _ _ _ _⟩
  ·have := makeM_len (fillA R v S n).1 R[n].a R[n].b v
   simp only [linkL_len]
   omega
  ·simp only [List.mem_append, List.mem_singleton] at hk
   rcases hk with hk | rfl
   ·exact alive_make (h4 k hk) _ _ _
   ·exact alive_made _ _ _ _ hv
theorem fillB_ok {R : List SideM} {pl : List Int} {M : List Nat} {S : List TriM} : ∀ n, n ≤ R.length → (fillB R pl M S n).length = S.length ∧ (∀ t, Alive S t → Alive (fillB R pl M S n) t)
 | 0, _ => ⟨rfl, fun _ h => h⟩
 | n + 1, hn => by
  obtain ⟨h1, h2⟩ := fillB_ok (R := R) (pl := pl) (M := M) (S := S) n (by omega)
  have hs : R[n]? = some R[n] := List.getElem?_eq_getElem (by omega)
  rw [fillB_some hs]
  exact ⟨by rw [linkL_len]; exact h1, fun t ht => alive_link (h2 t ht) _ _ _ _ _⟩
/-- A block that is none of a mesh's that may be written. -/
def Off (w : World) (mb : Nat) (tv : Value) (k : Nat) : Prop := k < w.heap.size ∧ k ≠ mb ∧ tv.ownBlock ≠ some k
theorem Off.mut {w w' : World} {mb k : Nat} {tv tv' : Value} (h : Off w mb tv k) (hm : Mut w w' mb tv tv') : Off w' mb tv' k ∧ w'.heap[k]? = w.heap[k]? := by
 obtain ⟨h1, h2, h3⟩ := h
 obtain ⟨h4, h5⟩ := hm.keep k h1 h2 h3
 exact ⟨⟨Nat.lt_of_lt_of_le h1 hm.size, h2, h5⟩, h4⟩
theorem Off.below {w w' : World} {mb k : Nat} {tv : Value} (h : Off w mb tv k) (hb : Below w.heap.size w w') : Off w' mb tv k := ⟨Nat.lt_of_lt_of_le h.1 hb.size, h.2⟩
/-- A rim lies there. -/
def SidesAt (w : World) (b : Nat) (R : List SideM) : Prop := ∀ (i : Nat) (s : SideM), R[i]? = some s → ∀ (j : Nat) (u : Value), s.cells[j]? = some u → w.cell? ⟨b, i * 5 + j, none⟩ = some u
theorem SidesAt.same {w w' : World} {b : Nat} {R : List SideM} (h : SidesAt w b R) (e : w'.heap[b]? = w.heap[b]?) : SidesAt w' b R := fun i s hs j u hj => (World.cell?_of_block (a := ⟨b, i * 5 + j, none⟩) e).trans (h i s hs j u hj)
/-- Ints lie there. -/
def IntsAt (w : World) (b : Nat) (l : List Int) : Prop := ∀ (j : Nat) (z : Int), l[j]? = some z → w.cell? ⟨b, j, none⟩ = some (.int .i64 z)
theorem IntsAt.same {w w' : World} {b : Nat} {l : List Int} (h : IntsAt w b l) (e : w'.heap[b]? = w.heap[b]?) : IntsAt w' b l := fun j z hj => (World.cell?_of_block (a := ⟨b, j, none⟩) e).trans (h j z hj)
/-- A slice of some ints, beside a mesh. -/
def Parts (w : World) (mb : Nat) (tv pv : Value) (pl : List Int) : Prop := (pv = .slice none 0 0 ∧ pl = []) ∨ ∃ qb c, pv = .slice (some ⟨qb, 0, none⟩) pl.length c ∧ IntsAt w qb pl ∧ Off w mb tv qb ∧ pl.length ≤ 1000
theorem Parts.mut {w w' : World} {mb : Nat} {tv tv' pv : Value} {pl : List Int} (h : Parts w mb tv pv pl) (hm : Mut w w' mb tv tv') : Parts w' mb tv' pv pl := by
 rcases h with h | ⟨qb, c, h1, h2, h3, h4⟩
 ·exact .inl h
 ·obtain ⟨h5, h6⟩ := h3.mut hm
  exact .inr ⟨qb, c, h1, h2.same h6, h5, h4⟩
theorem Parts.below {w w' : World} {mb : Nat} {tv pv : Value} {pl : List Int} (h : Parts w mb tv pv pl) (hb : Below w.heap.size w w') : Parts w' mb tv pv pl := by
 rcases h with h | ⟨qb, c, h1, h2, h3, h4⟩
 ·exact .inl h
 ·exact .inr ⟨qb, c, h1, h2.same (hb.block qb h3.1), h3.below hb, h4⟩
theorem Parts.turned {w w' : World} {mb g : Nat} {tv pv : Value} {pl : List Int} (h : Parts w mb tv pv pl) (ht : Turned w w' g) (hg : ∀ qb c, pv = .slice (some ⟨qb, 0, none⟩) pl.length c → qb ≠ g) : Parts w' mb tv pv pl := by
 rcases h with h | ⟨qb, c, h1, h2, h3, h4⟩
 ·exact .inl h
 ·exact .inr ⟨qb, c, h1, h2.same (ht.block qb (hg qb c h1)), ⟨by rw [ht.size]; exact h3.1, h3.2⟩, h4⟩
end Go.MagM
/- grow's fill; slices.Contains of ints. Written by tools/grow2.py. -/
namespace Go.Proofs.YtecnnpkpgbbfkaaGreat
open Go.RowKit Go.MagM
theorem idxZ_has (zs : List Int) (x : Int) : decide (0 ≤ idxZ zs x) = decide (x ∈ zs) := by
 unfold idxZ
 cases h : zs.findIdx? (· == x) with
 | none =>
  rw [List.findIdx?_eq_none_iff] at h
  rw [decide_eq_false (by simp), decide_eq_false]
  intro hx
  have := h x hx
  simp at this
 | some i =>
  obtain ⟨h1, h2, -⟩ := List.findIdx?_eq_some_iff_getElem.1 h
  rw [decide_eq_true (by simp), decide_eq_true]
  have e : zs[i] = x := by simpa using h2
  rw [← e]; exact List.getElem_mem h1
set_option maxHeartbeats 4000000 in
theorem indexNil_any (x : Int) (w : World) : Calls Tryz.prog 60 #[.slice none 0 0, .int .i64 x] w fun e w' => e = .returned (.int .i64 (-1)) ∧ w = w' := by
 go_enter Tryz.func60, Tryz.ntmps60
 go_wp2
 go_loop [5, 8] (fun _ iv => iv = .int .i64 0) (fun _ iv => 0)
 case atStart => rfl
 case round =>
  subst hrel
  go_wp2
  go_ret
  exact ⟨rfl, rfl⟩
set_option maxHeartbeats 4000000 in
theorem containsI_any (pv : Value) (pl : List Int) (x : Int) (w : World) (h : (pv = .slice none 0 0 ∧ pl = []) ∨ ∃ qb c, pv = .slice (some ⟨qb, 0, none⟩) pl.length c ∧ IntsAt w qb pl ∧ pl.length ≤ 1000) :
  Calls Tryz.prog 44 #[pv, .int .i64 x] w fun e w' => e = .returned (.bool (decide (x ∈ pl))) ∧ w = w' := by
 obtain ⟨z, hz, hidx⟩ : ∃ z : Int, decide (0 ≤ z) = decide (x ∈ pl) ∧ Calls Tryz.prog 60 #[pv, .int .i64 x] w fun e w' => e = .returned (.int .i64 z) ∧ w = w' := by
  rcases h with ⟨rfl, rfl⟩ | ⟨qb, c, rfl, hi, hl⟩
  ·exact ⟨-1, by simp, indexNil_any x w⟩
  ·refine ⟨idxZ pl x, idxZ_has pl x, ?_⟩
   obtain ⟨n, hn⟩ : ∃ n, pl.length = n := ⟨_, rfl⟩
   rw [hn]
   exact index_any qb 0 n c pl x w hn (by omega) (fun j v hj => by rw [Nat.zero_add]; exact hi j v hj)
 obtain ⟨q, hq⟩ : ∃ q, decide (x ∈ pl) = q := ⟨_, rfl⟩
 rw [hq] at hz
 rw [hq]
 have HI := Lib.hid hidx
 clear hidx hq h
 go_enter Tryz.func44, Tryz.ntmps44
 go_wp2_with fail
 refine HI.out.mono ?_
 rintro e w' ⟨rfl, rfl⟩
 go_wp2
 go_ret
 refine ⟨?_, rfl⟩
 rw [← hz]; rfl
theorem infoInts : (Tryz.prog.info? 3).map (fun i => (i.zero, i.size, i.bytes)) = some (some (.int .i64 0), 1, 8) := by kernel_rfl
/-- 'make([]int, n)'. -/
theorem wpList_make_zeros {P : Program} {w : World} {ops : Array Oper} {rest : List Oper} {o : Oper} {a : Act} {Q : Exit → Act → World → Prop} (hgd : o.guard = none) (l c : Operand) (t : TypeId)
  (hop : o.op = Op.makeSlice t l c) (e : TypeId) (hu : P.underlying t = some (.slice e)) (hi : (P.info? e).map (fun i => (i.zero, i.size, i.bytes)) = some (some (.int .i64 0), 1, 8))
  (kl kc : IntKind) (L C : Int) (n : Nat) (hl : a.eval l = .int kl L) (hc : a.eval c = .int kc C) (hL : L = (n : Int)) (hC : C = (n : Int)) (hn : n ≤ 9000000000)
  (hK : ∀ w', Box w' w.heap.size (List.replicate n (.int .i64 0)) → Below w.heap.size w w' → w.heap.size < w'.heap.size → wpList P ops Q rest (a.put o.dst (.slice (some ⟨w.heap.size, 0, none⟩) n n)) w') :
  wpList P ops Q (o :: rest) a w := by
 obtain ⟨i0, h2, hz0, hz1, hz2⟩ := info_parts hi
 refine wpList_make_full w hgd l c t hop w.heap.size e i0 (.int .i64 0) 1 hu h2 hz0 hz1 kl kc L C n hl hc hL hC (by rw [hz2]; omega) (by unfold maxLen; omega) (Nat.le_refl _) ?_
 intro w' hown hg
 have hcells := fun i (h : i < n) => hown.cells (g := w.heap.size) rfl i (.int .i64 0) (by
  show (madeCells #[.int .i64 0] (n * 1)).toList[i]? = _
  rw [toList_madeCells_one]; simp [h])
 have hfz : ∀ j, w'.frozen? ⟨w.heap.size, j, none⟩ = false ∧ w.heap.size < w'.heap.size := by
  intro j
  rcases hown.2 with ⟨h, _⟩ | ⟨g, cap, cur, hv, _, hh, _⟩
  ·cases h
  ·simp at hv; obtain ⟨rfl, _⟩ := hv
   exact ⟨by simp [World.frozen?, hh], (Array.getElem?_eq_some_iff.1 hh).1⟩
 have hadd : ∀ j, (⟨w.heap.size, 0, none⟩ : Addr).add j = ⟨w.heap.size, j, none⟩ := fun j => by unfold Addr.add; split <;> simp_all
 refine hK w' ⟨fun i u hi => ?_, fun i u hi => (hfz i).1⟩ ⟨hg.os, hg.tape, hg.output, hg.size, fun k hk => hg.block k hk (by simp)⟩ (hfz 0).2
 have hin : i < n := by have := (List.getElem?_eq_some_iff.1 hi).1; simpa using this
 have hu' : u = .int .i64 0 := by rw [List.getElem?_replicate, if_pos hin] at hi; cases hi; rfl
 have := hcells i hin
 rw [hadd] at this
 rw [hu']; exact this
/-- What lies in 'made', behind so many sides. -/
def madeL (M : List Nat) (n : Nat) : List Value := M.map (fun k : Nat => Value.int .i64 (k : Int)) ++ List.replicate (n - M.length) (.int .i64 0)
theorem madeL_set {M : List Nat} {n k : Nat} (h : M.length < n) : (madeL M n).set M.length (.int .i64 (k : Int)) = madeL (M ++ [k]) n := by
 unfold madeL
 have e : (M.map (fun k : Nat => Value.int .i64 (k : Int))).length = M.length := List.length_map _
 rw [List.set_append_right _ _ (by rw [e]; exact Nat.le_refl _), e, Nat.sub_self, List.map_append, List.length_append, List.append_assoc]
 congr 1
 obtain ⟨d, hd⟩ : ∃ d, n - M.length = d + 1 := ⟨n - M.length - 1, by omega⟩
 rw [hd, List.replicate_succ, List.set_cons_zero]
 have : n - (M.length + [k].length) = d := by simp; omega
 rw [this]; rfl
theorem madeL_get {M : List Nat} {n i : Nat} (h : i < M.length) : (madeL M n)[i]? = some (.int .i64 ((natA M i : Nat) : Int)) := by
 unfold madeL
 rw [List.getElem?_append_left (by rw [List.length_map]; exact h), List.getElem?_map, natA_at h]; rfl
theorem madeL_len {M : List Nat} {n : Nat} (h : M.length ≤ n) : (madeL M n).length = n := by unfold madeL; simp; omega
theorem box_ltG {w : World} {g : Nat} {vs : List Value} (h : Box w g vs) (h0 : 0 < vs.length) : g < w.heap.size := World.block_lt_of_cell? w _ (h.c 0 _ (List.getElem?_eq_getElem h0))
theorem mut_turnedNew {w w' w'' : World} {mb g : Nat} {tv tv' : Value} (h : Mut w w' mb tv tv') (ht : Turned w' w'' g) (hg : w.heap.size ≤ g) : Mut w w'' mb tv tv' :=
 ⟨ht.os.trans h.os, ht.tape.trans h.tape, ht.output.trans h.output, by rw [ht.size]; exact h.size, fun k hk h1 h2 => by
  obtain ⟨e1, e2⟩ := h.keep k hk h1 h2
  exact ⟨(ht.block k (by omega)).trans e1, e2⟩⟩
theorem turnedG_setCell (w : World) (g i : Nat) (v : Value) : Turned w (w.setCell ⟨g, i, none⟩ v) g := ⟨rfl, rfl, rfl, by simp, fun k hk => heap_set_far _ _ _ _ _ hk⟩
theorem sideBox {w : World} {b i : Nat} {R : List SideM} {s : SideM} (h : SidesAt w b R) (hs : R[i]? = some s) : w.cell? ⟨b, i * 5, none⟩ = some (.int .i64 s.a) ∧ w.cell? ⟨b, i * 5 + 1, none⟩ = some (.int .i64 s.b) ∧ w.cell? ⟨b, i * 5 + 2, none⟩ = some (.int .i64 s.u) ∧ w.cell? ⟨b, i * 5 + 3, none⟩ = some (.int .i64 s.i) ∧ w.cell? ⟨b, i * 5 + 4, none⟩ = some (.bool s.f) :=
 ⟨h i s hs 0 _ rfl, h i s hs 1 _ rfl, h i s hs 2 _ rfl, h i s hs 3 _ rfl, h i s hs 4 _ rfl⟩
set_option maxRecDepth 100000 in
set_option maxHeartbeats 16000000 in
theorem fill_any {lo mb pb pc : Nat} {tv : Value} {P : List (Int × Int)} {S : List TriM} (v : Int) (R : List SideM) (n rb rc : Nat) (pv : Value) (pl : List Int) (w : World) (h : MeshO 33 41 w lo mb pb pc tv P (S)) (hv : v ≠ -2) (hn : R.length = n) (h0 : 0 < n) (hroom : S.length + n ≤ 1000000) (hR : RimOkG S R) (hrb : SidesAt w rb R) (hro : Off w mb tv rb) (hp : Parts w mb tv pv pl) :
  Calls Tryz.prog 116 #[.pointer (some ⟨mb, 0, none⟩), .int .i64 v, .slice (some ⟨rb, 0, none⟩) n rc, pv] w fun e w' => ∃ tv', e = .returned (.tuple #[]) ∧ MeshO 33 41 w' lo mb pb pc tv' P (fillM R v pl S) ∧ Mut w w' mb tv tv' := by
 have hlow := h.low
 have H := Lib.hid h; have HV := Lib.hid hv; have HN := Lib.hid hn; have HRM := Lib.hid hR; have HRB := Lib.hid hrb; have HRO := Lib.hid hro; have HP := Lib.hid hp
 have hn9 : n ≤ 9000000000 := by omega
 have HRO2 := Lib.hid hroom
 have HLT := Lib.hid h.row.lt
 have HFA := Lib.hid (fun i (hi : i ≤ n) => fillA_ok (R := R) (v := v) (S := S) hv i (by omega))
 clear h hv hn hR hrb hro hp hroom
 go_enter Tryz.func116, Tryz.ntmps116
 go_wp2_with (first
  | (at_make; refine wpList_make_zeros rfl (.tmp 15) (.tmp 15) 44 rfl 3 (by kernel_rfl) infoInts .i64 .i64 _ _ n rfl rfl (by omega) (by omega) hn9 ?_; intro w1 hbx1 hb1 hs1; replace hbx1 := Lib.hid hbx1; replace hb1 := Lib.hid hb1; replace hs1 := Lib.hid hs1))
 obtain ⟨g, hg⟩ : ∃ g, w.heap.size = g := ⟨_, rfl⟩
 rw [hg] at hbx1 hs1 ⊢
 have HG := Lib.hid hg
 have HTV : Hid (tv.ownBlock ≠ some g) := Lib.hid (fun e => by have := (HLT.out g e).2; omega)
 have HMG : Hid (mb < g) := Lib.hid (by omega)
 have HPG : Hid (pb < g) := Lib.hid (by omega)
 clear hg hlow
 go_loopw [9, 10, 19] (fun _ _ iv wr => ∃ (i : Nat) (tw : Value), i ≤ n ∧ iv = .int .i64 (i : Int) ∧ MeshO 33 41 wr lo mb pb pc tw P ((fillA R v S i).1) ∧ Mut w wr mb tv tw ∧ Box wr g (madeL (fillA R v S i).2 n) ∧ tw.ownBlock ≠ some g) (fun _ _ iv _ => n - (intOf iv).toNat)
 case atStart => exact ⟨0, tv, Nat.zero_le _, rfl, H.out.below hb1.out, Mut.of_below hb1.out (fun k hk => (HLT.out k hk).2), hbx1.out, HTV.out⟩
 case round =>
  obtain ⟨i, tw, hi, rfl, hm, hmu, hbx, hne⟩ := hrel
  by_cases hlt : i < n
  ·have hyd : decide ((i : Int) < (n : Int)) = true := decide_eq_true (by omega)
   obtain ⟨⟨sa, sb, su, si, sf⟩, hs⟩ : ∃ s, R[i]? = some s := ⟨_, List.getElem?_eq_getElem (by rw [HN.out]; exact hlt)⟩
   obtain ⟨u, j, hu, hj, hj3, hal⟩ := HRM.out _ (List.mem_of_getElem? hs)
   simp only [] at hu hj
   subst hu; subst hj
   obtain ⟨hl1, hl2, hl3, hl4⟩ := HFA.out i (by omega)
   have hfs := fillA_some (v := v) (S := S) hs
   simp only [Int.toNat_natCast] at hfs
   obtain ⟨SA, hSA⟩ : ∃ X, (fillA R v S i).1 = X := ⟨_, rfl⟩
   obtain ⟨MA, hMA⟩ : ∃ X, (fillA R v S i).2 = X := ⟨_, rfl⟩
   rw [hSA] at hm hl2 hl3 hl4 hfs
   rw [hMA] at hbx hl1 hl4 hfs
   obtain ⟨ho1, ho2⟩ := HRO.out.mut hmu
   obtain ⟨c0, c1, c2, c3, c4⟩ := sideBox (HRB.out.same ho2) hs
   simp only [] at c0 c1 c2 c3 c4
   obtain ⟨xb, hxb⟩ : ∃ x, wr.heap.size = x := ⟨_, rfl⟩
   obtain ⟨w2, hw2, px, hb2, hs2⟩ := new_box wr _ rfl [.int .i64 sa, .int .i64 sb, .int .i64 (u : Int), .int .i64 (j : Int), .bool sf] 211
   rw [hxb] at px hs2
   have hgr := box_ltG hbx (by rw [madeL_len (by omega)]; omega)
   have hm2 := hm.below hb2
   have hbx2 := hbx.below hb2
   have hal2 := hl3 u hal
   have hroom2 : SA.length + 1 ≤ 1000000 := by have := HRO2.out; omega
   have hmk := mkTri_any sa sb v w2 hm2 hroom2
   have e0 := px.c 0 _ rfl; have e1 := px.c 1 _ rfl
   obtain ⟨kk, hkk⟩ : ∃ kk, makeK SA = kk := ⟨_, rfl⟩
   have halk := alive_made SA sa sb v HV.out
   have halu := alive_make hal2 sa sb v
   rw [hkk] at hmk halk hfs
   obtain ⟨SB, hSB⟩ : ∃ X, makeM SA sa sb v = X := ⟨_, rfl⟩
   rw [hSB] at hmk halk halu hfs
   have hof2g : Off w2 mb tw g := ⟨by have := hb2.size; omega, by have := HMG.out; omega, hne⟩
   have hltw := hm.row.lt
   have hof2x : Off w2 mb tw xb := ⟨by omega, by have := hm.low.2.1; omega, fun e => by have := (hltw xb e).2; omega⟩
   have hmu2 : Mut w w2 mb tv tw := hmu.trans (Mut.of_below hb2 (fun k hk => (hltw k hk).2))
   have hgx : g ≠ xb := by omega
   have HMK := Lib.hid hmk; have HBX2 := Lib.hid hbx2; have PX := Lib.hid px; have HFS := Lib.hid hfs; have HALK := Lib.hid halk; have HALU := Lib.hid halu; have HOG := Lib.hid hof2g; have HOX := Lib.hid hof2x; have HMU2 := Lib.hid hmu2; have HL1 := Lib.hid hl1; have HGX := Lib.hid hgx
   have hj1 : (0 : Int) ≤ (i : Int) := by omega
   have hj2 : (i : Int) < (n : Int) := by omega
   clear hs hal hl1 hl2 hl3 hl4 hfs hSA hMA hm hmu hbx hne ho1 ho2 px hb2 hs2 hm2 hbx2 hal2 hroom2 hmk hkk halk halu hSB hof2g hltw hof2x hmu2 hgr hgx
   go_wp2_with fail
   refine HMK.out.mono ?_
   rintro e w3 ⟨tw3, rfl, hm3, hmu3⟩
   obtain ⟨hog3, hgh3⟩ := HOG.out.mut hmu3
   obtain ⟨hox3, hxh3⟩ := HOX.out.mut hmu3
   have hbx3 := HBX2.out.same hgh3
   have px3 := PX.out.same hxh3
   have hlm : (madeL MA n).length = n := madeL_len (by have := HL1.out; omega)
   obtain ⟨zz, hzz⟩ : ∃ zz, (madeL MA n)[i]? = some zz := ⟨_, List.getElem?_eq_getElem (by rw [hlm]; exact hlt)⟩
   have hgc := hbx3.c i _ hzz
   have hgf := hbx3.f i _ hzz
   clear hzz
   obtain ⟨w4, hw4⟩ : ∃ w4, w3.setCell ⟨g, i, none⟩ (.int .i64 (kk : Int)) = w4 := ⟨_, rfl⟩
   have ht4 : Turned w3 w4 g := by rw [← hw4]; exact turnedG_setCell w3 g i _
   have hbx4 : Box w4 g (madeL (MA ++ [kk]) n) := by
    have := hbx3.set i (.int .i64 (kk : Int))
    rw [hw4] at this
    rwa [← HL1.out, madeL_set (by have := HL1.out; omega)] at this
   have px4 := px3.turned ht4 (fun e => HGX.out e.symm)
   have hm4 : MeshO 33 41 w4 lo mb pb pc tw3 P (SB) := hm3.turned ht4 (by have := HMG.out; omega) (by have := HPG.out; omega) hog3.2.2
   have hmu4 : Mut w w4 mb tv tw3 := mut_turnedNew (HMU2.out.trans hmu3) ht4 (by have := HG.out; omega)
   have hog4 : Off w4 mb tw3 g := ⟨by rw [ht4.size]; exact hog3.1, hog3.2⟩
   have hox4 : Off w4 mb tw3 xb := ⟨by rw [ht4.size]; exact hox3.1, hox3.2⟩
   have hgi4 : (madeL (MA ++ [kk]) n)[i]? = some (.int .i64 (kk : Int)) := by
    rw [madeL_get (by rw [List.length_append, HL1.out]; simp)]
    unfold natA
    rw [← HL1.out, List.getElem?_append_right (Nat.le_refl _), Nat.sub_self]; rfl
   obtain ⟨T1, hT1, hgT1⟩ := HALK.out
   obtain ⟨U1, hU1, hgU1⟩ := HALU.out
   have HLK := Lib.hid (show ∀ W, Below w4.heap.size w4 W → Calls Tryz.prog 94 #[.pointer (some ⟨mb, 0, none⟩), .int .i64 (kk : Int), .int .i64 2, .int .i64 (u : Int), .int .i64 (j : Int), .bool sf] W fun e w' => e = .returned (.tuple #[]) ∧ MeshO 33 41 w' lo mb pb pc tw3 P (linkL SB kk 2 u j sf) ∧ Mut W w' mb tw3 tw3 from
    fun W hW => Link_any kk 2 u j sf T1 U1 W (hm4.below hW) hT1 hgT1 (by omega) hU1 hgU1 hj3)
   have C5 := Lib.hid (show ∀ w', Below w4.heap.size w4 w' → w'.cell? ⟨g, i, none⟩ = some (.int .i64 (kk : Int)) ∧ w'.cell? ⟨xb, 2, none⟩ = some (.int .i64 (u : Int)) ∧ w'.cell? ⟨xb, 3, none⟩ = some (.int .i64 (j : Int)) ∧ w'.cell? ⟨xb, 4, none⟩ = some (.bool sf) from fun w' hb => by
    have hq := hbx4.below hb; have hy := px4.below hb
    exact ⟨hq.c i _ hgi4, hy.c 2 _ rfl, hy.c 3 _ rfl, hy.c 4 _ rfl⟩)
   have K5 := Lib.hid (show ∀ (w' : World) (t5 : Value), Mut w4.drew w' mb tw3 t5 → w'.cell? ⟨g, i, none⟩ = some (.int .i64 (kk : Int)) ∧ w'.cell? ⟨xb, 2, none⟩ = some (.int .i64 (u : Int)) ∧ w'.cell? ⟨xb, 3, none⟩ = some (.int .i64 (j : Int)) ∧ w'.cell? ⟨xb, 4, none⟩ = some (.bool sf) from fun w' t5 hmu => by
    have hq := hbx4.drew.same ((show Off w4.drew mb tw3 g from hog4).mut hmu).2
    have hy := px4.drew.same ((show Off w4.drew mb tw3 xb from hox4).mut hmu).2
    exact ⟨hq.c i _ hgi4, hy.c 2 _ rfl, hy.c 3 _ rfl, hy.c 4 _ rfl⟩)
   have HBX4 := Lib.hid hbx4; have HOG4 := Lib.hid hog4; have HMU4 := Lib.hid hmu4; have HW4 := Lib.hid hw4
   clear hm3 hmu3 hog3 hgh3 hox3 hxh3 hbx3 px3 hlm ht4 hbx4 px4 hm4 hmu4 hog4 hox4 hgi4 hT1 hgT1 hU1 hgU1 hw4
   go_wp2_with fail
   rw [HW4.out]
   clear hxb hw2
   clear c0 c1 c2 c3 c4 e0 e1 hgc hgf
   refine wp_region_noPanic ?_
   refine wp_region_held_drew (S := fun w' => w'.cell? ⟨g, i, none⟩ = some (.int .i64 (kk : Int)) ∧ w'.cell? ⟨xb, 2, none⟩ = some (.int .i64 (u : Int)) ∧ w'.cell? ⟨xb, 3, none⟩ = some (.int .i64 (j : Int)) ∧ w'.cell? ⟨xb, 4, none⟩ = some (.bool sf)) (by kernel_rfl) (C5.out _ (Below.refl _ _).drew') (fun hHeld => ?_)
   refine rU 0 _ _ ?_
   (try simp only [Act.put]);try simp only [sA,sZ,sS]
   refine rU 1 _ _ ?_
   (try simp only [Act.put]);try simp only [sA,sZ,sS]
   refine rU 2 _ _ ?_
   (try simp only [Act.put]);try simp only [sA,sZ,sS]
   refine rU 3 _ _ ?_
   (try simp only [Act.put]);try simp only [sA,sZ,sS]
   refine rU 4 _ _ ?_
   (try simp only [Act.put]);try simp only [sA,sZ,sS]
   refine rU 5 _ _ ?_
   (try simp only [Act.put]);try simp only [sA,sZ,sS]
   refine rU 6 _ _ ?_
   (try simp only [Act.put]);try simp only [sA,sZ,sS]
   refine rU 7 _ _ ?_
   (try simp only [Act.put]);try simp only [sA,sZ,sS]
   refine rU 8 _ _ ?_
   (try simp only [Act.put]);try simp only [sA,sZ,sS]
   refine rU 9 _ _ ?_
   (try simp only [Act.put]);try simp only [sA,sZ,sS]
   refine rU 10 _ _ ?_
   (try simp only [Act.put]);try simp only [sA,sZ,sS]
   refine reg_call 11 ?_ (by kernel_rfl) ?_ (fun K hK => ?_);rotate_left 1
   ·simp only [gA,gS,gZ]; exact rfl
   have hh5 := (Below.refl w4.heap.size w4).drew'
   go_simp
   refine (HLK.out _ hh5).mono ?_
   rintro e w5 ⟨rfl, hm5, hmu5⟩
   go_wp2_with fail
   refine hK.out _ _ (⟨(K5.out _ _ hmu5).1, (K5.out _ _ hmu5).2.1, (K5.out _ _ hmu5).2.2.1, (K5.out _ _ hmu5).2.2.2⟩) (fun hHeld => ?_)
   clear hK K
   (try simp only [Act.put]);try simp only [sA,sZ,sS]
   refine wpAnyH_done (by kernel_rfl) ?_ _
   refine NoPanic.normal ?_
   have hmuD : Mut w4 w4.drew mb tw3 tw3 := Mut.drew (Mut.refl _ _ _)
   obtain ⟨hog5, hgh5⟩ := (show Off w4.drew mb tw3 g from HOG4.out).mut hmu5
   have FIN := Lib.hid (And.intro hm5 (And.intro ((HMU4.out.trans hmuD).trans hmu5) (And.intro (HBX4.out.drew.same hgh5) hog5.2.2)))
   clear hm5 hmu5 hmuD hog5 hgh5 hh5
   go_wp2
   refine ⟨⟨i + 1, tw3, by omega, by go_num, ?_⟩, by simp [intOf]; omega⟩
   rw [HFS.out]
   exact FIN.out
  ·obtain rfl : i = n := by omega
   obtain ⟨hl1, hl2, hl3, hl4⟩ := HFA.out i (by omega)
   have hfm : fillM R v pl S = fillB R pl (fillA R v S i).2 (fillA R v S i).1 i := by unfold fillM; rw [HN.out]
   obtain ⟨SA, hSA⟩ : ∃ X, (fillA R v S i).1 = X := ⟨_, rfl⟩
   obtain ⟨MA, hMA⟩ : ∃ X, (fillA R v S i).2 = X := ⟨_, rfl⟩
   rw [hSA] at hm hl2 hl3 hl4 hfm
   rw [hMA] at hbx hl1 hl4 hfm
   have HFM := Lib.hid hfm
   have HM := Lib.hid hm; have HMU := Lib.hid hmu; have HBX := Lib.hid hbx; have HNE := Lib.hid hne; have HL1 := Lib.hid hl1; have HL4 := Lib.hid hl4
   have hpar := HP.out.mut hmu
   have HPAR := Lib.hid hpar
   have hroR := HRO.out.mut hmu
   have HRR := Lib.hid (And.intro hroR.1 (HRB.out.same hroR.2))
   clear hfm hl1 hl2 hl3 hl4 hSA hMA hm hmu hbx hne hpar hroR
   obtain ⟨wo, rfl⟩ : ∃ wo, wo = wr := ⟨_, rfl⟩
   go_wp2
   go_loopw [11, 12, 13, 49] (fun _ _ _ iv wr => ∃ (k : Nat), k ≤ i ∧ iv = .int .i64 (k : Int) ∧ MeshO 33 41 wr lo mb pb pc tw P (fillB R pl MA SA k) ∧ Mut wo wr mb tw tw ∧ Box wr g (madeL MA i)) (fun _ _ _ iv _ => i - (intOf iv).toNat)
   case atStart => exact ⟨0, Nat.zero_le _, rfl, HM.out, Mut.refl _ _ _, HBX.out⟩
   case round =>
    obtain ⟨k, hk, rfl, hm, hmu, hbx⟩ := hrel
    by_cases hlt : k < i
    ·have hyd : decide ((k : Int) < (i : Int)) = true := decide_eq_true (by omega)
     obtain ⟨⟨sa, sb, su, si, sf⟩, hs⟩ : ∃ s, R[k]? = some s := ⟨_, List.getElem?_eq_getElem (by rw [HN.out]; exact hlt)⟩
     have hfs := fillB_some (pl := pl) (M := MA) (S := SA) hs
     simp only [] at hfs
     rw [HN.out] at hfs
     obtain ⟨m, hmm⟩ : ∃ m, (k + 1) % i = m := ⟨_, rfl⟩
     have hmi : m < i := by rw [← hmm]; exact Nat.mod_lt _ (by omega)
     have hmod : ((k : Int) + 1).tmod (i : Int) = (m : Int) := by rw [mod_one, hmm]
     rw [hmm] at hfs
     obtain ⟨k1, hk1⟩ : ∃ x, natA MA k = x := ⟨_, rfl⟩
     obtain ⟨k2, hk2⟩ : ∃ x, natA MA m = x := ⟨_, rfl⟩
     have g1 := madeL_get (M := MA) (n := i) (i := k) (by rw [HL1.out]; exact hlt)
     have g2 := madeL_get (M := MA) (n := i) (i := m) (by rw [HL1.out]; exact hmi)
     have a1 := HL4.out k1 (by rw [← hk1]; exact List.mem_of_getElem? (natA_at (by rw [HL1.out]; exact hlt)))
     have a2 := HL4.out k2 (by rw [← hk2]; exact List.mem_of_getElem? (natA_at (by rw [HL1.out]; exact hmi)))
     rw [hk1] at g1 hfs; rw [hk2] at g2 hfs
     obtain ⟨q, hq⟩ : ∃ q, decide (sb ∈ pl) = q := ⟨_, rfl⟩
     rw [hq] at hfs
     obtain ⟨hB1, hB2⟩ := fillB_ok (R := R) (pl := pl) (M := MA) (S := SA) k (by rw [HN.out]; omega)
     obtain ⟨T1, hT1, hgT1⟩ := hB2 k1 a1
     obtain ⟨U1, hU1, hgU1⟩ := hB2 k2 a2
     obtain ⟨SB, hSB⟩ : ∃ X, fillB R pl MA SA k = X := ⟨_, rfl⟩
     rw [hSB] at hm hfs hT1 hU1
     obtain ⟨ho1, ho2⟩ := HRR.out.1.mut hmu
     obtain ⟨c0, c1, c2, c3, c4⟩ := sideBox (HRR.out.2.same ho2) hs
     simp only [] at c0 c1 c2 c3 c4
     obtain ⟨xb, hxb⟩ : ∃ x, wr.heap.size = x := ⟨_, rfl⟩
     obtain ⟨w3, hw3, px, hb3, hs3⟩ := new_box wr _ rfl [.int .i64 sa, .int .i64 sb, .int .i64 su, .int .i64 si, .bool sf] 211
     rw [hxb] at px hs3
     have hgr := box_ltG hbx (by rw [madeL_len (by have := HL1.out; omega)]; omega)
     have hm3 := hm.below hb3
     have hbx3 := hbx.below hb3
     have hltw := hm.row.lt
     have hpar3 := (HPAR.out.mut hmu).below hb3
     have hmu3 : Mut wo w3 mb tw tw := hmu.trans (Mut.of_below hb3 (fun k hk => (hltw k hk).2))
     have hnw : tw.ownBlock ≠ some g := HNE.out
     have hog3 : Off w3 mb tw g := ⟨by omega, by have := HMG.out; omega, hnw⟩
     have hox3 : Off w3 mb tw xb := ⟨by omega, by have := hm.low.2.1; omega, fun e => by have := (hltw xb e).2; omega⟩
     have gg := hbx3.c m _ g2
     have HCO := Lib.hid (show ∀ W, Below w3.heap.size w3 W → Calls Tryz.prog 44 #[pv, .int .i64 sb] W fun e w' => e = .returned (.bool q) ∧ W = w' from fun W hW => by
      rw [← hq]
      refine containsI_any pv pl sb W ?_
      rcases hpar3.below hW with h | ⟨qb, c, h1, h2, h3, h4⟩
      ·exact .inl h
      ·exact .inr ⟨qb, c, h1, h2, h4⟩)
     have HLK := Lib.hid (show ∀ W, Below w3.heap.size w3 W → Calls Tryz.prog 94 #[.pointer (some ⟨mb, 0, none⟩), .int .i64 (k1 : Int), .int .i64 0, .int .i64 (k2 : Int), .int .i64 1, .bool q] W fun e w' => e = .returned (.tuple #[]) ∧ MeshO 33 41 w' lo mb pb pc tw P (linkL SB k1 0 k2 1 q) ∧ Mut W w' mb tw tw from
      fun W hW => Link_any k1 0 k2 1 q T1 U1 W (hm3.below hW) hT1 hgT1 (by omega) hU1 hgU1 (by omega))
     have C11 := Lib.hid (show ∀ w', Below w3.heap.size w3 w' → w'.cell? ⟨g, k, none⟩ = some (.int .i64 (k1 : Int)) ∧ w'.cell? ⟨xb, 1, none⟩ = some (.int .i64 sb) from fun w' hb => by
      have hq := hbx3.below hb; have hy := px.below hb
      exact ⟨hq.c k _ g1, hy.c 1 _ rfl⟩)
     have K11 := Lib.hid (show ∀ (w' : World) (t5 : Value), Mut w3.drew w' mb tw t5 → w'.cell? ⟨g, k, none⟩ = some (.int .i64 (k1 : Int)) ∧ w'.cell? ⟨xb, 1, none⟩ = some (.int .i64 sb) from fun w' t5 hmu => by
      have hq := hbx3.drew.same ((show Off w3.drew mb tw g from hog3).mut hmu).2
      have hy := px.drew.same ((show Off w3.drew mb tw xb from hox3).mut hmu).2
      exact ⟨hq.c k _ g1, hy.c 1 _ rfl⟩)
     have HBX3 := Lib.hid hbx3; have HOG3 := Lib.hid hog3; have HMU3 := Lib.hid hmu3; have HFS := Lib.hid hfs
     have hk0 : ((i : Int) == 0) = false := by simp; omega
     have hkn : ¬ i = 0 := by omega
     have hwj : IntKind.i64.wrap ((k : Int) + 1) = (k : Int) + 1 := by rw [IntKind.wrap_i64]; omega
     have hj1 : (0 : Int) ≤ (k : Int) := by omega
     have hj2 : (k : Int) < (i : Int) := by omega
     have hj3 : (0 : Int) ≤ (m : Int) := by omega
     have hj4 : (m : Int) < (i : Int) := by omega
     clear hs hfs hmm hk1 hk2 g1 g2 a1 a2 hq hB1 hB2 hT1 hgT1 hU1 hgU1 hSB ho1 ho2 px hb3 hs3 hgr hm3 hbx3 hltw hpar3 hmu3 hnw hog3 hox3 hm hmu hbx
     go_wp2_with fail
     clear c0 c1 c2 c3 c4 gg hw3 hxb
     refine wp_region_noPanic ?_
     refine wp_region_held_drew (S := fun w' => w'.cell? ⟨g, k, none⟩ = some (.int .i64 (k1 : Int)) ∧ w'.cell? ⟨xb, 1, none⟩ = some (.int .i64 sb)) (by kernel_rfl) (C11.out _ (Below.refl _ _).drew') (fun hHeld => ?_)
     refine rU 0 _ _ ?_
     (try simp only [Act.put]);try simp only [sA,sZ,sS]
     refine rU 1 _ _ ?_
     (try simp only [Act.put]);try simp only [sA,sZ,sS]
     refine rU 2 _ _ ?_
     (try simp only [Act.put]);try simp only [sA,sZ,sS]
     refine rU 3 _ _ ?_
     (try simp only [Act.put]);try simp only [sA,sZ,sS]
     refine rU 4 _ _ ?_
     (try simp only [Act.put]);try simp only [sA,sZ,sS]
     refine rU 5 _ _ ?_
     (try simp only [Act.put]);try simp only [sA,sZ,sS]
     refine rU 6 _ _ ?_
     (try simp only [Act.put]);try simp only [sA,sZ,sS]
     refine rU 7 _ _ ?_
     (try simp only [Act.put]);try simp only [sA,sZ,sS]
     refine rU 8 _ _ ?_
     (try simp only [Act.put]);try simp only [sA,sZ,sS]
     refine reg_call 9 ?_ (by kernel_rfl) ?_ (fun K hK => ?_);rotate_left 1
     ·simp only [gA,gS,gZ]; exact rfl
     have hh9 := (Below.refl w3.heap.size w3).drew'
     go_simp
     refine (HCO.out _ hh9).mono ?_
     rintro e w4 ⟨rfl, rfl⟩
     go_wp2_with fail
     refine hK.out _ _ (C11.out _ hh9) (fun hHeld => ?_)
     clear hK K
     (try simp only [Act.put]);try simp only [sA,sZ,sS]
     refine reg_call 10 ?_ (by kernel_rfl) ?_ (fun K hK => ?_);rotate_left 1
     ·simp only [gA,gS,gZ]; exact rfl
     go_simp
     refine (HLK.out _ hh9).mono ?_
     rintro e w5 ⟨rfl, hm5, hmu5⟩
     go_wp2_with fail
     refine hK.out _ _ (⟨(K11.out _ _ hmu5).1, (K11.out _ _ hmu5).2⟩) (fun hHeld => ?_)
     clear hK K
     (try simp only [Act.put]);try simp only [sA,sZ,sS]
     refine wpAnyH_done (by kernel_rfl) ?_ _
     refine NoPanic.normal ?_
     have hmuD : Mut w3 w3.drew mb tw tw := Mut.drew (Mut.refl _ _ _)
     obtain ⟨hog5, hgh5⟩ := (show Off w3.drew mb tw g from HOG3.out).mut hmu5
     have FIN := Lib.hid (And.intro hm5 (And.intro ((HMU3.out.trans hmuD).trans hmu5) (HBX3.out.drew.same hgh5)))
     clear hm5 hmu5 hmuD hog5 hgh5 hh9
     go_wp2
     refine ⟨⟨k + 1, by omega, by go_num, ?_⟩, by simp [intOf]; omega⟩
     rw [HFS.out]
     exact FIN.out
    ·obtain rfl : k = i := by omega
     have FIN := Lib.hid (And.intro hm (HMU.out.trans hmu))
     clear hm hmu hbx
     go_wp2
     go_end0
     refine ⟨tw, rfl, ?_, FIN.out.2⟩
     rw [HFM.out]; exact FIN.out.1
end Go.Proofs.YtecnnpkpgbbfkaaGreat
/- cavity's inRow. -/
namespace Go.MagM
open Go.RowKit
/-- Of the first n sides the last one that begins at a. -/
def lookN (l : List SideM) (a : Int) : Nat → Option SideM
 | 0 => none
 | n + 1 => match l[n]? with
  | some s => if a = s.a then some s else lookN l a n
  | none => lookN l a n
def firstA (l : List SideM) : Int := match l[0]? with
 | some s => s.a
 | none => 0
/-- The least beginning of the first n. -/
def leastN (l : List SideM) : Nat → Int
 | 0 => firstA l
 | n + 1 => match l[n]? with
  | some s => min (leastN l n) s.a
  | none => leastN l n
/-- The sides one behind the other, from a on: no more than n. -/
def chainN (L : Int → Option SideM) : Nat → Int → List SideM
 | 0, _ => []
 | n + 1, a => match L a with
  | some s => s :: chainN L n s.b
  | none => []
def inRowM (l : List SideM) : List SideM := chainN (fun a => lookN l a l.length) l.length (leastN l l.length)
theorem chainN_le (L : Int → Option SideM) : ∀ n a, (chainN L n a).length ≤ n
 | 0, _ => Nat.le_refl _
 | n + 1, a => by
  rw [chainN]
  cases L a with
  | none => simp
  | some s => have := chainN_le L n s.b; simp; exact this
theorem lookN_mem {l : List SideM} {a : Int} {s : SideM} : ∀ {n}, lookN l a n = some s → s ∈ l ∧ s.a = a
 | 0, h => by cases h
 | n + 1, h => by
  rw [lookN] at h
  cases e : l[n]? with
  | none => rw [e] at h; exact lookN_mem h
  | some x =>
   rw [e] at h
   simp only [] at h
   split at h
   ·rename_i ha
    cases h
    exact ⟨List.mem_of_getElem? e, ha.symm⟩
   ·exact lookN_mem h
theorem leastN_le {l : List SideM} : ∀ n, (∀ s ∈ l.take n, leastN l n ≤ s.a) ∧ (l ≠ [] → ∃ s ∈ l, s.a = leastN l n)
 | 0 => ⟨by simp, fun h => by
  cases l with
  | nil => exact absurd rfl h
  | cons s r => exact ⟨s, by simp, rfl⟩⟩
 | n + 1 => by
  obtain ⟨h1, h2⟩ := leastN_le (l := l) n
  rw [leastN, List.take_add_one]
  cases hs : l[n]? with
  | none =>
   simp only [Option.toList, List.append_nil]
   exact ⟨h1, h2⟩
  | some s =>
   simp only [Option.toList]
   refine ⟨fun x hx => ?_, fun hl => ?_⟩
   ·rcases List.mem_append.1 hx with hx | hx
    ·have := h1 x hx; omega
    ·simp only [List.mem_singleton] at hx; subst hx; omega
   ·obtain ⟨y, hy, e⟩ := h2 hl
    rcases Int.le_total (leastN l n) s.a with g | g
    ·exact ⟨y, hy, by omega⟩
    ·exact ⟨s, List.mem_of_getElem? hs, by omega⟩
theorem inRow_nil : inRowM [] = [] := rfl
end Go.MagM
namespace Go.Proofs.YtecnnpkpgbbfkaaGreat
open Go.RowKit Go.MagM Go.Maps
/-- A map that tells which side begins at a point. -/
structure SideMap (w : World) (b : Nat) (L : Int → Option SideM) : Prop where
 at_ : ∃ m, MapB Tryz.prog 3 w b m ∧ (∀ e ∈ m, ∃ s : SideM, e = (.int .i64 s.a, .agg s.cells.toArray) ∧ L s.a = some s) ∧ (∀ a s, L a = some s → s.a = a ∧ (Value.int .i64 a, Value.agg s.cells.toArray) ∈ m)
theorem SideMap.lt {w : World} {b : Nat} {L : Int → Option SideM} (h : SideMap w b L) : b < w.heap.size := by obtain ⟨m, h1, -⟩ := h.at_; exact h1.lt
theorem SideMap.block {w w' : World} {b : Nat} {L : Int → Option SideM} (h : SideMap w b L) (e : w'.heap[b]? = w.heap[b]?) : SideMap w' b L := by obtain ⟨m, h1, h2⟩ := h.at_; exact ⟨m, h1.block e, h2⟩
theorem SideMap.below {w w' : World} {b : Nat} {L : Int → Option SideM} (h : SideMap w b L) (hw : Below w.heap.size w w') : SideMap w' b L := h.block (hw.block b h.lt)
theorem SideMap.look {w : World} {b : Nat} {L : Int → Option SideM} (h : SideMap w b L) {a : Int} (ha : -1000000 ≤ a ∧ a ≤ 1000000) :
  (Instr.lookup 277 (.map (some b)) (.int .i64 a) true).run Tryz.prog w = .ok (match L a with | some s => .tuple #[.agg s.cells.toArray, .bool true] | none => .tuple #[.agg #[.int .i64 0, .int .i64 0, .int .i64 0, .int .i64 0, .bool false], .bool false]) w := by
 obtain ⟨m, h1, h2, h3⟩ := h.at_
 rcases h1.look keyedI Tryz.underlying277 (keyI_of ha) (z := .agg #[.int .i64 0, .int .i64 0, .int .i64 0, .int .i64 0, .bool false]) (by kernel_rfl) true with ⟨v, hv, hr⟩ | ⟨hno, hr⟩
 ·obtain ⟨s, e, hs⟩ := h2 _ hv
  simp only [Prod.mk.injEq, Value.int.injEq, true_and] at e
  obtain ⟨rfl, rfl⟩ := e
  rw [hs]; exact hr
 ·cases hL : L a with
  | none => exact hr
  | some s => exact absurd (h3 a s hL).2 (hno _)
theorem SideMap.store {w : World} {b : Nat} {L : Int → Option SideM} (h : SideMap w b L) (s : SideM) (ha : -1000000 ≤ s.a ∧ s.a ≤ 1000000) :
  ∃ w', (Instr.mapUpdate 277 (.map (some b)) (.int .i64 s.a) (.agg s.cells.toArray)).run Tryz.prog w = .ok () w' ∧ Turned w w' b ∧ SideMap w' b (fun a => if a = s.a then some s else L a) := by
 obtain ⟨m, h1, h2, h3⟩ := h.at_
 obtain ⟨w', m', k1, k2, k3, k4⟩ := h1.store keyedI Tryz.underlying277 (keyI_of ha) (.agg s.cells.toArray)
 refine ⟨w', k1, k2, ⟨m', k3, ?_, ?_⟩⟩
 ·intro e he
  have hin : e = (.int .i64 s.a, .agg s.cells.toArray) ∨ (e ∈ m ∧ e.1 ≠ .int .i64 s.a) := by
   rcases k4 with ⟨hno, rfl⟩ | ⟨j, u, hj, rfl⟩
   ·rcases List.mem_append.1 he with he | he
    ·refine .inr ⟨he, fun e1 => hno e.2 ?_⟩
     rw [← e1]; exact he
    ·simp at he; exact .inl he
   ·obtain ⟨i, hi⟩ := List.mem_iff_getElem?.1 he
    rw [List.getElem?_set] at hi
    split at hi
    ·split at hi
     ·cases hi; exact .inl rfl
     ·cases hi
    ·rename_i hij
     refine .inr ⟨List.mem_of_getElem? hi, fun e1 => ?_⟩
     have a1 : (m.map (·.1))[i]? = some (.int .i64 s.a) := by rw [List.getElem?_map, hi, ← e1]; rfl
     have a2 : (m.map (·.1))[j]? = some (.int .i64 s.a) := by rw [List.getElem?_map, hj]; rfl
     exact hij ((List.getElem?_inj (by have := (List.getElem?_eq_some_iff.1 a1).1; exact this) h1.once).1 (a1.trans a2.symm)).symm
  rcases hin with rfl | ⟨hm, hne⟩
  ·exact ⟨s, rfl, by simp⟩
  ·obtain ⟨x, rfl, hx⟩ := h2 e hm
   refine ⟨x, rfl, ?_⟩
   rw [if_neg (fun e1 => hne (by rw [e1]))]; exact hx
 ·intro a x hx
  split at hx
  ·rename_i e1
   cases hx
   refine ⟨e1.symm, ?_⟩
   rw [e1]
   rcases k4 with ⟨-, rfl⟩ | ⟨j, u, hj, rfl⟩
   ·simp
   ·exact List.mem_of_getElem? (i := j) (by rw [List.getElem?_set, if_pos rfl, if_pos (List.getElem?_eq_some_iff.1 hj).1])
  ·rename_i hne
   obtain ⟨e1, hm⟩ := h3 a x hx
   refine ⟨e1, ?_⟩
   rcases k4 with ⟨-, rfl⟩ | ⟨j, u, hj, rfl⟩
   ·exact List.mem_append_left _ hm
   ·obtain ⟨i, hi⟩ := List.mem_iff_getElem?.1 hm
    refine List.mem_of_getElem? (i := i) ?_
    rw [List.getElem?_set, if_neg ?_]
    ·exact hi
    ·rintro rfl
     rw [hj] at hi
     simp only [Option.some.injEq, Prod.mk.injEq, Value.int.injEq, true_and] at hi
     exact hne hi.1.symm
end Go.Proofs.YtecnnpkpgbbfkaaGreat
/- cavity's inRow: the walk. -/
namespace Go.Proofs.YtecnnpkpgbbfkaaGreat
open Go.RowKit Go.MagM Go.Maps
set_option maxRecDepth 100000 in
set_option maxHeartbeats 8000000 in
theorem cvInRow_any (base : Nat) (v : Value) (l : List SideM) (w : World) (hrow : RowN w base 211 5 v l.length (sideCells l)) (hl : l.length ≤ 1000000) (hab : ∀ s ∈ l, (-1000000 ≤ s.a ∧ s.a ≤ 1000000) ∧ (-1000000 ≤ s.b ∧ s.b ≤ 1000000)) :
  Calls Tryz.prog 202 #[v] w fun e w' => ∃ v', e = .returned v' ∧ RowN w' w.heap.size 211 5 v' (inRowM l).length (sideCells (inRowM l)) ∧ Below w.heap.size w w' := by
 obtain ⟨len, hlen⟩ : ∃ len, l.length = len := ⟨_, rfl⟩
 rw [hlen] at hrow hl
 rcases hrow.2 with ⟨rfl, h0⟩ | ⟨g, cap, cur, rfl, -⟩
 ·subst h0
  obtain rfl : l = [] := List.eq_nil_of_length_eq_zero hlen
  clear hrow hl hab
  go_enter Tryz.func202, Tryz.ntmps202
  go_wp2
  go_ret
  exact ⟨_, rfl, by rw [inRow_nil]; exact RowN.nil _ _ _ _, Below.refl _ _⟩
 by_cases hz : len = 0
 ·subst hz
  obtain rfl : l = [] := List.eq_nil_of_length_eq_zero hlen
  clear hrow hl hab
  go_enter Tryz.func202, Tryz.ntmps202
  go_wp2
  go_ret
  exact ⟨_, rfl, by rw [inRow_nil]; exact RowN.nil _ _ _ _, Below.refl _ _⟩
 ·obtain ⟨i0, hi, hz0, hz1, hz2⟩ := info_parts infoSide
  have HI := Lib.hid hi; have HZ0 := Lib.hid hz0; have HZ1 := Lib.hid hz1; have HZ2 := Lib.hid hz2
  clear hi hz0 hz1 hz2
  obtain ⟨s0, hs0⟩ : ∃ s, l[0]? = some s := ⟨_, List.getElem?_eq_getElem (by omega)⟩
  have hget : ∀ (W : World), Below w.heap.size w W → ∀ (n : Nat) (s : SideM), l[n]? = some s → W.cell? ⟨g, n * 5, none⟩ = some (.int .i64 s.a) ∧ W.cell? ⟨g, n * 5 + 1, none⟩ = some (.int .i64 s.b) ∧ W.cell? ⟨g, n * 5 + 2, none⟩ = some (.int .i64 s.u) ∧ W.cell? ⟨g, n * 5 + 3, none⟩ = some (.int .i64 s.i) ∧ W.cell? ⟨g, n * 5 + 4, none⟩ = some (.bool s.f) := by
   intro W hW n s hs
   have hr := hrow.below hW
   exact ⟨hr.cells rfl _ _ (by rw [show n * 5 = n * 5 + 0 by omega, sideCells_get l n 0 s hs (by omega)]; rfl), hr.cells rfl _ _ (by rw [sideCells_get l n 1 s hs (by omega)]; rfl), hr.cells rfl _ _ (by rw [sideCells_get l n 2 s hs (by omega)]; rfl), hr.cells rfl _ _ (by rw [sideCells_get l n 3 s hs (by omega)]; rfl), hr.cells rfl _ _ (by rw [sideCells_get l n 4 s hs (by omega)]; rfl)⟩
  obtain ⟨a0, ha0⟩ : ∃ a, s0.a = a := ⟨_, rfl⟩
  have d0 := (hget w (Below.refl _ _) 0 s0 hs0).1
  rw [Nat.zero_mul, ha0] at d0
  have e0 : ((len : Int) == 0) = false := by simp; omega
  have e00 : (len == 0) = false := by simp; omega
  obtain ⟨hrun, hmap⟩ := run_new_map (P := Tryz.prog) w 277 3
  obtain ⟨w1, hw1⟩ : ∃ w1, w.alloc (.map #[] 0) = w1 := ⟨_, rfl⟩
  rw [hw1] at hrun hmap
  have hb1 : Below w.heap.size w w1 := by rw [← hw1]; exact (Below.refl _ _).alloc (Nat.le_refl _) _
  have hs1 : w1.heap.size = w.heap.size + 1 := by rw [← hw1]; simp
  have d1 := (hget w1 hb1 0 s0 hs0).1
  rw [Nat.zero_mul, ha0] at d1
  have HGET := Lib.hid hget; have HLEN := Lib.hid hlen; have HAB := Lib.hid hab
  have HS1 := Lib.hid hs1; have HB1 := Lib.hid hb1
  have HM1 := Lib.hid (show SideMap w1 w.heap.size (fun a => lookN l a 0) from ⟨[], hmap, by simp, fun a s h => by cases h⟩)
  have HA0 := Lib.hid (show leastN l 0 = a0 by unfold leastN firstA; rw [hs0]; exact ha0)
  have j0 : (0 : Int) < (len : Int) := by omega
  obtain ⟨R, hR⟩ : ∃ R, inRowM l = R := ⟨_, rfl⟩
  rw [hR]
  have HRR := Lib.hid hR
  clear hrow hget hlen hab hs1 hb1 hmap hs0 ha0 hw1 hR
  go_enter Tryz.func202, Tryz.ntmps202
  go_wp2
  clear d0 d1 hrun j0
  go_loopw [4, 20] (fun av iv wr => ∃ (n : Nat), n ≤ len ∧ av = .int .i64 (leastN l n) ∧ iv = .int .i64 (n : Int) ∧ SideMap wr w.heap.size (fun a => lookN l a n) ∧ Below w.heap.size w wr) (fun _ iv _ => len - (intOf iv).toNat)
  case atStart => exact ⟨0, Nat.zero_le _, by rw [HA0.out], rfl, HM1.out, HB1.out⟩
  case round =>
   obtain ⟨n, hn, rfl, rfl, hm, hb⟩ := hrel
   by_cases hlt : n < len
   ·have e1 : decide ((n : Int) < (len : Int)) = true := decide_eq_true (by omega)
    have e2 : decide (n < len) = true := decide_eq_true hlt
    obtain ⟨s, hs⟩ : ∃ s, l[n]? = some s := ⟨_, List.getElem?_eq_getElem (by have := HLEN.out; omega)⟩
    obtain ⟨sa, sb, su, si, sf⟩ := s
    obtain ⟨c0, c1, c2, c3, c4⟩ := HGET.out wr hb n _ hs
    simp only [] at c0 c1 c2 c3 c4
    have i1 : (0 : Int) ≤ (n : Int) := by omega
    have i2 : (n : Int) < (len : Int) := by omega
    obtain ⟨w3, hw3, ps, hb3, hs3⟩ := new_box wr _ rfl [.int .i64 sa, .int .i64 sb, .int .i64 su, .int .i64 si, .bool sf] 211
    have hsl := List.mem_of_getElem? hs
    obtain ⟨w4, hrun, htu, hm4⟩ := (hm.below hb3).store ⟨sa, sb, su, si, sf⟩ (HAB.out _ hsl).1
    have hml := hm.lt
    have ps4 := ps.turned htu (by omega)
    have p0 := ps4.c 0 _ rfl
    have q0 := ps.c 0 _ rfl; have q1 := ps.c 1 _ rfl; have q2 := ps.c 2 _ rfl; have q3 := ps.c 3 _ rfl; have q4 := ps.c 4 _ rfl
    have hb4 : Below w.heap.size w w4 := (hb.trans (hb3.mono hb.size)).trans (htu.below (Nat.le_refl _))
    have HM4 := Lib.hid (show SideMap w4 w.heap.size (fun a => lookN l a (n + 1)) by
     have e : (fun a => lookN l a (n + 1)) = (fun a => if a = sa then some ⟨sa, sb, su, si, sf⟩ else lookN l a n) := by
      funext a; rw [lookN, hs]
     rw [e]; exact hm4)
    have HB4 := Lib.hid hb4
    have HLE := Lib.hid (show leastN l (n + 1) = min (leastN l n) sa by rw [leastN, hs])
    obtain ⟨le, hle⟩ : ∃ z, leastN l n = z := ⟨_, rfl⟩
    have HLL := Lib.hid hle
    rw [hle]
    have hrun' : Sem.run Tryz.prog (Instr.mapUpdate 277 (.map (some w.heap.size)) (.int .i64 sa) (.agg #[.int .i64 sa, .int .i64 sb, .int .i64 su, .int .i64 si, .bool sf])) w3 = .ok () w4 := hrun
    clear hm hb hs hsl hrun htu hm4 hb3 hs3 ps ps4 hb4 hml hle
    go_wp2
    refine ⟨⟨n + 1, by omega, ?_, by go_num, HM4.out, HB4.out⟩, by simp [intOf]; omega⟩
    rw [HLE.out, HLL.out]
    congr 1
    by_cases hc : sa < le
    ·rw [if_pos hc]; omega
    ·rw [if_neg hc]; omega
   ·obtain rfl : n = len := by omega
    have e1 : decide ((n : Int) < (n : Int)) = false := decide_eq_false (by omega)
    obtain ⟨L, hL⟩ : ∃ L, (fun a => lookN l a n) = L := ⟨_, rfl⟩
    rw [hL] at hm
    have HLM := Lib.hid (show ∀ a s, L a = some s → s ∈ l from fun a s h => by rw [← hL] at h; exact (lookN_mem h).1)
    have HR := Lib.hid (show inRowM l = chainN L n (leastN l n) by unfold inRowM; rw [HLEN.out, hL])
    obtain ⟨le, hle⟩ : ∃ z, leastN l n = z := ⟨_, rfl⟩
    have HLR := Lib.hid (show -1000000 ≤ le ∧ le ≤ 1000000 by
     obtain ⟨s, hs, e⟩ := (leastN_le (l := l) n).2 (by rintro rfl; exact hz HLEN.out.symm)
     rw [← hle, ← e]; exact (HAB.out s hs).1)
    rw [hle] at HR
    rw [hle]
    have HM := Lib.hid hm; have HB := Lib.hid hb
    rw [HRR.out] at HR
    clear hm hb hL hle hlt hn
    go_wp2
    go_loopw [4, 7, 35] (fun av ov iv wr => ∃ (k : Nat) (a : Int) (vv : Value) (done : List SideM), k ≤ n ∧ av = .int .i64 a ∧ vv = ov ∧ iv = .int .i64 (k : Int) ∧ RowN wr (w.heap.size + 1) 211 5 vv done.length (sideCells done) ∧ done.length ≤ k ∧ R = done ++ chainN L (n - k) a ∧ (-1000000 ≤ a ∧ a ≤ 1000000) ∧ SideMap wr w.heap.size L ∧ Below w.heap.size w wr) (fun _ _ iv _ => n - (intOf iv).toNat)
    case atStart => exact ⟨0, le, _, [], Nat.zero_le _, rfl, rfl, rfl, RowN.nil _ _ _ _, Nat.zero_le _, by rw [HR.out]; rfl, HLR.out, HM.out, HB.out⟩
    case round =>
     obtain ⟨k, a, vv, done, hk, rfl, rfl, rfl, hrow, hdk, hR, har, hm, hb⟩ := hrel
     have hfin : ∀ (wf : World), RowN wf (w.heap.size + 1) 211 5 vv done.length (sideCells done) → R = done → RowN wf w.heap.size 211 5 vv R.length (sideCells R) := by
      intro wf hr e
      rw [e]
      refine ⟨hr.1, ?_⟩
      rcases hr.2 with h1 | ⟨g1, cap1, cur1, h1, h2, h3⟩
      ·exact .inl h1
      ·exact .inr ⟨g1, cap1, cur1, h1, by omega, h3⟩
     have HFIN := Lib.hid hfin
     clear hfin
     by_cases hlt : k < n
     ·have e2 : decide ((k : Int) < (n : Int)) = true := decide_eq_true (by omega)
      have e3 : decide (k < n) = true := decide_eq_true hlt
      have hlk := hm.look har
      cases hLa : L a with
      | none =>
       rw [hLa] at hlk
       simp only [] at hlk
       have HE := Lib.hid (show R = done by rw [hR, show n - k = (n - k - 1) + 1 by omega, chainN, hLa]; simp)
       have HROW := Lib.hid hrow; have HBB := Lib.hid hb
       clear hrow hR hm hb hLa
       go_wp2
       go_ret
       exact ⟨_, rfl, HFIN.out _ (HROW.out.below ((Below.refl _ _).alloc (Nat.le_refl _) _)) HE.out, HBB.out.alloc HBB.out.size _⟩
      | some s =>
       rw [hLa] at hlk
       simp only [] at hlk
       have hsl := HLM.out a s hLa
       have hsb := (HAB.out s hsl).2
       have hRn : R = (done ++ [s]) ++ chainN L (n - (k + 1)) s.b := by
        rw [hR, show n - k = (n - (k + 1)) + 1 by omega, chainN, hLa]; simp
       obtain ⟨sa, sb, su, si, sf⟩ := s
       have hlk' : (Instr.lookup 277 (.map (some w.heap.size)) (.int .i64 a) true).run Tryz.prog wr = .ok (.tuple #[.agg #[.int .i64 sa, .int .i64 sb, .int .i64 su, .int .i64 si, .bool sf], .bool true]) wr := hlk
       obtain ⟨w3, hw3, ps, hb3, hs3⟩ := new_box wr _ rfl [.int .i64 sa, .int .i64 sb, .int .i64 su, .int .i64 si, .bool sf] 211
       obtain ⟨w4, hw4, pz, hb4, hs4⟩ := new_box w3 _ rfl [.int .i64 sa, .int .i64 sb, .int .i64 su, .int .i64 si, .bool sf] 211
       have hrow4 := (hrow.below hb3).below hb4
       have hbs := hb.size
       obtain ⟨v1, w5, hrun, rown, hgrow, -⟩ := run_append_row (P := Tryz.prog) w4 (w.heap.size + 1) 173 173 211 i0 _ 5 40 (by kernel_rfl) HI.out HZ0.out HZ1.out HZ2.out rfl (by intro u hu; simp [Value.cells] at hu; rcases hu with rfl | rfl | rfl | rfl | rfl <;> first | exact NoWord.int _ | exact NoWord.bool _) _ done.length _ hrow4 ⟨w3.heap.size, 0, none⟩ 1 1 [.int .i64 sa, .int .i64 sb, .int .i64 su, .int .i64 si, .bool sf] (by omega) rfl pz.news (by intro u hu; simp at hu; rcases hu with rfl | rfl | rfl | rfl | rfl <;> rfl) (by intro u hu; simp at hu; rcases hu with rfl | rfl | rfl | rfl | rfl <;> first | exact NoWord.int _ | exact NoWord.bool _) (by unfold maxLen; omega) (by omega) (by have := HS1.out; have := HM.out.lt; have := hm.lt; omega)
       have hne : ∀ g', vv.ownBlock = some g' → w.heap.size + 1 ≤ g' ∧ g' < wr.heap.size := fun g' hg => hrow.lt g' hg
       have ps4 := ps.below hb4
       have ps5 := ps4.grown hgrow (fun e => by have := hne _ e; omega) ps4.lt
       have hm4 := (hm.below hb3).below hb4
       have hm5 := hm4.block (hgrow.block _ hm4.lt (fun e => by have := hne _ e.symm; omega))
       have hb45 : Below w.heap.size w w4 := (hb.trans (hb3.mono hb.size)).trans (hb4.mono (by omega))
       have hb5 : Below w.heap.size w w5 := hb45.grown hgrow (by omega) (fun g' hg => by have := hne g' hg; omega)
       have FIN := Lib.hid (And.intro rown (And.intro hm5 hb5))
       have HRN := Lib.hid hRn; have HSB := Lib.hid hsb; have HDK := Lib.hid hdk
       have z0 := ps.c 0 _ rfl; have z1 := ps.c 1 _ rfl; have z2 := ps.c 2 _ rfl; have z3 := ps.c 3 _ rfl; have z4 := ps.c 4 _ rfl
       have y1 := ps5.c 1 _ rfl
       clear hrow hdk hR har hm hb hLa hlk hsl hsb hRn ps hb3 hs3 pz hb4 hs4 hrow4 hbs rown hgrow hne ps4 ps5 hm4 hm5 hb45 hb5
       go_wp2_with (refine wpList_append_row rfl _ _ 173 rfl rfl rfl hrun ?_)
       have FI := FIN.out
       refine ⟨⟨k + 1, sb, _, done ++ [⟨sa, sb, su, si, sf⟩], by omega, rfl, rfl, by go_num, ?_, ?_, HRN.out, HSB.out, FI.2.1, FI.2.2⟩, by simp [intOf]; omega⟩
       ·rw [List.length_append, sideCells_app]
        exact FI.1
       ·rw [List.length_append]; have := HDK.out; simp; omega
     ·obtain rfl : k = n := by omega
      have e2 : decide ((k : Int) < (k : Int)) = false := decide_eq_false (by omega)
      have HE := Lib.hid (show R = done by rw [hR, Nat.sub_self]; simp [chainN])
      have HROW := Lib.hid hrow; have HBB := Lib.hid hb
      clear hrow hR hm hb
      go_wp2
      go_ret
      exact ⟨_, rfl, HFIN.out _ HROW.out HE.out, HBB.out⟩
end Go.Proofs.YtecnnpkpgbbfkaaGreat
/- cavity's rim: the walk. -/
namespace Go.MagM
open Go.RowKit
/-- All corners are small numbers. -/
def SmallV (S : List TriM) : Prop := ∀ (t : Nat) (T : TriM), S[t]? = some T → ∀ k, -1000000 ≤ T.v k ∧ T.v k ≤ 1000000
theorem sideS_small {S : List TriM} (h : SmallV S) {t i : Nat} {T : TriM} (hT : S[t]? = some T) : (-1000000 ≤ (sideS S T i).a ∧ (sideS S T i).a ≤ 1000000) ∧ (-1000000 ≤ (sideS S T i).b ∧ (sideS S T i).b ≤ 1000000) := by
 unfold sideS edgeV
 match i with
 | 0 => exact ⟨h t T hT 1, h t T hT 2⟩
 | 1 => exact ⟨h t T hT 2, h t T hT 0⟩
 | _ + 2 => exact ⟨h t T hT 0, h t T hT 1⟩
theorem rimI_small {S : List TriM} (h : SmallV S) {ts : List Int} {t : Nat} {T : TriM} (hT : S[t]? = some T) : ∀ n, ∀ s ∈ rimI S ts T n, (-1000000 ≤ s.a ∧ s.a ≤ 1000000) ∧ (-1000000 ≤ s.b ∧ s.b ≤ 1000000)
 | 0, s, hs => by cases hs
 | n + 1, s, hs => by
  rw [rimI] at hs
  rcases List.mem_append.1 hs with hs | hs
  ·exact rimI_small h hT n s hs
  ·split at hs
   ·cases hs
   ·simp only [List.mem_singleton] at hs; subst hs; exact sideS_small h hT
theorem rimP_small {S : List TriM} (h : SmallV S) {ts : List Int} : ∀ n, ∀ s ∈ rimP S ts n, (-1000000 ≤ s.a ∧ s.a ≤ 1000000) ∧ (-1000000 ≤ s.b ∧ s.b ≤ 1000000)
 | 0, s, hs => by cases hs
 | n + 1, s, hs => by
  rw [rimP] at hs
  rcases List.mem_append.1 hs with hs | hs
  ·exact rimP_small h n s hs
  ·cases hz : ts[n]? with
   | none => rw [hz] at hs; cases hs
   | some z =>
    rw [hz] at hs
    simp only [] at hs
    unfold rimT at hs
    split at hs
    ·rename_i T hT
     exact rimI_small h hT 3 s hs
    ·cases hs
end Go.MagM
namespace Go.Proofs.YtecnnpkpgbbfkaaGreat
open Go.RowKit Go.MagM Go.Maps
set_option maxRecDepth 100000 in
set_option maxHeartbeats 8000000 in
theorem cvRim_any {lo mb pb pc hb b : Nat} {ta : Option Addr} {tc : Nat} {P : List (Int × Int)} {S : List TriM} {v : Value} {ts : List Int} (w : World) (h : MeshR w mb pb pc ta tc P S) (hH : HoleR w lo hb mb b v ts) (hN : Nexts S) (hin : InS S ts) (hmx : S.length < 300000) (hsm : SmallV S) :
  Calls Tryz.prog 154 #[.pointer (some ⟨hb, 0, none⟩)] w fun e w' => ∃ v', e = .returned v' ∧ RowN w' w.heap.size 211 5 v' (inRowM (rimP S ts ts.length)).length (sideCells (inRowM (rimP S ts ts.length))) ∧ Below w.heap.size w w' := by
 obtain ⟨i0, hi, hz0, hz1, hz2⟩ := info_parts infoSide
 have HI := Lib.hid hi; have HZ0 := Lib.hid hz0; have HZ1 := Lib.hid hz1; have HZ2 := Lib.hid hz2
 clear hi hz0 hz1 hz2
 obtain ⟨R, hR⟩ : ∃ R, inRowM (rimP S ts ts.length) = R := ⟨_, rfl⟩
 rw [hR]
 obtain ⟨ul, hul⟩ : ∃ ul, ts.length = ul := ⟨_, rfl⟩
 obtain ⟨ao, c, rfl⟩ : ∃ ao c, v = .slice ao ul c := by
  rcases hH.row.2 with ⟨h1, h2⟩ | ⟨g, cap, cur, h1, -⟩
  ·exact ⟨_, _, by rw [h1, ← hul, h2]⟩
  ·exact ⟨_, _, by rw [← hul]; exact h1⟩
 have hle := hin.le
 rw [hul] at hle hR
 obtain ⟨len, hlen⟩ : ∃ len, S.length = len := ⟨_, rfl⟩
 rw [hlen] at hle hmx
 have hub : ul < 300000 := by omega
 have b1 := hH.box.c1
 have H := Lib.hid h; have HH := Lib.hid hH; have HN := Lib.hid hN; have HIN := Lib.hid hin; have HMX := Lib.hid hmx; have HSM := Lib.hid hsm
 have HR := Lib.hid hR; have HUL := Lib.hid hul; have HLEN := Lib.hid hlen; have HLE := Lib.hid hle
 clear h hH hN hin hmx hsm hR hul hlen hle
 go_enter Tryz.func154, Tryz.ntmps154
 go_wp2
 clear b1
 go_loopw [3, 13] (fun pv iv wr => ∃ (n : Nat) (vv : Value), n ≤ ul ∧ vv = pv ∧ iv = .int .i64 (n : Int) ∧ RowN wr w.heap.size 211 5 vv (rimP S ts n).length (sideCells (rimP S ts n)) ∧ Below w.heap.size w wr) (fun _ iv _ => ul - (intOf iv).toNat)
 case atStart => exact ⟨0, _, Nat.zero_le _, rfl, rfl, RowN.nil _ _ _ _, Below.refl _ _⟩
 case round =>
  obtain ⟨n, vv, hn, rfl, rfl, hrow, hbw⟩ := hrel
  by_cases hlt : n < ul
  ·have e1 : decide ((n : Int) < (ul : Int)) = true := decide_eq_true (by omega)
   have e2 : decide (n < ul) = true := decide_eq_true hlt
   obtain ⟨g, rfl⟩ : ∃ g, ao = some ⟨g, 0, none⟩ := by
    rcases HH.out.row.2 with ⟨h1, h2⟩ | ⟨g, cap, cur, h1, -⟩
    ·have := HUL.out; omega
    ·exact ⟨g, by injection h1⟩
   obtain ⟨z, hz⟩ : ∃ z, ts[n]? = some z := ⟨_, List.getElem?_eq_getElem (by have := HUL.out; omega)⟩
   obtain ⟨t, rfl, htl⟩ := HIN.out.is z (List.mem_of_getElem? hz)
   obtain ⟨T, hT⟩ : ∃ T, S[t]? = some T := ⟨_, List.getElem?_eq_getElem htl⟩
   have hhr := HH.out.below hbw
   have hcell : wr.cell? ⟨g, n, none⟩ = some (.int .i64 (t : Int)) := hhr.row.cells rfl n _ (by unfold intCells; rw [List.getElem?_map, hz]; rfl)
   have hr_0 := H.out.below hbw
   have hsh := hr_0.short.2
   rw [HLEN.out] at htl hsh
   obtain ⟨tb, hta, -, h9⟩ := hr_0.tris.get hT
   subst hta
   have d0 := hhr.box.c0
   have d1 := hr_0.box.c1
   rw [HLEN.out] at d1
   have c3 := h9.c3; have c4 := h9.c4; have c5 := h9.c5
   have i1 : (0 : Int) ≤ (n : Int) := by omega
   have i2 : (n : Int) < (ul : Int) := by omega
   have i3 : (0 : Int) ≤ (t : Int) := by omega
   have i4 : (t : Int) < (len : Int) := by omega
   have HROW := Lib.hid hrow; have HBW := Lib.hid hbw; have HZ := Lib.hid hz; have HT := Lib.hid hT
   have HRP := Lib.hid (rimP_on hz hT)
   clear hrow hbw hz hT hhr hr_0 h9 htl hsh
   as_aux_lemma =>
    go_wp2
    clear hcell d0 d1 c3 c4 c5
    go_loopw [3, 28] (fun pv iv w2 => ∃ (i : Nat) (vi : Value), i ≤ 3 ∧ vi = pv ∧ iv = .int .i64 (i : Int) ∧ RowN w2 w.heap.size 211 5 vi (rimP S ts n ++ rimI S ts T i).length (sideCells (rimP S ts n ++ rimI S ts T i)) ∧ Below w.heap.size w w2) (fun _ iv _ => 3 - (intOf iv).toNat)
    case atStart => exact ⟨0, _, Nat.zero_le _, rfl, rfl, by simp only [rimI, List.append_nil]; exact HROW.out, HBW.out⟩
    case round =>
     obtain ⟨i, vi, hi, rfl, rfl, hrow2, hb2⟩ := hrel
     by_cases hi3 : i < 3
     ·obtain ⟨u, hu, hul⟩ := HN.out t T HT.out i hi3
      obtain ⟨U, hU⟩ : ∃ U, S[u]? = some U := ⟨_, List.getElem?_eq_getElem hul⟩
      have ir : ∀ W : World, (Instr.index 38 (.agg #[.int .i64 T.n0, .int .i64 T.n1, .int .i64 T.n2]) (.int .i64 (i : Int))).run Tryz.prog W = .ok (.int .i64 (u : Int)) W := fun W => by
       rw [index3v_run ⟨T.n0, T.n1, T.n2, 0, 0, 0, false, false, false⟩ i hi3 W, ← hu]
       obtain rfl | rfl | rfl : i = 0 ∨ i = 1 ∨ i = 2 := by omega
       all_goals rfl
      have hur : -1000000 ≤ (u : Int) ∧ (u : Int) ≤ 1000000 := by have := HMX.out; have := HLEN.out; omega
      have e3 : decide ((i : Int) < 3) = true := decide_eq_true (by omega)
      have hhr := HH.out.below hb2
      have HHO := Lib.hid (cvHolds_any hb b ts (u : Int) wr hhr.box.c2 hhr.map hur)
      have HU := Lib.hid hU; have HUU := Lib.hid hu
      have HROW2 := Lib.hid hrow2; have HB2 := Lib.hid hb2
      clear hrow2 hb2 hhr hur hU hu hul
      as_aux_lemma =>
       go_wp2_with fail
       refine HHO.out.mono ?_
       rintro e w3 ⟨rfl, hb3⟩
       have HROW3 := Lib.hid (HROW2.out.below hb3); have HB3 := Lib.hid (HB2.out.trans (hb3.mono HB2.out.size))
       clear hb3
       by_cases hm : (u : Int) ∈ ts
       ·have e4 : decide ((u : Int) ∈ ts) = true := decide_eq_true hm
        rw [e4]
        have HRI := Lib.hid (show rimI S ts T (i + 1) = rimI S ts T i by rw [rimI, HUU.out, if_pos hm, List.append_nil])
        clear hm e4
        go_wp2
        exact ⟨⟨i + 1, _, by omega, rfl, by go_num, by rw [HRI.out]; exact HROW3.out, HB3.out⟩, by simp [intOf]; omega⟩
       ·have e4 : decide ((u : Int) ∈ ts) = false := decide_eq_false hm
        rw [e4]
        have HRI := Lib.hid (show rimI S ts T (i + 1) = rimI S ts T i ++ [sideS S T i] by rw [rimI, HUU.out, if_neg hm])
        clear hm e4
        as_aux_lemma =>
         go_wp2_with fail
         refine (cvSide_any t u i hi3 T U HUU.out w3 (H.out.below HB3.out) (HH.out.below HB3.out).box.c0 HT.out HU.out).mono ?_
         rintro e w4 ⟨rfl, hb4⟩
         rw [sideV_is S T i HUU.out HU.out]
         obtain ⟨⟨sa, sb, su, si, sf⟩, hs⟩ : ∃ s, sideS S T i = s := ⟨_, rfl⟩
         rw [hs] at HRI ⊢
         simp only [SideM.cells]
         have hrow4 := HROW3.out.below hb4
         have hb4' := HB3.out.trans (hb4.mono HB3.out.size)
         obtain ⟨w5, hw5, pz, hb5, hs5⟩ := new_box w4 _ rfl [.int .i64 sa, .int .i64 sb, .int .i64 su, .int .i64 si, .bool sf] 211
         have hrow5 := hrow4.below hb5
         have hlb : (rimP S ts n ++ rimI S ts T i).length ≤ 1000000 := by
          rw [List.length_append]
          have := rimP_le S ts n; have := rimI_le S ts T i; have := HMX.out; have := HLE.out; omega
         have hbs := hb4'.size
         obtain ⟨v1, w6, hrun, rown, hgrow, -⟩ := run_append_row (P := Tryz.prog) w5 w.heap.size 173 173 211 i0 _ 5 40 (by kernel_rfl) HI.out HZ0.out HZ1.out HZ2.out rfl (by intro u hu; simp [Value.cells] at hu; rcases hu with rfl | rfl | rfl | rfl | rfl <;> first | exact NoWord.int _ | exact NoWord.bool _) _ (rimP S ts n ++ rimI S ts T i).length _ hrow5 ⟨w4.heap.size, 0, none⟩ 1 1 [.int .i64 sa, .int .i64 sb, .int .i64 su, .int .i64 si, .bool sf] (by omega) rfl pz.news (by intro u hu; simp at hu; rcases hu with rfl | rfl | rfl | rfl | rfl <;> rfl) (by intro u hu; simp at hu; rcases hu with rfl | rfl | rfl | rfl | rfl <;> first | exact NoWord.int _ | exact NoWord.bool _) (by unfold maxLen; omega) (by omega) (by omega)
         have hb6 : Below w.heap.size w w6 := (hb4'.trans (hb5.mono hbs)).grown hgrow (by omega) (fun g' hg => (hrow5.lt g' hg).1)
         have FIN := Lib.hid (And.intro rown hb6)
         clear hb4 hrow4 hb4' pz hb5 hs5 hrow5 hlb hbs rown hgrow hb6 hs
         as_aux_lemma =>
          go_wp2_with (refine wpList_append_row rfl _ _ 173 rfl rfl rfl hrun ?_)
          refine ⟨⟨i + 1, _, by omega, rfl, by go_num, ?_, FIN.out.2⟩, by simp [intOf]; omega⟩
          rw [HRI.out, ← List.append_assoc, List.length_append, sideCells_app]
          exact FIN.out.1
     ·obtain rfl : i = 3 := by omega
      have HROW2 := Lib.hid hrow2; have HB2 := Lib.hid hb2
      clear hrow2 hb2
      go_wp2
      exact ⟨⟨n + 1, _, by omega, rfl, by go_num, by rw [HRP.out]; exact HROW2.out, HB2.out⟩, by simp [intOf]; omega⟩
  ·obtain rfl : n = ul := by omega
   have e1 : decide ((n : Int) < (n : Int)) = false := decide_eq_false (by omega)
   have HBW := Lib.hid hbw
   have HCR := Lib.hid (cvInRow_any w.heap.size vv (rimP S ts n) wr hrow (by have := rimP_le S ts n; have := HMX.out; have := HLE.out; omega) (fun s hs => rimP_small HSM.out n s hs))
   clear hrow hbw
   go_wp2_with fail
   refine HCR.out.mono ?_
   rintro e w3 ⟨v3, rfl, hrow3, hb3⟩
   rw [HR.out] at hrow3
   have FIN := Lib.hid (And.intro hrow3 (HBW.out.trans (hb3.mono HBW.out.size)))
   have HSZ := Lib.hid HBW.out.size
   clear hrow3 hb3
   go_wp2
   go_ret
   refine ⟨_, rfl, ⟨FIN.out.1.1, ?_⟩, FIN.out.2⟩
   rcases FIN.out.1.2 with h1 | ⟨g1, cap1, cur1, h1, h2, h3⟩
   ·exact .inl h1
   ·exact .inr ⟨g1, cap1, cur1, h1, by have := HSZ.out; omega, h3⟩
end Go.Proofs.YtecnnpkpgbbfkaaGreat
