/- What one triangle's mesh has; what a range keeps. -/
import Derived.Test.YtnabdopnlinklaaPartn
import Derived.RangeFuncNested
import Derived.RangeFuncBound
import Derived.RangeFuncCalls
import Derived.RangeFuncLeaves
import Derived.Test.YtnabdopnlinklaaPartj
namespace Go.MagM
open Go.RowKit Go.Shelf
theorem keepsOthers_below9 {W W' : World} (h : Below W.heap.size W W') : KeepsOthers W W' := ⟨h.size, fun k _ hk _ => (h.block k (Array.getElem?_eq_some_iff.1 hk).1).trans hk⟩
theorem box_keep9 {Pb : Nat → Prop} {A B : World} {b : Nat} {l : List Value} (h : Box A b l) (hk : KeepB Pb A B) (hb : Pb b) : Box B b l :=
  ⟨fun j u hj => (hk.cell hb).trans (h.c j u hj), fun j u hj => (World.frozen?_of_block (a := ⟨b, j, none⟩) (hk b hb)).trans (h.f j u hj)⟩
theorem box_own9 {β : Type} (B : Nat) (b : Nat) (f : β → List Value) : OwnFrom B (fun (s : β) W => Box W b (f s)) := fun _ _ _ _ hs hg hr =>
  ⟨fun j u hj => cell_kept (hs.c j u hj) hg (fun r e => (hr r e).2), fun j u hj => (frozen_kept (hs.c j u hj) hg (fun r e => (hr r e).2)).trans (hs.f j u hj)⟩
theorem range_start9 {F : Fence} {n : Nat} {P : Program} {g : Operand} {ps : Array Tmp} {assign body : Code} {Q : Exit → Act → World → Prop} {a : Act} {w : World} (h : ∀ a0, a0 = a → (Code.rangeFunc g ps assign body).wpIn F n P Q a0 w) : (Code.rangeFunc g ps assign body).wpIn F n P Q a w := h a rfl
theorem keepB_set9 {Pb : Nat → Prop} {A B : World} (h : KeepB Pb A B) {g i : Nat} (hg : ¬ Pb g) (v : Value) : KeepB Pb A (B.setCell ⟨g, i, none⟩ v) := fun b hb => by
  rw [heap_set_far _ _ _ _ _ (fun e => hg (by rw [← e]; exact hb))]; exact h b hb
theorem MeshO.keepB {p e : TypeId} {w w' : World} {lo mb pb pc : Nat} {tv : Value} {P : List (Int × Int)} {S : List TriM} (h : MeshO p e w lo mb pb pc tv P S) {Pb : Nat → Prop} (hk : KeepB Pb w w') (h1 : Pb mb) (h2 : Pb pb) (h3 : ∀ k, tv.ownBlock = some k → Pb k) (hs : w.heap.size ≤ w'.heap.size) : MeshO p e w' lo mb pb pc tv P S :=
  ⟨h.box.same (hk mb h1), owns_same h.prow (fun k hk' => by obtain rfl : k = pb := (by simpa [Value.ownBlock] using hk'.symm); exact hk _ h2), owns_same h.row (fun k hk' => hk k (h3 k hk')), by have := h.low; omega, h.apart, h.short⟩
theorem hullL_head {l : List Int} (h : 0 < l.length) : (hullL l)[0]? = some (minZ l l.length) := by
  obtain ⟨k, hk, hl⟩ := idxZ_mem (minZ_mem (zs := l) h l.length (Nat.le_refl _))
  have hv : l[k]? = some (minZ l l.length) := by
    unfold idxZ at hk
    cases hf : l.findIdx? (· == minZ l l.length) with
    | none => rw [hf] at hk; simp only [] at hk; omega
    | some j =>
      rw [hf] at hk
      simp only [] at hk
      obtain rfl : j = k := by omega
      rw [List.findIdx?_eq_some_iff_getElem] at hf
      obtain ⟨h1, h2, -⟩ := hf
      rw [List.getElem?_eq_getElem h1]
      simpa using h2
  unfold hullL
  rw [hk, Int.toNat_natCast, List.getElem?_append_left (by rw [List.length_drop]; omega), List.getElem?_drop, Nat.add_zero]
  exact hv
section
variable {a b c : Nat}
theorem one_real0 : realM (newM (a : Int) b c) ((0 : Nat) : Int) = true := by
  have p1 : (0 : Int) ≤ a := by omega
  have p2 : (0 : Int) ≤ b := by omega
  have p3 : (0 : Int) ≤ c := by omega
  simp [realM, getT, newM, realT]
theorem one_reals : (realsK (newM (a : Int) b c) 4).length = 1 := by
  simp [realsK, newM, realT]
theorem one_only9 {y : Nat} {U : TriM} (h : (newM (a : Int) b c)[y]? = some U) (hr : realT U = true) : y = 0 ∧ U = ⟨(a : Int), b, c, 1, 2, 3, false, false, false⟩ := by
  have hl : y < 4 := (List.getElem?_eq_some_iff.1 h).1
  obtain rfl | rfl | rfl | rfl : y = 0 ∨ y = 1 ∨ y = 2 ∨ y = 3 := by omega
  all_goals simp only [newM, List.getElem?_cons_zero, List.getElem?_cons_succ, Option.some.injEq] at h
  · exact ⟨rfl, h.symm⟩
  all_goals
    subst h
    unfold realT at hr
    have := of_decide_eq_true hr
    simp only [] at this
    omega
theorem one_has {v : Nat} (h : v = a ∨ v = b ∨ v = c) : ∃ k : Nat, placeT (⟨(a : Int), b, c, 1, 2, 3, false, false, false⟩ : TriM) (v : Int) = (k : Int) := by
  unfold placeT
  split
  · exact ⟨0, rfl⟩
  split
  · exact ⟨1, rfl⟩
  split
  · exact ⟨2, rfl⟩
  · rename_i h1 h2 h3
    simp only [] at h1 h2 h3
    omega
theorem one_at_yes {v : Nat} (h : v = a ∨ v = b ∨ v = c) : atM (newM (a : Int) b c) (v : Int) = 0 := by
  obtain ⟨k, hk⟩ := one_has (a := a) (b := b) (c := c) h
  unfold atM
  rw [if_neg (by omega)]
  refine firstM_hit (k := 0) (by simp [newM]) ?_ (fun j hj => by omega)
  have hg : goneB (⟨(a : Int), b, c, 1, 2, 3, false, false, false⟩ : TriM) = false := by unfold goneB; exact decide_eq_false (by simp only []; omega)
  have : placeM (newM (a : Int) b c) ((0 : Nat) : Int) (v : Int) = placeT (⟨(a : Int), b, c, 1, 2, 3, false, false, false⟩ : TriM) (v : Int) := by
    unfold placeM
    rw [getT_nat, show (newM (a : Int) b c)[0]? = some ⟨(a : Int), b, c, 1, 2, 3, false, false, false⟩ from rfl]
    simp only [hg]; rfl
  rw [this, hk]; omega
theorem one_at_no {v : Nat} (h : ¬ (v = a ∨ v = b ∨ v = c)) : atM (newM (a : Int) b c) (v : Int) = -1 := by
  unfold atM
  rw [if_neg (by omega)]
  refine firstM_miss (fun j hj => ?_)
  have hl : j < 4 := hj
  have h1 : ¬ (v : Int) = a := by omega
  have h2 : ¬ (v : Int) = b := by omega
  have h3 : ¬ (v : Int) = c := by omega
  obtain rfl | rfl | rfl | rfl : j = 0 ∨ j = 1 ∨ j = 2 ∨ j = 3 := by omega
  all_goals
    unfold placeM
    rw [getT_nat]
    simp [newM, placeT, h1, h2, h3]
    try omega
end
end Go.MagM
/- The triangles of the statements' grids: their edges, their border. Over no program; written ahead of layer 9's code. -/
namespace Go.MagM
/-- The squares of a grid, row by row. -/
def gridSq (w h : Nat) : List (Nat × Nat) := (List.range h).flatMap fun y => (List.range w).map fun x => (x, y)
/-- Both triangles of a square: by one diagonal, or by the other one. -/
def sqT (w : Nat) (p : Nat × Nat) (bit : Bool) : List (Nat × Nat × Nat) :=
  let a := p.2 * (w + 1) + p.1
  let b := p.2 * (w + 1) + (p.1 + 1)
  let c := (p.2 + 1) * (w + 1) + (p.1 + 1)
  let d := (p.2 + 1) * (w + 1) + p.1
  if bit then [(a, b, c), (c, d, a)] else [(b, d, a), (d, b, c)]
def gridT (w h bits : Nat) : List (Nat × Nat × Nat) := ((gridSq w h).zipIdx).flatMap fun q => sqT w q.1 (bits.testBit q.2)
def edgesT (T : List (Nat × Nat × Nat)) : List (Nat × Nat) := T.flatMap fun t => [(t.2.1, t.2.2), (t.2.2, t.1), (t.1, t.2.1)]
/-- Edges that have no other half. -/
def borderT (T : List (Nat × Nat × Nat)) : List (Nat × Nat) := (edgesT T).filter fun e => !(edgesT T).contains (e.2, e.1)
def crossN (w : Nat) (a b c : Nat) : Int :=
  let x := fun v : Nat => ((2 * (v % (w + 1)) : Nat) : Int)
  let y := fun v : Nat => ((2 * (v / (w + 1)) : Nat) : Int)
  (x b - x a) * (y c - y a) - (y b - y a) * (x c - x a)
def goodT (w h : Nat) (T : List (Nat × Nat × Nat)) : Bool :=
  (edgesT T).Nodup && (edgesT T).all (fun e => e.1 != e.2 && e.1 < (w + 1) * (h + 1)) && T.all (fun t => 0 < crossN w t.1 t.2.1 t.2.2) && T.length == 2 * w * h &&
    ((borderT T).map (·.1)).Nodup && ((borderT T).map (·.2)).Nodup && (borderT T).length == 2 * (w + h) && (borderT T).all (fun e => ((borderT T).map (·.2)).contains e.1 && ((borderT T).map (·.1)).contains e.2)
def allGood : Bool := [1, 2].all fun w => [1, 2].all fun h => (List.range 16).all fun bits => goodT w h (gridT w h bits)
set_option maxRecDepth 100000 in
theorem all_good : allGood = true := by decide +kernel
theorem grid_good {w h : Nat} (hw : w = 1 ∨ w = 2) (hh : h = 1 ∨ h = 2) {bits : Nat} (hb : bits < 16) : goodT w h (gridT w h bits) = true := by
  have := all_good
  unfold allGood at this
  rw [List.all_eq_true] at this
  have h1 := this w (by rcases hw with rfl | rfl <;> simp)
  rw [List.all_eq_true] at h1
  have h2 := h1 h (by rcases hh with rfl | rfl <;> simp)
  rw [List.all_eq_true] at h2
  exact h2 bits (List.mem_range.2 hb)
end Go.MagM
/- Triangles and ghosts: all their half-edges are distinct, and each has its other half. Over no program; written ahead of layer 9's code. -/
namespace Go.MagM
theorem nodup_inj {α β : Type} {f : α → β} : ∀ {l : List α}, (l.map f).Nodup → ∀ {x y : α}, x ∈ l → y ∈ l → f x = f y → x = y
  | a :: t, h, x, y, hx, hy, e => by
    have h' := List.nodup_cons.1 h
    rcases List.mem_cons.1 hx with hx | kx
    · rcases List.mem_cons.1 hy with hy | ky
      · rw [hx, hy]
      · exact absurd (List.mem_map.2 ⟨y, ky, by rw [← e, hx]⟩) h'.1
    · rcases List.mem_cons.1 hy with hy | ky
      · exact absurd (List.mem_map.2 ⟨x, kx, by rw [e, hy]⟩) h'.1
      · exact nodup_inj h'.2 kx ky e
/-- The edges of a triangle; its half-edges, its number being s. -/
def edgesV (V : Int × Int × Int) : List (Int × Int) := [(V.2.1, V.2.2), (V.2.2, V.1), (V.1, V.2.1)]
def halfV (s : Nat) (V : Int × Int × Int) : List HalfE := [(s, 0, (V.2.1, V.2.2)), (s, 1, (V.2.2, V.1)), (s, 2, (V.1, V.2.1))]
def halfEs (L : List (Nat × (Int × Int × Int))) : List HalfE := L.flatMap fun p => halfV p.1 p.2
theorem halfEs_edges : ∀ L, (halfEs L).map (fun x => x.2.2) = L.flatMap fun p => edgesV p.2
  | [] => rfl
  | p :: t => by
    have := halfEs_edges t
    unfold halfEs at this ⊢
    rw [List.flatMap_cons, List.map_append, this, List.flatMap_cons]; rfl
theorem mem_halfEs {L : List (Nat × (Int × Int × Int))} {t i : Nat} {e : Int × Int} : (t, i, e) ∈ halfEs L ↔ ∃ V, (t, V) ∈ L ∧ ((i = 0 ∧ e = (V.2.1, V.2.2)) ∨ (i = 1 ∧ e = (V.2.2, V.1)) ∨ (i = 2 ∧ e = (V.1, V.2.1))) := by
  unfold halfEs
  rw [List.mem_flatMap]
  constructor
  · rintro ⟨⟨s, V⟩, h1, h2⟩
    simp [halfV] at h2
    rcases h2 with ⟨rfl, rfl, rfl⟩ | ⟨rfl, rfl, rfl⟩ | ⟨rfl, rfl, rfl⟩
    · exact ⟨V, h1, .inl ⟨rfl, rfl⟩⟩
    · exact ⟨V, h1, .inr (.inl ⟨rfl, rfl⟩)⟩
    · exact ⟨V, h1, .inr (.inr ⟨rfl, rfl⟩)⟩
  · rintro ⟨V, h1, h2⟩
    refine ⟨(t, V), h1, ?_⟩
    simp [halfV]
    rcases h2 with ⟨rfl, rfl⟩ | ⟨rfl, rfl⟩ | ⟨rfl, rfl⟩ <;> simp
theorem distinct_of {L : List (Nat × (Int × Int × Int))} (hs : (L.map (·.1)).Nodup) (he : (L.flatMap fun p => edgesV p.2).Nodup) (hn : ∀ e, e ∈ (L.flatMap fun p => edgesV p.2) → e.1 ≠ e.2) : Distinct (halfEs L) := by
  rw [← halfEs_edges] at he hn
  refine ⟨fun t i u j e h1 h2 => ?_, fun t i e e' h1 h2 => ?_, fun t i a b h => ?_⟩
  · have := nodup_inj he h1 h2 rfl
    simp only [Prod.mk.injEq] at this
    exact ⟨this.1, this.2.1⟩
  · obtain ⟨V, v1, v2⟩ := mem_halfEs.1 h1
    obtain ⟨U, u1, u2⟩ := mem_halfEs.1 h2
    have := nodup_inj hs v1 u1 rfl
    simp only [Prod.mk.injEq, true_and] at this
    subst this
    rcases v2 with ⟨rfl, rfl⟩ | ⟨rfl, rfl⟩ | ⟨rfl, rfl⟩ <;> rcases u2 with ⟨k, rfl⟩ | ⟨k, rfl⟩ | ⟨k, rfl⟩ <;> first | rfl | omega
  · exact hn (a, b) (List.mem_map.2 ⟨_, h, rfl⟩)
/-- A triangle of points; a ghost behind an edge of the border. -/
def realV (t : Nat × Nat × Nat) : Int × Int × Int := ((t.1 : Int), (t.2.1 : Int), (t.2.2 : Int))
def ghostV (e : Nat × Nat) : Int × Int × Int := ((e.2 : Int), (e.1 : Int), -1)
def castE (e : Nat × Nat) : Int × Int := ((e.1 : Int), (e.2 : Int))
theorem castE_inj {a b : Nat × Nat} (h : castE a = castE b) : a = b := by
  unfold castE at h
  simp only [Prod.mk.injEq] at h
  exact Prod.ext (by omega) (by omega)
theorem real_edges : ∀ T : List (Nat × Nat × Nat), (T.map realV).flatMap edgesV = (edgesT T).map castE
  | [] => rfl
  | t :: r => by
    have := real_edges r
    unfold edgesT at this ⊢
    rw [List.map_cons, List.flatMap_cons, this, List.flatMap_cons, List.map_append]; rfl
theorem ghost_edges : ∀ Bd : List (Nat × Nat), ∀ e, e ∈ (Bd.map ghostV).flatMap edgesV ↔ ∃ x ∈ Bd, e = ((x.1 : Int), -1) ∨ e = (-1, (x.2 : Int)) ∨ e = ((x.2 : Int), (x.1 : Int)) := by
  intro Bd e
  simp only [List.mem_flatMap, List.mem_map]
  constructor
  · rintro ⟨V, ⟨x, hx, rfl⟩, h⟩
    simp [edgesV, ghostV] at h
    exact ⟨x, hx, h⟩
  · rintro ⟨x, hx, h⟩
    exact ⟨ghostV x, ⟨x, hx, rfl⟩, by simp [edgesV, ghostV]; exact h⟩
theorem ghost_nodup : ∀ Bd : List (Nat × Nat), (Bd.map (·.1)).Nodup → (Bd.map (·.2)).Nodup → ((Bd.map ghostV).flatMap edgesV).Nodup
  | [], _, _ => by simp
  | x :: t, h1, h2 => by
    have k1 := List.nodup_cons.1 h1
    have k2 := List.nodup_cons.1 h2
    rw [List.map_cons, List.flatMap_cons, List.nodup_append]
    refine ⟨?_, ghost_nodup t k1.2 k2.2, fun a ha b hb e => ?_⟩
    · simp [edgesV, ghostV]
    · subst e
      obtain ⟨y, hy, h⟩ := (ghost_edges t a).1 hb
      have y1 : y.1 ≠ x.1 := fun e => k1.1 (List.mem_map.2 ⟨y, hy, e⟩)
      have y2 : y.2 ≠ x.2 := fun e => k2.1 (List.mem_map.2 ⟨y, hy, e⟩)
      simp [edgesV, ghostV] at ha
      rcases ha with rfl | rfl | rfl <;> rcases h with h | h | h <;> simp only [Prod.mk.injEq] at h <;> omega
/-- What is known of a list of triangles, as a proposition. -/
structure Good (T : List (Nat × Nat × Nat)) : Prop where
  once : (edgesT T).Nodup
  apart : ∀ e, e ∈ edgesT T → e.1 ≠ e.2
  out : ((borderT T).map (·.1)).Nodup
  in_ : ((borderT T).map (·.2)).Nodup
  next : ∀ e, e ∈ borderT T → (∃ x, x ∈ borderT T ∧ x.2 = e.1) ∧ (∃ x, x ∈ borderT T ∧ x.1 = e.2)
theorem Good.of {w h : Nat} {T : List (Nat × Nat × Nat)} (g : goodT w h T = true) : Good T := by
  unfold goodT at g
  simp only [Bool.and_eq_true, decide_eq_true_eq, List.all_eq_true, bne_iff_ne, ne_eq, List.contains_iff_mem, beq_iff_eq] at g
  obtain ⟨⟨⟨⟨⟨⟨⟨g1, g2⟩, _⟩, _⟩, g3⟩, g4⟩, _⟩, g5⟩ := g
  refine ⟨g1, fun e he => (g2 e he).1, g3, g4, fun e he => ?_⟩
  obtain ⟨h1, h2⟩ := g5 e he
  obtain ⟨x, hx, hx2⟩ := List.mem_map.1 h1
  obtain ⟨y, hy, hy2⟩ := List.mem_map.1 h2
  exact ⟨⟨x, hx, hx2⟩, y, hy, hy2⟩
theorem mem_border {T : List (Nat × Nat × Nat)} {e : Nat × Nat} : e ∈ borderT T ↔ e ∈ edgesT T ∧ (e.2, e.1) ∉ edgesT T := by
  unfold borderT
  rw [List.mem_filter]
  simp
/-- All edges of the triangles, and of the ghosts behind the border, whatever the order of these. -/
def allE (T : List (Nat × Nat × Nat)) (Bd : List (Nat × Nat)) : List (Int × Int) := (T.map realV ++ Bd.map ghostV).flatMap edgesV
theorem all_nodup {T : List (Nat × Nat × Nat)} (g : Good T) {Bd : List (Nat × Nat)} (hp : Bd.Perm (borderT T)) : (allE T Bd).Nodup := by
  unfold allE
  rw [List.flatMap_append, real_edges, List.nodup_append]
  refine ⟨?_, ghost_nodup Bd (((hp.map _).nodup_iff).2 g.out) (((hp.map _).nodup_iff).2 g.in_), fun a ha b hb e => ?_⟩
  · exact List.Pairwise.map castE (fun a b h e => h (castE_inj e)) g.once
  · subst e
    obtain ⟨x, hx, rfl⟩ := List.mem_map.1 ha
    obtain ⟨y, hy, h⟩ := (ghost_edges Bd _).1 hb
    have hb' := (mem_border.1 (hp.mem_iff.1 hy)).2
    unfold castE at h
    rcases h with h | h | h <;> simp only [Prod.mk.injEq] at h
    · omega
    · omega
    · have : x = (y.2, y.1) := Prod.ext (by have := h.1; simp only []; omega) (by have := h.2; simp only []; omega)
      rw [this] at hx
      exact hb' hx
theorem all_apart {T : List (Nat × Nat × Nat)} (g : Good T) {Bd : List (Nat × Nat)} (hp : Bd.Perm (borderT T)) : ∀ e, e ∈ allE T Bd → e.1 ≠ e.2 := by
  intro e he
  unfold allE at he
  rw [List.flatMap_append, real_edges] at he
  rcases List.mem_append.1 he with he | he
  · obtain ⟨x, hx, rfl⟩ := List.mem_map.1 he
    have := g.apart x hx
    simp only [castE]; omega
  · obtain ⟨y, hy, h⟩ := (ghost_edges Bd _).1 he
    have := g.apart y (mem_border.1 (hp.mem_iff.1 hy)).1
    rcases h with rfl | rfl | rfl <;> simp only [] <;> omega
end Go.MagM
