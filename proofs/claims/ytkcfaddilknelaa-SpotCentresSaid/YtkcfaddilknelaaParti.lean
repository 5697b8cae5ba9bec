/- From the form of the rows to the walks of layer 2: what an argument reads as. -/
import Derived.Test.YtkcfaddilknelaaRows
import Derived.Test.YtkcfaddilknelaaParth
import Derived.ProofKit
import Derived.ChangeVars
import Derived.JoinedOf
import Derived.RowKitTokens
import Derived.Lib.SmallJoins
import Derived.Test.YtkcfaddilknelaaMath
import Derived.Test.YtkcfaddilknelaaPartg
import Derived.Test.YtkcfaddilknelaaPartd
import Derived.Test.YtkcfaddilknelaaPartf
namespace Go.Proofs.Ytkcfaddilknelaa
open Go.ChangeShapes Go.WideShapes Go.RowKit Go.MagM
theorem own0 : ownKnob Try.prog.godebug = none := by kernel_rfl
theorem laidOut0 : laidOutB Try.prog = true := by kernel_rfl
theorem cells42 : Try.prog.cellsOf 76 = 1 := by kernel_rfl
/-- What a list of words reads as: words. -/
theorem view_words {H : Type} {enc : TypeId × Value → H} {W : World} {fuel : Nat} {v : Value} {x : DataW H × List MemPlace}
    (hf : DataW.trod enc Try.prog W 0 (fun _ => true) true fuel 27 [v] = some x) :
    ∃ a0 len cap, v = .slice a0 len cap ∧ len ≤ cap ∧ ∃ f, Reads W a0 len f := by
  obtain ⟨d, p⟩ := x
  rcases open_ints Try.underlying27 Try.underlying76 cells42 hf with ⟨hcs, hx⟩ | ⟨a, len', cap', zs, hcs, _, hl, hm, hz, hx, hcell, hwz⟩
  · simp at hcs
    subst hcs
    exact ⟨_, _, _, rfl, Nat.le_refl _, fun _ => 0, Reads.nil _ _ _⟩
  · simp at hcs
    subst hcs
    simp only [if_true] at hz
    refine ⟨_, _, _, rfl, hl, fun i => (zs.getD i 0).toNat, ?_⟩
    intro i hi
    have hc := hcell i (by omega)
    have hsp := World.cell?_spot (hcell 0 (by omega))
    obtain ⟨b, o, sp⟩ := a
    have hsp' : sp = none := by simpa [Addr.add] using hsp
    subst hsp'
    have hmem : zs.getD i 0 ∈ zs := by
      rw [List.getD_eq_getElem?_getD, List.getElem?_eq_getElem (by omega)]; exact List.getElem_mem _
    have hw := hwz _ hmem
    have hadd : (⟨b, o, none⟩ : Addr).add i = ⟨b, o + i, none⟩ := by unfold Addr.add; split <;> simp_all
    rw [hadd] at hc
    show ∃ b' o', _ ∧ W.cell? ⟨b', o' + i, none⟩ = some (.int .u64 (((zs.getD i 0).toNat : Nat) : Int)) ∧ (zs.getD i 0).toNat < B
    generalize zs.getD i 0 = z at *
    have hr : 0 ≤ z ∧ z < 18446744073709551616 := by
      simp only [Lit.wf, IntKind.min, IntKind.max, IntKind.signed, IntKind.bits, Bool.and_eq_true] at hw
      simp at hw
      omega
    refine ⟨b, o, rfl, ?_, by unfold B; omega⟩
    rw [hc]
    congr 2
    omega
set_option maxRecDepth 100000 in
/-- What a Num reads as: a sign and words. -/
theorem view_num {H : Type} {enc : TypeId × Value → H} {W : World} {b0 : Nat} {v : Value} {d : DataW H} {p : List MemPlace} (hv : Value.okWide Try.prog W .any b0 29 v)
    (h : DataW.Trod enc Try.prog W 0 (fun _ => true) true 29 v d p) :
    ∃ m ao n c f, v = .agg #[.bool m, .slice ao n c] ∧ n ≤ c ∧ Reads W ao n f := by
  obtain ⟨v0, v1, y0, y1, k, rfl, _, _, h0, h1⟩ := Joins.open_agg2 Try.underlying29 (by kernel_rfl) (by kernel_rfl) hv h
  obtain ⟨m, hm, _⟩ := DataW.trod_bool Try.underlying4 h0
  simp at hm
  subst hm
  obtain ⟨ao, n, c, rfl, hc, f, hr⟩ := view_words h1
  exact ⟨m, ao, n, c, f, rfl, hc, hr⟩
theorem int_range {x : Int} (h : (Lit.int .i64 x).wf = true) : -9223372036854775808 ≤ x ∧ x < 9223372036854775808 := by
  simp only [Lit.wf, IntKind.min, IntKind.max, IntKind.signed, IntKind.bits, Bool.and_eq_true, decide_eq_true_eq] at h
  simp at h
  omega
end Go.Proofs.Ytkcfaddilknelaa
/- Points with whole coordinates: how three turn, the power of a fourth one, what lies on a line: pure. -/
namespace Go.MagM
/-- How three points turn: twice their area. -/
def crs (ax ay bx by' cx cy : Int) : Int := (bx - ax) * (cy - ay) - (by' - ay) * (cx - ax)
/-- Where a fourth point lies to the circle through three. -/
def inc (ax ay bx by' cx cy dx dy : Int) : Int :=
  (ax - dx) * ((by' - dy) * ((cx - dx) * (cx - dx) + (cy - dy) * (cy - dy)) - ((bx - dx) * (bx - dx) + (by' - dy) * (by' - dy)) * (cy - dy))
  - (ay - dy) * ((bx - dx) * ((cx - dx) * (cx - dx) + (cy - dy) * (cy - dy)) - ((bx - dx) * (bx - dx) + (by' - dy) * (by' - dy)) * (cx - dx))
  + ((ax - dx) * (ax - dx) + (ay - dy) * (ay - dy)) * ((bx - dx) * (cy - dy) - (by' - dy) * (cx - dx))
/-- The square of a distance. -/
def sqd (ax ay bx by' : Int) : Int := (ax - bx) * (ax - bx) + (ay - by') * (ay - by')
theorem sq_nonneg (x : Int) : 0 ≤ x * x := by rw [← Int.natAbs_mul_self' x]; exact Int.mul_nonneg (Int.natCast_nonneg _) (Int.natCast_nonneg _)
theorem sq_pos {x : Int} (h : x ≠ 0) : 0 < x * x := by
  have h1 := sq_nonneg x
  have h2 : x * x ≠ 0 := fun e => h (by rcases Int.mul_eq_zero.1 e with h | h <;> exact h)
  omega
theorem sqd_nonneg (ax ay bx by' : Int) : 0 ≤ sqd ax ay bx by' := by
  have h1 := sq_nonneg (ax - bx); have h2 := sq_nonneg (ay - by'); unfold sqd; omega
theorem sqd_pos {ax ay bx by' : Int} (h : ¬ (ax = bx ∧ ay = by')) : 0 < sqd ax ay bx by' := by
  have h1 := sq_nonneg (ax - bx); have h2 := sq_nonneg (ay - by')
  unfold sqd
  by_cases hx : ax = bx
  · have := sq_pos (x := ay - by') (by omega); omega
  · have := sq_pos (x := ax - bx) (by omega); omega
theorem sqd_comm (ax ay bx by' : Int) : sqd ax ay bx by' = sqd bx by' ax ay := by unfold sqd; grind
theorem crs_cyc (ax ay bx by' cx cy : Int) : crs bx by' cx cy ax ay = crs ax ay bx by' cx cy := by unfold crs; grind
theorem crs_swap (ax ay bx by' cx cy : Int) : crs bx by' ax ay cx cy = -crs ax ay bx by' cx cy := by unfold crs; grind
theorem crs_back (ax ay bx by' cx cy : Int) : crs ax ay cx cy bx by' = -crs ax ay bx by' cx cy := by unfold crs; grind
theorem crs_shoe (ax ay bx by' cx cy : Int) : crs ax ay bx by' cx cy = (ax * by' - ay * bx) + (bx * cy - by' * cx) + (cx * ay - cy * ax) := by unfold crs; grind
theorem crs_sum (ax ay bx by' cx cy dx dy : Int) : crs ax ay bx by' dx dy + crs bx by' cx cy dx dy + crs cx cy ax ay dx dy = crs ax ay bx by' cx cy := by unfold crs; grind
theorem inc_cyc (ax ay bx by' cx cy dx dy : Int) : inc bx by' cx cy ax ay dx dy = inc ax ay bx by' cx cy dx dy := by unfold inc; grind
theorem inc_a (ax ay bx by' cx cy : Int) : inc ax ay bx by' cx cy ax ay = 0 := by unfold inc; grind
theorem inc_b (ax ay bx by' cx cy : Int) : inc ax ay bx by' cx cy bx by' = 0 := by unfold inc; grind
theorem inc_c (ax ay bx by' cx cy : Int) : inc ax ay bx by' cx cy cx cy = 0 := by unfold inc; grind
/-- The document's power of a point, by the centre, is it turned round, twice. -/
theorem inc_power (ax ay bx by' cx cy dx dy : Int) :
    2 * ((bx - ax) * (cy - ay) - (by' - ay) * (cx - ax)) * sqd ax ay dx dy
      - 2 * ((dx - ax) * (sqd ax ay bx by' * (cy - ay) - (by' - ay) * sqd ax ay cx cy) + (dy - ay) * ((bx - ax) * sqd ax ay cx cy - sqd ax ay bx by' * (cx - ax)))
    = -(2 * inc ax ay bx by' cx cy dx dy) := by unfold inc sqd; grind
/-- By the areas that a point makes with a triangle's sides. -/
theorem inc_bary (ax ay bx by' cx cy dx dy : Int) : crs ax ay bx by' cx cy * inc ax ay bx by' cx cy dx dy =
   crs bx by' cx cy dx dy * crs cx cy ax ay dx dy * sqd ax ay bx by'
   + crs cx cy ax ay dx dy * crs ax ay bx by' dx dy * sqd bx by' cx cy
   + crs ax ay bx by' dx dy * crs bx by' cx cy dx dy * sqd cx cy ax ay := by unfold inc crs sqd; grind
/-- What is in a triangle is in its circle, within it but for the corners. -/
theorem inc_in {ax ay bx by' cx cy dx dy : Int} (hD : 0 < crs ax ay bx by' cx cy) (hx : 0 ≤ crs ax ay bx by' dx dy) (hy : 0 ≤ crs bx by' cx cy dx dy) (hz : 0 ≤ crs cx cy ax ay dx dy) :
    0 < inc ax ay bx by' cx cy dx dy ∨ (dx = ax ∧ dy = ay) ∨ (dx = bx ∧ dy = by') ∨ (dx = cx ∧ dy = cy) := by
  have hb := inc_bary ax ay bx by' cx cy dx dy
  have hs := crs_sum ax ay bx by' cx cy dx dy
  have nab : ¬ (ax = bx ∧ ay = by') := by rintro ⟨rfl, rfl⟩; unfold crs at hD; grind
  have nbc : ¬ (bx = cx ∧ by' = cy) := by rintro ⟨rfl, rfl⟩; unfold crs at hD; grind
  have nca : ¬ (cx = ax ∧ cy = ay) := by rintro ⟨rfl, rfl⟩; unfold crs at hD; grind
  have pab := sqd_pos nab; have pbc := sqd_pos nbc; have pca := sqd_pos nca
  have ea : crs bx by' cx cy dx dy = crs ax ay bx by' cx cy → crs ax ay bx by' dx dy = 0 → crs cx cy ax ay dx dy = 0 → dx = ax ∧ dy = ay := by
    intro _ h1 h2
    have e1 : crs ax ay bx by' cx cy * (dx - ax) = 0 := by
      have : crs ax ay bx by' cx cy * (dx - ax) = (cx - ax) * crs ax ay bx by' dx dy + (bx - ax) * crs cx cy ax ay dx dy := by unfold crs; grind
      rw [this, h1, h2]; simp
    have e2 : crs ax ay bx by' cx cy * (dy - ay) = 0 := by
      have : crs ax ay bx by' cx cy * (dy - ay) = (cy - ay) * crs ax ay bx by' dx dy + (by' - ay) * crs cx cy ax ay dx dy := by unfold crs; grind
      rw [this, h1, h2]; simp
    rcases Int.mul_eq_zero.1 e1 with h | h <;> rcases Int.mul_eq_zero.1 e2 with k | k <;> omega
  have eb : crs bx by' cx cy dx dy = 0 → crs ax ay bx by' dx dy = 0 → dx = bx ∧ dy = by' := by
    intro h1 h2
    have e1 : crs ax ay bx by' cx cy * (dx - bx) = 0 := by
      have : crs ax ay bx by' cx cy * (dx - bx) = (ax - bx) * crs bx by' cx cy dx dy + (cx - bx) * crs ax ay bx by' dx dy := by unfold crs; grind
      rw [this, h1, h2]; simp
    have e2 : crs ax ay bx by' cx cy * (dy - by') = 0 := by
      have : crs ax ay bx by' cx cy * (dy - by') = (ay - by') * crs bx by' cx cy dx dy + (cy - by') * crs ax ay bx by' dx dy := by unfold crs; grind
      rw [this, h1, h2]; simp
    rcases Int.mul_eq_zero.1 e1 with h | h <;> rcases Int.mul_eq_zero.1 e2 with k | k <;> omega
  have ec : crs bx by' cx cy dx dy = 0 → crs cx cy ax ay dx dy = 0 → dx = cx ∧ dy = cy := by
    intro h1 h2
    have e1 : crs ax ay bx by' cx cy * (dx - cx) = 0 := by
      have : crs ax ay bx by' cx cy * (dx - cx) = (ax - cx) * crs bx by' cx cy dx dy + (bx - cx) * crs cx cy ax ay dx dy := by unfold crs; grind
      rw [this, h1, h2]; simp
    have e2 : crs ax ay bx by' cx cy * (dy - cy) = 0 := by
      have : crs ax ay bx by' cx cy * (dy - cy) = (ay - cy) * crs bx by' cx cy dx dy + (by' - cy) * crs cx cy ax ay dx dy := by unfold crs; grind
      rw [this, h1, h2]; simp
    rcases Int.mul_eq_zero.1 e1 with h | h <;> rcases Int.mul_eq_zero.1 e2 with k | k <;> omega
  generalize crs ax ay bx by' cx cy = D at *
  generalize crs bx by' cx cy dx dy = α at *
  generalize crs cx cy ax ay dx dy = β at *
  generalize crs ax ay bx by' dx dy = γ at *
  generalize inc ax ay bx by' cx cy dx dy = J at *
  generalize sqd ax ay bx by' = s1 at *
  generalize sqd bx by' cx cy = s2 at *
  generalize sqd cx cy ax ay = s3 at *
  have m1 := Int.mul_nonneg (Int.mul_nonneg hy hz) (Int.le_of_lt pab)
  have m2 := Int.mul_nonneg (Int.mul_nonneg hz hx) (Int.le_of_lt pbc)
  have m3 := Int.mul_nonneg (Int.mul_nonneg hx hy) (Int.le_of_lt pca)
  by_cases hJ : 0 < J
  · exact .inl hJ
  · right
    have hDJ : D * J ≤ 0 := Int.mul_nonpos_of_nonneg_of_nonpos (Int.le_of_lt hD) (Int.not_lt.1 hJ)
    have z1 : α * β * s1 = 0 := by omega
    have z2 : β * γ * s2 = 0 := by omega
    have z3 : γ * α * s3 = 0 := by omega
    have w1 : α = 0 ∨ β = 0 := by rcases Int.mul_eq_zero.1 z1 with h | h
                                  · exact Int.mul_eq_zero.1 h
                                  · omega
    have w2 : β = 0 ∨ γ = 0 := by rcases Int.mul_eq_zero.1 z2 with h | h
                                  · exact Int.mul_eq_zero.1 h
                                  · omega
    have w3 : γ = 0 ∨ α = 0 := by rcases Int.mul_eq_zero.1 z3 with h | h
                                  · exact Int.mul_eq_zero.1 h
                                  · omega
    by_cases ha : α = 0
    · by_cases hc : γ = 0
      · exact .inr (.inl (eb ha hc))
      · have hb0 : β = 0 := by omega
        exact .inr (.inr (ec ha hb0))
    · have hc : γ = 0 := by omega
      have hb0 : β = 0 := by omega
      exact .inl (ea (by omega) hc hb0)
/-- A rectangle's corners, and its midst. -/
theorem inc_rect (px py qx qy mx my : Int) : inc px py qx py qx qy mx my = (qx - px) * (qy - py) * ((mx - px) * (qx - mx) + (my - py) * (qy - my)) := by unfold inc; grind
theorem crs_rect (px py qx qy : Int) : crs px py qx py qx qy = (qx - px) * (qy - py) := by unfold crs; grind
/-- The roots of two squares add up to the root of a third: on one line, between. -/
theorem on_line (px py ax ay bx by' : Int) : (sqd ax ay bx by' - sqd ax ay px py - sqd px py bx by') * (sqd ax ay bx by' - sqd ax ay px py - sqd px py bx by') - 4 * (sqd ax ay px py * sqd px py bx by') = -(4 * (crs ax ay bx by' px py * crs ax ay bx by' px py)) := by unfold sqd crs; grind
theorem on_dot (px py ax ay bx by' : Int) : sqd ax ay bx by' - sqd ax ay px py - sqd px py bx by' = 2 * ((px - ax) * (bx - px) + (py - ay) * (by' - py)) := by unfold sqd; grind
/-- On a line, to be between is to be in the box. -/
theorem on_box {px py ax ay bx by' : Int} (h : crs ax ay bx by' px py = 0) : 0 ≤ (px - ax) * (bx - px) + (py - ay) * (by' - py) ↔ (0 ≤ (px - ax) * (bx - px) ∧ 0 ≤ (py - ay) * (by' - py)) := by
  have e : ((px - ax) * (bx - px)) * ((py - ay) * (by' - py)) = ((px - ax) * (by' - py)) * ((px - ax) * (by' - py)) := by
    have : (px - ax) * (by' - py) = (py - ay) * (bx - px) := by unfold crs at h; grind
    grind
  have hs := sq_nonneg ((px - ax) * (by' - py))
  rw [← e] at hs
  generalize (px - ax) * (bx - px) = u at *
  generalize (py - ay) * (by' - py) = v at *
  constructor
  · intro hd
    by_cases hu : 0 ≤ u
    · by_cases hv : 0 ≤ v
      · exact ⟨hu, hv⟩
      · have hup : 0 < u := by omega
        have := Int.mul_neg_of_pos_of_neg hup (show v < 0 by omega)
        omega
    · have hv : 0 < v := by omega
      have := Int.mul_neg_of_neg_of_pos (show u < 0 by omega) hv
      omega
  · rintro ⟨h1, h2⟩; omega
/-- Between two numbers. -/
theorem tween (p a b : Int) : 0 ≤ (p - a) * (b - p) ↔ (min a b ≤ p ∧ p ≤ max a b) := by
  constructor
  · intro h
    by_cases h1 : p < a
    · by_cases h2 : p < b
      · have := Int.mul_neg_of_neg_of_pos (show p - a < 0 by omega) (show 0 < b - p by omega); omega
      · omega
    · by_cases h2 : b < p
      · by_cases h3 : a < p
        · have := Int.mul_neg_of_pos_of_neg (show 0 < p - a by omega) (show b - p < 0 by omega); omega
        · omega
      · omega
  · rintro ⟨h1, h2⟩
    by_cases h3 : a ≤ p
    · by_cases h4 : p ≤ b
      · exact Int.mul_nonneg (by omega) (by omega)
      · have : p = a := by omega
        subst this; simp
    · have h4 : b ≤ p := by omega
      exact Int.mul_nonneg_of_nonpos_of_nonpos (by omega) (by omega)
end Go.MagM
/- Boxes of any number of cells. Over any program. -/
namespace Go.MagM
open Go.RowKit
/-- Block g is a box that holds vs, and may be written. -/
structure Box (w : World) (g : Nat) (vs : List Value) : Prop where
  c : ∀ i v, vs[i]? = some v → w.cell? ⟨g, i, none⟩ = some v
  f : ∀ i v, vs[i]? = some v → w.frozen? ⟨g, i, none⟩ = false
theorem Box.below {w w' : World} {g : Nat} {vs : List Value} (h : Box w g vs) (hb : Below w.heap.size w w') : Box w' g vs :=
  ⟨fun i v hi => (hb.cell (p := ⟨g, i, none⟩) (World.block_lt_of_cell? w _ (h.c i v hi))).trans (h.c i v hi),
    fun i v hi => (hb.frozen (p := ⟨g, i, none⟩) (World.block_lt_of_cell? w _ (h.c i v hi))).trans (h.f i v hi)⟩
theorem Box.drew {w : World} {g : Nat} {vs : List Value} (h : Box w g vs) : Box w.drew g vs := ⟨h.c, h.f⟩
theorem Box.drewN {w : World} {g : Nat} {vs : List Value} (h : Box w g vs) (n : Nat) : Box (w.drewN n) g vs := ⟨h.c, h.f⟩
theorem Box.lt {w : World} {g : Nat} {v : Value} {vs : List Value} (h : Box w g (v :: vs)) : g < w.heap.size := World.block_lt_of_cell? w _ (h.c 0 v rfl)
theorem Box.set {w : World} {g : Nat} {vs : List Value} (h : Box w g vs) (i : Nat) (x : Value) : Box (w.setCell ⟨g, i, none⟩ x) g (vs.set i x) := by
  refine ⟨fun j v hj => ?_, fun j v hj => ?_⟩
  · rw [List.getElem?_set] at hj
    by_cases e : i = j
    · subst e
      rw [if_pos rfl] at hj
      split at hj
      · next hl =>
        simp at hj; subst hj
        exact World.cell?_setCell_same _ _ _ (h.c i _ (List.getElem?_eq_getElem hl))
      · cases hj
    · rw [if_neg e] at hj
      have ne : (⟨g, i, none⟩ : Addr) ≠ ⟨g, j, none⟩ := by intro k; injection k with k1 k2; exact e k2
      rw [World.cell?_setCell_other _ _ _ _ (by first | exact ne | exact ne.symm)]; exact h.c j v hj
  · rw [World.frozen?_setCell]
    rw [List.getElem?_set] at hj
    by_cases e : i = j
    · subst e
      rw [if_pos rfl] at hj
      split at hj
      · next hl => exact h.f i _ (List.getElem?_eq_getElem hl)
      · cases hj
    · rw [if_neg e] at hj; exact h.f j v hj
theorem Box.far {w : World} {g g' : Nat} {vs : List Value} (h : Box w g vs) (hne : g ≠ g') (i : Nat) (x : Value) : Box (w.setCell ⟨g', i, none⟩ x) g vs := by
  refine ⟨fun j v hj => ?_, fun j v hj => (World.frozen?_setCell _ _ _ _).trans (h.f j v hj)⟩
  have ne : (⟨g', i, none⟩ : Addr) ≠ ⟨g, j, none⟩ := by intro k; injection k with k1; exact hne k1.symm
  rw [World.cell?_setCell_other _ _ _ _ (by first | exact ne | exact ne.symm)]; exact h.c j v hj
theorem box_new (w : World) (vs : List Value) (T : TypeId) : Box (w.alloc (.cells vs.toArray T)) w.heap.size vs := by
  refine ⟨fun i v hi => ?_, fun i v hi => ?_⟩
  · simp [go_sem, hi]
  · simp [go_sem]
theorem Box.two {w : World} {g : Nat} {u v : Value} (h : Box w g [u, v]) : Box2 w g u v := ⟨h.c 0 _ rfl, h.c 1 _ rfl, h.f 0 _ rfl, h.f 1 _ rfl⟩
end Go.MagM
/- Boxes of any number of cells, written whole; what stays where a box is written. Over any program. -/
namespace Go.MagM
open Go.RowKit
/-- Cells i, i + 1, .. of block g are written. -/
def setAll (w : World) (g : Nat) : Nat → List Value → World
  | _, [] => w
  | i, x :: xs => setAll (w.setCell ⟨g, i, none⟩ x) g (i + 1) xs
theorem new_box (w : World) (n : Nat) (hn : w.heap.size = n) (vs : List Value) (T : TypeId) :
    ∃ w1, w.alloc (.cells vs.toArray T) = w1 ∧ Box w1 n vs ∧ Below n w w1 ∧ w1.heap.size = n + 1 := by
  subst hn
  exact ⟨_, rfl, box_new w vs T, (Below.refl _ _).alloc (Nat.le_refl _) _, by simp⟩
theorem Box.c0 {w : World} {g : Nat} {u : Value} {l : List Value} (h : Box w g (u :: l)) : w.cell? ⟨g, 0, none⟩ = some u := h.c 0 _ rfl
theorem Box.c1 {w : World} {g : Nat} {u0 u : Value} {l : List Value} (h : Box w g (u0 :: u :: l)) : w.cell? ⟨g, 1, none⟩ = some u := h.c 1 _ rfl
theorem Box.c2 {w : World} {g : Nat} {u0 u1 u : Value} {l : List Value} (h : Box w g (u0 :: u1 :: u :: l)) : w.cell? ⟨g, 2, none⟩ = some u := h.c 2 _ rfl
theorem Box.c3 {w : World} {g : Nat} {u0 u1 u2 u : Value} {l : List Value} (h : Box w g (u0 :: u1 :: u2 :: u :: l)) : w.cell? ⟨g, 3, none⟩ = some u := h.c 3 _ rfl
theorem Box.c4 {w : World} {g : Nat} {u0 u1 u2 u3 u : Value} {l : List Value} (h : Box w g (u0 :: u1 :: u2 :: u3 :: u :: l)) : w.cell? ⟨g, 4, none⟩ = some u := h.c 4 _ rfl
theorem Box.c5 {w : World} {g : Nat} {u0 u1 u2 u3 u4 u : Value} {l : List Value} (h : Box w g (u0 :: u1 :: u2 :: u3 :: u4 :: u :: l)) : w.cell? ⟨g, 5, none⟩ = some u := h.c 5 _ rfl
theorem Box.open1 {w : World} {g : Nat} {u0 : Value} (h : Box w g [u0]) : w.cell? ⟨g, 0, none⟩ = some u0 ∧ w.frozen? ⟨g, 0, none⟩ = false := ⟨h.c 0 _ rfl, h.f 0 _ rfl⟩
theorem Box.open2 {w : World} {g : Nat} {u0 u1 : Value} (h : Box w g [u0, u1]) : w.cell? ⟨g, 0, none⟩ = some u0 ∧ w.cell? ⟨g, 1, none⟩ = some u1 ∧ w.frozen? ⟨g, 0, none⟩ = false ∧ w.frozen? ⟨g, 1, none⟩ = false := ⟨h.c 0 _ rfl, h.c 1 _ rfl, h.f 0 _ rfl, h.f 1 _ rfl⟩
theorem Box.open3 {w : World} {g : Nat} {u0 u1 u2 : Value} (h : Box w g [u0, u1, u2]) : w.cell? ⟨g, 0, none⟩ = some u0 ∧ w.cell? ⟨g, 1, none⟩ = some u1 ∧ w.cell? ⟨g, 2, none⟩ = some u2 ∧ w.frozen? ⟨g, 0, none⟩ = false ∧ w.frozen? ⟨g, 1, none⟩ = false ∧ w.frozen? ⟨g, 2, none⟩ = false :=
  ⟨h.c 0 _ rfl, h.c 1 _ rfl, h.c 2 _ rfl, h.f 0 _ rfl, h.f 1 _ rfl, h.f 2 _ rfl⟩
/-- What a store of two cells wants behind its first one. -/
theorem Box.put2 {w : World} {g : Nat} {u0 u1 : Value} (h : Box w g [u0, u1]) (x0 : Value) : (w.setCell ⟨g, 0, none⟩ x0).cell? ⟨g, 1, none⟩ = some u1 ∧ (w.setCell ⟨g, 0, none⟩ x0).frozen? ⟨g, 1, none⟩ = false :=
  ⟨(h.set 0 x0).c 1 _ rfl, (h.set 0 x0).f 1 _ rfl⟩
theorem Box.put3 {w : World} {g : Nat} {u0 u1 u2 : Value} (h : Box w g [u0, u1, u2]) (x0 x1 : Value) : (w.setCell ⟨g, 0, none⟩ x0).cell? ⟨g, 1, none⟩ = some u1 ∧ (w.setCell ⟨g, 0, none⟩ x0).frozen? ⟨g, 1, none⟩ = false ∧
    ((w.setCell ⟨g, 0, none⟩ x0).setCell ⟨g, 1, none⟩ x1).cell? ⟨g, 2, none⟩ = some u2 ∧ ((w.setCell ⟨g, 0, none⟩ x0).setCell ⟨g, 1, none⟩ x1).frozen? ⟨g, 2, none⟩ = false :=
  ⟨(h.set 0 x0).c 1 _ rfl, (h.set 0 x0).f 1 _ rfl, ((h.set 0 x0).set 1 x1).c 2 _ rfl, ((h.set 0 x0).set 1 x1).f 2 _ rfl⟩
theorem Box.setTail {g : Nat} : ∀ (xs : List Value) (pre vs : List Value) (w : World), vs.length = xs.length → Box w g (pre ++ vs) → Box (setAll w g pre.length xs) g (pre ++ xs)
  | [], pre, vs, w, hl, h => by
    have : vs = [] := List.length_eq_zero_iff.1 hl
    subst this; exact h
  | x :: xs, pre, [], w, hl, h => by simp at hl
  | x :: xs, pre, v :: vs, w, hl, h => by
    have e : (pre ++ v :: vs).set pre.length x = (pre ++ [x]) ++ vs := by simp
    have h1 := h.set pre.length x
    rw [e] at h1
    have := Box.setTail xs (pre ++ [x]) vs _ (by simpa using hl) h1
    simpa [setAll] using this
/-- A box is written whole. -/
theorem Box.setAll {w : World} {g : Nat} {vs : List Value} (h : Box w g vs) (xs : List Value) (hl : vs.length = xs.length) : Box (setAll w g 0 xs) g xs := Box.setTail xs [] vs w hl h
theorem Box.farFrom {g g' : Nat} (hne : g ≠ g') : ∀ (xs : List Value) (i : Nat) {w : World} {vs : List Value}, Box w g vs → Box (Go.MagM.setAll w g' i xs) g vs
  | [], _, _, _, h => h
  | x :: xs, i, _, _, h => Box.farFrom hne xs (i + 1) (h.far hne i x)
theorem Box.farAll {w : World} {g : Nat} {vs : List Value} (h : Box w g vs) {g' : Nat} (hne : g ≠ g') (xs : List Value) : Box (Go.MagM.setAll w g' 0 xs) g vs := Box.farFrom hne xs 0 h
theorem below_setFrom {M g : Nat} (hg : M ≤ g) {w : World} : ∀ (xs : List Value) (i : Nat) {w' : World}, Below M w w' → Below M w (setAll w' g i xs)
  | [], _, _, h => h
  | x :: xs, i, _, h => below_setFrom hg xs (i + 1) (h.setCell (p := ⟨g, i, none⟩) hg x)
theorem below_setAll {M : Nat} {w w' : World} (h : Below M w w') {g : Nat} (hg : M ≤ g) (xs : List Value) : Below M w (setAll w' g 0 xs) := below_setFrom hg xs 0 h
/-- No word. -/
def NoWord (u : Value) : Prop := ∀ x, u ≠ .int .u64 x
theorem NoWord.bool (b : Bool) : NoWord (.bool b) := fun _ h => by cases h
theorem NoWord.slice (a : Option Addr) (n c : Nat) : NoWord (.slice a n c) := fun _ h => by cases h
theorem NoWord.int (x : Int) : NoWord (.int .i64 x) := fun _ h => by cases h
theorem Reads.setOne {w : World} {ao : Option Addr} {n : Nat} {f : Nat → Nat} (hr : Reads w ao n f) {a : Addr} {u : Value} (hc : w.cell? a = some u) (hu : NoWord u) (v : Value) : Reads (w.setCell a v) ao n f := by
  intro i hi
  obtain ⟨b, o, e, h1, h2⟩ := hr i hi
  refine ⟨b, o, e, ?_, h2⟩
  have ne : a ≠ ⟨b, o + i, none⟩ := by
    intro h; rw [h, h1] at hc
    exact hu _ (Option.some.inj hc).symm
  rw [World.cell?_setCell_other _ _ _ _ (by first | exact ne | exact ne.symm)]; exact h1
/-- Words stay where a box that holds none is written whole. -/
theorem Reads.setTail {ao : Option Addr} {n g : Nat} {f : Nat → Nat} : ∀ (xs : List Value) (pre vs : List Value) {w : World}, vs.length = xs.length → (∀ u ∈ vs, NoWord u) → Box w g (pre ++ vs) → Reads w ao n f → Reads (Go.MagM.setAll w g pre.length xs) ao n f
  | [], _, _, _, _, _, _, h => h
  | x :: xs, pre, [], _, hl, _, _, _ => by simp at hl
  | x :: xs, pre, v :: vs, w, hl, hv, hb, h => by
    have e : (pre ++ v :: vs).set pre.length x = (pre ++ [x]) ++ vs := by simp
    have h1 := hb.set pre.length x
    rw [e] at h1
    have hc : w.cell? ⟨g, pre.length, none⟩ = some v := hb.c pre.length _ (by simp)
    have := Reads.setTail xs (pre ++ [x]) vs (by simpa using hl) (fun u hu => hv u (by simp [hu])) h1 (h.setOne hc (hv v (by simp)) x)
    simpa [Go.MagM.setAll] using this
theorem Reads.setAll {w : World} {ao : Option Addr} {n g : Nat} {f : Nat → Nat} (h : Reads w ao n f) {vs : List Value} (hb : Box w g vs) (hv : ∀ u ∈ vs, NoWord u) (xs : List Value) (hl : vs.length = xs.length) : Reads (Go.MagM.setAll w g 0 xs) ao n f :=
  Reads.setTail xs [] vs hl hv hb h
theorem Mag.setAll {w : World} {v : Value} {L N g : Nat} (h : Mag w v L N) {vs : List Value} (hb : Box w g vs) (hv : ∀ u ∈ vs, NoWord u) (xs : List Value) (hl : vs.length = xs.length) : Mag (Go.MagM.setAll w g 0 xs) v L N := by
  obtain ⟨ao, n, c, f, h1, h2, h3, h4, h5⟩ := h; exact ⟨ao, n, c, f, h1, h2, h3, h4.setAll hb hv xs hl, h5⟩
theorem RMag.setAll {w : World} {v : Value} {L N g : Nat} (h : RMag w v L N) {vs : List Value} (hb : Box w g vs) (hv : ∀ u ∈ vs, NoWord u) (xs : List Value) (hl : vs.length = xs.length) : RMag (Go.MagM.setAll w g 0 xs) v L N := by
  obtain ⟨ao, n, c, f, h1, h2, h3, h4, h5⟩ := h; exact ⟨ao, n, c, f, h1, h2, h3, h4.setAll hb hv xs hl, h5⟩
theorem Num.setAll {w : World} {v : Value} {L g : Nat} {N : Int} (h : Num w v L N) {vs : List Value} (hb : Box w g vs) (hv : ∀ u ∈ vs, NoWord u) (xs : List Value) (hl : vs.length = xs.length) : Num (Go.MagM.setAll w g 0 xs) v L N := by
  obtain ⟨m, vm, M, h1, h2, h3⟩ := h; exact ⟨m, vm, M, h1, h2.setAll hb hv xs hl, h3⟩
theorem RNum.setAll {w : World} {v : Value} {L g : Nat} {N : Int} (h : RNum w v L N) {vs : List Value} (hb : Box w g vs) (hv : ∀ u ∈ vs, NoWord u) (xs : List Value) (hl : vs.length = xs.length) : RNum (Go.MagM.setAll w g 0 xs) v L N := by
  obtain ⟨m, vm, M, h1, h2, h3⟩ := h; exact ⟨m, vm, M, h1, h2.setAll hb hv xs hl, h3⟩
theorem Mag.setOne {w : World} {v : Value} {L N : Nat} (h : Mag w v L N) {a : Addr} {u : Value} (hc : w.cell? a = some u) (hu : NoWord u) (x : Value) : Mag (w.setCell a x) v L N := by
  obtain ⟨ao, n, c, f, h1, h2, h3, h4, h5⟩ := h; exact ⟨ao, n, c, f, h1, h2, h3, h4.setOne hc hu x, h5⟩
theorem RMag.setOne {w : World} {v : Value} {L N : Nat} (h : RMag w v L N) {a : Addr} {u : Value} (hc : w.cell? a = some u) (hu : NoWord u) (x : Value) : RMag (w.setCell a x) v L N := by
  obtain ⟨ao, n, c, f, h1, h2, h3, h4, h5⟩ := h; exact ⟨ao, n, c, f, h1, h2, h3, h4.setOne hc hu x, h5⟩
theorem Num.setOne {w : World} {v : Value} {L : Nat} {N : Int} (h : Num w v L N) {a : Addr} {u : Value} (hc : w.cell? a = some u) (hu : NoWord u) (x : Value) : Num (w.setCell a x) v L N := by
  obtain ⟨m, vm, M, h1, h2, h3⟩ := h; exact ⟨m, vm, M, h1, h2.setOne hc hu x, h3⟩
theorem RNum.setOne {w : World} {v : Value} {L : Nat} {N : Int} (h : RNum w v L N) {a : Addr} {u : Value} (hc : w.cell? a = some u) (hu : NoWord u) (x : Value) : RNum (w.setCell a x) v L N := by
  obtain ⟨m, vm, M, h1, h2, h3⟩ := h; exact ⟨m, vm, M, h1, h2.setOne hc hu x, h3⟩
theorem Mag.num {w : World} {v : Value} {L N : Nat} (h : Mag w v L N) : Num w (.agg #[.bool false, v]) L (N : Int) := ⟨false, v, N, rfl, h, rfl⟩
/-- A cell holds a word. -/
structure WCell (w : World) (b o x : Nat) : Prop where
  c : w.cell? ⟨b, o, none⟩ = some (.int .u64 ((x : Nat) : Int))
theorem WCell.below {w w' : World} {b o x : Nat} (h : WCell w b o x) (hb : Below w.heap.size w w') : WCell w' b o x :=
  ⟨(hb.cell (p := ⟨b, o, none⟩) (World.block_lt_of_cell? w _ h.c)).trans h.c⟩
theorem WCell.drew {w : World} {b o x : Nat} (h : WCell w b o x) : WCell w.drew b o x := ⟨h.c⟩
theorem WCell.setOne {w : World} {b o x : Nat} (h : WCell w b o x) {a : Addr} {u : Value} (hc : w.cell? a = some u) (hu : NoWord u) (v : Value) : WCell (w.setCell a v) b o x := by
  refine ⟨?_⟩
  have ne : a ≠ ⟨b, o, none⟩ := by
    intro e; rw [e, h.c] at hc
    exact hu _ (Option.some.inj hc).symm
  rw [World.cell?_setCell_other _ _ _ _ (by first | exact ne | exact ne.symm)]; exact h.c
theorem WCell.setTail {g b o y : Nat} : ∀ (xs : List Value) (pre vs : List Value) {w : World}, vs.length = xs.length → (∀ u ∈ vs, NoWord u) → Box w g (pre ++ vs) → WCell w b o y → WCell (Go.MagM.setAll w g pre.length xs) b o y
  | [], _, _, _, _, _, _, h => h
  | x :: xs, pre, [], _, hl, _, _, _ => by simp at hl
  | x :: xs, pre, v :: vs, w, hl, hv, hb, h => by
    have e : (pre ++ v :: vs).set pre.length x = (pre ++ [x]) ++ vs := by simp
    have h1 := hb.set pre.length x
    rw [e] at h1
    have hc : w.cell? ⟨g, pre.length, none⟩ = some v := hb.c pre.length _ (by simp)
    have := WCell.setTail xs (pre ++ [x]) vs (by simpa using hl) (fun u hu => hv u (by simp [hu])) h1 (h.setOne hc (hv v (by simp)) x)
    simpa [Go.MagM.setAll] using this
theorem WCell.setAll {w : World} {b o x g : Nat} (h : WCell w b o x) {vs : List Value} (hb : Box w g vs) (hv : ∀ u ∈ vs, NoWord u) (xs : List Value) (hl : vs.length = xs.length) : WCell (Go.MagM.setAll w g 0 xs) b o x :=
  WCell.setTail xs [] vs hl hv hb h
/-- The word on top of a number that isn't 0. -/
theorem RMag.top {w : World} {ao : Option Addr} {n c L N : Nat} (h : RMag w (.slice ao n c) L N) (h0 : N ≠ 0) : ∃ b o k x, ao = some ⟨b, o, none⟩ ∧ n = k + 1 ∧ k + 1 ≤ L ∧ x ≠ 0 ∧ WCell w b (o + k) x := by
  obtain ⟨ao', n', c', f, e, _, h3, h4, h5, h6⟩ := h
  simp at e
  obtain ⟨rfl, rfl, rfl⟩ := e
  cases n with
  | zero => exact absurd h5.symm h0
  | succ k =>
    obtain ⟨b, o, h7, h8, h9⟩ := h4 k (by omega)
    exact ⟨b, o, k, f k, h7, rfl, h3, h6 k rfl, ⟨h8⟩⟩
/-- A number of one word. -/
theorem RMag.lone {w : World} {ao : Option Addr} {n c L N : Nat} (h : RMag w (.slice ao n c) L N) (h0 : N ≠ 0) (hB : N < B) : ∃ b o, ao = some ⟨b, o, none⟩ ∧ n = 1 ∧ WCell w b o N := by
  obtain ⟨ao', n', c', f, e, _, h3, h4, h5, h6⟩ := h
  simp at e
  obtain ⟨rfl, rfl, rfl⟩ := e
  cases n with
  | zero => exact absurd h5.symm h0
  | succ k =>
    have h11 := len_le_of_lt (L := 1) h6 (by rw [h5]; simpa using hB)
    obtain rfl : k = 0 := by omega
    obtain ⟨b, o, h7, h8, h9⟩ := h4 0 (by omega)
    refine ⟨b, o, h7, rfl, ⟨?_⟩⟩
    rw [V_succ, V_zero] at h5
    have : f 0 = N := by simpa using h5
    rw [← this]
    exact h8
theorem noWord2 (b : Bool) (ao : Option Addr) (n c : Nat) : ∀ u ∈ [.bool b, .slice ao n c], NoWord u := by
  intro u hu; simp at hu; rcases hu with rfl | rfl
  · exact NoWord.bool _
  · exact NoWord.slice _ _ _
theorem noWord3 (b : Bool) (ao : Option Addr) (n c : Nat) (bo : Option Addr) (k d : Nat) : ∀ u ∈ [.bool b, .slice ao n c, .slice bo k d], NoWord u := by
  intro u hu; simp at hu; rcases hu with rfl | rfl | rfl
  · exact NoWord.bool _
  · exact NoWord.slice _ _ _
  · exact NoWord.slice _ _ _
theorem Box.two_of {w : World} {g : Nat} {u v : Value} (h : Box2 w g u v) : Box w g [u, v] := by
  refine ⟨fun i x hi => ?_, fun i x hi => ?_⟩
  · match i, hi with
    | 0, hi => simp at hi; subst hi; exact h.c0
    | 1, hi => simp at hi; subst hi; exact h.c1
  · match i, hi with
    | 0, hi => exact h.f0
    | 1, hi => exact h.f1
/-- WHAT A FRAC IS: a number with a sign, and what it is divided by. -/
def FD (w : World) (v : Value) (L : Nat) (X : Int) (D : Nat) : Prop := ∃ m ao n c bo k d, v = .agg #[.bool m, .slice ao n c, .slice bo k d] ∧ Num w (.agg #[.bool m, .slice ao n c]) L X ∧ Mag w (.slice bo k d) L D
/-- The same, and it is right: a rational number. -/
def RF (w : World) (v : Value) (L : Nat) (q : Rat) : Prop := ∃ m ao n c bo k d, v = .agg #[.bool m, .slice ao n c, .slice bo k d] ∧ RNum w (.agg #[.bool m, .slice ao n c]) L q.num ∧ RMag w (.slice bo k d) L q.den
theorem FD.below {w w' : World} {v : Value} {L : Nat} {X : Int} {D : Nat} (h : FD w v L X D) (hb : Below w.heap.size w w') : FD w' v L X D := by
  obtain ⟨m, ao, n, c, bo, k, d, h1, h2, h3⟩ := h; exact ⟨m, ao, n, c, bo, k, d, h1, h2.below hb, h3.below hb⟩
theorem RF.below {w w' : World} {v : Value} {L : Nat} {q : Rat} (h : RF w v L q) (hb : Below w.heap.size w w') : RF w' v L q := by
  obtain ⟨m, ao, n, c, bo, k, d, h1, h2, h3⟩ := h; exact ⟨m, ao, n, c, bo, k, d, h1, h2.below hb, h3.below hb⟩
theorem FD.drew {w : World} {v : Value} {L : Nat} {X : Int} {D : Nat} (h : FD w v L X D) : FD w.drew v L X D := h
theorem RF.drew {w : World} {v : Value} {L : Nat} {q : Rat} (h : RF w v L q) : RF w.drew v L q := h
theorem FD.setOne {w : World} {v : Value} {L : Nat} {X : Int} {D : Nat} (h : FD w v L X D) {a : Addr} {u : Value} (hc : w.cell? a = some u) (hu : NoWord u) (x : Value) : FD (w.setCell a x) v L X D := by
  obtain ⟨m, ao, n, c, bo, k, d, h1, h2, h3⟩ := h; exact ⟨m, ao, n, c, bo, k, d, h1, h2.setOne hc hu x, h3.setOne hc hu x⟩
theorem RF.setOne {w : World} {v : Value} {L : Nat} {q : Rat} (h : RF w v L q) {a : Addr} {u : Value} (hc : w.cell? a = some u) (hu : NoWord u) (x : Value) : RF (w.setCell a x) v L q := by
  obtain ⟨m, ao, n, c, bo, k, d, h1, h2, h3⟩ := h; exact ⟨m, ao, n, c, bo, k, d, h1, h2.setOne hc hu x, h3.setOne hc hu x⟩
theorem FD.setAll {w : World} {v : Value} {L g : Nat} {X : Int} {D : Nat} (h : FD w v L X D) {vs : List Value} (hb : Box w g vs) (hv : ∀ u ∈ vs, NoWord u) (xs : List Value) (hl : vs.length = xs.length) : FD (Go.MagM.setAll w g 0 xs) v L X D := by
  obtain ⟨m, ao, n, c, bo, k, d, h1, h2, h3⟩ := h; exact ⟨m, ao, n, c, bo, k, d, h1, h2.setAll hb hv xs hl, h3.setAll hb hv xs hl⟩
theorem RF.setAll {w : World} {v : Value} {L g : Nat} {q : Rat} (h : RF w v L q) {vs : List Value} (hb : Box w g vs) (hv : ∀ u ∈ vs, NoWord u) (xs : List Value) (hl : vs.length = xs.length) : RF (Go.MagM.setAll w g 0 xs) v L q := by
  obtain ⟨m, ao, n, c, bo, k, d, h1, h2, h3⟩ := h; exact ⟨m, ao, n, c, bo, k, d, h1, h2.setAll hb hv xs hl, h3.setAll hb hv xs hl⟩
theorem FD.more {w : World} {v : Value} {L L' : Nat} {X : Int} {D : Nat} (h : FD w v L X D) (hL : L ≤ L') : FD w v L' X D := by
  obtain ⟨m, ao, n, c, bo, k, d, h1, h2, h3⟩ := h; exact ⟨m, ao, n, c, bo, k, d, h1, h2.more hL, h3.more hL⟩
theorem RF.more {w : World} {v : Value} {L L' : Nat} {q : Rat} (h : RF w v L q) (hL : L ≤ L') : RF w v L' q := by
  obtain ⟨m, ao, n, c, bo, k, d, h1, h2, h3⟩ := h; exact ⟨m, ao, n, c, bo, k, d, h1, h2.more hL, h3.more hL⟩
theorem RF.fd {w : World} {v : Value} {L : Nat} {q : Rat} (h : RF w v L q) : FD w v L q.num q.den := by
  obtain ⟨m, ao, n, c, bo, k, d, h1, h2, h3⟩ := h; exact ⟨m, ao, n, c, bo, k, d, h1, h2.num, h3.mag⟩
theorem RF.of {w : World} {v : Value} {L : Nat} {p q : Rat} (h : RF w v L p) (e : p = q) : RF w v L q := e ▸ h
/-- What a number is divided by: 1, if that is 0. -/
def den1 (D : Nat) : Nat := if D = 0 then 1 else D
theorem den1_pos (D : Nat) : 0 < den1 D := by unfold den1; split <;> omega
theorem den1_ne (D : Nat) : den1 D ≠ 0 := Nat.ne_of_gt (den1_pos D)
theorem den1_of {D : Nat} (h : D ≠ 0) : den1 D = D := if_neg h
/-- The number that a Frac counts. -/
def qv (X : Int) (D : Nat) : Rat := mkRat X (den1 D)
theorem qv_self (q : Rat) : qv q.num q.den = q := by unfold qv; rw [den1_of q.den_nz]; exact Rat.mkRat_self q
/-- What is read as a Frac counts q, right or not. -/
def FQ (w : World) (v : Value) (L : Nat) (q : Rat) : Prop := ∃ X D, FD w v L X D ∧ qv X D = q
theorem FD.q {w : World} {v : Value} {L : Nat} {X : Int} {D : Nat} (h : FD w v L X D) : FQ w v L (qv X D) := ⟨X, D, h, rfl⟩
theorem RF.q {w : World} {v : Value} {L : Nat} {q : Rat} (h : RF w v L q) : FQ w v L q := ⟨_, _, h.fd, qv_self q⟩
theorem FQ.below {w w' : World} {v : Value} {L : Nat} {q : Rat} (h : FQ w v L q) (hb : Below w.heap.size w w') : FQ w' v L q := by
  obtain ⟨X, D, h1, h2⟩ := h; exact ⟨X, D, h1.below hb, h2⟩
theorem FQ.drew {w : World} {v : Value} {L : Nat} {q : Rat} (h : FQ w v L q) : FQ w.drew v L q := h
theorem FQ.more {w : World} {v : Value} {L L' : Nat} {q : Rat} (h : FQ w v L q) (hL : L ≤ L') : FQ w v L' q := by
  obtain ⟨X, D, h1, h2⟩ := h; exact ⟨X, D, h1.more hL, h2⟩
theorem FQ.setOne {w : World} {v : Value} {L : Nat} {q : Rat} (h : FQ w v L q) {a : Addr} {u : Value} (hc : w.cell? a = some u) (hu : NoWord u) (x : Value) : FQ (w.setCell a x) v L q := by
  obtain ⟨X, D, h1, h2⟩ := h; exact ⟨X, D, h1.setOne hc hu x, h2⟩
theorem FQ.setAll {w : World} {v : Value} {L g : Nat} {q : Rat} (h : FQ w v L q) {vs : List Value} (hb : Box w g vs) (hv : ∀ u ∈ vs, NoWord u) (xs : List Value) (hl : vs.length = xs.length) : FQ (Go.MagM.setAll w g 0 xs) v L q := by
  obtain ⟨X, D, h1, h2⟩ := h; exact ⟨X, D, h1.setAll hb hv xs hl, h2⟩
/-- A call's answer is a right Frac of at most L words, q. -/
def AnsF (w w' : World) (e : Ending) (L : Nat) (q : Rat) : Prop := ∃ m ao n c bo k d, e = .returned (.agg #[.bool m, .slice ao n c, .slice bo k d]) ∧ RF w' (.agg #[.bool m, .slice ao n c, .slice bo k d]) L q ∧ Below w.heap.size w w'
theorem AnsF.of {w w' : World} {e : Ending} {L L' : Nat} {p q : Rat} (h : AnsF w w' e L p) (hL : L ≤ L') (he : p = q) : AnsF w w' e L' q := by
  subst he; obtain ⟨m, ao, n, c, bo, k, d, h1, h2, h3⟩ := h; exact ⟨m, ao, n, c, bo, k, d, h1, h2.more hL, h3⟩
theorem FD.num {w : World} {m : Bool} {ao : Option Addr} {n c : Nat} {bo : Option Addr} {k d L D : Nat} {X : Int} (h : FD w (.agg #[.bool m, .slice ao n c, .slice bo k d]) L X D) : Num w (.agg #[.bool m, .slice ao n c]) L X := by
  obtain ⟨_, _, _, _, _, _, _, e, h1, h2⟩ := h
  simp at e
  obtain ⟨rfl, ⟨rfl, rfl, rfl⟩, rfl, rfl, rfl⟩ := e
  exact h1
theorem FD.mag {w : World} {m : Bool} {ao : Option Addr} {n c : Nat} {bo : Option Addr} {k d L D : Nat} {X : Int} (h : FD w (.agg #[.bool m, .slice ao n c, .slice bo k d]) L X D) : Mag w (.slice bo k d) L D := by
  obtain ⟨_, _, _, _, _, _, _, e, h1, h2⟩ := h
  simp at e
  obtain ⟨rfl, ⟨rfl, rfl, rfl⟩, rfl, rfl, rfl⟩ := e
  exact h2
theorem Num.part {w : World} {m : Bool} {vm : Value} {L : Nat} {X : Int} (h : Num w (.agg #[.bool m, vm]) L X) : ∃ N, Mag w vm L N ∧ X = sgn m N := by
  obtain ⟨m', vm', N, e, h1, h2⟩ := h
  simp at e
  obtain ⟨rfl, rfl⟩ := e
  exact ⟨N, h1, h2⟩
theorem RNum.part {w : World} {m : Bool} {vm : Value} {L : Nat} {X : Int} (h : RNum w (.agg #[.bool m, vm]) L X) : ∃ N, RMag w vm L N ∧ X = sgn m N ∧ (m = true → N ≠ 0) := by
  obtain ⟨m', vm', N, e, h1, h2⟩ := h
  simp at e
  obtain ⟨rfl, rfl⟩ := e
  exact ⟨N, h1, h2⟩
theorem FD.neg {w : World} {m : Bool} {ao : Option Addr} {n c : Nat} {bo : Option Addr} {k d L D : Nat} {X : Int} (h : FD w (.agg #[.bool m, .slice ao n c, .slice bo k d]) L X D) : FD w (.agg #[.bool (!m), .slice ao n c, .slice bo k d]) L (-X) D := by
  obtain ⟨N, h1, rfl⟩ := h.num.part
  exact ⟨_, _, _, _, _, _, _, rfl, ⟨!m, _, N, rfl, h1, (sgn_neg m N).symm⟩, h.mag⟩
theorem FD.make {w : World} (m : Bool) {ao : Option Addr} {n c : Nat} {bo : Option Addr} {k d L N D : Nat} (h : Mag w (.slice ao n c) (max L 1) N) (h2 : Mag w (.slice bo k d) L D) : FD w (.agg #[.bool m, .slice ao n c, .slice bo k d]) (max L 1) (sgn m N) D :=
  ⟨_, _, _, _, _, _, _, rfl, ⟨m, _, N, rfl, h, rfl⟩, h2.more (by omega)⟩
/-- A call's answer is a slice of words that count N. -/
def AnsMag (w w' : World) (e : Ending) (L N : Nat) : Prop := ∃ ao n c, e = .returned (.slice ao n c) ∧ Mag w' (.slice ao n c) L N ∧ Below w.heap.size w w'
/-- The same, and it is right. -/
def AnsRMag (w w' : World) (e : Ending) (L N : Nat) : Prop := ∃ ao n c, e = .returned (.slice ao n c) ∧ RMag w' (.slice ao n c) L N ∧ Below w.heap.size w w'
theorem AnsRMag.of {w w' : World} {e : Ending} {L N : Nat} (h : ∃ v, e = .returned v ∧ RMag w' v L N ∧ Below w.heap.size w w') : AnsRMag w w' e L N := by
  obtain ⟨v, rfl, h1, h2⟩ := h
  obtain ⟨ao, n, c, rfl⟩ := h1.slice
  exact ⟨ao, n, c, rfl, h1, h2⟩
end Go.MagM
/- Whole numbers of 128 bits: the two words of an integer, and what sums, differences, products of words are. Over any program. -/
namespace Go.MagM
open Go.RowKit
/-- The high word of a whole number, modulo 2 to 128. -/
def wh (z : Int) : Nat := (z / 18446744073709551616 % 18446744073709551616).toNat
/-- The low word. -/
def wl (z : Int) : Nat := (z % 18446744073709551616).toNat
/-- A number of 128 bits. -/
def InW (z : Int) : Prop := -170141183460469231731687303715884105728 ≤ z ∧ z < 170141183460469231731687303715884105728
instance (z : Int) : Decidable (InW z) := by unfold InW; exact inferInstance
/-- What a number of 128 bits is, as a value. -/
def WV (z : Int) : Value := .agg #[.int .u64 ((wh z : Nat) : Int), .int .u64 ((wl z : Nat) : Int)]
theorem wh_lt (z : Int) : wh z < B := by unfold wh B; omega
theorem wl_lt (z : Int) : wl z < B := by unfold wl B; omega
theorem w_mod (z : Int) : ((wh z : Nat) : Int) * 18446744073709551616 + ((wl z : Nat) : Int) = z % 340282366920938463463374607431768211456 := by unfold wh wl; omega
/-- The words of a number are those that make it up, modulo 2 to 128. -/
theorem w_of {z : Int} {h l : Nat} (hh : h < B) (hl : l < B) (k : Int) (e : (h : Int) * 18446744073709551616 + (l : Int) = z + k * 340282366920938463463374607431768211456) : h = wh z ∧ l = wl z := by
  have := w_mod z; have h1 := wh_lt z; have h2 := wl_lt z
  unfold B at *
  omega
theorem w_eq {x y : Int} (hx : InW x) (hy : InW y) (h1 : wh x = wh y) (h2 : wl x = wl y) : x = y := by
  have a := w_mod x; have b := w_mod y; rw [h1, h2] at a; unfold InW at *; omega
theorem w_beq {x y : Int} (hx : InW x) (hy : InW y) : (((wh x : Nat) : Int) == ((wh y : Nat) : Int) && ((wl x : Nat) : Int) == ((wl y : Nat) : Int)) = decide (x = y) := by
  by_cases h : x = y
  · subst h; simp
  · simp only [h, decide_false, Bool.and_eq_false_iff, beq_eq_false_iff_ne]
    by_cases h1 : wh x = wh y
    · right; intro h2; exact h (w_eq hx hy h1 (by omega))
    · left; omega
theorem wh_zero : wh 0 = 0 := by decide
theorem wl_zero : wl 0 = 0 := by decide
theorem wh_least : wh (-170141183460469231731687303715884105728) = 9223372036854775808 := by decide
theorem wl_least : wl (-170141183460469231731687303715884105728) = 0 := by decide
/-- Any two words are those of a number of 128 bits. -/
theorem w_some (h l : Nat) (hh : h < B) (hl : l < B) : ∃ z, InW z ∧ wh z = h ∧ wl z = l := by
  have c : h < 9223372036854775808 ∨ 9223372036854775808 ≤ h := by omega
  unfold B at *
  rcases c with c | c
  · obtain ⟨a, b⟩ := w_of (z := (h : Int) * 18446744073709551616 + (l : Int)) hh hl 0 (by omega)
    exact ⟨_, by unfold InW; omega, a.symm, b.symm⟩
  · obtain ⟨a, b⟩ := w_of (z := (h : Int) * 18446744073709551616 + (l : Int) - 340282366920938463463374607431768211456) hh hl 1 (by omega)
    exact ⟨_, by unfold InW; omega, a.symm, b.symm⟩
/-- Sums, word by word. -/
theorem w_add (x y : Int) : (wh x + wh y + (wl x + wl y + 0) / B) % B = wh (x + y) ∧ (wl x + wl y + 0) % B = wl (x + y) := by
  have a := w_mod x; have b := w_mod y; have h1 := wh_lt x; have h2 := wl_lt x; have h3 := wh_lt y; have h4 := wl_lt y
  simp only [B_eq] at *
  refine w_of (by rw [B_eq]; omega) (by rw [B_eq]; omega) (-(((wh x + wh y + (wl x + wl y + 0) / 18446744073709551616) / 18446744073709551616 : Nat) : Int) - x / 340282366920938463463374607431768211456 - y / 340282366920938463463374607431768211456) ?_
  omega
/-- Differences, word by word. -/
theorem w_sub (x y : Int) : (wh x + B - wh y - (if wl x < wl y + 0 then 1 else 0)) % B = wh (x - y) ∧ (wl x + B - wl y - 0) % B = wl (x - y) := by
  have a := w_mod x; have b := w_mod y; have h1 := wh_lt x; have h2 := wl_lt x; have h3 := wh_lt y; have h4 := wl_lt y
  simp only [B_eq] at *
  generalize wh x = h at *; generalize wl x = l at *; generalize wh y = h' at *; generalize wl y = l' at *
  by_cases c : l < l' + 0
  · rw [if_pos c]
    by_cases d : h < h' + 1
    · exact w_of (by rw [B_eq]; omega) (by rw [B_eq]; omega) (1 - x / 340282366920938463463374607431768211456 + y / 340282366920938463463374607431768211456) (by omega)
    · exact w_of (by rw [B_eq]; omega) (by rw [B_eq]; omega) (- (x / 340282366920938463463374607431768211456) + y / 340282366920938463463374607431768211456) (by omega)
  · rw [if_neg c]
    by_cases d : h < h'
    · exact w_of (by rw [B_eq]; omega) (by rw [B_eq]; omega) (1 - x / 340282366920938463463374607431768211456 + y / 340282366920938463463374607431768211456) (by omega)
    · exact w_of (by rw [B_eq]; omega) (by rw [B_eq]; omega) (- (x / 340282366920938463463374607431768211456) + y / 340282366920938463463374607431768211456) (by omega)
theorem w_neg {z : Int} (h : InW z) : (9223372036854775808 ≤ wh z) ↔ z < 0 := by
  have := w_mod z; have h1 := wh_lt z; have h2 := wl_lt z; unfold InW B at *; omega
theorem w_pos {z : Int} (h : InW z) (h0 : 0 ≤ z) : (wh z : Int) * 18446744073709551616 + (wl z : Int) = z := by
  have := w_mod z; unfold InW at *; omega
theorem w_size {z : Int} (h : InW z) : ((wh (z.natAbs : Int) : Nat) : Int) * 18446744073709551616 + ((wl (z.natAbs : Int) : Nat) : Int) = (z.natAbs : Int) := by
  have := w_mod (z.natAbs : Int); unfold InW at *; omega
/-- The words of an int. -/
theorem w_int_neg {n : Int} (h : -9223372036854775808 ≤ n) (h0 : n < 0) : wh n = 18446744073709551615 ∧ ((wl n : Nat) : Int) = IntKind.u64.wrap n := by
  rw [IntKind.wrap_u64]; unfold wh wl; omega
theorem w_int_pos {n : Int} (h : n < 9223372036854775808) (h0 : 0 ≤ n) : wh n = 0 ∧ ((wl n : Nat) : Int) = IntKind.u64.wrap n := by
  rw [IntKind.wrap_u64]; unfold wh wl; omega
theorem w_abs_int {n : Int} (h : -9223372036854775808 ≤ n) (h1 : n < 9223372036854775808) : wl (n.natAbs : Int) = n.natAbs ∧ n.natAbs < B := by
  unfold wl B; omega
end Go.MagM
/- Points, and boxes of six and eight cells. Over any program. -/
namespace Go.MagM
open Go.RowKit
theorem Box.c6 {w : World} {g : Nat} {u0 u1 u2 u3 u4 u5 u : Value} {l : List Value} (h : Box w g (u0 :: u1 :: u2 :: u3 :: u4 :: u5 :: u :: l)) : w.cell? ⟨g, 6, none⟩ = some u := h.c 6 _ rfl
theorem Box.c7 {w : World} {g : Nat} {u0 u1 u2 u3 u4 u5 u6 u : Value} {l : List Value} (h : Box w g (u0 :: u1 :: u2 :: u3 :: u4 :: u5 :: u6 :: u :: l)) : w.cell? ⟨g, 7, none⟩ = some u := h.c 7 _ rfl
theorem Box.open6 {w : World} {g : Nat} {u0 u1 u2 u3 u4 u5 : Value} (h : Box w g [u0, u1, u2, u3, u4, u5]) : w.cell? ⟨g, 0, none⟩ = some u0 ∧ w.cell? ⟨g, 1, none⟩ = some u1 ∧ w.cell? ⟨g, 2, none⟩ = some u2 ∧ w.cell? ⟨g, 3, none⟩ = some u3 ∧ w.cell? ⟨g, 4, none⟩ = some u4 ∧ w.cell? ⟨g, 5, none⟩ = some u5 ∧ w.frozen? ⟨g, 0, none⟩ = false ∧ w.frozen? ⟨g, 1, none⟩ = false ∧ w.frozen? ⟨g, 2, none⟩ = false ∧ w.frozen? ⟨g, 3, none⟩ = false ∧ w.frozen? ⟨g, 4, none⟩ = false ∧ w.frozen? ⟨g, 5, none⟩ = false :=
  ⟨h.c 0 _ rfl, h.c 1 _ rfl, h.c 2 _ rfl, h.c 3 _ rfl, h.c 4 _ rfl, h.c 5 _ rfl, h.f 0 _ rfl, h.f 1 _ rfl, h.f 2 _ rfl, h.f 3 _ rfl, h.f 4 _ rfl, h.f 5 _ rfl⟩
theorem Box.open8 {w : World} {g : Nat} {u0 u1 u2 u3 u4 u5 u6 u7 : Value} (h : Box w g [u0, u1, u2, u3, u4, u5, u6, u7]) : w.cell? ⟨g, 0, none⟩ = some u0 ∧ w.cell? ⟨g, 1, none⟩ = some u1 ∧ w.cell? ⟨g, 2, none⟩ = some u2 ∧ w.cell? ⟨g, 3, none⟩ = some u3 ∧ w.cell? ⟨g, 4, none⟩ = some u4 ∧ w.cell? ⟨g, 5, none⟩ = some u5 ∧ w.cell? ⟨g, 6, none⟩ = some u6 ∧ w.cell? ⟨g, 7, none⟩ = some u7 ∧ w.frozen? ⟨g, 0, none⟩ = false ∧ w.frozen? ⟨g, 1, none⟩ = false ∧ w.frozen? ⟨g, 2, none⟩ = false ∧ w.frozen? ⟨g, 3, none⟩ = false ∧ w.frozen? ⟨g, 4, none⟩ = false ∧ w.frozen? ⟨g, 5, none⟩ = false ∧ w.frozen? ⟨g, 6, none⟩ = false ∧ w.frozen? ⟨g, 7, none⟩ = false :=
  ⟨h.c 0 _ rfl, h.c 1 _ rfl, h.c 2 _ rfl, h.c 3 _ rfl, h.c 4 _ rfl, h.c 5 _ rfl, h.c 6 _ rfl, h.c 7 _ rfl, h.f 0 _ rfl, h.f 1 _ rfl, h.f 2 _ rfl, h.f 3 _ rfl, h.f 4 _ rfl, h.f 5 _ rfl, h.f 6 _ rfl, h.f 7 _ rfl⟩
theorem RNum.shape {w : World} {v : Value} {L : Nat} {X : Int} (h : RNum w v L X) : ∃ m o n c, v = .agg #[.bool m, .slice o n c] := by
  obtain ⟨m, _, _, rfl, ⟨o, n, c, _, rfl, _⟩, _⟩ := h; exact ⟨m, o, n, c, rfl⟩
/-- A coordinate that may be. -/
def InP (x : Int) : Prop := -2147483648 ≤ x ∧ x ≤ 2147483648
theorem InP.wrap {x y : Int} (hx : InP x) (hy : InP y) : IntKind.i64.wrap (x - y) = x - y := by
  unfold InP at hx hy; rw [IntKind.wrap_i64]; omega
theorem InP.neg {x y : Int} (hx : InP x) (hy : InP y) : IntKind.i64.wrap (-(x - y)) = -(x - y) := by
  unfold InP at hx hy; rw [IntKind.wrap_i64]; omega
theorem InP.lo {x y : Int} (hx : InP x) (hy : InP y) : -9223372036854775808 ≤ x - y := by unfold InP at hx hy; omega
theorem InP.hi {x y : Int} (hx : InP x) (hy : InP y) : x - y < 9223372036854775808 := by unfold InP at hx hy; omega
theorem InP.lo' {x y : Int} (hx : InP x) (hy : InP y) : -9223372036854775808 ≤ -(x - y) := by unfold InP at hx hy; omega
theorem InP.hi' {x y : Int} (hx : InP x) (hy : InP y) : -(x - y) < 9223372036854775808 := by unfold InP at hx hy; omega
theorem abs_prod {x y : Int} {M N : Nat} (hx : x.natAbs ≤ M) (hy : y.natAbs ≤ N) : (x * y).natAbs ≤ M * N := by rw [Int.natAbs_mul]; exact Nat.mul_le_mul hx hy
/-- The determinant of differences has 128 bits. -/
theorem inW_dets {p q r s : Int} (hp : p.natAbs ≤ 4294967296) (hq : q.natAbs ≤ 4294967296) (hr : r.natAbs ≤ 4294967296) (hs : s.natAbs ≤ 4294967296) : InW (p * s - q * r) := by
  have h1 := abs_prod hp hs; have h2 := abs_prod hq hr
  unfold InW; omega
theorem InP.abs {x y : Int} (hx : InP x) (hy : InP y) : (x - y).natAbs ≤ 4294967296 := by unfold InP at hx hy; omega
theorem InP.abs' {x y : Int} (hx : InP x) (hy : InP y) : (-(x - y)).natAbs ≤ 4294967296 := by unfold InP at hx hy; omega
theorem inW_crs {ax ay bx by' cx cy : Int} (h1 : InP ax) (h2 : InP ay) (h3 : InP bx) (h4 : InP by') (h5 : InP cx) (h6 : InP cy) : InW (crs ax ay bx by' cx cy) :=
  inW_dets (h3.abs h1) (h4.abs h2) (h5.abs h1) (h6.abs h2)
theorem sqd_det (ax ay bx by' : Int) : (bx - ax) * (bx - ax) - (-(by' - ay)) * (by' - ay) = sqd ax ay bx by' := by unfold sqd; grind
theorem inW_sqd {ax ay bx by' : Int} (h1 : InP ax) (h2 : InP ay) (h3 : InP bx) (h4 : InP by') : InW (sqd ax ay bx by') := by
  rw [← sqd_det]; exact inW_dets (h3.abs h1) (h4.abs' h2) (h4.abs h2) (h3.abs h1)
theorem inc_circle (ax ay bx by' cx cy dx dy : Int) : sqd ax ay dx dy * crs dx dy bx by' cx cy + sqd bx by' dx dy * crs dx dy cx cy ax ay + sqd cx cy dx dy * crs dx dy ax ay bx by' = inc ax ay bx by' cx cy dx dy := by unfold inc crs sqd; grind
end Go.MagM
/- From the form of the rows to the walks of layer 6: what a point, and an array of points, reads as. -/
namespace Go.Proofs.Ytkcfaddilknelaa
open Go.ChangeShapes Go.WideShapes Go.RowKit Go.MagM
theorem ptCells : Try.prog.cellsOf 23 = 2 := by kernel_rfl
theorem ptCell1 : Try.prog.cellsOf 3 = 1 := by kernel_rfl
set_option maxRecDepth 100000 in
theorem view_pt {H : Type} {enc : TypeId × Value → H} {W : World} {b0 : Nat} {v : Value} {d : DataW H} {p : List MemPlace} (hv : Value.okWide Try.prog W .any b0 23 v)
    (h : DataW.Trod enc Try.prog W 0 (fun _ => true) true 23 v d p) :
    ∃ x y : Int, v = .agg #[.int .i64 x, .int .i64 y] := by
  obtain ⟨v0, v1, y0, y1, k, rfl, _, _, h0, h1⟩ := Joins.open_agg2 Try.underlying23 (by kernel_rfl) (by kernel_rfl) hv h
  obtain ⟨x, e0, _, w0⟩ := DataW.trod_int Try.underlying3 h0
  obtain ⟨y, e1, _, w1⟩ := DataW.trod_int Try.underlying3 h1
  simp at e0 e1
  subst e0 e1
  exact ⟨x, y, rfl⟩
/-- Two cells that read as a point. -/
theorem open_pt {H : Type} {enc : TypeId × Value → H} {W : World} {n : Nat} {c0 c1 : Value} {x : DataW H × List MemPlace} (h : DataW.trod enc Try.prog W 0 (fun _ => true) true n 23 [c0, c1] = some x) :
    ∃ a b : Int, c0 = .int .i64 a ∧ c1 = .int .i64 b := by
  obtain ⟨y0, y1, m, rfl, _, h0, h1⟩ := trod_struct2 Try.underlying23 h
  obtain ⟨a, e0, _, _⟩ := DataW.trod_int Try.underlying3 h0
  obtain ⟨b, e1, _, _⟩ := DataW.trod_int Try.underlying3 h1
  simp [ptCell1] at e0 e1
  exact ⟨a, b, e0, e1⟩
theorem array8_of {α : Type} {a : Array α} (h : a.size = 8) : ∃ x0 x1 x2 x3 x4 x5 x6 x7, a = #[x0, x1, x2, x3, x4, x5, x6, x7] := by
  obtain ⟨l⟩ := a
  simp only [List.size_toArray] at h
  match l, h with
  | [x0, x1, x2, x3, x4, x5, x6, x7], _ => exact ⟨x0, x1, x2, x3, x4, x5, x6, x7, rfl⟩
theorem ptsCells3 : Try.prog.cellsOf 56 = 6 := by kernel_rfl
theorem array6_of {α : Type} {a : Array α} (h : a.size = 6) : ∃ x0 x1 x2 x3 x4 x5, a = #[x0, x1, x2, x3, x4, x5] := by
  obtain ⟨l⟩ := a
  simp only [List.size_toArray] at h
  match l, h with
  | [x0, x1, x2, x3, x4, x5], _ => exact ⟨x0, x1, x2, x3, x4, x5, rfl⟩
set_option maxRecDepth 100000 in
theorem view_pts3 {H : Type} {enc : TypeId × Value → H} {W : World} {b0 : Nat} {v : Value} {d : DataW H} {p : List MemPlace} (hv : Value.okWide Try.prog W .any b0 56 v)
    (h : DataW.Trod enc Try.prog W 0 (fun _ => true) true 56 v d p) :
    ∃ x0 x1 x2 x3 x4 x5 : Int, v = .agg #[.int .i64 x0, .int .i64 x1, .int .i64 x2, .int .i64 x3, .int .i64 x4, .int .i64 x5] := by
  obtain ⟨cs, rfl, hsz, _⟩ : ∃ cs, v = .agg cs ∧ cs.size = Try.prog.cellsOf 56 ∧ Row.okWide Try.prog W .any b0 56 cs := by
    simpa [Value.okWide, Try.underlying56] using hv
  rw [ptsCells3] at hsz
  obtain ⟨c0, c1, c2, c3, c4, c5, rfl⟩ := array6_of hsz
  obtain ⟨fuel, hf⟩ := h
  obtain ⟨xs, m, rfl, hx, hl, hn, hi⟩ := DataW.trod_array Try.underlying56 hf
  have h0 := hi 0 (by decide)
  have h1 := hi 1 (by decide)
  have h2 := hi 2 (by decide)
  rw [ptCells] at h0 h1 h2
  rw [List.getElem?_eq_getElem (by omega)] at h0 h1 h2
  obtain ⟨x0, x1, e0, e1⟩ := open_pt (by simpa [Value.cells] using h0)
  obtain ⟨x2, x3, e2, e3⟩ := open_pt (by simpa [Value.cells] using h1)
  obtain ⟨x4, x5, e4, e5⟩ := open_pt (by simpa [Value.cells] using h2)
  subst e0 e1 e2 e3 e4 e5
  exact ⟨x0, x1, x2, x3, x4, x5, rfl⟩
end Go.Proofs.Ytkcfaddilknelaa
/- Points with rational coordinates, and boxes of nine and eighteen cells. Over any program. -/
namespace Go.MagM
open Go.RowKit
theorem Box.c8 {w : World} {g : Nat} {u0 u1 u2 u3 u4 u5 u6 u7 u : Value} {l : List Value} (h : Box w g (u0 :: u1 :: u2 :: u3 :: u4 :: u5 :: u6 :: u7 :: u :: l)) : w.cell? ⟨g, 8, none⟩ = some u := h.c 8 _ rfl
theorem Box.c9 {w : World} {g : Nat} {u0 u1 u2 u3 u4 u5 u6 u7 u8 u : Value} {l : List Value} (h : Box w g (u0 :: u1 :: u2 :: u3 :: u4 :: u5 :: u6 :: u7 :: u8 :: u :: l)) : w.cell? ⟨g, 9, none⟩ = some u := h.c 9 _ rfl
theorem Box.c10 {w : World} {g : Nat} {u0 u1 u2 u3 u4 u5 u6 u7 u8 u9 u : Value} {l : List Value} (h : Box w g (u0 :: u1 :: u2 :: u3 :: u4 :: u5 :: u6 :: u7 :: u8 :: u9 :: u :: l)) : w.cell? ⟨g, 10, none⟩ = some u := h.c 10 _ rfl
theorem Box.c11 {w : World} {g : Nat} {u0 u1 u2 u3 u4 u5 u6 u7 u8 u9 u10 u : Value} {l : List Value} (h : Box w g (u0 :: u1 :: u2 :: u3 :: u4 :: u5 :: u6 :: u7 :: u8 :: u9 :: u10 :: u :: l)) : w.cell? ⟨g, 11, none⟩ = some u := h.c 11 _ rfl
theorem Box.c12 {w : World} {g : Nat} {u0 u1 u2 u3 u4 u5 u6 u7 u8 u9 u10 u11 u : Value} {l : List Value} (h : Box w g (u0 :: u1 :: u2 :: u3 :: u4 :: u5 :: u6 :: u7 :: u8 :: u9 :: u10 :: u11 :: u :: l)) : w.cell? ⟨g, 12, none⟩ = some u := h.c 12 _ rfl
theorem Box.c13 {w : World} {g : Nat} {u0 u1 u2 u3 u4 u5 u6 u7 u8 u9 u10 u11 u12 u : Value} {l : List Value} (h : Box w g (u0 :: u1 :: u2 :: u3 :: u4 :: u5 :: u6 :: u7 :: u8 :: u9 :: u10 :: u11 :: u12 :: u :: l)) : w.cell? ⟨g, 13, none⟩ = some u := h.c 13 _ rfl
theorem Box.c14 {w : World} {g : Nat} {u0 u1 u2 u3 u4 u5 u6 u7 u8 u9 u10 u11 u12 u13 u : Value} {l : List Value} (h : Box w g (u0 :: u1 :: u2 :: u3 :: u4 :: u5 :: u6 :: u7 :: u8 :: u9 :: u10 :: u11 :: u12 :: u13 :: u :: l)) : w.cell? ⟨g, 14, none⟩ = some u := h.c 14 _ rfl
theorem Box.c15 {w : World} {g : Nat} {u0 u1 u2 u3 u4 u5 u6 u7 u8 u9 u10 u11 u12 u13 u14 u : Value} {l : List Value} (h : Box w g (u0 :: u1 :: u2 :: u3 :: u4 :: u5 :: u6 :: u7 :: u8 :: u9 :: u10 :: u11 :: u12 :: u13 :: u14 :: u :: l)) : w.cell? ⟨g, 15, none⟩ = some u := h.c 15 _ rfl
theorem Box.c16 {w : World} {g : Nat} {u0 u1 u2 u3 u4 u5 u6 u7 u8 u9 u10 u11 u12 u13 u14 u15 u : Value} {l : List Value} (h : Box w g (u0 :: u1 :: u2 :: u3 :: u4 :: u5 :: u6 :: u7 :: u8 :: u9 :: u10 :: u11 :: u12 :: u13 :: u14 :: u15 :: u :: l)) : w.cell? ⟨g, 16, none⟩ = some u := h.c 16 _ rfl
theorem Box.c17 {w : World} {g : Nat} {u0 u1 u2 u3 u4 u5 u6 u7 u8 u9 u10 u11 u12 u13 u14 u15 u16 u : Value} {l : List Value} (h : Box w g (u0 :: u1 :: u2 :: u3 :: u4 :: u5 :: u6 :: u7 :: u8 :: u9 :: u10 :: u11 :: u12 :: u13 :: u14 :: u15 :: u16 :: u :: l)) : w.cell? ⟨g, 17, none⟩ = some u := h.c 17 _ rfl
theorem Box.open4 {w : World} {g : Nat} {u0 u1 u2 u3 : Value} (h : Box w g [u0, u1, u2, u3]) : w.cell? ⟨g, 0, none⟩ = some u0 ∧ w.cell? ⟨g, 1, none⟩ = some u1 ∧ w.cell? ⟨g, 2, none⟩ = some u2 ∧ w.cell? ⟨g, 3, none⟩ = some u3 ∧ w.frozen? ⟨g, 0, none⟩ = false ∧ w.frozen? ⟨g, 1, none⟩ = false ∧ w.frozen? ⟨g, 2, none⟩ = false ∧ w.frozen? ⟨g, 3, none⟩ = false :=
  ⟨h.c 0 _ rfl, h.c 1 _ rfl, h.c 2 _ rfl, h.c 3 _ rfl, h.f 0 _ rfl, h.f 1 _ rfl, h.f 2 _ rfl, h.f 3 _ rfl⟩
theorem Box.open9 {w : World} {g : Nat} {u0 u1 u2 u3 u4 u5 u6 u7 u8 : Value} (h : Box w g [u0, u1, u2, u3, u4, u5, u6, u7, u8]) : w.cell? ⟨g, 0, none⟩ = some u0 ∧ w.cell? ⟨g, 1, none⟩ = some u1 ∧ w.cell? ⟨g, 2, none⟩ = some u2 ∧ w.cell? ⟨g, 3, none⟩ = some u3 ∧ w.cell? ⟨g, 4, none⟩ = some u4 ∧ w.cell? ⟨g, 5, none⟩ = some u5 ∧ w.cell? ⟨g, 6, none⟩ = some u6 ∧ w.cell? ⟨g, 7, none⟩ = some u7 ∧ w.cell? ⟨g, 8, none⟩ = some u8 ∧ w.frozen? ⟨g, 0, none⟩ = false ∧ w.frozen? ⟨g, 1, none⟩ = false ∧ w.frozen? ⟨g, 2, none⟩ = false ∧ w.frozen? ⟨g, 3, none⟩ = false ∧ w.frozen? ⟨g, 4, none⟩ = false ∧ w.frozen? ⟨g, 5, none⟩ = false ∧ w.frozen? ⟨g, 6, none⟩ = false ∧ w.frozen? ⟨g, 7, none⟩ = false ∧ w.frozen? ⟨g, 8, none⟩ = false :=
  ⟨h.c 0 _ rfl, h.c 1 _ rfl, h.c 2 _ rfl, h.c 3 _ rfl, h.c 4 _ rfl, h.c 5 _ rfl, h.c 6 _ rfl, h.c 7 _ rfl, h.c 8 _ rfl, h.f 0 _ rfl, h.f 1 _ rfl, h.f 2 _ rfl, h.f 3 _ rfl, h.f 4 _ rfl, h.f 5 _ rfl, h.f 6 _ rfl, h.f 7 _ rfl, h.f 8 _ rfl⟩
theorem Box.open18 {w : World} {g : Nat} {u0 u1 u2 u3 u4 u5 u6 u7 u8 u9 u10 u11 u12 u13 u14 u15 u16 u17 : Value} (h : Box w g [u0, u1, u2, u3, u4, u5, u6, u7, u8, u9, u10, u11, u12, u13, u14, u15, u16, u17]) : w.cell? ⟨g, 0, none⟩ = some u0 ∧ w.cell? ⟨g, 1, none⟩ = some u1 ∧ w.cell? ⟨g, 2, none⟩ = some u2 ∧ w.cell? ⟨g, 3, none⟩ = some u3 ∧ w.cell? ⟨g, 4, none⟩ = some u4 ∧ w.cell? ⟨g, 5, none⟩ = some u5 ∧ w.cell? ⟨g, 6, none⟩ = some u6 ∧ w.cell? ⟨g, 7, none⟩ = some u7 ∧ w.cell? ⟨g, 8, none⟩ = some u8 ∧ w.cell? ⟨g, 9, none⟩ = some u9 ∧ w.cell? ⟨g, 10, none⟩ = some u10 ∧ w.cell? ⟨g, 11, none⟩ = some u11 ∧ w.cell? ⟨g, 12, none⟩ = some u12 ∧ w.cell? ⟨g, 13, none⟩ = some u13 ∧ w.cell? ⟨g, 14, none⟩ = some u14 ∧ w.cell? ⟨g, 15, none⟩ = some u15 ∧ w.cell? ⟨g, 16, none⟩ = some u16 ∧ w.cell? ⟨g, 17, none⟩ = some u17 ∧ w.frozen? ⟨g, 0, none⟩ = false ∧ w.frozen? ⟨g, 1, none⟩ = false ∧ w.frozen? ⟨g, 2, none⟩ = false ∧ w.frozen? ⟨g, 3, none⟩ = false ∧ w.frozen? ⟨g, 4, none⟩ = false ∧ w.frozen? ⟨g, 5, none⟩ = false ∧ w.frozen? ⟨g, 6, none⟩ = false ∧ w.frozen? ⟨g, 7, none⟩ = false ∧ w.frozen? ⟨g, 8, none⟩ = false ∧ w.frozen? ⟨g, 9, none⟩ = false ∧ w.frozen? ⟨g, 10, none⟩ = false ∧ w.frozen? ⟨g, 11, none⟩ = false ∧ w.frozen? ⟨g, 12, none⟩ = false ∧ w.frozen? ⟨g, 13, none⟩ = false ∧ w.frozen? ⟨g, 14, none⟩ = false ∧ w.frozen? ⟨g, 15, none⟩ = false ∧ w.frozen? ⟨g, 16, none⟩ = false ∧ w.frozen? ⟨g, 17, none⟩ = false :=
  ⟨h.c 0 _ rfl, h.c 1 _ rfl, h.c 2 _ rfl, h.c 3 _ rfl, h.c 4 _ rfl, h.c 5 _ rfl, h.c 6 _ rfl, h.c 7 _ rfl, h.c 8 _ rfl, h.c 9 _ rfl, h.c 10 _ rfl, h.c 11 _ rfl, h.c 12 _ rfl, h.c 13 _ rfl, h.c 14 _ rfl, h.c 15 _ rfl, h.c 16 _ rfl, h.c 17 _ rfl, h.f 0 _ rfl, h.f 1 _ rfl, h.f 2 _ rfl, h.f 3 _ rfl, h.f 4 _ rfl, h.f 5 _ rfl, h.f 6 _ rfl, h.f 7 _ rfl, h.f 8 _ rfl, h.f 9 _ rfl, h.f 10 _ rfl, h.f 11 _ rfl, h.f 12 _ rfl, h.f 13 _ rfl, h.f 14 _ rfl, h.f 15 _ rfl, h.f 16 _ rfl, h.f 17 _ rfl⟩
theorem Box.put6 {w : World} {g : Nat} {u0 u1 u2 u3 u4 u5 : Value} (h : Box w g [u0, u1, u2, u3, u4, u5]) (x0 x1 x2 x3 x4 : Value) : (w.setCell ⟨g, 0, none⟩ x0).cell? ⟨g, 1, none⟩ = some u1 ∧ (w.setCell ⟨g, 0, none⟩ x0).frozen? ⟨g, 1, none⟩ = false ∧ ((w.setCell ⟨g, 0, none⟩ x0).setCell ⟨g, 1, none⟩ x1).cell? ⟨g, 2, none⟩ = some u2 ∧ ((w.setCell ⟨g, 0, none⟩ x0).setCell ⟨g, 1, none⟩ x1).frozen? ⟨g, 2, none⟩ = false ∧ (((w.setCell ⟨g, 0, none⟩ x0).setCell ⟨g, 1, none⟩ x1).setCell ⟨g, 2, none⟩ x2).cell? ⟨g, 3, none⟩ = some u3 ∧ (((w.setCell ⟨g, 0, none⟩ x0).setCell ⟨g, 1, none⟩ x1).setCell ⟨g, 2, none⟩ x2).frozen? ⟨g, 3, none⟩ = false ∧ ((((w.setCell ⟨g, 0, none⟩ x0).setCell ⟨g, 1, none⟩ x1).setCell ⟨g, 2, none⟩ x2).setCell ⟨g, 3, none⟩ x3).cell? ⟨g, 4, none⟩ = some u4 ∧ ((((w.setCell ⟨g, 0, none⟩ x0).setCell ⟨g, 1, none⟩ x1).setCell ⟨g, 2, none⟩ x2).setCell ⟨g, 3, none⟩ x3).frozen? ⟨g, 4, none⟩ = false ∧ (((((w.setCell ⟨g, 0, none⟩ x0).setCell ⟨g, 1, none⟩ x1).setCell ⟨g, 2, none⟩ x2).setCell ⟨g, 3, none⟩ x3).setCell ⟨g, 4, none⟩ x4).cell? ⟨g, 5, none⟩ = some u5 ∧ (((((w.setCell ⟨g, 0, none⟩ x0).setCell ⟨g, 1, none⟩ x1).setCell ⟨g, 2, none⟩ x2).setCell ⟨g, 3, none⟩ x3).setCell ⟨g, 4, none⟩ x4).frozen? ⟨g, 5, none⟩ = false :=
  ⟨(h.set 0 x0).c 1 _ rfl, (h.set 0 x0).f 1 _ rfl, ((h.set 0 x0).set 1 x1).c 2 _ rfl, ((h.set 0 x0).set 1 x1).f 2 _ rfl, (((h.set 0 x0).set 1 x1).set 2 x2).c 3 _ rfl, (((h.set 0 x0).set 1 x1).set 2 x2).f 3 _ rfl, ((((h.set 0 x0).set 1 x1).set 2 x2).set 3 x3).c 4 _ rfl, ((((h.set 0 x0).set 1 x1).set 2 x2).set 3 x3).f 4 _ rfl, (((((h.set 0 x0).set 1 x1).set 2 x2).set 3 x3).set 4 x4).c 5 _ rfl, (((((h.set 0 x0).set 1 x1).set 2 x2).set 3 x3).set 4 x4).f 5 _ rfl⟩
theorem Box.put9 {w : World} {g : Nat} {u0 u1 u2 u3 u4 u5 u6 u7 u8 : Value} (h : Box w g [u0, u1, u2, u3, u4, u5, u6, u7, u8]) (x0 x1 x2 x3 x4 x5 x6 x7 : Value) : (w.setCell ⟨g, 0, none⟩ x0).cell? ⟨g, 1, none⟩ = some u1 ∧ (w.setCell ⟨g, 0, none⟩ x0).frozen? ⟨g, 1, none⟩ = false ∧ ((w.setCell ⟨g, 0, none⟩ x0).setCell ⟨g, 1, none⟩ x1).cell? ⟨g, 2, none⟩ = some u2 ∧ ((w.setCell ⟨g, 0, none⟩ x0).setCell ⟨g, 1, none⟩ x1).frozen? ⟨g, 2, none⟩ = false ∧ (((w.setCell ⟨g, 0, none⟩ x0).setCell ⟨g, 1, none⟩ x1).setCell ⟨g, 2, none⟩ x2).cell? ⟨g, 3, none⟩ = some u3 ∧ (((w.setCell ⟨g, 0, none⟩ x0).setCell ⟨g, 1, none⟩ x1).setCell ⟨g, 2, none⟩ x2).frozen? ⟨g, 3, none⟩ = false ∧ ((((w.setCell ⟨g, 0, none⟩ x0).setCell ⟨g, 1, none⟩ x1).setCell ⟨g, 2, none⟩ x2).setCell ⟨g, 3, none⟩ x3).cell? ⟨g, 4, none⟩ = some u4 ∧ ((((w.setCell ⟨g, 0, none⟩ x0).setCell ⟨g, 1, none⟩ x1).setCell ⟨g, 2, none⟩ x2).setCell ⟨g, 3, none⟩ x3).frozen? ⟨g, 4, none⟩ = false ∧ (((((w.setCell ⟨g, 0, none⟩ x0).setCell ⟨g, 1, none⟩ x1).setCell ⟨g, 2, none⟩ x2).setCell ⟨g, 3, none⟩ x3).setCell ⟨g, 4, none⟩ x4).cell? ⟨g, 5, none⟩ = some u5 ∧ (((((w.setCell ⟨g, 0, none⟩ x0).setCell ⟨g, 1, none⟩ x1).setCell ⟨g, 2, none⟩ x2).setCell ⟨g, 3, none⟩ x3).setCell ⟨g, 4, none⟩ x4).frozen? ⟨g, 5, none⟩ = false ∧ ((((((w.setCell ⟨g, 0, none⟩ x0).setCell ⟨g, 1, none⟩ x1).setCell ⟨g, 2, none⟩ x2).setCell ⟨g, 3, none⟩ x3).setCell ⟨g, 4, none⟩ x4).setCell ⟨g, 5, none⟩ x5).cell? ⟨g, 6, none⟩ = some u6 ∧ ((((((w.setCell ⟨g, 0, none⟩ x0).setCell ⟨g, 1, none⟩ x1).setCell ⟨g, 2, none⟩ x2).setCell ⟨g, 3, none⟩ x3).setCell ⟨g, 4, none⟩ x4).setCell ⟨g, 5, none⟩ x5).frozen? ⟨g, 6, none⟩ = false ∧ (((((((w.setCell ⟨g, 0, none⟩ x0).setCell ⟨g, 1, none⟩ x1).setCell ⟨g, 2, none⟩ x2).setCell ⟨g, 3, none⟩ x3).setCell ⟨g, 4, none⟩ x4).setCell ⟨g, 5, none⟩ x5).setCell ⟨g, 6, none⟩ x6).cell? ⟨g, 7, none⟩ = some u7 ∧ (((((((w.setCell ⟨g, 0, none⟩ x0).setCell ⟨g, 1, none⟩ x1).setCell ⟨g, 2, none⟩ x2).setCell ⟨g, 3, none⟩ x3).setCell ⟨g, 4, none⟩ x4).setCell ⟨g, 5, none⟩ x5).setCell ⟨g, 6, none⟩ x6).frozen? ⟨g, 7, none⟩ = false ∧ ((((((((w.setCell ⟨g, 0, none⟩ x0).setCell ⟨g, 1, none⟩ x1).setCell ⟨g, 2, none⟩ x2).setCell ⟨g, 3, none⟩ x3).setCell ⟨g, 4, none⟩ x4).setCell ⟨g, 5, none⟩ x5).setCell ⟨g, 6, none⟩ x6).setCell ⟨g, 7, none⟩ x7).cell? ⟨g, 8, none⟩ = some u8 ∧ ((((((((w.setCell ⟨g, 0, none⟩ x0).setCell ⟨g, 1, none⟩ x1).setCell ⟨g, 2, none⟩ x2).setCell ⟨g, 3, none⟩ x3).setCell ⟨g, 4, none⟩ x4).setCell ⟨g, 5, none⟩ x5).setCell ⟨g, 6, none⟩ x6).setCell ⟨g, 7, none⟩ x7).frozen? ⟨g, 8, none⟩ = false :=
  ⟨(h.set 0 x0).c 1 _ rfl, (h.set 0 x0).f 1 _ rfl, ((h.set 0 x0).set 1 x1).c 2 _ rfl, ((h.set 0 x0).set 1 x1).f 2 _ rfl, (((h.set 0 x0).set 1 x1).set 2 x2).c 3 _ rfl, (((h.set 0 x0).set 1 x1).set 2 x2).f 3 _ rfl, ((((h.set 0 x0).set 1 x1).set 2 x2).set 3 x3).c 4 _ rfl, ((((h.set 0 x0).set 1 x1).set 2 x2).set 3 x3).f 4 _ rfl, (((((h.set 0 x0).set 1 x1).set 2 x2).set 3 x3).set 4 x4).c 5 _ rfl, (((((h.set 0 x0).set 1 x1).set 2 x2).set 3 x3).set 4 x4).f 5 _ rfl, ((((((h.set 0 x0).set 1 x1).set 2 x2).set 3 x3).set 4 x4).set 5 x5).c 6 _ rfl, ((((((h.set 0 x0).set 1 x1).set 2 x2).set 3 x3).set 4 x4).set 5 x5).f 6 _ rfl, (((((((h.set 0 x0).set 1 x1).set 2 x2).set 3 x3).set 4 x4).set 5 x5).set 6 x6).c 7 _ rfl, (((((((h.set 0 x0).set 1 x1).set 2 x2).set 3 x3).set 4 x4).set 5 x5).set 6 x6).f 7 _ rfl, ((((((((h.set 0 x0).set 1 x1).set 2 x2).set 3 x3).set 4 x4).set 5 x5).set 6 x6).set 7 x7).c 8 _ rfl, ((((((((h.set 0 x0).set 1 x1).set 2 x2).set 3 x3).set 4 x4).set 5 x5).set 6 x6).set 7 x7).f 8 _ rfl⟩
theorem noWord6 (b : Bool) (ao : Option Addr) (n c : Nat) (bo : Option Addr) (k d : Nat) (b' : Bool) (ao' : Option Addr) (n' c' : Nat) (bo' : Option Addr) (k' d' : Nat) : ∀ u ∈ [.bool b, .slice ao n c, .slice bo k d, .bool b', .slice ao' n' c', .slice bo' k' d'], NoWord u := by
  intro u hu; simp at hu; rcases hu with rfl | rfl | rfl | rfl | rfl | rfl
  · exact NoWord.bool _
  · exact NoWord.slice _ _ _
  · exact NoWord.slice _ _ _
  · exact NoWord.bool _
  · exact NoWord.slice _ _ _
  · exact NoWord.slice _ _ _
/-- What was a word is that word. -/
def Kept (w w' : World) : Prop := ∀ (a : Addr) (x : Int), w.cell? a = some (.int .u64 x) → w'.cell? a = some (.int .u64 x)
theorem Kept.refl (w : World) : Kept w w := fun _ _ h => h
theorem Kept.trans {a b c : World} (h : Kept a b) (k : Kept b c) : Kept a c := fun p x e => k p x (h p x e)
theorem Kept.below {w w' : World} (hb : Below w.heap.size w w') : Kept w w' := fun a _ h => (hb.cell (World.block_lt_of_cell? w a h)).trans h
theorem Kept.setOne {w : World} {a : Addr} {u : Value} (hc : w.cell? a = some u) (hu : NoWord u) (v : Value) : Kept w (w.setCell a v) := by
  intro b x h
  have ne : a ≠ b := by
    intro e; rw [e, h] at hc; exact hu _ (Option.some.inj hc).symm
  rw [World.cell?_setCell_other _ _ _ _ (by first | exact ne | exact ne.symm)]; exact h
theorem Reads.kept {w w' : World} {ao : Option Addr} {n : Nat} {f : Nat → Nat} (h : Reads w ao n f) (k : Kept w w') : Reads w' ao n f := by
  intro i hi; obtain ⟨b, o, e, h1, h2⟩ := h i hi; exact ⟨b, o, e, k _ _ h1, h2⟩
theorem Mag.kept {w w' : World} {v : Value} {L N : Nat} (h : Mag w v L N) (k : Kept w w') : Mag w' v L N := by
  obtain ⟨ao, n, c, f, h1, h2, h3, h4, h5⟩ := h; exact ⟨ao, n, c, f, h1, h2, h3, h4.kept k, h5⟩
theorem RMag.kept {w w' : World} {v : Value} {L N : Nat} (h : RMag w v L N) (k : Kept w w') : RMag w' v L N := by
  obtain ⟨ao, n, c, f, h1, h2, h3, h4, h5⟩ := h; exact ⟨ao, n, c, f, h1, h2, h3, h4.kept k, h5⟩
theorem Num.kept {w w' : World} {v : Value} {L : Nat} {N : Int} (h : Num w v L N) (k : Kept w w') : Num w' v L N := by
  obtain ⟨m, vm, M, h1, h2, h3⟩ := h; exact ⟨m, vm, M, h1, h2.kept k, h3⟩
theorem RNum.kept {w w' : World} {v : Value} {L : Nat} {N : Int} (h : RNum w v L N) (k : Kept w w') : RNum w' v L N := by
  obtain ⟨m, vm, M, h1, h2, h3⟩ := h; exact ⟨m, vm, M, h1, h2.kept k, h3⟩
theorem FD.kept {w w' : World} {v : Value} {L : Nat} {X : Int} {D : Nat} (h : FD w v L X D) (k : Kept w w') : FD w' v L X D := by
  obtain ⟨m, ao, n, c, bo, k', d, h1, h2, h3⟩ := h; exact ⟨m, ao, n, c, bo, k', d, h1, h2.kept k, h3.kept k⟩
theorem RF.kept {w w' : World} {v : Value} {L : Nat} {q : Rat} (h : RF w v L q) (k : Kept w w') : RF w' v L q := by
  obtain ⟨m, ao, n, c, bo, k', d, h1, h2, h3⟩ := h; exact ⟨m, ao, n, c, bo, k', d, h1, h2.kept k, h3.kept k⟩
theorem FQ.kept {w w' : World} {v : Value} {L : Nat} {q : Rat} (h : FQ w v L q) (k : Kept w w') : FQ w' v L q := by
  obtain ⟨X, D, h1, h2⟩ := h; exact ⟨X, D, h1.kept k, h2⟩
theorem FQ.of {w : World} {v : Value} {L : Nat} {p q : Rat} (h : FQ w v L p) (e : p = q) : FQ w v L q := e ▸ h
/-- A call's answer is a Spot: two right Fracs of at most L words. -/
def AnsS (w w' : World) (e : Ending) (L : Nat) (p q : Rat) : Prop := ∃ m ao n c bo k d m2 ao2 n2 c2 bo2 k2 d2, e = .returned (.agg #[.bool m, .slice ao n c, .slice bo k d, .bool m2, .slice ao2 n2 c2, .slice bo2 k2 d2]) ∧
  RF w' (.agg #[.bool m, .slice ao n c, .slice bo k d]) L p ∧ RF w' (.agg #[.bool m2, .slice ao2 n2 c2, .slice bo2 k2 d2]) L q ∧ Below w.heap.size w w'
theorem AnsS.of {w w' : World} {e : Ending} {L L' : Nat} {p q p' q' : Rat} (h : AnsS w w' e L p q) (hL : L ≤ L') (hp : p = p') (hq : q = q') : AnsS w w' e L' p' q' := by
  subst hp hq; obtain ⟨m, ao, n, c, bo, k, d, m2, ao2, n2, c2, bo2, k2, d2, h1, h2, h3, h4⟩ := h; exact ⟨m, ao, n, c, bo, k, d, m2, ao2, n2, c2, bo2, k2, d2, h1, h2.more hL, h3.more hL, h4⟩
end Go.MagM
/- Rational numbers: what the calls of frac answer. Over no program. -/
namespace Go.MagM
open Go.RowKit
theorem bl_ne {D : Nat} (h0 : D ≠ 0) : (((bl D : Nat) : Int) == 0) = false := by
  have := bl_pos h0
  simp only [beq_eq_false_iff_ne]; omega
theorem bl_eq_one {D : Nat} (h : bl D = 1) : D = 1 := by
  have h1 := bl_lt D
  rw [h] at h1
  have : D ≠ 0 := by intro h0; subst h0; simp [bl_zero] at h
  omega
theorem bl_ne_one {D : Nat} (h : D ≠ 1) : (((bl D : Nat) : Int) == 1) = false := by
  have : bl D ≠ 1 := fun e => h (bl_eq_one e)
  simp only [beq_eq_false_iff_ne]; omega
theorem qv_eq (X : Int) (D : Nat) : qv X D = (X : Rat) / ((den1 D : Nat) : Rat) := by
  unfold qv; exact Rat.mkRat_eq_div _ _
theorem sgn_natAbs (m : Bool) (N : Nat) : (sgn m N).natAbs = N := by cases m <;> simp [sgn]
theorem qnum (m : Bool) (N D : Nat) (h : D ≠ 0) : (mkRat (sgn m N) D).num = sgn m (N / Nat.gcd N D) := by
  rw [Rat.num_mkRat, if_neg h, sgn_natAbs, Nat.gcd_comm D N]
  have hd : Nat.gcd N D ∣ N := Nat.gcd_dvd_left _ _
  cases m <;> simp only [sgn, if_true, if_false, Bool.false_eq_true]
  · exact (Int.natCast_ediv _ _).symm
  · rw [Int.neg_ediv_of_dvd (Int.natCast_dvd_natCast.2 hd), Int.natCast_ediv]
theorem qden (m : Bool) (N D : Nat) (h : D ≠ 0) : (mkRat (sgn m N) D).den = D / Nat.gcd N D := by
  rw [Rat.den_mkRat, if_neg h, sgn_natAbs, Nat.gcd_comm D N]
theorem low_any {w : World} {m : Bool} {ao bo : Option Addr} {n c k d L N D : Nat} (h : D ≠ 0) (h1 : RMag w (.slice ao n c) L (N / Nat.gcd N D)) (hm : m = true → N ≠ 0) (h2 : RMag w (.slice bo k d) L (D / Nat.gcd N D)) :
    RF w (.agg #[.bool m, .slice ao n c, .slice bo k d]) L (mkRat (sgn m N) D) := by
  refine ⟨m, ao, n, c, bo, k, d, rfl, ⟨m, _, N / Nat.gcd N D, rfl, h1, qnum m N D h, fun e => ?_⟩, by rw [qden m N D h]; exact h2⟩
  have := hm e
  exact Nat.ne_of_gt (Nat.div_pos (Nat.le_of_dvd (by omega) (Nat.gcd_dvd_left _ _)) (Nat.gcd_pos_of_pos_left _ (by omega)))
theorem low_lone {w : World} {m : Bool} {ao bo : Option Addr} {n c k d L D : Nat} {X : Int} (h : D ≠ 0) (hg : Nat.gcd X.natAbs D = 1) (h1 : RNum w (.agg #[.bool m, .slice ao n c]) L X) (h2 : RMag w (.slice bo k d) L D) :
    RF w (.agg #[.bool m, .slice ao n c, .slice bo k d]) L (mkRat X D) := by
  obtain ⟨N, h3, rfl, h4⟩ := h1.part
  rw [sgn_natAbs] at hg
  exact low_any h (by rw [hg, Nat.div_one]; exact h3) h4 (by rw [hg, Nat.div_one]; exact h2)
theorem low_one {w : World} {m : Bool} {ao bo : Option Addr} {n c k d L : Nat} {X : Int} (h1 : RNum w (.agg #[.bool m, .slice ao n c]) L X) (h2 : RMag w (.slice bo k d) L 1) :
    RF w (.agg #[.bool m, .slice ao n c, .slice bo k d]) L (mkRat X 1) := low_lone (by omega) (Nat.gcd_one_right _) h1 h2
end Go.MagM
/- Rational numbers, on: sums, products, quotients, order, the greatest whole number below. Over no program. -/
namespace Go.MagM
open Go.RowKit
open Go.Proofs.Ytkcfaddilknelaa (icmp icmp_lt icmp_gt icmp_self)
theorem den1_q (D : Nat) : (0 : Rat) < ((den1 D : Nat) : Rat) := Rat.natCast_pos.2 (den1_pos D)
theorem den1_q0 (D : Nat) : ((den1 D : Nat) : Rat) ≠ 0 := by have := den1_q D; grind
theorem qv_mul_den (X : Int) (D : Nat) : qv X D * ((den1 D : Nat) : Rat) = (X : Rat) := by rw [qv_eq]; exact Rat.div_mul_cancel (den1_q0 D)
theorem qv_add (X Y : Int) (D E : Nat) : mkRat (X * den1 E + Y * den1 D) (den1 D * den1 E) = qv X D + qv Y E := (Rat.mkRat_add_mkRat X Y (den1_ne D) (den1_ne E)).symm
theorem qv_mul (X Y : Int) (D E : Nat) : mkRat (X * Y) (den1 D * den1 E) = qv X D * qv Y E := (Rat.mkRat_mul_mkRat X Y _ _).symm
theorem qv_neg (X : Int) (D : Nat) : mkRat (-X) (den1 D) = -qv X D := (Rat.neg_mkRat X _).symm
theorem qv_neg' (X : Int) (D : Nat) : qv (-X) D = -qv X D := qv_neg X D
theorem mkRat_one_int (X : Int) : mkRat X 1 = (X : Rat) := by rw [Rat.mkRat_eq_div, Rat.div_def, show ((1 : Nat) : Rat)⁻¹ = 1 from Rat.inv_eq_of_mul_eq_one (Rat.mul_one 1), Rat.mul_one]
theorem qv_one (X : Int) : qv X 1 = (X : Rat) := mkRat_one_int X
theorem qv_num_lt {X Y : Int} {D E : Nat} : qv X D < qv Y E ↔ X * den1 E < Y * den1 D := by
  have h1 := qv_mul_den X D
  have h2 := qv_mul_den Y E
  have hD := den1_q D
  have hE := den1_q E
  have e1 : ((X * (den1 E : Nat) : Int) : Rat) = qv X D * (((den1 D : Nat) : Rat) * ((den1 E : Nat) : Rat)) := by
    rw [Rat.intCast_mul, ← h1, Rat.intCast_natCast, Rat.mul_assoc]
  have e2 : ((Y * (den1 D : Nat) : Int) : Rat) = qv Y E * (((den1 D : Nat) : Rat) * ((den1 E : Nat) : Rat)) := by
    rw [Rat.intCast_mul, ← h2, Rat.intCast_natCast, Rat.mul_assoc, Rat.mul_comm ((den1 E : Nat) : Rat)]
  rw [← Rat.intCast_lt_intCast, e1, e2, Rat.mul_lt_mul_right (Rat.mul_pos hD hE)]
/-- Less, the same, more: -1, 0, 1. -/
def qcmp (p q : Rat) : Int := if p < q then -1 else if q < p then 1 else 0
theorem icmp_q (X Y : Int) (D E : Nat) : icmp (X * den1 E) (Y * den1 D) = qcmp (qv X D) (qv Y E) := by
  unfold icmp qcmp
  simp only [qv_num_lt]
theorem qcmp_lt {p q : Rat} (h : p < q) : qcmp p q = -1 := if_pos h
theorem qcmp_gt {p q : Rat} (h : q < p) : qcmp p q = 1 := by
  have : ¬ p < q := by grind
  unfold qcmp; rw [if_neg this, if_pos h]
theorem qcmp_self (p : Rat) : qcmp p p = 0 := by
  have : ¬ p < p := Rat.lt_irrefl
  unfold qcmp; rw [if_neg this, if_neg this]
theorem qcmp_zero {p q : Rat} : qcmp p q = 0 ↔ p = q := by
  constructor
  · intro h
    unfold qcmp at h
    split at h
    · omega
    · split at h
      · omega
      · grind
  · intro h; subst h; exact qcmp_self _
theorem sign_den (X : Int) (E : Nat) : (X * (den1 E : Nat)).sign = X.sign := by
  rw [Int.sign_mul, Int.sign_natCast_of_ne_zero (den1_ne E), Int.mul_one]
theorem icmp_sign {x y : Int} (h : x.sign ≠ y.sign) : icmp x.sign y.sign = icmp x y := by
  rcases Int.lt_trichotomy x 0 with a | a | a <;> rcases Int.lt_trichotomy y 0 with b | b | b
  · exact absurd ((Int.sign_eq_neg_one_of_neg a).trans (Int.sign_eq_neg_one_of_neg b).symm) h
  · subst b; rw [Int.sign_eq_neg_one_of_neg a, icmp_lt a]; rfl
  · rw [Int.sign_eq_neg_one_of_neg a, Int.sign_eq_one_of_pos b, icmp_lt (by omega : x < y)]; rfl
  · subst a; rw [Int.sign_eq_neg_one_of_neg b, icmp_gt b]; rfl
  · subst a; subst b; exact absurd rfl h
  · subst a; rw [Int.sign_eq_one_of_pos b, icmp_lt b]; rfl
  · rw [Int.sign_eq_one_of_pos a, Int.sign_eq_neg_one_of_neg b, icmp_gt (by omega : y < x)]; rfl
  · subst b; rw [Int.sign_eq_one_of_pos a, icmp_gt a]; rfl
  · exact absurd ((Int.sign_eq_one_of_pos a).trans (Int.sign_eq_one_of_pos b).symm) h
theorem icmp_sign_q (X Y : Int) (D E : Nat) (h : X.sign ≠ Y.sign) : icmp X.sign Y.sign = qcmp (qv X D) (qv Y E) := by
  rw [← icmp_q, ← sign_den X E, ← sign_den Y D]
  exact icmp_sign (by rw [sign_den, sign_den]; exact h)
theorem sgn_zero {m : Bool} {N : Nat} (h : sgn m N ≠ 0) : N ≠ 0 := by
  intro e; subst e; apply h; cases m <;> rfl
theorem sgn_ne {m : Bool} {N : Nat} (h : N ≠ 0) : sgn m N ≠ 0 := by
  cases m <;> simp only [sgn, if_true, if_false, Bool.false_eq_true] <;> omega
theorem qv_ne {X : Int} {D : Nat} (h : X ≠ 0) : qv X D ≠ 0 := (Rat.mkRat_ne_zero (den1_ne D)).2 h
theorem qv_zero (D : Nat) : qv 0 D = 0 := Rat.zero_mkRat _
/-- What a number is turned into, to divide by it. -/
theorem qv_over (m : Bool) (N E : Nat) (h : N ≠ 0) : qv (sgn m (den1 E)) N = (qv (sgn m N) E)⁻¹ := by
  symm
  apply Rat.inv_eq_of_mul_eq_one
  rw [← qv_mul, ← sgn_mul, den1_of h]
  have e : (m != m) = false := by cases m <;> rfl
  rw [e, sgn_false, Nat.mul_comm (den1 E) N, Rat.mkRat_eq_div, Rat.intCast_natCast]
  exact (Rat.div_def _ _).trans (Rat.mul_inv_cancel _ (by
    have : N * den1 E ≠ 0 := Nat.mul_ne_zero h (den1_ne E)
    intro e; exact this (Rat.natCast_eq_zero_iff.1 e)))
theorem qv_div (X : Int) (D : Nat) (m : Bool) (N E : Nat) (h : N ≠ 0) : qv X D * qv (sgn m (den1 E)) N = qv X D / qv (sgn m N) E := by
  rw [qv_over m N E h, Rat.div_def]
theorem make_eq (m k : Bool) (N M : Nat) (h : M ≠ 0) : mkRat (sgn (m != k) N) M = ((sgn m N : Int) : Rat) / ((sgn k M : Int) : Rat) := by
  have h1 := qv_div (sgn m N) 1 k M 1 h
  rw [qv_one, qv_one, show den1 1 = 1 from rfl] at h1
  rw [← h1]
  have h2 : (sgn m N) * (sgn k 1) = sgn (m != k) (N * 1) := (sgn_mul m k N 1).symm
  rw [← qv_one (sgn m N), ← qv_mul, h2, Nat.mul_one, show den1 1 = 1 from rfl, Nat.one_mul, den1_of h]
/-- The greatest whole number that isn't above. -/
theorem qv_floor (X : Int) (D : Nat) : (qv X D).floor = X.fdiv (den1 D : Nat) := by
  have hD := den1_q D
  have hp : (0 : Int) < (den1 D : Nat) := by have := den1_pos D; omega
  have key : ∀ n : Int, n ≤ (qv X D).floor ↔ n ≤ X.fdiv (den1 D : Nat) := by
    intro n
    rw [Rat.le_floor_iff, Int.fdiv_eq_ediv_of_nonneg _ (Int.natCast_nonneg _), Int.le_ediv_iff_mul_le hp, ← Rat.intCast_le_intCast]
    have e : ((n * (den1 D : Nat) : Int) : Rat) = (n : Rat) * ((den1 D : Nat) : Rat) := by rw [Rat.intCast_mul, Rat.intCast_natCast]
    have e2 := qv_mul_den X D
    generalize ((den1 D : Nat) : Rat) = d at *
    generalize qv X D = x at *
    rw [e, ← e2]
    exact ⟨fun h => Rat.mul_le_mul_of_nonneg_right h (Rat.le_of_lt hD), fun h => Rat.le_of_mul_le_mul_right h hD⟩
  exact Int.le_antisymm ((key _).1 (Int.le_refl _)) ((key _).2 (Int.le_refl _))
/-- The nearest whole number; of two the even one. -/
def rnd (q : Rat) : Int := if 2 * (q - q.floor) < 1 ∨ (2 * (q - q.floor) = 1 ∧ q.floor % 2 = 0) then q.floor else q.floor + 1
end Go.MagM
/- The calls of wide: below, less, across, size, Of, Sign. -/
namespace Go.Proofs.Ytkcfaddilknelaa
open Go.RowKit Go.MagM
/-- A call's answer is a number of 128 bits. -/
def AnsW (w w' : World) (e : Ending) (z : Int) : Prop := e = .returned (.agg #[.int .u64 ((wh z : Nat) : Int), .int .u64 ((wl z : Nat) : Int)]) ∧ Below w.heap.size w w'
set_option maxHeartbeats 4000000 in
theorem below_walk (ah al : Nat) (b : Bool) (w : World) (hb : (bits .and .u64 (ah : Int) 9223372036854775808 != 0) = b) :
    Calls Try.prog 72 #[.agg #[.int .u64 ((ah : Nat) : Int), .int .u64 ((al : Nat) : Int)]] w fun e w' => e = .returned (.bool b) ∧ Below w.heap.size w w' := by
  have hB_0 := Below.refl w.heap.size w
  obtain ⟨w1, hw1, pa_0, hb1, hs1⟩ := new_box w (w.heap.size) rfl [.int .u64 ((ah : Nat) : Int), .int .u64 ((al : Nat) : Int)] 78
  have hb1' : Below w.heap.size w w1 := hb1.mono (by omega)
  clear hb1
  have hB_1 := hB_0.trans (hb1'.mono hB_0.size)
  clear hb1' hB_0
  go_enter Try.func72, Try.ntmps72
  obtain ⟨pae0, pae1, pae2, pae3⟩ := pa_0.open2
  go_wp2
  go_ret
  exact ⟨rfl, hB_1⟩
set_option maxHeartbeats 4000000 in
theorem less_walk (ah al : Nat) (bh bl : Nat) (H L k : Nat) (w : World) (h1 : (al + B - bl - 0) % B = L) (h2 : bor al bl 0 = k) (h3 : (ah + B - bh - k) % B = H) (hk : k ≤ 1) :
    Calls Try.prog 84 #[.agg #[.int .u64 ((ah : Nat) : Int), .int .u64 ((al : Nat) : Int)], .agg #[.int .u64 ((bh : Nat) : Int), .int .u64 ((bl : Nat) : Int)]] w fun e w' => e = .returned (.agg #[.int .u64 ((H : Nat) : Int), .int .u64 ((L : Nat) : Int)]) ∧ Below w.heap.size w w' := by
  have hB_0 := Below.refl w.heap.size w
  have hsub1 := fun w => sub64_run al bl 0 (by omega) w
  have hsub2 := fun w => sub64_run ah bh k (by omega) w
  simp only [h1, h2] at hsub1
  simp only [h3] at hsub2
  have hs1 : ∀ w, (callFunc 98 #[.int .u64 al, .int .u64 bl, .int .u64 0]).run Try.prog w = .ok (.value (.tuple #[.int .u64 L, .int .u64 k])) w := hsub1
  clear hsub1 h1 h2 h3
  obtain ⟨w1, hw1, pa_0, hb1, hs1⟩ := new_box w (w.heap.size) rfl [.int .u64 ((ah : Nat) : Int), .int .u64 ((al : Nat) : Int)] 78
  have hb1' : Below w.heap.size w w1 := hb1.mono (by omega)
  clear hb1
  have hB_1 := hB_0.trans (hb1'.mono hB_0.size)
  clear hb1' hB_0
  obtain ⟨w2, hw2, pb_0, hb2, hs2⟩ := new_box w1 (w.heap.size + 1) hs1 [.int .u64 ((bh : Nat) : Int), .int .u64 ((bl : Nat) : Int)] 78
  have hb2' : Below w1.heap.size w1 w2 := hb2.mono (by omega)
  clear hb2
  have hB_2 := hB_1.trans (hb2'.mono hB_1.size)
  have pa_1 := pa_0.below hb2'
  clear hb2' hB_1 pa_0
  obtain ⟨w3, hw3, pr_0, hb3, hs3⟩ := new_box w2 (w.heap.size + 1 + 1) hs2 [.int .u64 0, .int .u64 0] 78
  have hb3' : Below w2.heap.size w2 w3 := hb3.mono (by omega)
  clear hb3
  have hB_3 := hB_2.trans (hb3'.mono hB_2.size)
  have pa_2 := pa_1.below hb3'
  have pb_1 := pb_0.below hb3'
  clear hb3' hB_2 pa_1 pb_0
  go_enter Try.func84, Try.ntmps84
  obtain ⟨pae0, pae1, pae2, pae3⟩ := pa_2.open2
  obtain ⟨pbe0, pbe1, pbe2, pbe3⟩ := pb_1.open2
  obtain ⟨pre0, pre1, pre2, pre3⟩ := pr_0.open2
  obtain ⟨sf1a, sf1b, sf1c, sf1d⟩ := pr_0.open2
  obtain ⟨sg1a, sg1b⟩ := Box.put2 pr_0 (.int .u64 ((H : Nat) : Int))
  go_wp2
  clear pae0 pae1 pae2 pae3 pbe0 pbe1 pbe2 pbe3 pre0 pre1 pre2 pre3 sf1a sf1b sf1c sf1d sg1a sg1b
  have hB_4 := below_setAll hB_3 (g := w.heap.size + 1 + 1) (by omega) [.int .u64 ((H : Nat) : Int), .int .u64 ((L : Nat) : Int)]
  have pa_3 := pa_2.farAll (g' := w.heap.size + 1 + 1) (by omega) [.int .u64 ((H : Nat) : Int), .int .u64 ((L : Nat) : Int)]
  have pb_2 := pb_1.farAll (g' := w.heap.size + 1 + 1) (by omega) [.int .u64 ((H : Nat) : Int), .int .u64 ((L : Nat) : Int)]
  have pr_1 := pr_0.setAll [.int .u64 ((H : Nat) : Int), .int .u64 ((L : Nat) : Int)] rfl
  simp only [setAll, Nat.zero_add] at hB_4 pa_3 pb_2 pr_1
  clear hB_3 pa_2 pb_1 pr_0
  generalize (World.setCell (World.setCell w3 ⟨w.heap.size + 1 + 1, 0, none⟩ (.int .u64 ((H : Nat) : Int))) ⟨w.heap.size + 1 + 1, 1, none⟩ (.int .u64 ((L : Nat) : Int))) = w4 at *
  go_wp2
  obtain ⟨pre0, pre1, pre2, pre3⟩ := pr_1.open2
  exact bodyPost_ret (v := .agg #[.int .u64 ((H : Nat) : Int), .int .u64 ((L : Nat) : Int)]) (by simp [results, Try.results84, go_sem, pre0, pre1]) rfl ⟨rfl, hB_4⟩
theorem high_and (h : Nat) (hB : h < B) : h &&& 9223372036854775808 = if 9223372036854775808 ≤ h then 9223372036854775808 else 0 := by
  have e : (9223372036854775808 : Nat) = 2 ^ 63 := by decide
  unfold B at hB
  apply Nat.eq_of_testBit_eq
  intro i
  rw [Nat.testBit_and]
  split
  · rename_i c
    rw [e, Nat.testBit_two_pow]
    by_cases hi : 63 = i
    · subst hi
      have : h / 2 ^ 63 % 2 = 1 := by omega
      simp [Nat.testBit_eq_decide_div_mod_eq, this]
    · simp [hi]
  · rename_i c
    rw [e, Nat.testBit_two_pow, Nat.zero_testBit]
    by_cases hi : 63 = i
    · subst hi
      rw [Nat.testBit_lt_two_pow (by omega)]; rfl
    · simp [hi]
theorem below_bit {z : Int} (hz : InW z) : (bits .and .u64 ((wh z : Nat) : Int) 9223372036854775808 != 0) = decide (z < 0) := by
  have h2 : bits .and .u64 ((wh z : Nat) : Int) 9223372036854775808 = ((wh z &&& 9223372036854775808 : Nat) : Int) := bits_and_u64_nat (wh z) 9223372036854775808 (by have := wh_lt z; unfold B at this; omega) (by omega)
  rw [h2, high_and _ (wh_lt z)]
  have h3 := w_neg hz
  by_cases c : z < 0
  · rw [if_pos (h3.2 c)]; simp [c]
  · rw [if_neg (mt h3.1 c)]; simp [c]
theorem wbelow_any (z : Int) (hz : InW z) (w : World) : Calls Try.prog 72 #[.agg #[.int .u64 ((wh (z) : Nat) : Int), .int .u64 ((wl (z) : Nat) : Int)]] w fun e w' => e = .returned (.bool (decide (z < 0))) ∧ Below w.heap.size w w' :=
  below_walk _ _ _ w (below_bit hz)
theorem less_any (x y : Int) (w : World) : Calls Try.prog 84 #[.agg #[.int .u64 ((wh (x) : Nat) : Int), .int .u64 ((wl (x) : Nat) : Int)], .agg #[.int .u64 ((wh (y) : Nat) : Int), .int .u64 ((wl (y) : Nat) : Int)]] w fun e w' => AnsW w w' e (x - y) := by
  obtain ⟨h1, h2⟩ := w_sub x y
  exact less_walk _ _ _ _ _ _ _ w h2 rfl h1 (bor_le _ _ _)
theorem less_zero (y : Int) (w : World) : Calls Try.prog 84 #[.agg #[.int .u64 0, .int .u64 0], .agg #[.int .u64 ((wh (y) : Nat) : Int), .int .u64 ((wl (y) : Nat) : Int)]] w fun e w' => AnsW w w' e (-y) := by
  have h := less_any 0 y w
  rw [Int.zero_sub] at h
  exact h
set_option maxHeartbeats 4000000 in
theorem across_any (z : Int) (w : World) :
    Calls Try.prog 97 #[.agg #[.int .u64 ((wh (z) : Nat) : Int), .int .u64 ((wl (z) : Nat) : Int)]] w fun e w' => AnsW w w' e (-z) := by
  have hB_0 := Below.refl w.heap.size w
  obtain ⟨w1, hw1, pa_0, hb1, hs1⟩ := new_box w (w.heap.size) rfl [.int .u64 ((wh (z) : Nat) : Int), .int .u64 ((wl (z) : Nat) : Int)] 78
  have hb1' : Below w.heap.size w w1 := hb1.mono (by omega)
  clear hb1
  have hB_1 := hB_0.trans (hb1'.mono hB_0.size)
  clear hb1' hB_0
  obtain ⟨w2, hw2, pr_0, hb2, hs2⟩ := new_box w1 (w.heap.size + 1) hs1 [.int .u64 0, .int .u64 0] 78
  have hb2' : Below w1.heap.size w1 w2 := hb2.mono (by omega)
  clear hb2
  have hB_2 := hB_1.trans (hb2'.mono hB_1.size)
  have pa_1 := pa_0.below hb2'
  clear hb2' hB_1 pa_0
  go_enter Try.func97, Try.ntmps97
  obtain ⟨pae0, pae1, pae2, pae3⟩ := pa_1.open2
  obtain ⟨pre0, pre1, pre2, pre3⟩ := pr_0.open2
  go_wp2_with fail
  refine (less_zero z _).mono ?_
  rintro e w3 ⟨rfl, hb3⟩
  clear pae0 pae1 pae2 pae3 pre0 pre1 pre2 pre3
  have hB_3 := hB_2.trans (hb3.mono hB_2.size)
  have pa_2 := pa_1.below hb3
  have pr_1 := pr_0.below hb3
  clear hb3 hB_2 pa_1 pr_0
  obtain ⟨pae0, pae1, pae2, pae3⟩ := pa_2.open2
  obtain ⟨pre0, pre1, pre2, pre3⟩ := pr_1.open2
  obtain ⟨sf1a, sf1b, sf1c, sf1d⟩ := pr_1.open2
  obtain ⟨sg1a, sg1b⟩ := Box.put2 pr_1 (.int .u64 ((wh (-z) : Nat) : Int))
  go_wp2
  clear pae0 pae1 pae2 pae3 pre0 pre1 pre2 pre3 sf1a sf1b sf1c sf1d sg1a sg1b
  have hB_4 := below_setAll hB_3 (g := w.heap.size + 1) (by omega) [.int .u64 ((wh (-z) : Nat) : Int), .int .u64 ((wl (-z) : Nat) : Int)]
  have pa_3 := pa_2.farAll (g' := w.heap.size + 1) (by omega) [.int .u64 ((wh (-z) : Nat) : Int), .int .u64 ((wl (-z) : Nat) : Int)]
  have pr_2 := pr_1.setAll [.int .u64 ((wh (-z) : Nat) : Int), .int .u64 ((wl (-z) : Nat) : Int)] rfl
  simp only [setAll, Nat.zero_add] at hB_4 pa_3 pr_2
  clear hB_3 pa_2 pr_1
  generalize (World.setCell (World.setCell w3 ⟨w.heap.size + 1, 0, none⟩ (.int .u64 ((wh (-z) : Nat) : Int))) ⟨w.heap.size + 1, 1, none⟩ (.int .u64 ((wl (-z) : Nat) : Int))) = w4 at *
  go_wp2
  obtain ⟨pre0, pre1, pre2, pre3⟩ := pr_2.open2
  exact bodyPost_ret (v := .agg #[.int .u64 ((wh (-z) : Nat) : Int), .int .u64 ((wl (-z) : Nat) : Int)]) (by simp [results, Try.results97, go_sem, pre0, pre1]) rfl ⟨rfl, hB_4⟩
set_option maxHeartbeats 4000000 in
theorem size_neg (z : Int) (w : World) (hz : InW z) (h0 : z < 0) :
    Calls Try.prog 83 #[.agg #[.int .u64 ((wh (z) : Nat) : Int), .int .u64 ((wl (z) : Nat) : Int)]] w fun e w' => AnsW w w' e (-z) := by
  have hbel : ∀ w, Calls Try.prog 72 #[.agg #[.int .u64 ((wh (z) : Nat) : Int), .int .u64 ((wl (z) : Nat) : Int)]] w fun e w' => e = .returned (.bool true) ∧ Below w.heap.size w w' := by
    intro w; have := wbelow_any z hz w; simpa only [h0, decide_true] using this
  have hB_0 := Below.refl w.heap.size w
  obtain ⟨w1, hw1, pa_0, hb1, hs1⟩ := new_box w (w.heap.size) rfl [.int .u64 ((wh (z) : Nat) : Int), .int .u64 ((wl (z) : Nat) : Int)] 78
  have hb1' : Below w.heap.size w w1 := hb1.mono (by omega)
  clear hb1
  have hB_1 := hB_0.trans (hb1'.mono hB_0.size)
  clear hb1' hB_0
  obtain ⟨w2, hw2, pr_0, hb2, hs2⟩ := new_box w1 (w.heap.size + 1) hs1 [.int .u64 0, .int .u64 0] 78
  have hb2' : Below w1.heap.size w1 w2 := hb2.mono (by omega)
  clear hb2
  have hB_2 := hB_1.trans (hb2'.mono hB_1.size)
  have pa_1 := pa_0.below hb2'
  clear hb2' hB_1 pa_0
  go_enter Try.func83, Try.ntmps83
  obtain ⟨pae0, pae1, pae2, pae3⟩ := pa_1.open2
  obtain ⟨pre0, pre1, pre2, pre3⟩ := pr_0.open2
  go_wp2_with fail
  refine (hbel _).mono ?_
  rintro e w3 ⟨rfl, hb3⟩
  clear pae0 pae1 pae2 pae3 pre0 pre1 pre2 pre3
  have hB_3 := hB_2.trans (hb3.mono hB_2.size)
  have pa_2 := pa_1.below hb3
  have pr_1 := pr_0.below hb3
  clear hb3 hB_2 pa_1 pr_0
  obtain ⟨pae0, pae1, pae2, pae3⟩ := pa_2.open2
  obtain ⟨pre0, pre1, pre2, pre3⟩ := pr_1.open2
  go_wp2_with fail
  refine (across_any z _).mono ?_
  rintro e w4 ⟨rfl, hb4⟩
  clear pae0 pae1 pae2 pae3 pre0 pre1 pre2 pre3
  have hB_4 := hB_3.trans (hb4.mono hB_3.size)
  have pa_3 := pa_2.below hb4
  have pr_2 := pr_1.below hb4
  clear hb4 hB_3 pa_2 pr_1
  obtain ⟨pae0, pae1, pae2, pae3⟩ := pa_3.open2
  obtain ⟨pre0, pre1, pre2, pre3⟩ := pr_2.open2
  obtain ⟨sf1a, sf1b, sf1c, sf1d⟩ := pr_2.open2
  obtain ⟨sg1a, sg1b⟩ := Box.put2 pr_2 (.int .u64 ((wh (-z) : Nat) : Int))
  go_wp2
  clear pae0 pae1 pae2 pae3 pre0 pre1 pre2 pre3 sf1a sf1b sf1c sf1d sg1a sg1b
  have hB_5 := below_setAll hB_4 (g := w.heap.size + 1) (by omega) [.int .u64 ((wh (-z) : Nat) : Int), .int .u64 ((wl (-z) : Nat) : Int)]
  have pa_4 := pa_3.farAll (g' := w.heap.size + 1) (by omega) [.int .u64 ((wh (-z) : Nat) : Int), .int .u64 ((wl (-z) : Nat) : Int)]
  have pr_3 := pr_2.setAll [.int .u64 ((wh (-z) : Nat) : Int), .int .u64 ((wl (-z) : Nat) : Int)] rfl
  simp only [setAll, Nat.zero_add] at hB_5 pa_4 pr_3
  clear hB_4 pa_3 pr_2
  generalize (World.setCell (World.setCell w4 ⟨w.heap.size + 1, 0, none⟩ (.int .u64 ((wh (-z) : Nat) : Int))) ⟨w.heap.size + 1, 1, none⟩ (.int .u64 ((wl (-z) : Nat) : Int))) = w5 at *
  go_wp2
  obtain ⟨pre0, pre1, pre2, pre3⟩ := pr_3.open2
  exact bodyPost_ret (v := .agg #[.int .u64 ((wh (-z) : Nat) : Int), .int .u64 ((wl (-z) : Nat) : Int)]) (by simp [results, Try.results83, go_sem, pre0, pre1]) rfl ⟨rfl, hB_5⟩
set_option maxHeartbeats 4000000 in
theorem size_pos (z : Int) (w : World) (hz : InW z) (h0 : ¬ z < 0) :
    Calls Try.prog 83 #[.agg #[.int .u64 ((wh (z) : Nat) : Int), .int .u64 ((wl (z) : Nat) : Int)]] w fun e w' => AnsW w w' e (z) := by
  have hbel : ∀ w, Calls Try.prog 72 #[.agg #[.int .u64 ((wh (z) : Nat) : Int), .int .u64 ((wl (z) : Nat) : Int)]] w fun e w' => e = .returned (.bool false) ∧ Below w.heap.size w w' := by
    intro w; have := wbelow_any z hz w; simpa only [h0, decide_false] using this
  have hB_0 := Below.refl w.heap.size w
  obtain ⟨w1, hw1, pa_0, hb1, hs1⟩ := new_box w (w.heap.size) rfl [.int .u64 ((wh (z) : Nat) : Int), .int .u64 ((wl (z) : Nat) : Int)] 78
  have hb1' : Below w.heap.size w w1 := hb1.mono (by omega)
  clear hb1
  have hB_1 := hB_0.trans (hb1'.mono hB_0.size)
  clear hb1' hB_0
  obtain ⟨w2, hw2, pr_0, hb2, hs2⟩ := new_box w1 (w.heap.size + 1) hs1 [.int .u64 0, .int .u64 0] 78
  have hb2' : Below w1.heap.size w1 w2 := hb2.mono (by omega)
  clear hb2
  have hB_2 := hB_1.trans (hb2'.mono hB_1.size)
  have pa_1 := pa_0.below hb2'
  clear hb2' hB_1 pa_0
  go_enter Try.func83, Try.ntmps83
  obtain ⟨pae0, pae1, pae2, pae3⟩ := pa_1.open2
  obtain ⟨pre0, pre1, pre2, pre3⟩ := pr_0.open2
  go_wp2_with fail
  refine (hbel _).mono ?_
  rintro e w3 ⟨rfl, hb3⟩
  clear pae0 pae1 pae2 pae3 pre0 pre1 pre2 pre3
  have hB_3 := hB_2.trans (hb3.mono hB_2.size)
  have pa_2 := pa_1.below hb3
  have pr_1 := pr_0.below hb3
  clear hb3 hB_2 pa_1 pr_0
  obtain ⟨pae0, pae1, pae2, pae3⟩ := pa_2.open2
  obtain ⟨pre0, pre1, pre2, pre3⟩ := pr_1.open2
  obtain ⟨sf1a, sf1b, sf1c, sf1d⟩ := pr_1.open2
  obtain ⟨sg1a, sg1b⟩ := Box.put2 pr_1 (.int .u64 ((wh (z) : Nat) : Int))
  go_wp2
  clear pae0 pae1 pae2 pae3 pre0 pre1 pre2 pre3 sf1a sf1b sf1c sf1d sg1a sg1b
  have hB_4 := below_setAll hB_3 (g := w.heap.size + 1) (by omega) [.int .u64 ((wh (z) : Nat) : Int), .int .u64 ((wl (z) : Nat) : Int)]
  have pa_3 := pa_2.farAll (g' := w.heap.size + 1) (by omega) [.int .u64 ((wh (z) : Nat) : Int), .int .u64 ((wl (z) : Nat) : Int)]
  have pr_2 := pr_1.setAll [.int .u64 ((wh (z) : Nat) : Int), .int .u64 ((wl (z) : Nat) : Int)] rfl
  simp only [setAll, Nat.zero_add] at hB_4 pa_3 pr_2
  clear hB_3 pa_2 pr_1
  generalize (World.setCell (World.setCell w3 ⟨w.heap.size + 1, 0, none⟩ (.int .u64 ((wh (z) : Nat) : Int))) ⟨w.heap.size + 1, 1, none⟩ (.int .u64 ((wl (z) : Nat) : Int))) = w4 at *
  go_wp2
  obtain ⟨pre0, pre1, pre2, pre3⟩ := pr_2.open2
  exact bodyPost_ret (v := .agg #[.int .u64 ((wh (z) : Nat) : Int), .int .u64 ((wl (z) : Nat) : Int)]) (by simp [results, Try.results83, go_sem, pre0, pre1]) rfl ⟨rfl, hB_4⟩
theorem size_any (z : Int) (w : World) (hz : InW z) : Calls Try.prog 83 #[.agg #[.int .u64 ((wh (z) : Nat) : Int), .int .u64 ((wl (z) : Nat) : Int)]] w fun e w' => AnsW w w' e (z.natAbs : Int) := by
  by_cases h0 : z < 0
  · have h := size_neg z w hz h0
    rwa [show -z = (z.natAbs : Int) by omega] at h
  · have h := size_pos z w hz h0
    have e : z = (z.natAbs : Int) := by omega
    rw [← e]; exact h
set_option maxHeartbeats 4000000 in
theorem Of_walk_neg (n : Int) (w : World) (h0 : n < 0) :
    Calls Try.prog 99 #[.int .i64 n] w fun e w' => e = .returned (.agg #[.int .u64 18446744073709551615, .int .u64 (IntKind.u64.wrap n)]) ∧ Below w.heap.size w w' := by
  have hB_0 := Below.refl w.heap.size w
  obtain ⟨w1, hw1, pr_0, hb1, hs1⟩ := new_box w (w.heap.size) rfl [.int .u64 0, .int .u64 0] 78
  have hb1' : Below w.heap.size w w1 := hb1.mono (by omega)
  clear hb1
  have hB_1 := hB_0.trans (hb1'.mono hB_0.size)
  clear hb1' hB_0
  go_enter Try.func99, Try.ntmps99
  obtain ⟨pre0, pre1, pre2, pre3⟩ := pr_0.open2
  obtain ⟨sf1a, sf1b, sf1c, sf1d⟩ := pr_0.open2
  obtain ⟨sg1a, sg1b⟩ := Box.put2 pr_0 (.int .u64 18446744073709551615)
  go_wp2
  clear pre0 pre1 pre2 pre3 sf1a sf1b sf1c sf1d sg1a sg1b
  have hB_2 := below_setAll hB_1 (g := w.heap.size) (by omega) [.int .u64 18446744073709551615, .int .u64 (IntKind.u64.wrap n)]
  have pr_1 := pr_0.setAll [.int .u64 18446744073709551615, .int .u64 (IntKind.u64.wrap n)] rfl
  simp only [setAll, Nat.zero_add] at hB_2 pr_1
  clear hB_1 pr_0
  generalize (World.setCell (World.setCell w1 ⟨w.heap.size, 0, none⟩ (.int .u64 18446744073709551615)) ⟨w.heap.size, 1, none⟩ (.int .u64 (IntKind.u64.wrap n))) = w2 at *
  go_wp2
  obtain ⟨pre0, pre1, pre2, pre3⟩ := pr_1.open2
  exact bodyPost_ret (v := .agg #[.int .u64 18446744073709551615, .int .u64 (IntKind.u64.wrap n)]) (by simp [results, Try.results99, go_sem, pre0, pre1]) rfl ⟨rfl, hB_2⟩
set_option maxHeartbeats 4000000 in
theorem Of_walk_pos (n : Int) (w : World) (h0 : ¬ n < 0) :
    Calls Try.prog 99 #[.int .i64 n] w fun e w' => e = .returned (.agg #[.int .u64 0, .int .u64 (IntKind.u64.wrap n)]) ∧ Below w.heap.size w w' := by
  have hB_0 := Below.refl w.heap.size w
  obtain ⟨w1, hw1, pr_0, hb1, hs1⟩ := new_box w (w.heap.size) rfl [.int .u64 0, .int .u64 0] 78
  have hb1' : Below w.heap.size w w1 := hb1.mono (by omega)
  clear hb1
  have hB_1 := hB_0.trans (hb1'.mono hB_0.size)
  clear hb1' hB_0
  go_enter Try.func99, Try.ntmps99
  obtain ⟨pre0, pre1, pre2, pre3⟩ := pr_0.open2
  obtain ⟨sf1a, sf1b, sf1c, sf1d⟩ := pr_0.open2
  obtain ⟨sg1a, sg1b⟩ := Box.put2 pr_0 (.int .u64 0)
  go_wp2
  clear pre0 pre1 pre2 pre3 sf1a sf1b sf1c sf1d sg1a sg1b
  have hB_2 := below_setAll hB_1 (g := w.heap.size) (by omega) [.int .u64 0, .int .u64 (IntKind.u64.wrap n)]
  have pr_1 := pr_0.setAll [.int .u64 0, .int .u64 (IntKind.u64.wrap n)] rfl
  simp only [setAll, Nat.zero_add] at hB_2 pr_1
  clear hB_1 pr_0
  generalize (World.setCell (World.setCell w1 ⟨w.heap.size, 0, none⟩ (.int .u64 0)) ⟨w.heap.size, 1, none⟩ (.int .u64 (IntKind.u64.wrap n))) = w2 at *
  go_wp2
  obtain ⟨pre0, pre1, pre2, pre3⟩ := pr_1.open2
  exact bodyPost_ret (v := .agg #[.int .u64 0, .int .u64 (IntKind.u64.wrap n)]) (by simp [results, Try.results99, go_sem, pre0, pre1]) rfl ⟨rfl, hB_2⟩
theorem wOf_any (n : Int) (h : -9223372036854775808 ≤ n) (h1 : n < 9223372036854775808) (w : World) : Calls Try.prog 99 #[.int .i64 n] w fun e w' => AnsW w w' e n := by
  by_cases h0 : n < 0
  · obtain ⟨a, b⟩ := w_int_neg h h0
    have := Of_walk_neg n w h0
    unfold AnsW; rw [a, b]; exact this
  · obtain ⟨a, b⟩ := w_int_pos h1 (Int.not_lt.1 h0)
    have := Of_walk_pos n w h0
    unfold AnsW; rw [a, b]; exact this
end Go.Proofs.Ytkcfaddilknelaa
/- The calls of wide: Sign, Cmp. -/
namespace Go.Proofs.Ytkcfaddilknelaa
open Go.RowKit Go.MagM
set_option maxHeartbeats 4000000 in
theorem Sign_w_zero  (w : World) :
    Calls Try.prog 45 #[.agg #[.int .u64 0, .int .u64 0]] w fun e w' => e = .returned (.int .i64 (0)) ∧ Below w.heap.size w w' := by
  have hB_0 := Below.refl w.heap.size w
  obtain ⟨w1, hw1, pa_0, hb1, hs1⟩ := new_box w (w.heap.size) rfl [.int .u64 0, .int .u64 0] 78
  have hb1' : Below w.heap.size w w1 := hb1.mono (by omega)
  clear hb1
  have hB_1 := hB_0.trans (hb1'.mono hB_0.size)
  clear hb1' hB_0
  go_enter Try.func45, Try.ntmps45
  obtain ⟨pae0, pae1, pae2, pae3⟩ := pa_0.open2
  go_wp2
  go_ret
  exact ⟨rfl, hB_1⟩
set_option maxHeartbeats 4000000 in
theorem Sign_w_neg (ah al : Nat) (h0 : ¬ ah = 0) (hbel : ∀ w, Calls Try.prog 72 #[.agg #[.int .u64 ((ah : Nat) : Int), .int .u64 ((al : Nat) : Int)]] w fun e w' => e = .returned (.bool true) ∧ Below w.heap.size w w') (w : World) :
    Calls Try.prog 45 #[.agg #[.int .u64 ((ah : Nat) : Int), .int .u64 ((al : Nat) : Int)]] w fun e w' => e = .returned (.int .i64 (-1)) ∧ Below w.heap.size w w' := by
  have hB_0 := Below.refl w.heap.size w
  obtain ⟨w1, hw1, pa_0, hb1, hs1⟩ := new_box w (w.heap.size) rfl [.int .u64 ((ah : Nat) : Int), .int .u64 ((al : Nat) : Int)] 78
  have hb1' : Below w.heap.size w w1 := hb1.mono (by omega)
  clear hb1
  have hB_1 := hB_0.trans (hb1'.mono hB_0.size)
  clear hb1' hB_0
  go_enter Try.func45, Try.ntmps45
  obtain ⟨pae0, pae1, pae2, pae3⟩ := pa_0.open2
  go_wp2_with fail
  refine (hbel _).mono ?_
  rintro e w2 ⟨rfl, hb2⟩
  clear pae0 pae1 pae2 pae3
  have hB_2 := hB_1.trans (hb2.mono hB_1.size)
  have pa_1 := pa_0.below hb2
  clear hb2 hB_1 pa_0
  obtain ⟨pae0, pae1, pae2, pae3⟩ := pa_1.open2
  go_wp2
  go_ret
  exact ⟨rfl, hB_2⟩
set_option maxHeartbeats 4000000 in
theorem Sign_w_pos (ah al : Nat) (h0 : ¬ ah = 0) (hbel : ∀ w, Calls Try.prog 72 #[.agg #[.int .u64 ((ah : Nat) : Int), .int .u64 ((al : Nat) : Int)]] w fun e w' => e = .returned (.bool false) ∧ Below w.heap.size w w') (w : World) :
    Calls Try.prog 45 #[.agg #[.int .u64 ((ah : Nat) : Int), .int .u64 ((al : Nat) : Int)]] w fun e w' => e = .returned (.int .i64 (1)) ∧ Below w.heap.size w w' := by
  have hB_0 := Below.refl w.heap.size w
  obtain ⟨w1, hw1, pa_0, hb1, hs1⟩ := new_box w (w.heap.size) rfl [.int .u64 ((ah : Nat) : Int), .int .u64 ((al : Nat) : Int)] 78
  have hb1' : Below w.heap.size w w1 := hb1.mono (by omega)
  clear hb1
  have hB_1 := hB_0.trans (hb1'.mono hB_0.size)
  clear hb1' hB_0
  go_enter Try.func45, Try.ntmps45
  obtain ⟨pae0, pae1, pae2, pae3⟩ := pa_0.open2
  go_wp2_with fail
  refine (hbel _).mono ?_
  rintro e w2 ⟨rfl, hb2⟩
  clear pae0 pae1 pae2 pae3
  have hB_2 := hB_1.trans (hb2.mono hB_1.size)
  have pa_1 := pa_0.below hb2
  clear hb2 hB_1 pa_0
  obtain ⟨pae0, pae1, pae2, pae3⟩ := pa_1.open2
  go_wp2
  go_ret
  exact ⟨rfl, hB_2⟩
set_option maxHeartbeats 4000000 in
theorem Sign_w_low (al : Nat) (h0 : ¬ al = 0) (hbel : ∀ w, Calls Try.prog 72 #[.agg #[.int .u64 0, .int .u64 ((al : Nat) : Int)]] w fun e w' => e = .returned (.bool false) ∧ Below w.heap.size w w') (w : World) :
    Calls Try.prog 45 #[.agg #[.int .u64 0, .int .u64 ((al : Nat) : Int)]] w fun e w' => e = .returned (.int .i64 (1)) ∧ Below w.heap.size w w' := by
  have hB_0 := Below.refl w.heap.size w
  obtain ⟨w1, hw1, pa_0, hb1, hs1⟩ := new_box w (w.heap.size) rfl [.int .u64 0, .int .u64 ((al : Nat) : Int)] 78
  have hb1' : Below w.heap.size w w1 := hb1.mono (by omega)
  clear hb1
  have hB_1 := hB_0.trans (hb1'.mono hB_0.size)
  clear hb1' hB_0
  go_enter Try.func45, Try.ntmps45
  obtain ⟨pae0, pae1, pae2, pae3⟩ := pa_0.open2
  go_wp2_with fail
  refine (hbel _).mono ?_
  rintro e w2 ⟨rfl, hb2⟩
  clear pae0 pae1 pae2 pae3
  have hB_2 := hB_1.trans (hb2.mono hB_1.size)
  have pa_1 := pa_0.below hb2
  clear hb2 hB_1 pa_0
  obtain ⟨pae0, pae1, pae2, pae3⟩ := pa_1.open2
  go_wp2
  go_ret
  exact ⟨rfl, hB_2⟩
/-- The number of 128 bits that has these words. -/
def wrapW (z : Int) : Int := (z + 170141183460469231731687303715884105728) % 340282366920938463463374607431768211456 - 170141183460469231731687303715884105728
theorem wrapW_in (z : Int) : InW (wrapW z) := by unfold wrapW InW; omega
theorem wrapW_h (z : Int) : wh (wrapW z) = wh z := by unfold wrapW wh; omega
theorem wrapW_l (z : Int) : wl (wrapW z) = wl z := by unfold wrapW wl; omega
theorem wrapW_self {z : Int} (h : InW z) : wrapW z = z := by unfold wrapW; unfold InW at h; omega
theorem wbelow_all (z : Int) (w : World) : Calls Try.prog 72 #[.agg #[.int .u64 ((wh (z) : Nat) : Int), .int .u64 ((wl (z) : Nat) : Int)]] w fun e w' => e = .returned (.bool (decide (wrapW z < 0))) ∧ Below w.heap.size w w' := by
  have h := wbelow_any (wrapW z) (wrapW_in z) w
  rw [wrapW_h, wrapW_l] at h
  exact h
theorem wSign_all (z : Int) (w : World) : Calls Try.prog 45 #[.agg #[.int .u64 ((wh (z) : Nat) : Int), .int .u64 ((wl (z) : Nat) : Int)]] w fun e w' => e = .returned (.int .i64 (wrapW z).sign) ∧ Below w.heap.size w w' := by
  have hz := wrapW_in z
  have h1 := wrapW_h z; have h2 := wrapW_l z
  have hbel := fun w => wbelow_all z w
  rw [← h1, ← h2] at *
  generalize wrapW z = x at *
  have hm := w_neg hz
  have hw := w_mod x
  by_cases hh : wh x = 0
  · by_cases hl : wl x = 0
    · have hx : x = 0 := by rw [hh, hl] at hw; unfold InW at hz; omega
      subst hx
      rw [wh_zero, wl_zero]
      exact Sign_w_zero w
    · have hx : 0 < x := by rw [hh] at hw; unfold InW at hz; omega
      rw [Int.sign_eq_one_of_pos hx]
      rw [hh] at hbel ⊢
      refine Sign_w_low _ hl ?_ w
      intro w
      have := hbel w
      rwa [decide_eq_false (by omega : ¬ x < 0)] at this
  · by_cases hx : x < 0
    · rw [Int.sign_eq_neg_one_of_neg hx]
      refine Sign_w_neg _ _ hh ?_ w
      intro w
      have := hbel w
      rwa [decide_eq_true hx] at this
    · have hx0 : 0 < x := by unfold InW at hz; omega
      rw [Int.sign_eq_one_of_pos hx0]
      refine Sign_w_pos _ _ hh ?_ w
      intro w
      have := hbel w
      rwa [decide_eq_false hx] at this
theorem cmp_u64_is (x y : Nat) (c : Int) (w : World) (h : cmpn x y = c) : Calls Try.prog 87 #[.int .u64 x, .int .u64 y] w fun e w' => e = .returned (.int .i64 c) ∧ Below w.heap.size w w' := by
  subst h; exact (cmp_u64 x y w).mono fun e w' h => by obtain ⟨h1, rfl⟩ := h; exact ⟨h1, Below.refl _ _⟩
theorem w_high {z : Int} (h : InW z) : IntKind.i64.wrap ((wh z : Nat) : Int) = z / 18446744073709551616 := by
  unfold InW at h; rw [IntKind.wrap_i64]; unfold wh; omega
theorem w_low (z : Int) : ((wl z : Nat) : Int) = z % 18446744073709551616 := by unfold wl; omega
end Go.Proofs.Ytkcfaddilknelaa
/- The calls of wide, walked: Add (below). -/
namespace Go.Proofs.Ytkcfaddilknelaa
open Go.RowKit Go.MagM
end Go.Proofs.Ytkcfaddilknelaa
/- The calls of wide, walked: Add (not below). -/
namespace Go.Proofs.Ytkcfaddilknelaa
open Go.RowKit Go.MagM
end Go.Proofs.Ytkcfaddilknelaa
/- The calls of wide, walked: Sub (below). -/
namespace Go.Proofs.Ytkcfaddilknelaa
open Go.RowKit Go.MagM
end Go.Proofs.Ytkcfaddilknelaa
/- The calls of wide, walked: Sub (not below). -/
namespace Go.Proofs.Ytkcfaddilknelaa
open Go.RowKit Go.MagM
end Go.Proofs.Ytkcfaddilknelaa
/- The calls of wide: Add, Sub, Neg. -/
namespace Go.Proofs.Ytkcfaddilknelaa
open Go.RowKit Go.MagM
/-- A call's answer is a number of 128 bits, and whether it is one. -/
def AnsWB (w w' : World) (e : Ending) (z : Int) (b : Bool) : Prop := e = .returned (.tuple #[.agg #[.int .u64 ((wh z : Nat) : Int), .int .u64 ((wl z : Nat) : Int)], .bool b]) ∧ Below w.heap.size w w'
/-- What is told of a number: that number, if it is one of 128 bits, else 0 and false. -/
def fitW (z : Int) : Int := if InW z then z else 0
theorem fitW_yes {z : Int} (h : InW z) : fitW z = z := if_pos h
theorem fitW_no {z : Int} (h : ¬ InW z) : fitW z = 0 := if_neg h
theorem answb_yes {w w' : World} {e : Ending} {z : Int} (h : InW z) (he : e = .returned (.tuple #[.agg #[.int .u64 ((wh (z) : Nat) : Int), .int .u64 ((wl (z) : Nat) : Int)], .bool true]) ∧ Below w.heap.size w w') : AnsWB w w' e (fitW z) (decide (InW z)) := by
  rw [fitW_yes h, decide_eq_true h]; exact he
theorem answb_no {w w' : World} {e : Ending} {z : Int} (h : ¬ InW z) (he : e = .returned (.tuple #[.agg #[.int .u64 0, .int .u64 0], .bool false]) ∧ Below w.heap.size w w') : AnsWB w w' e (fitW z) (decide (InW z)) := by
  rw [fitW_no h, decide_eq_false h]; unfold AnsWB; rw [wh_zero, wl_zero]; exact he
theorem bel_is {z : Int} {b : Bool} (h : decide (wrapW z < 0) = b) : ∀ w, Calls Try.prog 72 #[.agg #[.int .u64 ((wh (z) : Nat) : Int), .int .u64 ((wl (z) : Nat) : Int)]] w fun e w' => e = .returned (.bool b) ∧ Below w.heap.size w w' := by
  intro w; subst h; exact wbelow_all z w
theorem carry_le (x y : Int) : (wl x + wl y + 0) / B ≤ 1 := by have := wl_lt x; have := wl_lt y; simp only [B_eq] at *; omega
end Go.Proofs.Ytkcfaddilknelaa
/- The calls of wide: Mul, Det. -/
namespace Go.Proofs.Ytkcfaddilknelaa
open Go.RowKit Go.MagM
theorem mul64_is (x y H L : Nat) (w : World) (hx : x < B) (hy : y < B) (h1 : x * y / B = H) (h2 : x * y % B = L) :
    Calls Try.prog 95 #[.int .u64 ((x : Nat) : Int), .int .u64 ((y : Nat) : Int)] w fun e w' => e = .returned (.tuple #[.int .u64 ((H : Nat) : Int), .int .u64 ((L : Nat) : Int)]) ∧ Below w.heap.size w w' := by
  subst h1; subst h2
  exact (mul64_any x y w hx hy).mono fun e w' h => by obtain ⟨h1, rfl⟩ := h; exact ⟨h1, Below.refl _ _⟩
theorem inW_int {n : Int} (h : -9223372036854775808 ≤ n) (h1 : n < 9223372036854775808) : InW n := by unfold InW; omega
set_option maxHeartbeats 4000000 in
theorem wMul_w_tt (a b : Int) (ha1 : -9223372036854775808 ≤ a) (ha2 : a < 9223372036854775808) (hb1 : -9223372036854775808 ≤ b) (hb2 : b < 9223372036854775808) (H L H' L' : Nat) (sa : a < 0) (sb : b < 0) (cm : ∀ w, Calls Try.prog 95 #[.int .u64 ((wl ((a.natAbs : Int)) : Nat) : Int), .int .u64 ((wl ((b.natAbs : Int)) : Nat) : Int)] w fun e w' => e = .returned (.tuple #[.int .u64 ((H : Nat) : Int), .int .u64 ((L : Nat) : Int)]) ∧ Below w.heap.size w w') (hac : ∀ w, Calls Try.prog 97 #[.agg #[.int .u64 ((H : Nat) : Int), .int .u64 ((L : Nat) : Int)]] w fun e w' => e = .returned (.agg #[.int .u64 ((H' : Nat) : Int), .int .u64 ((L' : Nat) : Int)]) ∧ Below w.heap.size w w') (w : World) :
    Calls Try.prog 85 #[.int .i64 a, .int .i64 b] w fun e w' => e = .returned (.agg #[.int .u64 ((H : Nat) : Int), .int .u64 ((L : Nat) : Int)]) ∧ Below w.heap.size w w' := by
  have hB_0 := Below.refl w.heap.size w
  have CM := Lib.hid cm; have CA := Lib.hid hac; have IA := Lib.hid (inW_int ha1 ha2); have IB := Lib.hid (inW_int hb1 hb2); have HA1 := Lib.hid ha1; have HA2 := Lib.hid ha2; have HB1 := Lib.hid hb1; have HB2 := Lib.hid hb2
  clear cm hac ha1 ha2 hb1 hb2
  have qa : decide (a < 0) = true := by simp [sa]
  have qb : decide (b < 0) = true := by simp [sb]
  clear sa sb
  have hfa : ∀ w : World, (Instr.field 78 (.agg #[.int .u64 ((wh ((a.natAbs : Int)) : Nat) : Int), .int .u64 ((wl ((a.natAbs : Int)) : Nat) : Int)]) 1).run Try.prog w = .ok (.int .u64 ((wl ((a.natAbs : Int)) : Nat) : Int)) w := fun _ => by kernel_rfl
  have hfb : ∀ w : World, (Instr.field 78 (.agg #[.int .u64 ((wh ((b.natAbs : Int)) : Nat) : Int), .int .u64 ((wl ((b.natAbs : Int)) : Nat) : Int)]) 1).run Try.prog w = .ok (.int .u64 ((wl ((b.natAbs : Int)) : Nat) : Int)) w := fun _ => by kernel_rfl
  obtain ⟨w1, hw1, pr_0, hb1, hs1⟩ := new_box w (w.heap.size) rfl [.int .u64 0, .int .u64 0] 78
  have hb1' : Below w.heap.size w w1 := hb1.mono (by omega)
  clear hb1
  have hB_1 := hB_0.trans (hb1'.mono hB_0.size)
  clear hb1' hB_0
  go_enter Try.func85, Try.ntmps85
  obtain ⟨pre0, pre1, pre2, pre3⟩ := pr_0.open2
  go_wp2_with fail
  refine (wOf_any a HA1.out HA2.out _).mono ?_
  rintro e w2 ⟨rfl, hb2⟩
  clear pre0 pre1 pre2 pre3
  have hB_2 := hB_1.trans (hb2.mono hB_1.size)
  have pr_1 := pr_0.below hb2
  clear hb2 hB_1 pr_0
  obtain ⟨pre0, pre1, pre2, pre3⟩ := pr_1.open2
  go_wp2_with fail
  refine (size_any a _ IA.out).mono ?_
  rintro e w3 ⟨rfl, hb3⟩
  clear pre0 pre1 pre2 pre3
  have hB_3 := hB_2.trans (hb3.mono hB_2.size)
  have pr_2 := pr_1.below hb3
  clear hb3 hB_2 pr_1
  obtain ⟨pre0, pre1, pre2, pre3⟩ := pr_2.open2
  go_wp2_with fail
  refine (wOf_any b HB1.out HB2.out _).mono ?_
  rintro e w4 ⟨rfl, hb4⟩
  clear pre0 pre1 pre2 pre3
  have hB_4 := hB_3.trans (hb4.mono hB_3.size)
  have pr_3 := pr_2.below hb4
  clear hb4 hB_3 pr_2
  obtain ⟨pre0, pre1, pre2, pre3⟩ := pr_3.open2
  go_wp2_with fail
  refine (size_any b _ IB.out).mono ?_
  rintro e w5 ⟨rfl, hb5⟩
  clear pre0 pre1 pre2 pre3
  have hB_5 := hB_4.trans (hb5.mono hB_4.size)
  have pr_4 := pr_3.below hb5
  clear hb5 hB_4 pr_3
  obtain ⟨pre0, pre1, pre2, pre3⟩ := pr_4.open2
  go_wp2_with fail
  refine (CM.out _).mono ?_
  rintro e w6 ⟨rfl, hb6⟩
  clear pre0 pre1 pre2 pre3
  have hB_6 := hB_5.trans (hb6.mono hB_5.size)
  have pr_5 := pr_4.below hb6
  clear hb6 hB_5 pr_4
  obtain ⟨pre0, pre1, pre2, pre3⟩ := pr_5.open2
  clear pre0 pre1 pre2 pre3
  have hl1pr := pr_5.lt
  have hl1B := hB_6.size
  obtain ⟨w7, hw7, pp_0, hb7, hs7⟩ := new_box w6 (w6.heap.size) rfl [.int .u64 ((H : Nat) : Int), .int .u64 ((L : Nat) : Int)] 78
  have hb7' : Below w6.heap.size w6 w7 := hb7.mono (by omega)
  clear hb7
  have hB_7 := hB_6.trans (hb7'.mono hB_6.size)
  have pr_6 := pr_5.below hb7'
  clear hb7' hB_6 pr_5
  obtain ⟨pre0, pre1, pre2, pre3⟩ := pr_6.open2
  obtain ⟨ppe0, ppe1, ppe2, ppe3⟩ := pp_0.open2
  obtain ⟨sf1a, sf1b, sf1c, sf1d⟩ := pr_6.open2
  obtain ⟨sg1a, sg1b⟩ := Box.put2 pr_6 (.int .u64 ((H : Nat) : Int))
  go_wp2
  clear pre0 pre1 pre2 pre3 ppe0 ppe1 ppe2 ppe3 sf1a sf1b sf1c sf1d sg1a sg1b
  have hB_8 := below_setAll hB_7 (g := w.heap.size) (by omega) [.int .u64 ((H : Nat) : Int), .int .u64 ((L : Nat) : Int)]
  have pp_1 := pp_0.farAll (g' := w.heap.size) (by omega) [.int .u64 ((H : Nat) : Int), .int .u64 ((L : Nat) : Int)]
  have pr_7 := pr_6.setAll [.int .u64 ((H : Nat) : Int), .int .u64 ((L : Nat) : Int)] rfl
  simp only [setAll, Nat.zero_add] at hB_8 pr_7 pp_1
  clear hB_7 pp_0 pr_6
  generalize (World.setCell (World.setCell w7 ⟨w.heap.size, 0, none⟩ (.int .u64 ((H : Nat) : Int))) ⟨w.heap.size, 1, none⟩ (.int .u64 ((L : Nat) : Int))) = w8 at *
  go_wp2
  obtain ⟨pre0, pre1, pre2, pre3⟩ := pr_7.open2
  exact bodyPost_ret (v := .agg #[.int .u64 ((H : Nat) : Int), .int .u64 ((L : Nat) : Int)]) (by simp [results, Try.results85, go_sem, pre0, pre1]) rfl ⟨rfl, hB_8⟩
set_option maxHeartbeats 4000000 in
theorem wMul_w_tf (a b : Int) (ha1 : -9223372036854775808 ≤ a) (ha2 : a < 9223372036854775808) (hb1 : -9223372036854775808 ≤ b) (hb2 : b < 9223372036854775808) (H L H' L' : Nat) (sa : a < 0) (sb : ¬ b < 0) (cm : ∀ w, Calls Try.prog 95 #[.int .u64 ((wl ((a.natAbs : Int)) : Nat) : Int), .int .u64 ((wl ((b.natAbs : Int)) : Nat) : Int)] w fun e w' => e = .returned (.tuple #[.int .u64 ((H : Nat) : Int), .int .u64 ((L : Nat) : Int)]) ∧ Below w.heap.size w w') (hac : ∀ w, Calls Try.prog 97 #[.agg #[.int .u64 ((H : Nat) : Int), .int .u64 ((L : Nat) : Int)]] w fun e w' => e = .returned (.agg #[.int .u64 ((H' : Nat) : Int), .int .u64 ((L' : Nat) : Int)]) ∧ Below w.heap.size w w') (w : World) :
    Calls Try.prog 85 #[.int .i64 a, .int .i64 b] w fun e w' => e = .returned (.agg #[.int .u64 ((H' : Nat) : Int), .int .u64 ((L' : Nat) : Int)]) ∧ Below w.heap.size w w' := by
  have hB_0 := Below.refl w.heap.size w
  have CM := Lib.hid cm; have CA := Lib.hid hac; have IA := Lib.hid (inW_int ha1 ha2); have IB := Lib.hid (inW_int hb1 hb2); have HA1 := Lib.hid ha1; have HA2 := Lib.hid ha2; have HB1 := Lib.hid hb1; have HB2 := Lib.hid hb2
  clear cm hac ha1 ha2 hb1 hb2
  have qa : decide (a < 0) = true := by simp [sa]
  have qb : decide (b < 0) = false := by simp [sb]
  clear sa sb
  have hfa : ∀ w : World, (Instr.field 78 (.agg #[.int .u64 ((wh ((a.natAbs : Int)) : Nat) : Int), .int .u64 ((wl ((a.natAbs : Int)) : Nat) : Int)]) 1).run Try.prog w = .ok (.int .u64 ((wl ((a.natAbs : Int)) : Nat) : Int)) w := fun _ => by kernel_rfl
  have hfb : ∀ w : World, (Instr.field 78 (.agg #[.int .u64 ((wh ((b.natAbs : Int)) : Nat) : Int), .int .u64 ((wl ((b.natAbs : Int)) : Nat) : Int)]) 1).run Try.prog w = .ok (.int .u64 ((wl ((b.natAbs : Int)) : Nat) : Int)) w := fun _ => by kernel_rfl
  obtain ⟨w1, hw1, pr_0, hb1, hs1⟩ := new_box w (w.heap.size) rfl [.int .u64 0, .int .u64 0] 78
  have hb1' : Below w.heap.size w w1 := hb1.mono (by omega)
  clear hb1
  have hB_1 := hB_0.trans (hb1'.mono hB_0.size)
  clear hb1' hB_0
  go_enter Try.func85, Try.ntmps85
  obtain ⟨pre0, pre1, pre2, pre3⟩ := pr_0.open2
  go_wp2_with fail
  refine (wOf_any a HA1.out HA2.out _).mono ?_
  rintro e w2 ⟨rfl, hb2⟩
  clear pre0 pre1 pre2 pre3
  have hB_2 := hB_1.trans (hb2.mono hB_1.size)
  have pr_1 := pr_0.below hb2
  clear hb2 hB_1 pr_0
  obtain ⟨pre0, pre1, pre2, pre3⟩ := pr_1.open2
  go_wp2_with fail
  refine (size_any a _ IA.out).mono ?_
  rintro e w3 ⟨rfl, hb3⟩
  clear pre0 pre1 pre2 pre3
  have hB_3 := hB_2.trans (hb3.mono hB_2.size)
  have pr_2 := pr_1.below hb3
  clear hb3 hB_2 pr_1
  obtain ⟨pre0, pre1, pre2, pre3⟩ := pr_2.open2
  go_wp2_with fail
  refine (wOf_any b HB1.out HB2.out _).mono ?_
  rintro e w4 ⟨rfl, hb4⟩
  clear pre0 pre1 pre2 pre3
  have hB_4 := hB_3.trans (hb4.mono hB_3.size)
  have pr_3 := pr_2.below hb4
  clear hb4 hB_3 pr_2
  obtain ⟨pre0, pre1, pre2, pre3⟩ := pr_3.open2
  go_wp2_with fail
  refine (size_any b _ IB.out).mono ?_
  rintro e w5 ⟨rfl, hb5⟩
  clear pre0 pre1 pre2 pre3
  have hB_5 := hB_4.trans (hb5.mono hB_4.size)
  have pr_4 := pr_3.below hb5
  clear hb5 hB_4 pr_3
  obtain ⟨pre0, pre1, pre2, pre3⟩ := pr_4.open2
  go_wp2_with fail
  refine (CM.out _).mono ?_
  rintro e w6 ⟨rfl, hb6⟩
  clear pre0 pre1 pre2 pre3
  have hB_6 := hB_5.trans (hb6.mono hB_5.size)
  have pr_5 := pr_4.below hb6
  clear hb6 hB_5 pr_4
  obtain ⟨pre0, pre1, pre2, pre3⟩ := pr_5.open2
  clear pre0 pre1 pre2 pre3
  have hl1pr := pr_5.lt
  have hl1B := hB_6.size
  obtain ⟨w7, hw7, pp_0, hb7, hs7⟩ := new_box w6 (w6.heap.size) rfl [.int .u64 ((H : Nat) : Int), .int .u64 ((L : Nat) : Int)] 78
  have hb7' : Below w6.heap.size w6 w7 := hb7.mono (by omega)
  clear hb7
  have hB_7 := hB_6.trans (hb7'.mono hB_6.size)
  have pr_6 := pr_5.below hb7'
  clear hb7' hB_6 pr_5
  obtain ⟨pre0, pre1, pre2, pre3⟩ := pr_6.open2
  obtain ⟨ppe0, ppe1, ppe2, ppe3⟩ := pp_0.open2
  go_wp2_with fail
  refine (CA.out _).mono ?_
  rintro e w8 ⟨rfl, hb8⟩
  clear pre0 pre1 pre2 pre3 ppe0 ppe1 ppe2 ppe3
  have hB_8 := hB_7.trans (hb8.mono hB_7.size)
  have pr_7 := pr_6.below hb8
  have pp_1 := pp_0.below hb8
  clear hb8 hB_7 pr_6 pp_0
  obtain ⟨pre0, pre1, pre2, pre3⟩ := pr_7.open2
  obtain ⟨ppe0, ppe1, ppe2, ppe3⟩ := pp_1.open2
  obtain ⟨sf1a, sf1b, sf1c, sf1d⟩ := pr_7.open2
  obtain ⟨sg1a, sg1b⟩ := Box.put2 pr_7 (.int .u64 ((H' : Nat) : Int))
  go_wp2
  clear pre0 pre1 pre2 pre3 ppe0 ppe1 ppe2 ppe3 sf1a sf1b sf1c sf1d sg1a sg1b
  have hB_9 := below_setAll hB_8 (g := w.heap.size) (by omega) [.int .u64 ((H' : Nat) : Int), .int .u64 ((L' : Nat) : Int)]
  have pp_2 := pp_1.farAll (g' := w.heap.size) (by omega) [.int .u64 ((H' : Nat) : Int), .int .u64 ((L' : Nat) : Int)]
  have pr_8 := pr_7.setAll [.int .u64 ((H' : Nat) : Int), .int .u64 ((L' : Nat) : Int)] rfl
  simp only [setAll, Nat.zero_add] at hB_9 pr_8 pp_2
  clear hB_8 pp_1 pr_7
  generalize (World.setCell (World.setCell w8 ⟨w.heap.size, 0, none⟩ (.int .u64 ((H' : Nat) : Int))) ⟨w.heap.size, 1, none⟩ (.int .u64 ((L' : Nat) : Int))) = w9 at *
  go_wp2
  obtain ⟨pre0, pre1, pre2, pre3⟩ := pr_8.open2
  exact bodyPost_ret (v := .agg #[.int .u64 ((H' : Nat) : Int), .int .u64 ((L' : Nat) : Int)]) (by simp [results, Try.results85, go_sem, pre0, pre1]) rfl ⟨rfl, hB_9⟩
set_option maxHeartbeats 4000000 in
theorem wMul_w_ft (a b : Int) (ha1 : -9223372036854775808 ≤ a) (ha2 : a < 9223372036854775808) (hb1 : -9223372036854775808 ≤ b) (hb2 : b < 9223372036854775808) (H L H' L' : Nat) (sa : ¬ a < 0) (sb : b < 0) (cm : ∀ w, Calls Try.prog 95 #[.int .u64 ((wl ((a.natAbs : Int)) : Nat) : Int), .int .u64 ((wl ((b.natAbs : Int)) : Nat) : Int)] w fun e w' => e = .returned (.tuple #[.int .u64 ((H : Nat) : Int), .int .u64 ((L : Nat) : Int)]) ∧ Below w.heap.size w w') (hac : ∀ w, Calls Try.prog 97 #[.agg #[.int .u64 ((H : Nat) : Int), .int .u64 ((L : Nat) : Int)]] w fun e w' => e = .returned (.agg #[.int .u64 ((H' : Nat) : Int), .int .u64 ((L' : Nat) : Int)]) ∧ Below w.heap.size w w') (w : World) :
    Calls Try.prog 85 #[.int .i64 a, .int .i64 b] w fun e w' => e = .returned (.agg #[.int .u64 ((H' : Nat) : Int), .int .u64 ((L' : Nat) : Int)]) ∧ Below w.heap.size w w' := by
  have hB_0 := Below.refl w.heap.size w
  have CM := Lib.hid cm; have CA := Lib.hid hac; have IA := Lib.hid (inW_int ha1 ha2); have IB := Lib.hid (inW_int hb1 hb2); have HA1 := Lib.hid ha1; have HA2 := Lib.hid ha2; have HB1 := Lib.hid hb1; have HB2 := Lib.hid hb2
  clear cm hac ha1 ha2 hb1 hb2
  have qa : decide (a < 0) = false := by simp [sa]
  have qb : decide (b < 0) = true := by simp [sb]
  clear sa sb
  have hfa : ∀ w : World, (Instr.field 78 (.agg #[.int .u64 ((wh ((a.natAbs : Int)) : Nat) : Int), .int .u64 ((wl ((a.natAbs : Int)) : Nat) : Int)]) 1).run Try.prog w = .ok (.int .u64 ((wl ((a.natAbs : Int)) : Nat) : Int)) w := fun _ => by kernel_rfl
  have hfb : ∀ w : World, (Instr.field 78 (.agg #[.int .u64 ((wh ((b.natAbs : Int)) : Nat) : Int), .int .u64 ((wl ((b.natAbs : Int)) : Nat) : Int)]) 1).run Try.prog w = .ok (.int .u64 ((wl ((b.natAbs : Int)) : Nat) : Int)) w := fun _ => by kernel_rfl
  obtain ⟨w1, hw1, pr_0, hb1, hs1⟩ := new_box w (w.heap.size) rfl [.int .u64 0, .int .u64 0] 78
  have hb1' : Below w.heap.size w w1 := hb1.mono (by omega)
  clear hb1
  have hB_1 := hB_0.trans (hb1'.mono hB_0.size)
  clear hb1' hB_0
  go_enter Try.func85, Try.ntmps85
  obtain ⟨pre0, pre1, pre2, pre3⟩ := pr_0.open2
  go_wp2_with fail
  refine (wOf_any a HA1.out HA2.out _).mono ?_
  rintro e w2 ⟨rfl, hb2⟩
  clear pre0 pre1 pre2 pre3
  have hB_2 := hB_1.trans (hb2.mono hB_1.size)
  have pr_1 := pr_0.below hb2
  clear hb2 hB_1 pr_0
  obtain ⟨pre0, pre1, pre2, pre3⟩ := pr_1.open2
  go_wp2_with fail
  refine (size_any a _ IA.out).mono ?_
  rintro e w3 ⟨rfl, hb3⟩
  clear pre0 pre1 pre2 pre3
  have hB_3 := hB_2.trans (hb3.mono hB_2.size)
  have pr_2 := pr_1.below hb3
  clear hb3 hB_2 pr_1
  obtain ⟨pre0, pre1, pre2, pre3⟩ := pr_2.open2
  go_wp2_with fail
  refine (wOf_any b HB1.out HB2.out _).mono ?_
  rintro e w4 ⟨rfl, hb4⟩
  clear pre0 pre1 pre2 pre3
  have hB_4 := hB_3.trans (hb4.mono hB_3.size)
  have pr_3 := pr_2.below hb4
  clear hb4 hB_3 pr_2
  obtain ⟨pre0, pre1, pre2, pre3⟩ := pr_3.open2
  go_wp2_with fail
  refine (size_any b _ IB.out).mono ?_
  rintro e w5 ⟨rfl, hb5⟩
  clear pre0 pre1 pre2 pre3
  have hB_5 := hB_4.trans (hb5.mono hB_4.size)
  have pr_4 := pr_3.below hb5
  clear hb5 hB_4 pr_3
  obtain ⟨pre0, pre1, pre2, pre3⟩ := pr_4.open2
  go_wp2_with fail
  refine (CM.out _).mono ?_
  rintro e w6 ⟨rfl, hb6⟩
  clear pre0 pre1 pre2 pre3
  have hB_6 := hB_5.trans (hb6.mono hB_5.size)
  have pr_5 := pr_4.below hb6
  clear hb6 hB_5 pr_4
  obtain ⟨pre0, pre1, pre2, pre3⟩ := pr_5.open2
  clear pre0 pre1 pre2 pre3
  have hl1pr := pr_5.lt
  have hl1B := hB_6.size
  obtain ⟨w7, hw7, pp_0, hb7, hs7⟩ := new_box w6 (w6.heap.size) rfl [.int .u64 ((H : Nat) : Int), .int .u64 ((L : Nat) : Int)] 78
  have hb7' : Below w6.heap.size w6 w7 := hb7.mono (by omega)
  clear hb7
  have hB_7 := hB_6.trans (hb7'.mono hB_6.size)
  have pr_6 := pr_5.below hb7'
  clear hb7' hB_6 pr_5
  obtain ⟨pre0, pre1, pre2, pre3⟩ := pr_6.open2
  obtain ⟨ppe0, ppe1, ppe2, ppe3⟩ := pp_0.open2
  go_wp2_with fail
  refine (CA.out _).mono ?_
  rintro e w8 ⟨rfl, hb8⟩
  clear pre0 pre1 pre2 pre3 ppe0 ppe1 ppe2 ppe3
  have hB_8 := hB_7.trans (hb8.mono hB_7.size)
  have pr_7 := pr_6.below hb8
  have pp_1 := pp_0.below hb8
  clear hb8 hB_7 pr_6 pp_0
  obtain ⟨pre0, pre1, pre2, pre3⟩ := pr_7.open2
  obtain ⟨ppe0, ppe1, ppe2, ppe3⟩ := pp_1.open2
  obtain ⟨sf1a, sf1b, sf1c, sf1d⟩ := pr_7.open2
  obtain ⟨sg1a, sg1b⟩ := Box.put2 pr_7 (.int .u64 ((H' : Nat) : Int))
  go_wp2
  clear pre0 pre1 pre2 pre3 ppe0 ppe1 ppe2 ppe3 sf1a sf1b sf1c sf1d sg1a sg1b
  have hB_9 := below_setAll hB_8 (g := w.heap.size) (by omega) [.int .u64 ((H' : Nat) : Int), .int .u64 ((L' : Nat) : Int)]
  have pp_2 := pp_1.farAll (g' := w.heap.size) (by omega) [.int .u64 ((H' : Nat) : Int), .int .u64 ((L' : Nat) : Int)]
  have pr_8 := pr_7.setAll [.int .u64 ((H' : Nat) : Int), .int .u64 ((L' : Nat) : Int)] rfl
  simp only [setAll, Nat.zero_add] at hB_9 pr_8 pp_2
  clear hB_8 pp_1 pr_7
  generalize (World.setCell (World.setCell w8 ⟨w.heap.size, 0, none⟩ (.int .u64 ((H' : Nat) : Int))) ⟨w.heap.size, 1, none⟩ (.int .u64 ((L' : Nat) : Int))) = w9 at *
  go_wp2
  obtain ⟨pre0, pre1, pre2, pre3⟩ := pr_8.open2
  exact bodyPost_ret (v := .agg #[.int .u64 ((H' : Nat) : Int), .int .u64 ((L' : Nat) : Int)]) (by simp [results, Try.results85, go_sem, pre0, pre1]) rfl ⟨rfl, hB_9⟩
set_option maxHeartbeats 4000000 in
theorem wMul_w_ff (a b : Int) (ha1 : -9223372036854775808 ≤ a) (ha2 : a < 9223372036854775808) (hb1 : -9223372036854775808 ≤ b) (hb2 : b < 9223372036854775808) (H L H' L' : Nat) (sa : ¬ a < 0) (sb : ¬ b < 0) (cm : ∀ w, Calls Try.prog 95 #[.int .u64 ((wl ((a.natAbs : Int)) : Nat) : Int), .int .u64 ((wl ((b.natAbs : Int)) : Nat) : Int)] w fun e w' => e = .returned (.tuple #[.int .u64 ((H : Nat) : Int), .int .u64 ((L : Nat) : Int)]) ∧ Below w.heap.size w w') (hac : ∀ w, Calls Try.prog 97 #[.agg #[.int .u64 ((H : Nat) : Int), .int .u64 ((L : Nat) : Int)]] w fun e w' => e = .returned (.agg #[.int .u64 ((H' : Nat) : Int), .int .u64 ((L' : Nat) : Int)]) ∧ Below w.heap.size w w') (w : World) :
    Calls Try.prog 85 #[.int .i64 a, .int .i64 b] w fun e w' => e = .returned (.agg #[.int .u64 ((H : Nat) : Int), .int .u64 ((L : Nat) : Int)]) ∧ Below w.heap.size w w' := by
  have hB_0 := Below.refl w.heap.size w
  have CM := Lib.hid cm; have CA := Lib.hid hac; have IA := Lib.hid (inW_int ha1 ha2); have IB := Lib.hid (inW_int hb1 hb2); have HA1 := Lib.hid ha1; have HA2 := Lib.hid ha2; have HB1 := Lib.hid hb1; have HB2 := Lib.hid hb2
  clear cm hac ha1 ha2 hb1 hb2
  have qa : decide (a < 0) = false := by simp [sa]
  have qb : decide (b < 0) = false := by simp [sb]
  clear sa sb
  have hfa : ∀ w : World, (Instr.field 78 (.agg #[.int .u64 ((wh ((a.natAbs : Int)) : Nat) : Int), .int .u64 ((wl ((a.natAbs : Int)) : Nat) : Int)]) 1).run Try.prog w = .ok (.int .u64 ((wl ((a.natAbs : Int)) : Nat) : Int)) w := fun _ => by kernel_rfl
  have hfb : ∀ w : World, (Instr.field 78 (.agg #[.int .u64 ((wh ((b.natAbs : Int)) : Nat) : Int), .int .u64 ((wl ((b.natAbs : Int)) : Nat) : Int)]) 1).run Try.prog w = .ok (.int .u64 ((wl ((b.natAbs : Int)) : Nat) : Int)) w := fun _ => by kernel_rfl
  obtain ⟨w1, hw1, pr_0, hb1, hs1⟩ := new_box w (w.heap.size) rfl [.int .u64 0, .int .u64 0] 78
  have hb1' : Below w.heap.size w w1 := hb1.mono (by omega)
  clear hb1
  have hB_1 := hB_0.trans (hb1'.mono hB_0.size)
  clear hb1' hB_0
  go_enter Try.func85, Try.ntmps85
  obtain ⟨pre0, pre1, pre2, pre3⟩ := pr_0.open2
  go_wp2_with fail
  refine (wOf_any a HA1.out HA2.out _).mono ?_
  rintro e w2 ⟨rfl, hb2⟩
  clear pre0 pre1 pre2 pre3
  have hB_2 := hB_1.trans (hb2.mono hB_1.size)
  have pr_1 := pr_0.below hb2
  clear hb2 hB_1 pr_0
  obtain ⟨pre0, pre1, pre2, pre3⟩ := pr_1.open2
  go_wp2_with fail
  refine (size_any a _ IA.out).mono ?_
  rintro e w3 ⟨rfl, hb3⟩
  clear pre0 pre1 pre2 pre3
  have hB_3 := hB_2.trans (hb3.mono hB_2.size)
  have pr_2 := pr_1.below hb3
  clear hb3 hB_2 pr_1
  obtain ⟨pre0, pre1, pre2, pre3⟩ := pr_2.open2
  go_wp2_with fail
  refine (wOf_any b HB1.out HB2.out _).mono ?_
  rintro e w4 ⟨rfl, hb4⟩
  clear pre0 pre1 pre2 pre3
  have hB_4 := hB_3.trans (hb4.mono hB_3.size)
  have pr_3 := pr_2.below hb4
  clear hb4 hB_3 pr_2
  obtain ⟨pre0, pre1, pre2, pre3⟩ := pr_3.open2
  go_wp2_with fail
  refine (size_any b _ IB.out).mono ?_
  rintro e w5 ⟨rfl, hb5⟩
  clear pre0 pre1 pre2 pre3
  have hB_5 := hB_4.trans (hb5.mono hB_4.size)
  have pr_4 := pr_3.below hb5
  clear hb5 hB_4 pr_3
  obtain ⟨pre0, pre1, pre2, pre3⟩ := pr_4.open2
  go_wp2_with fail
  refine (CM.out _).mono ?_
  rintro e w6 ⟨rfl, hb6⟩
  clear pre0 pre1 pre2 pre3
  have hB_6 := hB_5.trans (hb6.mono hB_5.size)
  have pr_5 := pr_4.below hb6
  clear hb6 hB_5 pr_4
  obtain ⟨pre0, pre1, pre2, pre3⟩ := pr_5.open2
  clear pre0 pre1 pre2 pre3
  have hl1pr := pr_5.lt
  have hl1B := hB_6.size
  obtain ⟨w7, hw7, pp_0, hb7, hs7⟩ := new_box w6 (w6.heap.size) rfl [.int .u64 ((H : Nat) : Int), .int .u64 ((L : Nat) : Int)] 78
  have hb7' : Below w6.heap.size w6 w7 := hb7.mono (by omega)
  clear hb7
  have hB_7 := hB_6.trans (hb7'.mono hB_6.size)
  have pr_6 := pr_5.below hb7'
  clear hb7' hB_6 pr_5
  obtain ⟨pre0, pre1, pre2, pre3⟩ := pr_6.open2
  obtain ⟨ppe0, ppe1, ppe2, ppe3⟩ := pp_0.open2
  obtain ⟨sf1a, sf1b, sf1c, sf1d⟩ := pr_6.open2
  obtain ⟨sg1a, sg1b⟩ := Box.put2 pr_6 (.int .u64 ((H : Nat) : Int))
  go_wp2
  clear pre0 pre1 pre2 pre3 ppe0 ppe1 ppe2 ppe3 sf1a sf1b sf1c sf1d sg1a sg1b
  have hB_8 := below_setAll hB_7 (g := w.heap.size) (by omega) [.int .u64 ((H : Nat) : Int), .int .u64 ((L : Nat) : Int)]
  have pp_1 := pp_0.farAll (g' := w.heap.size) (by omega) [.int .u64 ((H : Nat) : Int), .int .u64 ((L : Nat) : Int)]
  have pr_7 := pr_6.setAll [.int .u64 ((H : Nat) : Int), .int .u64 ((L : Nat) : Int)] rfl
  simp only [setAll, Nat.zero_add] at hB_8 pr_7 pp_1
  clear hB_7 pp_0 pr_6
  generalize (World.setCell (World.setCell w7 ⟨w.heap.size, 0, none⟩ (.int .u64 ((H : Nat) : Int))) ⟨w.heap.size, 1, none⟩ (.int .u64 ((L : Nat) : Int))) = w8 at *
  go_wp2
  obtain ⟨pre0, pre1, pre2, pre3⟩ := pr_7.open2
  exact bodyPost_ret (v := .agg #[.int .u64 ((H : Nat) : Int), .int .u64 ((L : Nat) : Int)]) (by simp [results, Try.results85, go_sem, pre0, pre1]) rfl ⟨rfl, hB_8⟩
theorem wMul_any (a b : Int) (ha1 : -9223372036854775808 ≤ a) (ha2 : a < 9223372036854775808) (hb1 : -9223372036854775808 ≤ b) (hb2 : b < 9223372036854775808) (w : World) :
    Calls Try.prog 85 #[.int .i64 a, .int .i64 b] w fun e w' => AnsW w w' e (a * b) := by
  obtain ⟨ea, la⟩ := w_abs_int ha1 ha2
  obtain ⟨eb, lb⟩ := w_abs_int hb1 hb2
  obtain ⟨x, hx⟩ : ∃ x : Int, x = ((a.natAbs * b.natAbs : Nat) : Int) := ⟨_, rfl⟩
  have hlt : a.natAbs * b.natAbs < B * B := Nat.mul_lt_mul'' la lb
  have hw := w_mod x
  have h1 := wh_lt x; have h2 := wl_lt x
  have q1 : a.natAbs * b.natAbs / B = wh x := by
    simp only [B_eq] at *; omega
  have q2 : a.natAbs * b.natAbs % B = wl x := by
    simp only [B_eq] at *; omega
  have cm := fun w => mul64_is a.natAbs b.natAbs (wh x) (wl x) w la lb q1 q2
  rw [← ea, ← eb] at cm
  have hac := fun w => across_any x w
  have hm : ((a.natAbs * b.natAbs : Nat) : Int) = (a.natAbs : Int) * (b.natAbs : Int) := Int.natCast_mul _ _
  by_cases sa : a < 0 <;> by_cases sb : b < 0
  · have e : a * b = x := by
      rw [hx, hm, show (a.natAbs : Int) = -a by omega, show (b.natAbs : Int) = -b by omega]; simp [Int.neg_mul, Int.mul_neg]
    rw [e]; exact wMul_w_tt a b ha1 ha2 hb1 hb2 _ _ _ _ sa sb cm hac w
  · have e : a * b = -x := by
      rw [hx, hm, show (a.natAbs : Int) = -a by omega, show (b.natAbs : Int) = b by omega]; simp [Int.neg_mul]
    rw [e]; exact wMul_w_tf a b ha1 ha2 hb1 hb2 _ _ _ _ sa sb cm hac w
  · have e : a * b = -x := by
      rw [hx, hm, show (a.natAbs : Int) = a by omega, show (b.natAbs : Int) = -b by omega]; simp [Int.mul_neg]
    rw [e]; exact wMul_w_ft a b ha1 ha2 hb1 hb2 _ _ _ _ sa sb cm hac w
  · have e : a * b = x := by
      rw [hx, hm, show (a.natAbs : Int) = a by omega, show (b.natAbs : Int) = b by omega]
    rw [e]; exact wMul_w_ff a b ha1 ha2 hb1 hb2 _ _ _ _ sa sb cm hac w
set_option maxHeartbeats 4000000 in
theorem wDet_w (a b c d x y : Int) (c1 : ∀ w, Calls Try.prog 85 #[.int .i64 a, .int .i64 d] w fun e w' => AnsW w w' e x) (c2 : ∀ w, Calls Try.prog 85 #[.int .i64 b, .int .i64 c] w fun e w' => AnsW w w' e y) (w : World) :
    Calls Try.prog 66 #[.int .i64 a, .int .i64 b, .int .i64 c, .int .i64 d] w fun e w' => AnsW w w' e (x - y) := by
  have hB_0 := Below.refl w.heap.size w
  have C1 := Lib.hid c1; have C2 := Lib.hid c2
  clear c1 c2
  obtain ⟨w1, hw1, pr_0, hb1, hs1⟩ := new_box w (w.heap.size) rfl [.int .u64 0, .int .u64 0] 78
  have hb1' : Below w.heap.size w w1 := hb1.mono (by omega)
  clear hb1
  have hB_1 := hB_0.trans (hb1'.mono hB_0.size)
  clear hb1' hB_0
  go_enter Try.func66, Try.ntmps66
  obtain ⟨pre0, pre1, pre2, pre3⟩ := pr_0.open2
  go_wp2_with fail
  refine (C1.out _).mono ?_
  rintro e w2 ⟨rfl, hb2⟩
  clear pre0 pre1 pre2 pre3
  have hB_2 := hB_1.trans (hb2.mono hB_1.size)
  have pr_1 := pr_0.below hb2
  clear hb2 hB_1 pr_0
  obtain ⟨pre0, pre1, pre2, pre3⟩ := pr_1.open2
  go_wp2_with fail
  refine (C2.out _).mono ?_
  rintro e w3 ⟨rfl, hb3⟩
  clear pre0 pre1 pre2 pre3
  have hB_3 := hB_2.trans (hb3.mono hB_2.size)
  have pr_2 := pr_1.below hb3
  clear hb3 hB_2 pr_1
  obtain ⟨pre0, pre1, pre2, pre3⟩ := pr_2.open2
  go_wp2_with fail
  refine (less_any x y _).mono ?_
  rintro e w4 ⟨rfl, hb4⟩
  clear pre0 pre1 pre2 pre3
  have hB_4 := hB_3.trans (hb4.mono hB_3.size)
  have pr_3 := pr_2.below hb4
  clear hb4 hB_3 pr_2
  obtain ⟨pre0, pre1, pre2, pre3⟩ := pr_3.open2
  obtain ⟨sf1a, sf1b, sf1c, sf1d⟩ := pr_3.open2
  obtain ⟨sg1a, sg1b⟩ := Box.put2 pr_3 (.int .u64 ((wh (x - y) : Nat) : Int))
  go_wp2
  clear pre0 pre1 pre2 pre3 sf1a sf1b sf1c sf1d sg1a sg1b
  have hB_5 := below_setAll hB_4 (g := w.heap.size) (by omega) [.int .u64 ((wh (x - y) : Nat) : Int), .int .u64 ((wl (x - y) : Nat) : Int)]
  have pr_4 := pr_3.setAll [.int .u64 ((wh (x - y) : Nat) : Int), .int .u64 ((wl (x - y) : Nat) : Int)] rfl
  simp only [setAll, Nat.zero_add] at hB_5 pr_4
  clear hB_4 pr_3
  generalize (World.setCell (World.setCell w4 ⟨w.heap.size, 0, none⟩ (.int .u64 ((wh (x - y) : Nat) : Int))) ⟨w.heap.size, 1, none⟩ (.int .u64 ((wl (x - y) : Nat) : Int))) = w5 at *
  go_wp2
  obtain ⟨pre0, pre1, pre2, pre3⟩ := pr_4.open2
  exact bodyPost_ret (v := .agg #[.int .u64 ((wh (x - y) : Nat) : Int), .int .u64 ((wl (x - y) : Nat) : Int)]) (by simp [results, Try.results66, go_sem, pre0, pre1]) rfl ⟨rfl, hB_5⟩
theorem wDet_any (a b c d : Int) (ha1 : -9223372036854775808 ≤ a) (ha2 : a < 9223372036854775808) (hb1 : -9223372036854775808 ≤ b) (hb2 : b < 9223372036854775808) (hc1 : -9223372036854775808 ≤ c) (hc2 : c < 9223372036854775808) (hd1 : -9223372036854775808 ≤ d) (hd2 : d < 9223372036854775808) (w : World) :
    Calls Try.prog 66 #[.int .i64 a, .int .i64 b, .int .i64 c, .int .i64 d] w fun e w' => AnsW w w' e (a * d - b * c) :=
  wDet_w a b c d _ _ (fun w => wMul_any a d ha1 ha2 hd1 hd2 w) (fun w => wMul_any b c hb1 hb2 hc1 hc2 w) w
end Go.Proofs.Ytkcfaddilknelaa
/- The calls of wide: Num. -/
namespace Go.Proofs.Ytkcfaddilknelaa
open Go.RowKit Go.MagM
theorem make_two (b : Bool) (g lo hi : Nat) (w : World) (h : Box w g [.int .u64 ((lo : Nat) : Int), .int .u64 ((hi : Nat) : Int)]) (hl : lo < B) (hh : hi < B) :
    Calls Try.prog 52 #[.bool b, .slice (some ⟨g, 0, none⟩) 2 2] w fun e w' => AnsNum w w' e 2 (sgn b (lo + hi * B)) := by
  refine Make_any b _ 2 _ w (by omega) ⟨some ⟨g, 0, none⟩, 2, 2, fun i => if i = 0 then lo else hi, rfl, Nat.le_refl _, Nat.le_refl _, ?_, ?_⟩
  · intro i hi2
    refine ⟨g, 0, rfl, ?_, ?_⟩
    · rcases (by omega : i = 0 ∨ i = 1) with rfl | rfl
      · exact h.c0
      · exact h.c1
    · dsimp only
      split
      · exact hl
      · exact hh
  · simp [V]
set_option maxHeartbeats 8000000 in
theorem wNum_w_t (z : Int) (hz : InW z) (cb : ∀ w, Calls Try.prog 72 #[.agg #[.int .u64 ((wh (z) : Nat) : Int), .int .u64 ((wl (z) : Nat) : Int)]] w fun e w' => e = .returned (.bool true) ∧ Below w.heap.size w w') (w : World) :
    Calls Try.prog 65 #[.agg #[.int .u64 ((wh (z) : Nat) : Int), .int .u64 ((wl (z) : Nat) : Int)]] w fun e w' => AnsNum w w' e 2 (sgn true (wl (z.natAbs : Int) + wh (z.natAbs : Int) * B)) := by
  have hB_0 := Below.refl w.heap.size w
  have CB := Lib.hid cb; have HZ := Lib.hid hz
  clear cb hz
  obtain ⟨w1, hw1, pa_0, hb1, hs1⟩ := new_box w (w.heap.size) rfl [.int .u64 ((wh (z) : Nat) : Int), .int .u64 ((wl (z) : Nat) : Int)] 78
  have hb1' : Below w.heap.size w w1 := hb1.mono (by omega)
  clear hb1
  have hB_1 := hB_0.trans (hb1'.mono hB_0.size)
  clear hb1' hB_0
  obtain ⟨w2, hw2, pr_0, hb2, hs2⟩ := new_box w1 (w.heap.size + 1) hs1 [.bool false, .slice none 0 0] 29
  have hb2' : Below w1.heap.size w1 w2 := hb2.mono (by omega)
  clear hb2
  have hB_2 := hB_1.trans (hb2'.mono hB_1.size)
  have pa_1 := pa_0.below hb2'
  clear hb2' hB_1 pa_0
  go_enter Try.func65, Try.ntmps65
  obtain ⟨pae0, pae1, pae2, pae3⟩ := pa_1.open2
  obtain ⟨pre0, pre1, pre2, pre3⟩ := pr_0.open2
  go_wp2_with fail
  refine (size_any z _ HZ.out).mono ?_
  rintro e w3 ⟨rfl, hb3⟩
  clear pae0 pae1 pae2 pae3 pre0 pre1 pre2 pre3
  have hB_3 := hB_2.trans (hb3.mono hB_2.size)
  have pa_2 := pa_1.below hb3
  have pr_1 := pr_0.below hb3
  clear hb3 hB_2 pa_1 pr_0
  obtain ⟨pae0, pae1, pae2, pae3⟩ := pa_2.open2
  obtain ⟨pre0, pre1, pre2, pre3⟩ := pr_1.open2
  clear pae0 pae1 pae2 pae3 pre0 pre1 pre2 pre3
  have hl1pa := pa_2.lt
  have hl1pr := pr_1.lt
  have hl1B := hB_3.size
  obtain ⟨w4, hw4, ps_0, hb4, hs4⟩ := new_box w3 (w3.heap.size) rfl [.int .u64 ((wh ((z.natAbs : Int)) : Nat) : Int), .int .u64 ((wl ((z.natAbs : Int)) : Nat) : Int)] 78
  have hb4' : Below w3.heap.size w3 w4 := hb4.mono (by omega)
  clear hb4
  have hB_4 := hB_3.trans (hb4'.mono hB_3.size)
  have pa_3 := pa_2.below hb4'
  have pr_2 := pr_1.below hb4'
  clear hb4' hB_3 pa_2 pr_1
  obtain ⟨pae0, pae1, pae2, pae3⟩ := pa_3.open2
  obtain ⟨pre0, pre1, pre2, pre3⟩ := pr_2.open2
  obtain ⟨pse0, pse1, pse2, pse3⟩ := ps_0.open2
  go_wp2
  clear pae0 pae1 pae2 pae3 pre0 pre1 pre2 pre3 pse0 pse1 pse2 pse3
  have hWq_0 := Below.refl w4.heap.size w4
  have hsq : w.heap.size ≤ w4.heap.size := hB_4.size
  have hlqpa := pa_3.lt
  have hlqpr := pr_2.lt
  have hlqps := ps_0.lt
  have hB_5 := hB_4.drew'
  have pa_4 := pa_3.drew
  have pr_3 := pr_2.drew
  have ps_1 := ps_0.drew
  have hWq_1 := hWq_0.drew'
  clear hB_4 pa_3 pr_2 ps_0 hWq_0
  refine wp_region_noPanic ?_
  refine wp_region_held_drew (S := fun w' => w'.cell? ⟨w.heap.size, 0, none⟩ = some (.int .u64 ((wh (z) : Nat) : Int)) ∧ w'.cell? ⟨w.heap.size, 1, none⟩ = some (.int .u64 ((wl (z) : Nat) : Int)) ∧ w'.cell? ⟨w3.heap.size, 0, none⟩ = some (.int .u64 ((wh ((z.natAbs : Int)) : Nat) : Int)) ∧ w'.cell? ⟨w3.heap.size, 1, none⟩ = some (.int .u64 ((wl ((z.natAbs : Int)) : Nat) : Int))) (by kernel_rfl) (⟨pa_4.c0, pa_4.c1, ps_1.c0, ps_1.c1⟩) (fun hHeld => ?_)
  refine reg_take 0 ?_ ?_ ?_ (by kernel_rfl) (by kernel_rfl) (by kernel_rfl) (fun _ _ _ h => h) ?_ ?_ (by assumption) ?_
  rotate_left 2
  · simp only [List.getElem?_toArray, List.getElem?_cons_zero]; exact rfl
  · rfl
  · intro w hSw; (try dsimp only at hSw); go_simp; try with_reducible rfl
  try simp only [Act.put]
  try simp only [List.setIfInBounds_toArray, List.set_cons_zero, List.set_cons_succ]
  refine reg_take 2 ?_ ?_ ?_ (by kernel_rfl) (by kernel_rfl) (by kernel_rfl) (fun _ _ _ h => h) ?_ ?_ (by assumption) ?_
  rotate_left 2
  · simp only [List.getElem?_toArray, List.getElem?_cons_succ, List.getElem?_cons_zero]; exact rfl
  · rfl
  · intro w hSw; (try dsimp only at hSw); go_simp; try with_reducible rfl
  try simp only [Act.put]
  try simp only [List.setIfInBounds_toArray, List.set_cons_zero, List.set_cons_succ]
  refine reg_take 3 ?_ ?_ ?_ (by kernel_rfl) (by kernel_rfl) (by kernel_rfl) (fun _ _ _ h => h) ?_ ?_ (by assumption) ?_
  rotate_left 2
  · simp only [List.getElem?_toArray, List.getElem?_cons_succ, List.getElem?_cons_zero]; exact rfl
  · rfl
  · intro w hSw; (try dsimp only at hSw); go_simp; try with_reducible rfl
  try simp only [Act.put]
  try simp only [List.setIfInBounds_toArray, List.set_cons_zero, List.set_cons_succ]
  refine reg_take 4 ?_ ?_ ?_ (by kernel_rfl) (by kernel_rfl) (by kernel_rfl) (fun _ _ _ h => h) ?_ ?_ (by assumption) ?_
  rotate_left 2
  · simp only [List.getElem?_toArray, List.getElem?_cons_succ, List.getElem?_cons_zero]; exact rfl
  · rfl
  · intro w hSw; (try dsimp only at hSw); go_simp; try with_reducible rfl
  try simp only [Act.put]
  try simp only [List.setIfInBounds_toArray, List.set_cons_zero, List.set_cons_succ]
  refine reg_take 5 ?_ ?_ ?_ (by kernel_rfl) (by kernel_rfl) (by kernel_rfl) (fun _ _ _ h => h) ?_ ?_ (by assumption) ?_
  rotate_left 2
  · simp only [List.getElem?_toArray, List.getElem?_cons_succ, List.getElem?_cons_zero]; exact rfl
  · rfl
  · intro w hSw; (try dsimp only at hSw); go_simp; try with_reducible rfl
  try simp only [Act.put]
  try simp only [List.setIfInBounds_toArray, List.set_cons_zero, List.set_cons_succ]
  refine reg_grab (fun WWq aq hWW hAA => ?_)
  have HWq := Lib.hid hWW; have HAq := Lib.hid hAA; clear hWW hAA hHeld
  have stq_2t : ∀ (w' : World) (m2 : Bool) (o2 : Option Addr) (n2 : Nat) (c2 : Nat) (gpq : Nat), Below w.heap.size w w' → Box w' (w.heap.size) [.int .u64 ((wh (z) : Nat) : Int), .int .u64 ((wl (z) : Nat) : Int)] → Box w' (w.heap.size + 1) [.bool false, .slice none 0 0] → Box w' (w3.heap.size) [.int .u64 ((wh ((z.natAbs : Int)) : Nat) : Int), .int .u64 ((wl ((z.natAbs : Int)) : Nat) : Int)] → Below w4.heap.size w4 w' → RNum w' (.agg #[.bool m2, .slice o2 n2 c2]) (2) (sgn true (wl (z.natAbs : Int) + wh (z.natAbs : Int) * B)) → Box w' gpq [.int .u64 ((wl ((z.natAbs : Int)) : Nat) : Int), .int .u64 ((wh ((z.natAbs : Int)) : Nat) : Int)] → w4.heap.size ≤ gpq → WWq 1 #[true, true, true, true, true, true, true, true, false] (((aq.put (some 7) (.bool true)).put (some 12) (.slice (some ⟨gpq, 0, none⟩) 2 2)).put (some 13) (.agg #[.bool m2, .slice o2 n2 c2])) w' := by
    intro w5 m2 o2 n2 c2 gpq hB_0 pa_0 pr_0 ps_0 hWq_0 f2_0 pq_0 hgpq
    rw [HWq.out, HAq.out]
    try simp only [Act.put]
    try simp only [List.setIfInBounds_toArray, List.set_cons_zero, List.set_cons_succ]
    clear hWq_0
    obtain ⟨sf1a, sf1b, sf1c, sf1d⟩ := pr_0.open2
    obtain ⟨sg1a, sg1b⟩ := Box.put2 pr_0 (.bool m2)
    refine reg_call 8 ?_ (by kernel_rfl) ?_ (fun K hK => ?_)
    rotate_left 1
    · simp only [List.getElem?_toArray, List.getElem?_cons_succ, List.getElem?_cons_zero]; exact rfl
    go_simp
    have hB_1 := below_setAll hB_0 (g := w.heap.size + 1) (by omega) [.bool m2, .slice o2 n2 c2]
    have pa_1 := pa_0.farAll (g' := w.heap.size + 1) (by omega) [.bool m2, .slice o2 n2 c2]
    have ps_1 := ps_0.farAll (g' := w.heap.size + 1) (by omega) [.bool m2, .slice o2 n2 c2]
    have f2_1 := f2_0.setAll pr_0 (noWord2 _ _ _ _) [.bool m2, .slice o2 n2 c2] rfl
    have pq_1 := pq_0.farAll (g' := w.heap.size + 1) (by omega) [.bool m2, .slice o2 n2 c2]
    have pr_1 := pr_0.setAll [.bool m2, .slice o2 n2 c2] rfl
    simp only [setAll, Nat.zero_add] at hB_1 pa_1 pr_1 ps_1 f2_1 pq_1
    clear sf1a sf1b sf1c sf1d sg1a sg1b
    clear hB_0 pa_0 ps_0 f2_0 pq_0 pr_0
    refine hK.out _ _ ⟨pa_1.c0, pa_1.c1, ps_1.c0, ps_1.c1⟩ (fun hHeld => ?_)
    clear hK K
    try simp only [Act.put]
    try simp only [List.setIfInBounds_toArray, List.set_cons_zero, List.set_cons_succ]
    generalize (World.setCell (World.setCell w5 ⟨w.heap.size + 1, 0, none⟩ (.bool m2)) ⟨w.heap.size + 1, 1, none⟩ (.slice o2 n2 c2)) = w6 at *
    refine wpAnyH_done (by kernel_rfl) ?_ _
    refine NoPanic.normal ?_
    go_wp2
    obtain ⟨pre0, pre1, pre2, pre3⟩ := pr_1.open2
    exact bodyPost_ret (v := .agg #[.bool m2, .slice o2 n2 c2]) (by simp [results, Try.results65, go_sem, pre0, pre1]) rfl ⟨_, _, _, _, rfl, f2_1, hB_1⟩
  simp only [HAq.out, Act.put, List.setIfInBounds_toArray, List.set_cons_zero, List.set_cons_succ] at stq_2t
  have stq_1t : ∀ (w' : World) (gpq : Nat), Below w.heap.size w w' → Box w' (w.heap.size) [.int .u64 ((wh (z) : Nat) : Int), .int .u64 ((wl (z) : Nat) : Int)] → Box w' (w.heap.size + 1) [.bool false, .slice none 0 0] → Box w' (w3.heap.size) [.int .u64 ((wh ((z.natAbs : Int)) : Nat) : Int), .int .u64 ((wl ((z.natAbs : Int)) : Nat) : Int)] → Below w4.heap.size w4 w' → Box w' gpq [.int .u64 ((wl ((z.natAbs : Int)) : Nat) : Int), .int .u64 ((wh ((z.natAbs : Int)) : Nat) : Int)] → w4.heap.size ≤ gpq → WWq 2 #[true, true, true, true, true, true, true, false, false] ((aq.put (some 7) (.bool true)).put (some 12) (.slice (some ⟨gpq, 0, none⟩) 2 2)) w' := by
    intro w7 gpq hB_0 pa_0 pr_0 ps_0 hWq_0 pq_0 hgpq
    rw [HWq.out, HAq.out]
    try simp only [Act.put]
    try simp only [List.setIfInBounds_toArray, List.set_cons_zero, List.set_cons_succ]
    refine reg_all1 7 ?_ (by kernel_rfl) ?_ (fun K hK => ?_)
    rotate_left 1
    · simp only [List.getElem?_toArray, List.getElem?_cons_succ, List.getElem?_cons_zero]; exact rfl
    · go_simp
      refine (make_two true gpq _ _ _ pq_0 (wl_lt _) (wh_lt _)).mono ?_
      rintro e w8 ⟨m2, o2, n2, c2, rfl, f2_0, hb8⟩
      have hB_1 := hB_0.trans (hb8.mono hB_0.size)
      have pa_1 := pa_0.below hb8
      have pr_1 := pr_0.below hb8
      have ps_1 := ps_0.below hb8
      have hWq_1 := hWq_0.trans (hb8.mono hWq_0.size)
      have pq_1 := pq_0.below hb8
      clear hb8 hB_0 pa_0 pr_0 ps_0 hWq_0 pq_0
      go_wp2_with fail
      refine hK.out _ _ ⟨pa_1.c0, pa_1.c1, ps_1.c0, ps_1.c1⟩ (fun hHeld => ?_)
      clear hK K
      try simp only [Act.put]
      try simp only [List.setIfInBounds_toArray, List.set_cons_zero, List.set_cons_succ]
      rw [← HWq.out]
      exact stq_2t _ m2 o2 n2 c2 gpq hB_1 pa_1 pr_1 ps_1 hWq_1 f2_0 pq_1 (by omega)
  try simp only [HAq.out, Act.put, List.setIfInBounds_toArray, List.set_cons_zero, List.set_cons_succ] at stq_1t
  have stq_1f : ∀ (w' : World), Below w.heap.size w w' → Box w' (w.heap.size) [.int .u64 ((wh (z) : Nat) : Int), .int .u64 ((wl (z) : Nat) : Int)] → Box w' (w.heap.size + 1) [.bool false, .slice none 0 0] → Box w' (w3.heap.size) [.int .u64 ((wh ((z.natAbs : Int)) : Nat) : Int), .int .u64 ((wl ((z.natAbs : Int)) : Nat) : Int)] → Below w4.heap.size w4 w' → WWq 3 #[true, true, true, true, true, true, false, false, false] (aq.put (some 7) (.bool true)) w' := by
    intro w9 hB_0 pa_0 pr_0 ps_0 hWq_0
    rw [HWq.out, HAq.out]
    try simp only [Act.put]
    try simp only [List.setIfInBounds_toArray, List.set_cons_zero, List.set_cons_succ]
    refine reg_all1 6 ?_ (by kernel_rfl) ?_ (fun K hK => ?_)
    rotate_left 1
    · simp only [List.getElem?_toArray, List.getElem?_cons_succ, List.getElem?_cons_zero]; exact rfl
    · go_simp
      have hgn : w4.heap.size ≤ w9.heap.size := hWq_0.size
      obtain ⟨w10, hww10, pq_0, hb10, -⟩ := new_box w9 _ rfl [.int .u64 ((wl ((z.natAbs : Int)) : Nat) : Int), .int .u64 ((wh ((z.natAbs : Int)) : Nat) : Int)] 76
      rw [hww10]
      have hB_1 := hB_0.trans (hb10.mono hB_0.size)
      have pa_1 := pa_0.below hb10
      have pr_1 := pr_0.below hb10
      have ps_1 := ps_0.below hb10
      have hWq_1 := hWq_0.trans (hb10.mono hWq_0.size)
      clear hb10 hB_0 pa_0 pr_0 ps_0 hWq_0
      refine hK.out _ _ ⟨pa_1.c0, pa_1.c1, ps_1.c0, ps_1.c1⟩ (fun hHeld => ?_)
      clear hK K
      try simp only [Act.put]
      try simp only [List.setIfInBounds_toArray, List.set_cons_zero, List.set_cons_succ]
      rw [← HWq.out]
      exact stq_1t _ w9.heap.size hB_1 pa_1 pr_1 ps_1 hWq_1 pq_0 (by omega)
  try simp only [HAq.out, Act.put, List.setIfInBounds_toArray, List.set_cons_zero, List.set_cons_succ] at stq_1f
  have stq_0t : ∀ (w' : World) (gpq : Nat), Below w.heap.size w w' → Box w' (w.heap.size) [.int .u64 ((wh (z) : Nat) : Int), .int .u64 ((wl (z) : Nat) : Int)] → Box w' (w.heap.size + 1) [.bool false, .slice none 0 0] → Box w' (w3.heap.size) [.int .u64 ((wh ((z.natAbs : Int)) : Nat) : Int), .int .u64 ((wl ((z.natAbs : Int)) : Nat) : Int)] → Below w4.heap.size w4 w' → Box w' gpq [.int .u64 ((wl ((z.natAbs : Int)) : Nat) : Int), .int .u64 ((wh ((z.natAbs : Int)) : Nat) : Int)] → w4.heap.size ≤ gpq → WWq 3 #[true, false, true, true, true, true, true, false, false] (aq.put (some 12) (.slice (some ⟨gpq, 0, none⟩) 2 2)) w' := by
    intro w11 gpq hB_0 pa_0 pr_0 ps_0 hWq_0 pq_0 hgpq
    rw [HWq.out, HAq.out]
    try simp only [Act.put]
    try simp only [List.setIfInBounds_toArray, List.set_cons_zero, List.set_cons_succ]
    refine reg_all1 1 ?_ (by kernel_rfl) ?_ (fun K hK => ?_)
    rotate_left 1
    · simp only [List.getElem?_toArray, List.getElem?_cons_succ, List.getElem?_cons_zero]; exact rfl
    · go_simp
      refine (CB.out _).mono ?_
      rintro e w12 ⟨rfl, hb12⟩
      have hB_1 := hB_0.trans (hb12.mono hB_0.size)
      have pa_1 := pa_0.below hb12
      have pr_1 := pr_0.below hb12
      have ps_1 := ps_0.below hb12
      have hWq_1 := hWq_0.trans (hb12.mono hWq_0.size)
      have pq_1 := pq_0.below hb12
      clear hb12 hB_0 pa_0 pr_0 ps_0 hWq_0 pq_0
      go_wp2_with fail
      refine hK.out _ _ ⟨pa_1.c0, pa_1.c1, ps_1.c0, ps_1.c1⟩ (fun hHeld => ?_)
      clear hK K
      try simp only [Act.put]
      try simp only [List.setIfInBounds_toArray, List.set_cons_zero, List.set_cons_succ]
      rw [← HWq.out]
      exact stq_1t _ gpq hB_1 pa_1 pr_1 ps_1 hWq_1 pq_1 (by omega)
  try simp only [HAq.out, Act.put, List.setIfInBounds_toArray, List.set_cons_zero, List.set_cons_succ] at stq_0t
  have stq_0f : ∀ (w' : World), Below w.heap.size w w' → Box w' (w.heap.size) [.int .u64 ((wh (z) : Nat) : Int), .int .u64 ((wl (z) : Nat) : Int)] → Box w' (w.heap.size + 1) [.bool false, .slice none 0 0] → Box w' (w3.heap.size) [.int .u64 ((wh ((z.natAbs : Int)) : Nat) : Int), .int .u64 ((wl ((z.natAbs : Int)) : Nat) : Int)] → Below w4.heap.size w4 w' → WWq 4 #[true, false, true, true, true, true, false, false, false] aq w' := by
    intro w13 hB_0 pa_0 pr_0 ps_0 hWq_0
    rw [HWq.out, HAq.out]
    try simp only [Act.put]
    try simp only [List.setIfInBounds_toArray, List.set_cons_zero, List.set_cons_succ]
    refine reg_all2 1 6 ?_ ?_ (by kernel_rfl) ?_ ?_ (fun K hK => ?_) (fun K hK => ?_)
    rotate_left 2
    · simp only [List.getElem?_toArray, List.getElem?_cons_succ, List.getElem?_cons_zero]; exact rfl
    · simp only [List.getElem?_toArray, List.getElem?_cons_succ, List.getElem?_cons_zero]; exact rfl
    · go_simp
      refine (CB.out _).mono ?_
      rintro e w14 ⟨rfl, hb14⟩
      have hB_1 := hB_0.trans (hb14.mono hB_0.size)
      have pa_1 := pa_0.below hb14
      have pr_1 := pr_0.below hb14
      have ps_1 := ps_0.below hb14
      have hWq_1 := hWq_0.trans (hb14.mono hWq_0.size)
      clear hb14 hB_0 pa_0 pr_0 ps_0 hWq_0
      go_wp2_with fail
      refine hK.out _ _ ⟨pa_1.c0, pa_1.c1, ps_1.c0, ps_1.c1⟩ (fun hHeld => ?_)
      clear hK K
      try simp only [Act.put]
      try simp only [List.setIfInBounds_toArray, List.set_cons_zero, List.set_cons_succ]
      rw [← HWq.out]
      exact stq_1f _ hB_1 pa_1 pr_1 ps_1 hWq_1
    · go_simp
      have hgn : w4.heap.size ≤ w13.heap.size := hWq_0.size
      obtain ⟨w15, hww15, pq_0, hb15, -⟩ := new_box w13 _ rfl [.int .u64 ((wl ((z.natAbs : Int)) : Nat) : Int), .int .u64 ((wh ((z.natAbs : Int)) : Nat) : Int)] 76
      rw [hww15]
      have hB_1 := hB_0.trans (hb15.mono hB_0.size)
      have pa_1 := pa_0.below hb15
      have pr_1 := pr_0.below hb15
      have ps_1 := ps_0.below hb15
      have hWq_1 := hWq_0.trans (hb15.mono hWq_0.size)
      clear hb15 hB_0 pa_0 pr_0 ps_0 hWq_0
      refine hK.out _ _ ⟨pa_1.c0, pa_1.c1, ps_1.c0, ps_1.c1⟩ (fun hHeld => ?_)
      clear hK K
      try simp only [Act.put]
      try simp only [List.setIfInBounds_toArray, List.set_cons_zero, List.set_cons_succ]
      rw [← HWq.out]
      exact stq_0t _ w13.heap.size hB_1 pa_1 pr_1 ps_1 hWq_1 pq_0 (by omega)
  exact stq_0f _ hB_5 pa_4 pr_3 ps_1 hWq_1
set_option maxHeartbeats 8000000 in
theorem wNum_w_f (z : Int) (hz : InW z) (cb : ∀ w, Calls Try.prog 72 #[.agg #[.int .u64 ((wh (z) : Nat) : Int), .int .u64 ((wl (z) : Nat) : Int)]] w fun e w' => e = .returned (.bool false) ∧ Below w.heap.size w w') (w : World) :
    Calls Try.prog 65 #[.agg #[.int .u64 ((wh (z) : Nat) : Int), .int .u64 ((wl (z) : Nat) : Int)]] w fun e w' => AnsNum w w' e 2 (sgn false (wl (z.natAbs : Int) + wh (z.natAbs : Int) * B)) := by
  have hB_0 := Below.refl w.heap.size w
  have CB := Lib.hid cb; have HZ := Lib.hid hz
  clear cb hz
  obtain ⟨w1, hw1, pa_0, hb1, hs1⟩ := new_box w (w.heap.size) rfl [.int .u64 ((wh (z) : Nat) : Int), .int .u64 ((wl (z) : Nat) : Int)] 78
  have hb1' : Below w.heap.size w w1 := hb1.mono (by omega)
  clear hb1
  have hB_1 := hB_0.trans (hb1'.mono hB_0.size)
  clear hb1' hB_0
  obtain ⟨w2, hw2, pr_0, hb2, hs2⟩ := new_box w1 (w.heap.size + 1) hs1 [.bool false, .slice none 0 0] 29
  have hb2' : Below w1.heap.size w1 w2 := hb2.mono (by omega)
  clear hb2
  have hB_2 := hB_1.trans (hb2'.mono hB_1.size)
  have pa_1 := pa_0.below hb2'
  clear hb2' hB_1 pa_0
  go_enter Try.func65, Try.ntmps65
  obtain ⟨pae0, pae1, pae2, pae3⟩ := pa_1.open2
  obtain ⟨pre0, pre1, pre2, pre3⟩ := pr_0.open2
  go_wp2_with fail
  refine (size_any z _ HZ.out).mono ?_
  rintro e w3 ⟨rfl, hb3⟩
  clear pae0 pae1 pae2 pae3 pre0 pre1 pre2 pre3
  have hB_3 := hB_2.trans (hb3.mono hB_2.size)
  have pa_2 := pa_1.below hb3
  have pr_1 := pr_0.below hb3
  clear hb3 hB_2 pa_1 pr_0
  obtain ⟨pae0, pae1, pae2, pae3⟩ := pa_2.open2
  obtain ⟨pre0, pre1, pre2, pre3⟩ := pr_1.open2
  clear pae0 pae1 pae2 pae3 pre0 pre1 pre2 pre3
  have hl1pa := pa_2.lt
  have hl1pr := pr_1.lt
  have hl1B := hB_3.size
  obtain ⟨w4, hw4, ps_0, hb4, hs4⟩ := new_box w3 (w3.heap.size) rfl [.int .u64 ((wh ((z.natAbs : Int)) : Nat) : Int), .int .u64 ((wl ((z.natAbs : Int)) : Nat) : Int)] 78
  have hb4' : Below w3.heap.size w3 w4 := hb4.mono (by omega)
  clear hb4
  have hB_4 := hB_3.trans (hb4'.mono hB_3.size)
  have pa_3 := pa_2.below hb4'
  have pr_2 := pr_1.below hb4'
  clear hb4' hB_3 pa_2 pr_1
  obtain ⟨pae0, pae1, pae2, pae3⟩ := pa_3.open2
  obtain ⟨pre0, pre1, pre2, pre3⟩ := pr_2.open2
  obtain ⟨pse0, pse1, pse2, pse3⟩ := ps_0.open2
  go_wp2
  clear pae0 pae1 pae2 pae3 pre0 pre1 pre2 pre3 pse0 pse1 pse2 pse3
  have hWq_0 := Below.refl w4.heap.size w4
  have hsq : w.heap.size ≤ w4.heap.size := hB_4.size
  have hlqpa := pa_3.lt
  have hlqpr := pr_2.lt
  have hlqps := ps_0.lt
  have hB_5 := hB_4.drew'
  have pa_4 := pa_3.drew
  have pr_3 := pr_2.drew
  have ps_1 := ps_0.drew
  have hWq_1 := hWq_0.drew'
  clear hB_4 pa_3 pr_2 ps_0 hWq_0
  refine wp_region_noPanic ?_
  refine wp_region_held_drew (S := fun w' => w'.cell? ⟨w.heap.size, 0, none⟩ = some (.int .u64 ((wh (z) : Nat) : Int)) ∧ w'.cell? ⟨w.heap.size, 1, none⟩ = some (.int .u64 ((wl (z) : Nat) : Int)) ∧ w'.cell? ⟨w3.heap.size, 0, none⟩ = some (.int .u64 ((wh ((z.natAbs : Int)) : Nat) : Int)) ∧ w'.cell? ⟨w3.heap.size, 1, none⟩ = some (.int .u64 ((wl ((z.natAbs : Int)) : Nat) : Int))) (by kernel_rfl) (⟨pa_4.c0, pa_4.c1, ps_1.c0, ps_1.c1⟩) (fun hHeld => ?_)
  refine reg_take 0 ?_ ?_ ?_ (by kernel_rfl) (by kernel_rfl) (by kernel_rfl) (fun _ _ _ h => h) ?_ ?_ (by assumption) ?_
  rotate_left 2
  · simp only [List.getElem?_toArray, List.getElem?_cons_zero]; exact rfl
  · rfl
  · intro w hSw; (try dsimp only at hSw); go_simp; try with_reducible rfl
  try simp only [Act.put]
  try simp only [List.setIfInBounds_toArray, List.set_cons_zero, List.set_cons_succ]
  refine reg_take 2 ?_ ?_ ?_ (by kernel_rfl) (by kernel_rfl) (by kernel_rfl) (fun _ _ _ h => h) ?_ ?_ (by assumption) ?_
  rotate_left 2
  · simp only [List.getElem?_toArray, List.getElem?_cons_succ, List.getElem?_cons_zero]; exact rfl
  · rfl
  · intro w hSw; (try dsimp only at hSw); go_simp; try with_reducible rfl
  try simp only [Act.put]
  try simp only [List.setIfInBounds_toArray, List.set_cons_zero, List.set_cons_succ]
  refine reg_take 3 ?_ ?_ ?_ (by kernel_rfl) (by kernel_rfl) (by kernel_rfl) (fun _ _ _ h => h) ?_ ?_ (by assumption) ?_
  rotate_left 2
  · simp only [List.getElem?_toArray, List.getElem?_cons_succ, List.getElem?_cons_zero]; exact rfl
  · rfl
  · intro w hSw; (try dsimp only at hSw); go_simp; try with_reducible rfl
  try simp only [Act.put]
  try simp only [List.setIfInBounds_toArray, List.set_cons_zero, List.set_cons_succ]
  refine reg_take 4 ?_ ?_ ?_ (by kernel_rfl) (by kernel_rfl) (by kernel_rfl) (fun _ _ _ h => h) ?_ ?_ (by assumption) ?_
  rotate_left 2
  · simp only [List.getElem?_toArray, List.getElem?_cons_succ, List.getElem?_cons_zero]; exact rfl
  · rfl
  · intro w hSw; (try dsimp only at hSw); go_simp; try with_reducible rfl
  try simp only [Act.put]
  try simp only [List.setIfInBounds_toArray, List.set_cons_zero, List.set_cons_succ]
  refine reg_take 5 ?_ ?_ ?_ (by kernel_rfl) (by kernel_rfl) (by kernel_rfl) (fun _ _ _ h => h) ?_ ?_ (by assumption) ?_
  rotate_left 2
  · simp only [List.getElem?_toArray, List.getElem?_cons_succ, List.getElem?_cons_zero]; exact rfl
  · rfl
  · intro w hSw; (try dsimp only at hSw); go_simp; try with_reducible rfl
  try simp only [Act.put]
  try simp only [List.setIfInBounds_toArray, List.set_cons_zero, List.set_cons_succ]
  refine reg_grab (fun WWq aq hWW hAA => ?_)
  have HWq := Lib.hid hWW; have HAq := Lib.hid hAA; clear hWW hAA hHeld
  have stq_2t : ∀ (w' : World) (m2 : Bool) (o2 : Option Addr) (n2 : Nat) (c2 : Nat) (gpq : Nat), Below w.heap.size w w' → Box w' (w.heap.size) [.int .u64 ((wh (z) : Nat) : Int), .int .u64 ((wl (z) : Nat) : Int)] → Box w' (w.heap.size + 1) [.bool false, .slice none 0 0] → Box w' (w3.heap.size) [.int .u64 ((wh ((z.natAbs : Int)) : Nat) : Int), .int .u64 ((wl ((z.natAbs : Int)) : Nat) : Int)] → Below w4.heap.size w4 w' → RNum w' (.agg #[.bool m2, .slice o2 n2 c2]) (2) (sgn false (wl (z.natAbs : Int) + wh (z.natAbs : Int) * B)) → Box w' gpq [.int .u64 ((wl ((z.natAbs : Int)) : Nat) : Int), .int .u64 ((wh ((z.natAbs : Int)) : Nat) : Int)] → w4.heap.size ≤ gpq → WWq 1 #[true, true, true, true, true, true, true, true, false] (((aq.put (some 7) (.bool false)).put (some 12) (.slice (some ⟨gpq, 0, none⟩) 2 2)).put (some 13) (.agg #[.bool m2, .slice o2 n2 c2])) w' := by
    intro w5 m2 o2 n2 c2 gpq hB_0 pa_0 pr_0 ps_0 hWq_0 f2_0 pq_0 hgpq
    rw [HWq.out, HAq.out]
    try simp only [Act.put]
    try simp only [List.setIfInBounds_toArray, List.set_cons_zero, List.set_cons_succ]
    clear hWq_0
    obtain ⟨sf1a, sf1b, sf1c, sf1d⟩ := pr_0.open2
    obtain ⟨sg1a, sg1b⟩ := Box.put2 pr_0 (.bool m2)
    refine reg_call 8 ?_ (by kernel_rfl) ?_ (fun K hK => ?_)
    rotate_left 1
    · simp only [List.getElem?_toArray, List.getElem?_cons_succ, List.getElem?_cons_zero]; exact rfl
    go_simp
    have hB_1 := below_setAll hB_0 (g := w.heap.size + 1) (by omega) [.bool m2, .slice o2 n2 c2]
    have pa_1 := pa_0.farAll (g' := w.heap.size + 1) (by omega) [.bool m2, .slice o2 n2 c2]
    have ps_1 := ps_0.farAll (g' := w.heap.size + 1) (by omega) [.bool m2, .slice o2 n2 c2]
    have f2_1 := f2_0.setAll pr_0 (noWord2 _ _ _ _) [.bool m2, .slice o2 n2 c2] rfl
    have pq_1 := pq_0.farAll (g' := w.heap.size + 1) (by omega) [.bool m2, .slice o2 n2 c2]
    have pr_1 := pr_0.setAll [.bool m2, .slice o2 n2 c2] rfl
    simp only [setAll, Nat.zero_add] at hB_1 pa_1 pr_1 ps_1 f2_1 pq_1
    clear sf1a sf1b sf1c sf1d sg1a sg1b
    clear hB_0 pa_0 ps_0 f2_0 pq_0 pr_0
    refine hK.out _ _ ⟨pa_1.c0, pa_1.c1, ps_1.c0, ps_1.c1⟩ (fun hHeld => ?_)
    clear hK K
    try simp only [Act.put]
    try simp only [List.setIfInBounds_toArray, List.set_cons_zero, List.set_cons_succ]
    generalize (World.setCell (World.setCell w5 ⟨w.heap.size + 1, 0, none⟩ (.bool m2)) ⟨w.heap.size + 1, 1, none⟩ (.slice o2 n2 c2)) = w6 at *
    refine wpAnyH_done (by kernel_rfl) ?_ _
    refine NoPanic.normal ?_
    go_wp2
    obtain ⟨pre0, pre1, pre2, pre3⟩ := pr_1.open2
    exact bodyPost_ret (v := .agg #[.bool m2, .slice o2 n2 c2]) (by simp [results, Try.results65, go_sem, pre0, pre1]) rfl ⟨_, _, _, _, rfl, f2_1, hB_1⟩
  simp only [HAq.out, Act.put, List.setIfInBounds_toArray, List.set_cons_zero, List.set_cons_succ] at stq_2t
  have stq_1t : ∀ (w' : World) (gpq : Nat), Below w.heap.size w w' → Box w' (w.heap.size) [.int .u64 ((wh (z) : Nat) : Int), .int .u64 ((wl (z) : Nat) : Int)] → Box w' (w.heap.size + 1) [.bool false, .slice none 0 0] → Box w' (w3.heap.size) [.int .u64 ((wh ((z.natAbs : Int)) : Nat) : Int), .int .u64 ((wl ((z.natAbs : Int)) : Nat) : Int)] → Below w4.heap.size w4 w' → Box w' gpq [.int .u64 ((wl ((z.natAbs : Int)) : Nat) : Int), .int .u64 ((wh ((z.natAbs : Int)) : Nat) : Int)] → w4.heap.size ≤ gpq → WWq 2 #[true, true, true, true, true, true, true, false, false] ((aq.put (some 7) (.bool false)).put (some 12) (.slice (some ⟨gpq, 0, none⟩) 2 2)) w' := by
    intro w7 gpq hB_0 pa_0 pr_0 ps_0 hWq_0 pq_0 hgpq
    rw [HWq.out, HAq.out]
    try simp only [Act.put]
    try simp only [List.setIfInBounds_toArray, List.set_cons_zero, List.set_cons_succ]
    refine reg_all1 7 ?_ (by kernel_rfl) ?_ (fun K hK => ?_)
    rotate_left 1
    · simp only [List.getElem?_toArray, List.getElem?_cons_succ, List.getElem?_cons_zero]; exact rfl
    · go_simp
      refine (make_two false gpq _ _ _ pq_0 (wl_lt _) (wh_lt _)).mono ?_
      rintro e w8 ⟨m2, o2, n2, c2, rfl, f2_0, hb8⟩
      have hB_1 := hB_0.trans (hb8.mono hB_0.size)
      have pa_1 := pa_0.below hb8
      have pr_1 := pr_0.below hb8
      have ps_1 := ps_0.below hb8
      have hWq_1 := hWq_0.trans (hb8.mono hWq_0.size)
      have pq_1 := pq_0.below hb8
      clear hb8 hB_0 pa_0 pr_0 ps_0 hWq_0 pq_0
      go_wp2_with fail
      refine hK.out _ _ ⟨pa_1.c0, pa_1.c1, ps_1.c0, ps_1.c1⟩ (fun hHeld => ?_)
      clear hK K
      try simp only [Act.put]
      try simp only [List.setIfInBounds_toArray, List.set_cons_zero, List.set_cons_succ]
      rw [← HWq.out]
      exact stq_2t _ m2 o2 n2 c2 gpq hB_1 pa_1 pr_1 ps_1 hWq_1 f2_0 pq_1 (by omega)
  try simp only [HAq.out, Act.put, List.setIfInBounds_toArray, List.set_cons_zero, List.set_cons_succ] at stq_1t
  have stq_1f : ∀ (w' : World), Below w.heap.size w w' → Box w' (w.heap.size) [.int .u64 ((wh (z) : Nat) : Int), .int .u64 ((wl (z) : Nat) : Int)] → Box w' (w.heap.size + 1) [.bool false, .slice none 0 0] → Box w' (w3.heap.size) [.int .u64 ((wh ((z.natAbs : Int)) : Nat) : Int), .int .u64 ((wl ((z.natAbs : Int)) : Nat) : Int)] → Below w4.heap.size w4 w' → WWq 3 #[true, true, true, true, true, true, false, false, false] (aq.put (some 7) (.bool false)) w' := by
    intro w9 hB_0 pa_0 pr_0 ps_0 hWq_0
    rw [HWq.out, HAq.out]
    try simp only [Act.put]
    try simp only [List.setIfInBounds_toArray, List.set_cons_zero, List.set_cons_succ]
    refine reg_all1 6 ?_ (by kernel_rfl) ?_ (fun K hK => ?_)
    rotate_left 1
    · simp only [List.getElem?_toArray, List.getElem?_cons_succ, List.getElem?_cons_zero]; exact rfl
    · go_simp
      have hgn : w4.heap.size ≤ w9.heap.size := hWq_0.size
      obtain ⟨w10, hww10, pq_0, hb10, -⟩ := new_box w9 _ rfl [.int .u64 ((wl ((z.natAbs : Int)) : Nat) : Int), .int .u64 ((wh ((z.natAbs : Int)) : Nat) : Int)] 76
      rw [hww10]
      have hB_1 := hB_0.trans (hb10.mono hB_0.size)
      have pa_1 := pa_0.below hb10
      have pr_1 := pr_0.below hb10
      have ps_1 := ps_0.below hb10
      have hWq_1 := hWq_0.trans (hb10.mono hWq_0.size)
      clear hb10 hB_0 pa_0 pr_0 ps_0 hWq_0
      refine hK.out _ _ ⟨pa_1.c0, pa_1.c1, ps_1.c0, ps_1.c1⟩ (fun hHeld => ?_)
      clear hK K
      try simp only [Act.put]
      try simp only [List.setIfInBounds_toArray, List.set_cons_zero, List.set_cons_succ]
      rw [← HWq.out]
      exact stq_1t _ w9.heap.size hB_1 pa_1 pr_1 ps_1 hWq_1 pq_0 (by omega)
  try simp only [HAq.out, Act.put, List.setIfInBounds_toArray, List.set_cons_zero, List.set_cons_succ] at stq_1f
  have stq_0t : ∀ (w' : World) (gpq : Nat), Below w.heap.size w w' → Box w' (w.heap.size) [.int .u64 ((wh (z) : Nat) : Int), .int .u64 ((wl (z) : Nat) : Int)] → Box w' (w.heap.size + 1) [.bool false, .slice none 0 0] → Box w' (w3.heap.size) [.int .u64 ((wh ((z.natAbs : Int)) : Nat) : Int), .int .u64 ((wl ((z.natAbs : Int)) : Nat) : Int)] → Below w4.heap.size w4 w' → Box w' gpq [.int .u64 ((wl ((z.natAbs : Int)) : Nat) : Int), .int .u64 ((wh ((z.natAbs : Int)) : Nat) : Int)] → w4.heap.size ≤ gpq → WWq 3 #[true, false, true, true, true, true, true, false, false] (aq.put (some 12) (.slice (some ⟨gpq, 0, none⟩) 2 2)) w' := by
    intro w11 gpq hB_0 pa_0 pr_0 ps_0 hWq_0 pq_0 hgpq
    rw [HWq.out, HAq.out]
    try simp only [Act.put]
    try simp only [List.setIfInBounds_toArray, List.set_cons_zero, List.set_cons_succ]
    refine reg_all1 1 ?_ (by kernel_rfl) ?_ (fun K hK => ?_)
    rotate_left 1
    · simp only [List.getElem?_toArray, List.getElem?_cons_succ, List.getElem?_cons_zero]; exact rfl
    · go_simp
      refine (CB.out _).mono ?_
      rintro e w12 ⟨rfl, hb12⟩
      have hB_1 := hB_0.trans (hb12.mono hB_0.size)
      have pa_1 := pa_0.below hb12
      have pr_1 := pr_0.below hb12
      have ps_1 := ps_0.below hb12
      have hWq_1 := hWq_0.trans (hb12.mono hWq_0.size)
      have pq_1 := pq_0.below hb12
      clear hb12 hB_0 pa_0 pr_0 ps_0 hWq_0 pq_0
      go_wp2_with fail
      refine hK.out _ _ ⟨pa_1.c0, pa_1.c1, ps_1.c0, ps_1.c1⟩ (fun hHeld => ?_)
      clear hK K
      try simp only [Act.put]
      try simp only [List.setIfInBounds_toArray, List.set_cons_zero, List.set_cons_succ]
      rw [← HWq.out]
      exact stq_1t _ gpq hB_1 pa_1 pr_1 ps_1 hWq_1 pq_1 (by omega)
  try simp only [HAq.out, Act.put, List.setIfInBounds_toArray, List.set_cons_zero, List.set_cons_succ] at stq_0t
  have stq_0f : ∀ (w' : World), Below w.heap.size w w' → Box w' (w.heap.size) [.int .u64 ((wh (z) : Nat) : Int), .int .u64 ((wl (z) : Nat) : Int)] → Box w' (w.heap.size + 1) [.bool false, .slice none 0 0] → Box w' (w3.heap.size) [.int .u64 ((wh ((z.natAbs : Int)) : Nat) : Int), .int .u64 ((wl ((z.natAbs : Int)) : Nat) : Int)] → Below w4.heap.size w4 w' → WWq 4 #[true, false, true, true, true, true, false, false, false] aq w' := by
    intro w13 hB_0 pa_0 pr_0 ps_0 hWq_0
    rw [HWq.out, HAq.out]
    try simp only [Act.put]
    try simp only [List.setIfInBounds_toArray, List.set_cons_zero, List.set_cons_succ]
    refine reg_all2 1 6 ?_ ?_ (by kernel_rfl) ?_ ?_ (fun K hK => ?_) (fun K hK => ?_)
    rotate_left 2
    · simp only [List.getElem?_toArray, List.getElem?_cons_succ, List.getElem?_cons_zero]; exact rfl
    · simp only [List.getElem?_toArray, List.getElem?_cons_succ, List.getElem?_cons_zero]; exact rfl
    · go_simp
      refine (CB.out _).mono ?_
      rintro e w14 ⟨rfl, hb14⟩
      have hB_1 := hB_0.trans (hb14.mono hB_0.size)
      have pa_1 := pa_0.below hb14
      have pr_1 := pr_0.below hb14
      have ps_1 := ps_0.below hb14
      have hWq_1 := hWq_0.trans (hb14.mono hWq_0.size)
      clear hb14 hB_0 pa_0 pr_0 ps_0 hWq_0
      go_wp2_with fail
      refine hK.out _ _ ⟨pa_1.c0, pa_1.c1, ps_1.c0, ps_1.c1⟩ (fun hHeld => ?_)
      clear hK K
      try simp only [Act.put]
      try simp only [List.setIfInBounds_toArray, List.set_cons_zero, List.set_cons_succ]
      rw [← HWq.out]
      exact stq_1f _ hB_1 pa_1 pr_1 ps_1 hWq_1
    · go_simp
      have hgn : w4.heap.size ≤ w13.heap.size := hWq_0.size
      obtain ⟨w15, hww15, pq_0, hb15, -⟩ := new_box w13 _ rfl [.int .u64 ((wl ((z.natAbs : Int)) : Nat) : Int), .int .u64 ((wh ((z.natAbs : Int)) : Nat) : Int)] 76
      rw [hww15]
      have hB_1 := hB_0.trans (hb15.mono hB_0.size)
      have pa_1 := pa_0.below hb15
      have pr_1 := pr_0.below hb15
      have ps_1 := ps_0.below hb15
      have hWq_1 := hWq_0.trans (hb15.mono hWq_0.size)
      clear hb15 hB_0 pa_0 pr_0 ps_0 hWq_0
      refine hK.out _ _ ⟨pa_1.c0, pa_1.c1, ps_1.c0, ps_1.c1⟩ (fun hHeld => ?_)
      clear hK K
      try simp only [Act.put]
      try simp only [List.setIfInBounds_toArray, List.set_cons_zero, List.set_cons_succ]
      rw [← HWq.out]
      exact stq_0t _ w13.heap.size hB_1 pa_1 pr_1 ps_1 hWq_1 pq_0 (by omega)
  exact stq_0f _ hB_5 pa_4 pr_3 ps_1 hWq_1
theorem wNum_any (z : Int) (hz : InW z) (w : World) : Calls Try.prog 65 #[.agg #[.int .u64 ((wh (z) : Nat) : Int), .int .u64 ((wl (z) : Nat) : Int)]] w fun e w' => AnsNum w w' e 2 z := by
  have hs := w_size hz
  have e : ((wl (z.natAbs : Int) + wh (z.natAbs : Int) * B : Nat) : Int) = (z.natAbs : Int) := by simp only [B_eq]; omega
  by_cases c : z < 0
  · refine (wNum_w_t z hz (bel_is (by rw [wrapW_self hz]; simp [c])) w).mono fun e' w' h => h.of (Nat.le_refl _) ?_
    rw [sgn_true, e]; omega
  · refine (wNum_w_f z hz (bel_is (by rw [wrapW_self hz]; simp [c])) w).mono fun e' w' h => h.of (Nat.le_refl _) ?_
    rw [sgn_false, e]; omega
end Go.Proofs.Ytkcfaddilknelaa
/- The calls of pred: turn, Orient, Area2, Dist2. -/
namespace Go.Proofs.Ytkcfaddilknelaa
open Go.RowKit Go.MagM
set_option maxHeartbeats 4000000 in
theorem turn_w (a0 a1 b0 b1 v0 v1 : Int) (p q r s z : Int) (e1 : IntKind.i64.wrap (b0 - a0) = p) (e2 : IntKind.i64.wrap (b1 - a1) = q) (e3 : IntKind.i64.wrap (v0 - a0) = r) (e4 : IntKind.i64.wrap (v1 - a1) = s) (cd : ∀ w, Calls Try.prog 66 #[.int .i64 p, .int .i64 q, .int .i64 r, .int .i64 s] w fun e w' => AnsW w w' e z) (w : World) :
    Calls Try.prog 46 #[.agg #[.int .i64 a0, .int .i64 a1], .agg #[.int .i64 b0, .int .i64 b1], .agg #[.int .i64 v0, .int .i64 v1]] w fun e w' => AnsW w w' e z := by
  have hB_0 := Below.refl w.heap.size w
  have CD := Lib.hid cd
  clear cd
  obtain ⟨w1, hw1, pa_0, hb1, hs1⟩ := new_box w (w.heap.size) rfl [.int .i64 a0, .int .i64 a1] 23
  have hb1' : Below w.heap.size w w1 := hb1.mono (by omega)
  clear hb1
  have hB_1 := hB_0.trans (hb1'.mono hB_0.size)
  clear hb1' hB_0
  obtain ⟨w2, hw2, pb_0, hb2, hs2⟩ := new_box w1 (w.heap.size + 1) hs1 [.int .i64 b0, .int .i64 b1] 23
  have hb2' : Below w1.heap.size w1 w2 := hb2.mono (by omega)
  clear hb2
  have hB_2 := hB_1.trans (hb2'.mono hB_1.size)
  have pa_1 := pa_0.below hb2'
  clear hb2' hB_1 pa_0
  obtain ⟨w3, hw3, pv_0, hb3, hs3⟩ := new_box w2 (w.heap.size + 1 + 1) hs2 [.int .i64 v0, .int .i64 v1] 23
  have hb3' : Below w2.heap.size w2 w3 := hb3.mono (by omega)
  clear hb3
  have hB_3 := hB_2.trans (hb3'.mono hB_2.size)
  have pa_2 := pa_1.below hb3'
  have pb_1 := pb_0.below hb3'
  clear hb3' hB_2 pa_1 pb_0
  obtain ⟨w4, hw4, pr_0, hb4, hs4⟩ := new_box w3 (w.heap.size + 1 + 1 + 1) hs3 [.int .u64 0, .int .u64 0] 78
  have hb4' : Below w3.heap.size w3 w4 := hb4.mono (by omega)
  clear hb4
  have hB_4 := hB_3.trans (hb4'.mono hB_3.size)
  have pa_3 := pa_2.below hb4'
  have pb_2 := pb_1.below hb4'
  have pv_1 := pv_0.below hb4'
  clear hb4' hB_3 pa_2 pb_1 pv_0
  go_enter Try.func46, Try.ntmps46
  obtain ⟨pae0, pae1, pae2, pae3⟩ := pa_3.open2
  obtain ⟨pbe0, pbe1, pbe2, pbe3⟩ := pb_2.open2
  obtain ⟨pve0, pve1, pve2, pve3⟩ := pv_1.open2
  obtain ⟨pre0, pre1, pre2, pre3⟩ := pr_0.open2
  go_wp2_with fail
  refine (CD.out _).mono ?_
  rintro e w5 ⟨rfl, hb5⟩
  clear pae0 pae1 pae2 pae3 pbe0 pbe1 pbe2 pbe3 pve0 pve1 pve2 pve3 pre0 pre1 pre2 pre3
  have hB_5 := hB_4.trans (hb5.mono hB_4.size)
  have pa_4 := pa_3.below hb5
  have pb_3 := pb_2.below hb5
  have pv_2 := pv_1.below hb5
  have pr_1 := pr_0.below hb5
  clear hb5 hB_4 pa_3 pb_2 pv_1 pr_0
  obtain ⟨pae0, pae1, pae2, pae3⟩ := pa_4.open2
  obtain ⟨pbe0, pbe1, pbe2, pbe3⟩ := pb_3.open2
  obtain ⟨pve0, pve1, pve2, pve3⟩ := pv_2.open2
  obtain ⟨pre0, pre1, pre2, pre3⟩ := pr_1.open2
  obtain ⟨sf1a, sf1b, sf1c, sf1d⟩ := pr_1.open2
  obtain ⟨sg1a, sg1b⟩ := Box.put2 pr_1 (.int .u64 ((wh (z) : Nat) : Int))
  go_wp2
  clear pae0 pae1 pae2 pae3 pbe0 pbe1 pbe2 pbe3 pve0 pve1 pve2 pve3 pre0 pre1 pre2 pre3 sf1a sf1b sf1c sf1d sg1a sg1b
  have hB_6 := below_setAll hB_5 (g := w.heap.size + 1 + 1 + 1) (by omega) [.int .u64 ((wh (z) : Nat) : Int), .int .u64 ((wl (z) : Nat) : Int)]
  have pa_5 := pa_4.farAll (g' := w.heap.size + 1 + 1 + 1) (by omega) [.int .u64 ((wh (z) : Nat) : Int), .int .u64 ((wl (z) : Nat) : Int)]
  have pb_4 := pb_3.farAll (g' := w.heap.size + 1 + 1 + 1) (by omega) [.int .u64 ((wh (z) : Nat) : Int), .int .u64 ((wl (z) : Nat) : Int)]
  have pv_3 := pv_2.farAll (g' := w.heap.size + 1 + 1 + 1) (by omega) [.int .u64 ((wh (z) : Nat) : Int), .int .u64 ((wl (z) : Nat) : Int)]
  have pr_2 := pr_1.setAll [.int .u64 ((wh (z) : Nat) : Int), .int .u64 ((wl (z) : Nat) : Int)] rfl
  simp only [setAll, Nat.zero_add] at hB_6 pa_5 pb_4 pv_3 pr_2
  clear hB_5 pa_4 pb_3 pv_2 pr_1
  generalize (World.setCell (World.setCell w5 ⟨w.heap.size + 1 + 1 + 1, 0, none⟩ (.int .u64 ((wh (z) : Nat) : Int))) ⟨w.heap.size + 1 + 1 + 1, 1, none⟩ (.int .u64 ((wl (z) : Nat) : Int))) = w6 at *
  go_wp2
  obtain ⟨pre0, pre1, pre2, pre3⟩ := pr_2.open2
  exact bodyPost_ret (v := .agg #[.int .u64 ((wh (z) : Nat) : Int), .int .u64 ((wl (z) : Nat) : Int)]) (by simp [results, Try.results46, go_sem, pre0, pre1]) rfl ⟨rfl, hB_6⟩
theorem turn_any (a0 a1 b0 b1 v0 v1 : Int) (ha0 : InP a0) (ha1 : InP a1) (hb0 : InP b0) (hb1 : InP b1) (hv0 : InP v0) (hv1 : InP v1) (w : World) :
    Calls Try.prog 46 #[.agg #[.int .i64 a0, .int .i64 a1], .agg #[.int .i64 b0, .int .i64 b1], .agg #[.int .i64 v0, .int .i64 v1]] w fun e w' => AnsW w w' e (crs a0 a1 b0 b1 v0 v1) :=
  turn_w a0 a1 b0 b1 v0 v1 _ _ _ _ _ (hb0.wrap ha0) (hb1.wrap ha1) (hv0.wrap ha0) (hv1.wrap ha1) (fun w => wDet_any _ _ _ _ (hb0.lo ha0) (hb0.hi ha0) (hb1.lo ha1) (hb1.hi ha1) (hv0.lo ha0) (hv0.hi ha0) (hv1.lo ha1) (hv1.hi ha1) w) w
theorem wsgn_is (z : Int) (hz : InW z) (w : World) : Calls Try.prog 45 #[.agg #[.int .u64 ((wh (z) : Nat) : Int), .int .u64 ((wl (z) : Nat) : Int)]] w fun e w' => e = .returned (.int .i64 z.sign) ∧ Below w.heap.size w w' := by
  have := wSign_all z w; rwa [wrapW_self hz] at this
set_option maxHeartbeats 4000000 in
theorem Orient_w (a0 a1 b0 b1 v0 v1 : Int) (z t : Int) (ct : ∀ w, Calls Try.prog 46 #[.agg #[.int .i64 a0, .int .i64 a1], .agg #[.int .i64 b0, .int .i64 b1], .agg #[.int .i64 v0, .int .i64 v1]] w fun e w' => AnsW w w' e z) (cs : ∀ w, Calls Try.prog 45 #[.agg #[.int .u64 ((wh (z) : Nat) : Int), .int .u64 ((wl (z) : Nat) : Int)]] w fun e w' => e = .returned (.int .i64 t) ∧ Below w.heap.size w w') (w : World) :
    Calls Try.prog 12 #[.agg #[.int .i64 a0, .int .i64 a1], .agg #[.int .i64 b0, .int .i64 b1], .agg #[.int .i64 v0, .int .i64 v1]] w fun e w' => e = .returned (.int .i64 t) ∧ Below w.heap.size w w' := by
  have hB_0 := Below.refl w.heap.size w
  have CT := Lib.hid ct; have CS := Lib.hid cs
  clear ct cs
  obtain ⟨w1, hw1, pa_0, hb1, hs1⟩ := new_box w (w.heap.size) rfl [.int .i64 a0, .int .i64 a1] 23
  have hb1' : Below w.heap.size w w1 := hb1.mono (by omega)
  clear hb1
  have hB_1 := hB_0.trans (hb1'.mono hB_0.size)
  clear hb1' hB_0
  obtain ⟨w2, hw2, pb_0, hb2, hs2⟩ := new_box w1 (w.heap.size + 1) hs1 [.int .i64 b0, .int .i64 b1] 23
  have hb2' : Below w1.heap.size w1 w2 := hb2.mono (by omega)
  clear hb2
  have hB_2 := hB_1.trans (hb2'.mono hB_1.size)
  have pa_1 := pa_0.below hb2'
  clear hb2' hB_1 pa_0
  obtain ⟨w3, hw3, pv_0, hb3, hs3⟩ := new_box w2 (w.heap.size + 1 + 1) hs2 [.int .i64 v0, .int .i64 v1] 23
  have hb3' : Below w2.heap.size w2 w3 := hb3.mono (by omega)
  clear hb3
  have hB_3 := hB_2.trans (hb3'.mono hB_2.size)
  have pa_2 := pa_1.below hb3'
  have pb_1 := pb_0.below hb3'
  clear hb3' hB_2 pa_1 pb_0
  go_enter Try.func12, Try.ntmps12
  obtain ⟨pae0, pae1, pae2, pae3⟩ := pa_2.open2
  obtain ⟨pbe0, pbe1, pbe2, pbe3⟩ := pb_1.open2
  obtain ⟨pve0, pve1, pve2, pve3⟩ := pv_0.open2
  go_wp2_with fail
  refine (CT.out _).mono ?_
  rintro e w4 ⟨rfl, hb4⟩
  clear pae0 pae1 pae2 pae3 pbe0 pbe1 pbe2 pbe3 pve0 pve1 pve2 pve3
  have hB_4 := hB_3.trans (hb4.mono hB_3.size)
  have pa_3 := pa_2.below hb4
  have pb_2 := pb_1.below hb4
  have pv_1 := pv_0.below hb4
  clear hb4 hB_3 pa_2 pb_1 pv_0
  obtain ⟨pae0, pae1, pae2, pae3⟩ := pa_3.open2
  obtain ⟨pbe0, pbe1, pbe2, pbe3⟩ := pb_2.open2
  obtain ⟨pve0, pve1, pve2, pve3⟩ := pv_1.open2
  go_wp2_with fail
  refine (CS.out _).mono ?_
  rintro e w5 ⟨rfl, hb5⟩
  clear pae0 pae1 pae2 pae3 pbe0 pbe1 pbe2 pbe3 pve0 pve1 pve2 pve3
  have hB_5 := hB_4.trans (hb5.mono hB_4.size)
  have pa_4 := pa_3.below hb5
  have pb_3 := pb_2.below hb5
  have pv_2 := pv_1.below hb5
  clear hb5 hB_4 pa_3 pb_2 pv_1
  obtain ⟨pae0, pae1, pae2, pae3⟩ := pa_4.open2
  obtain ⟨pbe0, pbe1, pbe2, pbe3⟩ := pb_3.open2
  obtain ⟨pve0, pve1, pve2, pve3⟩ := pv_2.open2
  go_wp2
  go_ret
  exact ⟨rfl, hB_5⟩
theorem Orient_any (a0 a1 b0 b1 v0 v1 : Int) (ha0 : InP a0) (ha1 : InP a1) (hb0 : InP b0) (hb1 : InP b1) (hv0 : InP v0) (hv1 : InP v1) (w : World) :
    Calls Try.prog 12 #[.agg #[.int .i64 a0, .int .i64 a1], .agg #[.int .i64 b0, .int .i64 b1], .agg #[.int .i64 v0, .int .i64 v1]] w fun e w' => e = .returned (.int .i64 (crs a0 a1 b0 b1 v0 v1).sign) ∧ Below w.heap.size w w' :=
  Orient_w a0 a1 b0 b1 v0 v1 _ _ (fun w => turn_any a0 a1 b0 b1 v0 v1 ha0 ha1 hb0 hb1 hv0 hv1 w) (fun w => wsgn_is _ (inW_crs ha0 ha1 hb0 hb1 hv0 hv1) w) w
theorem Orient_is (a0 a1 b0 b1 v0 v1 : Int) {s : Int} (ha0 : InP a0) (ha1 : InP a1) (hb0 : InP b0) (hb1 : InP b1) (hv0 : InP v0) (hv1 : InP v1) (h : (crs a0 a1 b0 b1 v0 v1).sign = s) (w : World) :
    Calls Try.prog 12 #[.agg #[.int .i64 a0, .int .i64 a1], .agg #[.int .i64 b0, .int .i64 b1], .agg #[.int .i64 v0, .int .i64 v1]] w fun e w' => e = .returned (.int .i64 s) ∧ Below w.heap.size w w' := by subst h; exact Orient_any a0 a1 b0 b1 v0 v1 ha0 ha1 hb0 hb1 hv0 hv1 w
set_option maxHeartbeats 4000000 in
theorem Area2_w (a0 a1 b0 b1 v0 v1 : Int) (z : Int) (ct : ∀ w, Calls Try.prog 46 #[.agg #[.int .i64 a0, .int .i64 a1], .agg #[.int .i64 b0, .int .i64 b1], .agg #[.int .i64 v0, .int .i64 v1]] w fun e w' => AnsW w w' e z) (cn : ∀ w, Calls Try.prog 65 #[.agg #[.int .u64 ((wh (z) : Nat) : Int), .int .u64 ((wl (z) : Nat) : Int)]] w fun e w' => AnsNum w w' e 2 z) (w : World) :
    Calls Try.prog 35 #[.agg #[.int .i64 a0, .int .i64 a1], .agg #[.int .i64 b0, .int .i64 b1], .agg #[.int .i64 v0, .int .i64 v1]] w fun e w' => AnsNum w w' e 2 z := by
  have hB_0 := Below.refl w.heap.size w
  have CT := Lib.hid ct; have CN := Lib.hid cn
  clear ct cn
  obtain ⟨w1, hw1, pa_0, hb1, hs1⟩ := new_box w (w.heap.size) rfl [.int .i64 a0, .int .i64 a1] 23
  have hb1' : Below w.heap.size w w1 := hb1.mono (by omega)
  clear hb1
  have hB_1 := hB_0.trans (hb1'.mono hB_0.size)
  clear hb1' hB_0
  obtain ⟨w2, hw2, pb_0, hb2, hs2⟩ := new_box w1 (w.heap.size + 1) hs1 [.int .i64 b0, .int .i64 b1] 23
  have hb2' : Below w1.heap.size w1 w2 := hb2.mono (by omega)
  clear hb2
  have hB_2 := hB_1.trans (hb2'.mono hB_1.size)
  have pa_1 := pa_0.below hb2'
  clear hb2' hB_1 pa_0
  obtain ⟨w3, hw3, pv_0, hb3, hs3⟩ := new_box w2 (w.heap.size + 1 + 1) hs2 [.int .i64 v0, .int .i64 v1] 23
  have hb3' : Below w2.heap.size w2 w3 := hb3.mono (by omega)
  clear hb3
  have hB_3 := hB_2.trans (hb3'.mono hB_2.size)
  have pa_2 := pa_1.below hb3'
  have pb_1 := pb_0.below hb3'
  clear hb3' hB_2 pa_1 pb_0
  obtain ⟨w4, hw4, pr_0, hb4, hs4⟩ := new_box w3 (w.heap.size + 1 + 1 + 1) hs3 [.bool false, .slice none 0 0] 29
  have hb4' : Below w3.heap.size w3 w4 := hb4.mono (by omega)
  clear hb4
  have hB_4 := hB_3.trans (hb4'.mono hB_3.size)
  have pa_3 := pa_2.below hb4'
  have pb_2 := pb_1.below hb4'
  have pv_1 := pv_0.below hb4'
  clear hb4' hB_3 pa_2 pb_1 pv_0
  go_enter Try.func35, Try.ntmps35
  obtain ⟨pae0, pae1, pae2, pae3⟩ := pa_3.open2
  obtain ⟨pbe0, pbe1, pbe2, pbe3⟩ := pb_2.open2
  obtain ⟨pve0, pve1, pve2, pve3⟩ := pv_1.open2
  obtain ⟨pre0, pre1, pre2, pre3⟩ := pr_0.open2
  go_wp2_with fail
  refine (CT.out _).mono ?_
  rintro e w5 ⟨rfl, hb5⟩
  clear pae0 pae1 pae2 pae3 pbe0 pbe1 pbe2 pbe3 pve0 pve1 pve2 pve3 pre0 pre1 pre2 pre3
  have hB_5 := hB_4.trans (hb5.mono hB_4.size)
  have pa_4 := pa_3.below hb5
  have pb_3 := pb_2.below hb5
  have pv_2 := pv_1.below hb5
  have pr_1 := pr_0.below hb5
  clear hb5 hB_4 pa_3 pb_2 pv_1 pr_0
  obtain ⟨pae0, pae1, pae2, pae3⟩ := pa_4.open2
  obtain ⟨pbe0, pbe1, pbe2, pbe3⟩ := pb_3.open2
  obtain ⟨pve0, pve1, pve2, pve3⟩ := pv_2.open2
  obtain ⟨pre0, pre1, pre2, pre3⟩ := pr_1.open2
  go_wp2_with fail
  refine (CN.out _).mono ?_
  rintro e w6 ⟨m1, o1, n1, c1, rfl, f1_0, hb6⟩
  clear pae0 pae1 pae2 pae3 pbe0 pbe1 pbe2 pbe3 pve0 pve1 pve2 pve3 pre0 pre1 pre2 pre3
  have hB_6 := hB_5.trans (hb6.mono hB_5.size)
  have pa_5 := pa_4.below hb6
  have pb_4 := pb_3.below hb6
  have pv_3 := pv_2.below hb6
  have pr_2 := pr_1.below hb6
  clear hb6 hB_5 pa_4 pb_3 pv_2 pr_1
  obtain ⟨pae0, pae1, pae2, pae3⟩ := pa_5.open2
  obtain ⟨pbe0, pbe1, pbe2, pbe3⟩ := pb_4.open2
  obtain ⟨pve0, pve1, pve2, pve3⟩ := pv_3.open2
  obtain ⟨pre0, pre1, pre2, pre3⟩ := pr_2.open2
  obtain ⟨sf1a, sf1b, sf1c, sf1d⟩ := pr_2.open2
  obtain ⟨sg1a, sg1b⟩ := Box.put2 pr_2 (.bool m1)
  go_wp2
  clear pae0 pae1 pae2 pae3 pbe0 pbe1 pbe2 pbe3 pve0 pve1 pve2 pve3 pre0 pre1 pre2 pre3 sf1a sf1b sf1c sf1d sg1a sg1b
  have hB_7 := below_setAll hB_6 (g := w.heap.size + 1 + 1 + 1) (by omega) [.bool m1, .slice o1 n1 c1]
  have pa_6 := pa_5.farAll (g' := w.heap.size + 1 + 1 + 1) (by omega) [.bool m1, .slice o1 n1 c1]
  have pb_5 := pb_4.farAll (g' := w.heap.size + 1 + 1 + 1) (by omega) [.bool m1, .slice o1 n1 c1]
  have pv_4 := pv_3.farAll (g' := w.heap.size + 1 + 1 + 1) (by omega) [.bool m1, .slice o1 n1 c1]
  have f1_1 := f1_0.setAll pr_2 (noWord2 _ _ _ _) [.bool m1, .slice o1 n1 c1] rfl
  have pr_3 := pr_2.setAll [.bool m1, .slice o1 n1 c1] rfl
  simp only [setAll, Nat.zero_add] at hB_7 pa_6 pb_5 pv_4 pr_3 f1_1
  clear hB_6 pa_5 pb_4 pv_3 f1_0 pr_2
  generalize (World.setCell (World.setCell w6 ⟨w.heap.size + 1 + 1 + 1, 0, none⟩ (.bool m1)) ⟨w.heap.size + 1 + 1 + 1, 1, none⟩ (.slice o1 n1 c1)) = w7 at *
  go_wp2
  obtain ⟨pre0, pre1, pre2, pre3⟩ := pr_3.open2
  exact bodyPost_ret (v := .agg #[.bool m1, .slice o1 n1 c1]) (by simp [results, Try.results35, go_sem, pre0, pre1]) rfl ⟨_, _, _, _, rfl, f1_1, hB_7⟩
theorem Area2_any (a0 a1 b0 b1 v0 v1 : Int) (ha0 : InP a0) (ha1 : InP a1) (hb0 : InP b0) (hb1 : InP b1) (hv0 : InP v0) (hv1 : InP v1) (w : World) :
    Calls Try.prog 35 #[.agg #[.int .i64 a0, .int .i64 a1], .agg #[.int .i64 b0, .int .i64 b1], .agg #[.int .i64 v0, .int .i64 v1]] w fun e w' => AnsNum w w' e 2 (crs a0 a1 b0 b1 v0 v1) :=
  Area2_w a0 a1 b0 b1 v0 v1 _ (fun w => turn_any a0 a1 b0 b1 v0 v1 ha0 ha1 hb0 hb1 hv0 hv1 w) (fun w => wNum_any _ (inW_crs ha0 ha1 hb0 hb1 hv0 hv1) w) w
set_option maxHeartbeats 4000000 in
theorem Dist2_w (a0 a1 b0 b1 : Int) (p q q' z : Int) (e1 : IntKind.i64.wrap (b0 - a0) = p) (e2 : IntKind.i64.wrap (b1 - a1) = q) (e3 : IntKind.i64.wrap (-q) = q') (cd : ∀ w, Calls Try.prog 66 #[.int .i64 p, .int .i64 q', .int .i64 q, .int .i64 p] w fun e w' => AnsW w w' e z) (cn : ∀ w, Calls Try.prog 65 #[.agg #[.int .u64 ((wh (z) : Nat) : Int), .int .u64 ((wl (z) : Nat) : Int)]] w fun e w' => AnsNum w w' e 2 z) (w : World) :
    Calls Try.prog 38 #[.agg #[.int .i64 a0, .int .i64 a1], .agg #[.int .i64 b0, .int .i64 b1]] w fun e w' => AnsNum w w' e 2 z := by
  have hB_0 := Below.refl w.heap.size w
  have CD := Lib.hid cd; have CN := Lib.hid cn
  clear cd cn
  obtain ⟨w1, hw1, pa_0, hb1, hs1⟩ := new_box w (w.heap.size) rfl [.int .i64 a0, .int .i64 a1] 23
  have hb1' : Below w.heap.size w w1 := hb1.mono (by omega)
  clear hb1
  have hB_1 := hB_0.trans (hb1'.mono hB_0.size)
  clear hb1' hB_0
  obtain ⟨w2, hw2, pb_0, hb2, hs2⟩ := new_box w1 (w.heap.size + 1) hs1 [.int .i64 b0, .int .i64 b1] 23
  have hb2' : Below w1.heap.size w1 w2 := hb2.mono (by omega)
  clear hb2
  have hB_2 := hB_1.trans (hb2'.mono hB_1.size)
  have pa_1 := pa_0.below hb2'
  clear hb2' hB_1 pa_0
  obtain ⟨w3, hw3, pr_0, hb3, hs3⟩ := new_box w2 (w.heap.size + 1 + 1) hs2 [.bool false, .slice none 0 0] 29
  have hb3' : Below w2.heap.size w2 w3 := hb3.mono (by omega)
  clear hb3
  have hB_3 := hB_2.trans (hb3'.mono hB_2.size)
  have pa_2 := pa_1.below hb3'
  have pb_1 := pb_0.below hb3'
  clear hb3' hB_2 pa_1 pb_0
  go_enter Try.func38, Try.ntmps38
  obtain ⟨pae0, pae1, pae2, pae3⟩ := pa_2.open2
  obtain ⟨pbe0, pbe1, pbe2, pbe3⟩ := pb_1.open2
  obtain ⟨pre0, pre1, pre2, pre3⟩ := pr_0.open2
  go_wp2
  clear pae0 pae1 pae2 pae3 pbe0 pbe1 pbe2 pbe3 pre0 pre1 pre2 pre3
  have hB_4 := hB_3.drew'
  have pa_3 := pa_2.drew
  have pb_2 := pb_1.drew
  have pr_1 := pr_0.drew
  clear hB_3 pa_2 pb_1 pr_0
  go_region_held3 (fun w' => w'.cell? ⟨w.heap.size, 0, none⟩ = some (.int .i64 a0) ∧ w'.cell? ⟨w.heap.size, 1, none⟩ = some (.int .i64 a1) ∧ w'.cell? ⟨w.heap.size + 1, 0, none⟩ = some (.int .i64 b0) ∧ w'.cell? ⟨w.heap.size + 1, 1, none⟩ = some (.int .i64 b1))
    (first | with_reducible exact ⟨pa_3.c0, pa_3.c1, pb_2.c0, pb_2.c1⟩ | fail)
    (fail)
  obtain ⟨pae0, pae1, pae2, pae3⟩ := pa_3.open2
  obtain ⟨pbe0, pbe1, pbe2, pbe3⟩ := pb_2.open2
  obtain ⟨pre0, pre1, pre2, pre3⟩ := pr_1.open2
  go_wp2_with fail
  refine (CD.out _).mono ?_
  rintro e w4 ⟨rfl, hb4⟩
  clear pae0 pae1 pae2 pae3 pbe0 pbe1 pbe2 pbe3 pre0 pre1 pre2 pre3
  have hB_5 := hB_4.trans (hb4.mono hB_4.size)
  have pa_4 := pa_3.below hb4
  have pb_3 := pb_2.below hb4
  have pr_2 := pr_1.below hb4
  clear hb4 hB_4 pa_3 pb_2 pr_1
  obtain ⟨pae0, pae1, pae2, pae3⟩ := pa_4.open2
  obtain ⟨pbe0, pbe1, pbe2, pbe3⟩ := pb_3.open2
  obtain ⟨pre0, pre1, pre2, pre3⟩ := pr_2.open2
  go_wp2_with fail
  refine (CN.out _).mono ?_
  rintro e w5 ⟨m1, o1, n1, c1, rfl, f1_0, hb5⟩
  clear pae0 pae1 pae2 pae3 pbe0 pbe1 pbe2 pbe3 pre0 pre1 pre2 pre3
  have hB_6 := hB_5.trans (hb5.mono hB_5.size)
  have pa_5 := pa_4.below hb5
  have pb_4 := pb_3.below hb5
  have pr_3 := pr_2.below hb5
  clear hb5 hB_5 pa_4 pb_3 pr_2
  obtain ⟨pae0, pae1, pae2, pae3⟩ := pa_5.open2
  obtain ⟨pbe0, pbe1, pbe2, pbe3⟩ := pb_4.open2
  obtain ⟨pre0, pre1, pre2, pre3⟩ := pr_3.open2
  obtain ⟨sf1a, sf1b, sf1c, sf1d⟩ := pr_3.open2
  obtain ⟨sg1a, sg1b⟩ := Box.put2 pr_3 (.bool m1)
  go_wp2
  clear pae0 pae1 pae2 pae3 pbe0 pbe1 pbe2 pbe3 pre0 pre1 pre2 pre3 sf1a sf1b sf1c sf1d sg1a sg1b
  have hB_7 := below_setAll hB_6 (g := w.heap.size + 1 + 1) (by omega) [.bool m1, .slice o1 n1 c1]
  have pa_6 := pa_5.farAll (g' := w.heap.size + 1 + 1) (by omega) [.bool m1, .slice o1 n1 c1]
  have pb_5 := pb_4.farAll (g' := w.heap.size + 1 + 1) (by omega) [.bool m1, .slice o1 n1 c1]
  have f1_1 := f1_0.setAll pr_3 (noWord2 _ _ _ _) [.bool m1, .slice o1 n1 c1] rfl
  have pr_4 := pr_3.setAll [.bool m1, .slice o1 n1 c1] rfl
  simp only [setAll, Nat.zero_add] at hB_7 pa_6 pb_5 pr_4 f1_1
  clear hB_6 pa_5 pb_4 f1_0 pr_3
  generalize (World.setCell (World.setCell w5 ⟨w.heap.size + 1 + 1, 0, none⟩ (.bool m1)) ⟨w.heap.size + 1 + 1, 1, none⟩ (.slice o1 n1 c1)) = w6 at *
  go_wp2
  obtain ⟨pre0, pre1, pre2, pre3⟩ := pr_4.open2
  exact bodyPost_ret (v := .agg #[.bool m1, .slice o1 n1 c1]) (by simp [results, Try.results38, go_sem, pre0, pre1]) rfl ⟨_, _, _, _, rfl, f1_1, hB_7⟩
theorem Dist2_any (a0 a1 b0 b1 : Int) (ha0 : InP a0) (ha1 : InP a1) (hb0 : InP b0) (hb1 : InP b1) (w : World) :
    Calls Try.prog 38 #[.agg #[.int .i64 a0, .int .i64 a1], .agg #[.int .i64 b0, .int .i64 b1]] w fun e w' => AnsNum w w' e 2 (sqd a0 a1 b0 b1) := by
  refine Dist2_w a0 a1 b0 b1 _ _ _ _ (hb0.wrap ha0) (hb1.wrap ha1) (hb1.neg ha1) (fun w => ?_) (fun w => wNum_any _ (inW_sqd ha0 ha1 hb0 hb1) w) w
  have := wDet_any (b0 - a0) (-(b1 - a1)) (b1 - a1) (b0 - a0) (hb0.lo ha0) (hb0.hi ha0) (hb1.lo' ha1) (hb1.hi' ha1) (hb1.lo ha1) (hb1.hi ha1) (hb0.lo ha0) (hb0.hi ha0) w
  rwa [sqd_det] at this
end Go.Proofs.Ytkcfaddilknelaa
/- The calls of pred: within, On, Between, parts, Crosses, Meets. -/
namespace Go.Proofs.Ytkcfaddilknelaa
open Go.RowKit Go.MagM
set_option maxHeartbeats 4000000 in
theorem within_any (n a b : Int) (w : World) :
    Calls Try.prog 64 #[.int .i64 n, .int .i64 a, .int .i64 b] w fun e w' => e = .returned (.bool (decide (min a b ≤ n ∧ n ≤ max a b))) ∧ Below w.heap.size w w' := by
  have hB_0 := Below.refl w.heap.size w
  go_enter Try.func64, Try.ntmps64
  go_wp2
  all_goals go_ret
  all_goals refine ⟨?_, hB_0⟩
  all_goals refine congrArg (fun b => Ending.returned (Value.bool b)) (?_ : _ = _)
  all_goals rw [Bool.eq_iff_iff]
  all_goals simp only [decide_eq_true_eq, Bool.and_eq_true, Bool.false_eq_true, false_iff]
  all_goals omega
set_option maxHeartbeats 4000000 in
theorem On_w_n (a0 a1 b0 b1 v0 v1 : Int) (t : Int) (_q : Bool) (k1 : ∀ w, Calls Try.prog 12 #[.agg #[.int .i64 b0, .int .i64 b1], .agg #[.int .i64 v0, .int .i64 v1], .agg #[.int .i64 a0, .int .i64 a1]] w fun e w' => e = .returned (.int .i64 t) ∧ Below w.heap.size w w') (e1 : (t == 0) = false) (w : World) :
    Calls Try.prog 33 #[.agg #[.int .i64 a0, .int .i64 a1], .agg #[.int .i64 b0, .int .i64 b1], .agg #[.int .i64 v0, .int .i64 v1]] w fun e w' => e = .returned (.bool false) ∧ Below w.heap.size w w' := by
  have hB_0 := Below.refl w.heap.size w
  have K1 := Lib.hid k1; have E1 := Lib.hid e1
  clear k1 e1
  have e2 := E1.out
  obtain ⟨w1, hw1, pa_0, hb1, hs1⟩ := new_box w (w.heap.size) rfl [.int .i64 a0, .int .i64 a1] 23
  have hb1' : Below w.heap.size w w1 := hb1.mono (by omega)
  clear hb1
  have hB_1 := hB_0.trans (hb1'.mono hB_0.size)
  clear hb1' hB_0
  obtain ⟨w2, hw2, pb_0, hb2, hs2⟩ := new_box w1 (w.heap.size + 1) hs1 [.int .i64 b0, .int .i64 b1] 23
  have hb2' : Below w1.heap.size w1 w2 := hb2.mono (by omega)
  clear hb2
  have hB_2 := hB_1.trans (hb2'.mono hB_1.size)
  have pa_1 := pa_0.below hb2'
  clear hb2' hB_1 pa_0
  obtain ⟨w3, hw3, pv_0, hb3, hs3⟩ := new_box w2 (w.heap.size + 1 + 1) hs2 [.int .i64 v0, .int .i64 v1] 23
  have hb3' : Below w2.heap.size w2 w3 := hb3.mono (by omega)
  clear hb3
  have hB_3 := hB_2.trans (hb3'.mono hB_2.size)
  have pa_2 := pa_1.below hb3'
  have pb_1 := pb_0.below hb3'
  clear hb3' hB_2 pa_1 pb_0
  go_enter Try.func33, Try.ntmps33
  obtain ⟨pae0, pae1, pae2, pae3⟩ := pa_2.open2
  obtain ⟨pbe0, pbe1, pbe2, pbe3⟩ := pb_1.open2
  obtain ⟨pve0, pve1, pve2, pve3⟩ := pv_0.open2
  go_wp2_with fail
  refine (K1.out _).mono ?_
  rintro e w4 ⟨rfl, hb4⟩
  clear pae0 pae1 pae2 pae3 pbe0 pbe1 pbe2 pbe3 pve0 pve1 pve2 pve3
  have hB_4 := hB_3.trans (hb4.mono hB_3.size)
  have pa_3 := pa_2.below hb4
  have pb_2 := pb_1.below hb4
  have pv_1 := pv_0.below hb4
  clear hb4 hB_3 pa_2 pb_1 pv_0
  obtain ⟨pae0, pae1, pae2, pae3⟩ := pa_3.open2
  obtain ⟨pbe0, pbe1, pbe2, pbe3⟩ := pb_2.open2
  obtain ⟨pve0, pve1, pve2, pve3⟩ := pv_1.open2
  go_wp2
  go_ret
  exact ⟨rfl, hB_4⟩
set_option maxHeartbeats 4000000 in
theorem On_w_tf (a0 a1 b0 b1 v0 v1 : Int) (_t : Int) (_q : Bool) (k1 : ∀ w, Calls Try.prog 12 #[.agg #[.int .i64 b0, .int .i64 b1], .agg #[.int .i64 v0, .int .i64 v1], .agg #[.int .i64 a0, .int .i64 a1]] w fun e w' => e = .returned (.int .i64 0) ∧ Below w.heap.size w w') (k2 : ∀ w, Calls Try.prog 64 #[.int .i64 a0, .int .i64 b0, .int .i64 v0] w fun e w' => e = .returned (.bool false) ∧ Below w.heap.size w w') (w : World) :
    Calls Try.prog 33 #[.agg #[.int .i64 a0, .int .i64 a1], .agg #[.int .i64 b0, .int .i64 b1], .agg #[.int .i64 v0, .int .i64 v1]] w fun e w' => e = .returned (.bool false) ∧ Below w.heap.size w w' := by
  have hB_0 := Below.refl w.heap.size w
  have K1 := Lib.hid k1; have K2 := Lib.hid k2
  clear k1 k2
  obtain ⟨w1, hw1, pa_0, hb1, hs1⟩ := new_box w (w.heap.size) rfl [.int .i64 a0, .int .i64 a1] 23
  have hb1' : Below w.heap.size w w1 := hb1.mono (by omega)
  clear hb1
  have hB_1 := hB_0.trans (hb1'.mono hB_0.size)
  clear hb1' hB_0
  obtain ⟨w2, hw2, pb_0, hb2, hs2⟩ := new_box w1 (w.heap.size + 1) hs1 [.int .i64 b0, .int .i64 b1] 23
  have hb2' : Below w1.heap.size w1 w2 := hb2.mono (by omega)
  clear hb2
  have hB_2 := hB_1.trans (hb2'.mono hB_1.size)
  have pa_1 := pa_0.below hb2'
  clear hb2' hB_1 pa_0
  obtain ⟨w3, hw3, pv_0, hb3, hs3⟩ := new_box w2 (w.heap.size + 1 + 1) hs2 [.int .i64 v0, .int .i64 v1] 23
  have hb3' : Below w2.heap.size w2 w3 := hb3.mono (by omega)
  clear hb3
  have hB_3 := hB_2.trans (hb3'.mono hB_2.size)
  have pa_2 := pa_1.below hb3'
  have pb_1 := pb_0.below hb3'
  clear hb3' hB_2 pa_1 pb_0
  go_enter Try.func33, Try.ntmps33
  obtain ⟨pae0, pae1, pae2, pae3⟩ := pa_2.open2
  obtain ⟨pbe0, pbe1, pbe2, pbe3⟩ := pb_1.open2
  obtain ⟨pve0, pve1, pve2, pve3⟩ := pv_0.open2
  go_wp2_with fail
  refine (K1.out _).mono ?_
  rintro e w4 ⟨rfl, hb4⟩
  clear pae0 pae1 pae2 pae3 pbe0 pbe1 pbe2 pbe3 pve0 pve1 pve2 pve3
  have hB_4 := hB_3.trans (hb4.mono hB_3.size)
  have pa_3 := pa_2.below hb4
  have pb_2 := pb_1.below hb4
  have pv_1 := pv_0.below hb4
  clear hb4 hB_3 pa_2 pb_1 pv_0
  obtain ⟨pae0, pae1, pae2, pae3⟩ := pa_3.open2
  obtain ⟨pbe0, pbe1, pbe2, pbe3⟩ := pb_2.open2
  obtain ⟨pve0, pve1, pve2, pve3⟩ := pv_1.open2
  go_wp2_with fail
  refine (K2.out _).mono ?_
  rintro e w5 ⟨rfl, hb5⟩
  clear pae0 pae1 pae2 pae3 pbe0 pbe1 pbe2 pbe3 pve0 pve1 pve2 pve3
  have hB_5 := hB_4.trans (hb5.mono hB_4.size)
  have pa_4 := pa_3.below hb5
  have pb_3 := pb_2.below hb5
  have pv_2 := pv_1.below hb5
  clear hb5 hB_4 pa_3 pb_2 pv_1
  obtain ⟨pae0, pae1, pae2, pae3⟩ := pa_4.open2
  obtain ⟨pbe0, pbe1, pbe2, pbe3⟩ := pb_3.open2
  obtain ⟨pve0, pve1, pve2, pve3⟩ := pv_2.open2
  go_wp2
  go_ret
  exact ⟨rfl, hB_5⟩
set_option maxHeartbeats 4000000 in
theorem On_w_tt (a0 a1 b0 b1 v0 v1 : Int) (_t : Int) (q : Bool) (k1 : ∀ w, Calls Try.prog 12 #[.agg #[.int .i64 b0, .int .i64 b1], .agg #[.int .i64 v0, .int .i64 v1], .agg #[.int .i64 a0, .int .i64 a1]] w fun e w' => e = .returned (.int .i64 0) ∧ Below w.heap.size w w') (k2 : ∀ w, Calls Try.prog 64 #[.int .i64 a0, .int .i64 b0, .int .i64 v0] w fun e w' => e = .returned (.bool true) ∧ Below w.heap.size w w') (k3 : ∀ w, Calls Try.prog 64 #[.int .i64 a1, .int .i64 b1, .int .i64 v1] w fun e w' => e = .returned (.bool q) ∧ Below w.heap.size w w') (w : World) :
    Calls Try.prog 33 #[.agg #[.int .i64 a0, .int .i64 a1], .agg #[.int .i64 b0, .int .i64 b1], .agg #[.int .i64 v0, .int .i64 v1]] w fun e w' => e = .returned (.bool q) ∧ Below w.heap.size w w' := by
  have hB_0 := Below.refl w.heap.size w
  have K1 := Lib.hid k1; have K2 := Lib.hid k2; have K3 := Lib.hid k3
  clear k1 k2 k3
  obtain ⟨w1, hw1, pa_0, hb1, hs1⟩ := new_box w (w.heap.size) rfl [.int .i64 a0, .int .i64 a1] 23
  have hb1' : Below w.heap.size w w1 := hb1.mono (by omega)
  clear hb1
  have hB_1 := hB_0.trans (hb1'.mono hB_0.size)
  clear hb1' hB_0
  obtain ⟨w2, hw2, pb_0, hb2, hs2⟩ := new_box w1 (w.heap.size + 1) hs1 [.int .i64 b0, .int .i64 b1] 23
  have hb2' : Below w1.heap.size w1 w2 := hb2.mono (by omega)
  clear hb2
  have hB_2 := hB_1.trans (hb2'.mono hB_1.size)
  have pa_1 := pa_0.below hb2'
  clear hb2' hB_1 pa_0
  obtain ⟨w3, hw3, pv_0, hb3, hs3⟩ := new_box w2 (w.heap.size + 1 + 1) hs2 [.int .i64 v0, .int .i64 v1] 23
  have hb3' : Below w2.heap.size w2 w3 := hb3.mono (by omega)
  clear hb3
  have hB_3 := hB_2.trans (hb3'.mono hB_2.size)
  have pa_2 := pa_1.below hb3'
  have pb_1 := pb_0.below hb3'
  clear hb3' hB_2 pa_1 pb_0
  go_enter Try.func33, Try.ntmps33
  obtain ⟨pae0, pae1, pae2, pae3⟩ := pa_2.open2
  obtain ⟨pbe0, pbe1, pbe2, pbe3⟩ := pb_1.open2
  obtain ⟨pve0, pve1, pve2, pve3⟩ := pv_0.open2
  go_wp2_with fail
  refine (K1.out _).mono ?_
  rintro e w4 ⟨rfl, hb4⟩
  clear pae0 pae1 pae2 pae3 pbe0 pbe1 pbe2 pbe3 pve0 pve1 pve2 pve3
  have hB_4 := hB_3.trans (hb4.mono hB_3.size)
  have pa_3 := pa_2.below hb4
  have pb_2 := pb_1.below hb4
  have pv_1 := pv_0.below hb4
  clear hb4 hB_3 pa_2 pb_1 pv_0
  obtain ⟨pae0, pae1, pae2, pae3⟩ := pa_3.open2
  obtain ⟨pbe0, pbe1, pbe2, pbe3⟩ := pb_2.open2
  obtain ⟨pve0, pve1, pve2, pve3⟩ := pv_1.open2
  go_wp2_with fail
  refine (K2.out _).mono ?_
  rintro e w5 ⟨rfl, hb5⟩
  clear pae0 pae1 pae2 pae3 pbe0 pbe1 pbe2 pbe3 pve0 pve1 pve2 pve3
  have hB_5 := hB_4.trans (hb5.mono hB_4.size)
  have pa_4 := pa_3.below hb5
  have pb_3 := pb_2.below hb5
  have pv_2 := pv_1.below hb5
  clear hb5 hB_4 pa_3 pb_2 pv_1
  obtain ⟨pae0, pae1, pae2, pae3⟩ := pa_4.open2
  obtain ⟨pbe0, pbe1, pbe2, pbe3⟩ := pb_3.open2
  obtain ⟨pve0, pve1, pve2, pve3⟩ := pv_2.open2
  go_wp2_with fail
  refine (K3.out _).mono ?_
  rintro e w6 ⟨rfl, hb6⟩
  clear pae0 pae1 pae2 pae3 pbe0 pbe1 pbe2 pbe3 pve0 pve1 pve2 pve3
  have hB_6 := hB_5.trans (hb6.mono hB_5.size)
  have pa_5 := pa_4.below hb6
  have pb_4 := pb_3.below hb6
  have pv_3 := pv_2.below hb6
  clear hb6 hB_5 pa_4 pb_3 pv_2
  obtain ⟨pae0, pae1, pae2, pae3⟩ := pa_5.open2
  obtain ⟨pbe0, pbe1, pbe2, pbe3⟩ := pb_4.open2
  obtain ⟨pve0, pve1, pve2, pve3⟩ := pv_3.open2
  go_wp2
  go_ret
  exact ⟨rfl, hB_6⟩
end Go.Proofs.Ytkcfaddilknelaa
/- The calls of pred: Between. -/
namespace Go.Proofs.Ytkcfaddilknelaa
open Go.RowKit Go.MagM
end Go.Proofs.Ytkcfaddilknelaa
/- The calls of pred: Meets. -/
namespace Go.Proofs.Ytkcfaddilknelaa
open Go.RowKit Go.MagM
end Go.Proofs.Ytkcfaddilknelaa
/- On, parts, Crosses, Meets, Between: what they answer. -/
namespace Go.Proofs.Ytkcfaddilknelaa
open Go.RowKit Go.MagM
/-- A point on a line, its ends with it. -/
def onP (a0 a1 b0 b1 v0 v1 : Int) : Bool := decide ((crs b0 b1 v0 v1 a0 a1 = 0 ∧ min b0 v0 ≤ a0 ∧ a0 ≤ max b0 v0) ∧ min b1 v1 ≤ a1 ∧ a1 ≤ max b1 v1)
theorem On_is (a0 a1 b0 b1 v0 v1 : Int) (ha0 : InP a0) (ha1 : InP a1) (hb0 : InP b0) (hb1 : InP b1) (hv0 : InP v0) (hv1 : InP v1) (q : Bool) (h : onP a0 a1 b0 b1 v0 v1 = q) (w : World) :
    Calls Try.prog 33 #[.agg #[.int .i64 a0, .int .i64 a1], .agg #[.int .i64 b0, .int .i64 b1], .agg #[.int .i64 v0, .int .i64 v1]] w fun e w' => e = .returned (.bool q) ∧ Below w.heap.size w w' := by
  by_cases hc : crs b0 b1 v0 v1 a0 a1 = 0
  · by_cases hx : min b0 v0 ≤ a0 ∧ a0 ≤ max b0 v0
    · refine On_w_tt a0 a1 b0 b1 v0 v1 0 q (fun w => Orient_is b0 b1 v0 v1 a0 a1 hb0 hb1 hv0 hv1 ha0 ha1 (by rw [hc]; rfl) w) (fun w => ?_) (fun w => ?_) w
      · have := within_any a0 b0 v0 w; rwa [decide_eq_true hx] at this
      · have := within_any a1 b1 v1 w
        have e : decide (min b1 v1 ≤ a1 ∧ a1 ≤ max b1 v1) = q := by
          rw [← h]; unfold onP; rw [decide_eq_decide]; exact ⟨fun k => ⟨⟨hc, hx⟩, k⟩, fun k => k.2⟩
        rwa [e] at this
    · have e : q = false := by rw [← h]; unfold onP; exact decide_eq_false (fun k => hx k.1.2)
      subst e
      refine On_w_tf a0 a1 b0 b1 v0 v1 0 false (fun w => Orient_is b0 b1 v0 v1 a0 a1 hb0 hb1 hv0 hv1 ha0 ha1 (by rw [hc]; rfl) w) (fun w => ?_) w
      have := within_any a0 b0 v0 w; rwa [decide_eq_false hx] at this
  · have e : q = false := by rw [← h]; unfold onP; exact decide_eq_false (fun k => hc k.1.1)
    subst e
    exact On_w_n a0 a1 b0 b1 v0 v1 _ false (fun w => Orient_is b0 b1 v0 v1 a0 a1 hb0 hb1 hv0 hv1 ha0 ha1 rfl w) (beq_eq_false_iff_ne.2 (fun k => hc (Int.sign_eq_zero_iff_zero.1 k))) w
theorem sign_cases (z : Int) : z.sign = -1 ∨ z.sign = 0 ∨ z.sign = 1 := by
  rcases Int.lt_trichotomy z 0 with h | h | h
  · exact .inl (Int.sign_eq_neg_one_of_neg h)
  · subst h; exact .inr (.inl rfl)
  · exact .inr (.inr (Int.sign_eq_one_of_pos h))
theorem sign_mul_wrap (y z : Int) : IntKind.i64.wrap (y.sign * z.sign) = y.sign * z.sign := by
  rcases sign_cases y with h | h | h <;> rcases sign_cases z with k | k | k <;> rw [h, k] <;> rfl
theorem sign_neg_wrap (z : Int) : IntKind.i64.wrap (-z.sign) = -z.sign := by
  rcases sign_cases z with h | h | h <;> rw [h] <;> rfl
/-- Two points to both sides of a line. -/
def parP (a0 a1 b0 b1 v0 v1 u0 u1 : Int) : Bool := decide ((crs a0 a1 b0 b1 v0 v1).sign * (crs a0 a1 b0 b1 u0 u1).sign < 0)
/-- Two lines that cross. -/
def crossP (a0 a1 b0 b1 v0 v1 u0 u1 : Int) : Bool := parP a0 a1 b0 b1 v0 v1 u0 u1 && parP v0 v1 u0 u1 a0 a1 b0 b1
/-- Two lines that meet. -/
def meetP (a0 a1 b0 b1 v0 v1 u0 u1 : Int) : Bool := crossP a0 a1 b0 b1 v0 v1 u0 u1 || onP a0 a1 v0 v1 u0 u1 || onP b0 b1 v0 v1 u0 u1 || onP v0 v1 a0 a1 b0 b1 || onP u0 u1 a0 a1 b0 b1
theorem ne_pt {a b c d : Int} {α : Type} {u v : α} (h : ¬ (a = b ∧ c = d)) : (if a = b then if c = d then u else v else v) = v := by
  by_cases h1 : a = b
  · rw [if_pos h1, if_neg (fun h2 => h ⟨h1, h2⟩)]
  · rw [if_neg h1]
end Go.Proofs.Ytkcfaddilknelaa
/- Points over Rat: centres, lines, shares. Over no program. -/
namespace Go.Proofs.Ytkcfaddilknelaa
open Go.MagM
theorem ic_sub (a b : Int) : ((a - b : Int) : Rat) = (a : Rat) - (b : Rat) := Rat.intCast_sub a b
theorem ic_add (a b : Int) : ((a + b : Int) : Rat) = (a : Rat) + (b : Rat) := Rat.intCast_add a b
theorem ic_mul (a b : Int) : ((a * b : Int) : Rat) = (a : Rat) * (b : Rat) := Rat.intCast_mul a b
theorem ic_ne {a : Int} (h : a ≠ 0) : (a : Rat) ≠ 0 := fun e => h (Rat.intCast_inj.1 (e.trans rfl))
theorem crs_q (a0 a1 b0 b1 v0 v1 : Int) : ((crs a0 a1 b0 b1 v0 v1 : Int) : Rat) = ((b0 : Rat) - a0) * ((v1 : Rat) - a1) - ((b1 : Rat) - a1) * ((v0 : Rat) - a0) := by
  unfold crs; simp only [ic_sub, ic_mul]
theorem sqd_q (a0 a1 b0 b1 : Int) : ((sqd a0 a1 b0 b1 : Int) : Rat) = ((b0 : Rat) - a0) * ((b0 : Rat) - a0) + ((b1 : Rat) - a1) * ((b1 : Rat) - a1) := by
  unfold sqd; simp only [ic_sub, ic_mul, ic_add]; grind
/-- To the left, on the line, to the right. -/
def sideQ (ax ay bx by' sx sy : Rat) : Int := qcmp ((bx - ax) * (sy - ay)) ((by' - ay) * (sx - ax))
def withinQ (n a b : Rat) : Bool := decide (qcmp n a * qcmp n b ≤ 0)
def onQ (sx sy ax ay bx by' : Rat) : Bool := withinQ sx ax bx && withinQ sy ay by' && (sideQ ax ay bx by' sx sy == 0)
def distQ (ax ay bx by' : Rat) : Rat := (bx - ax) * (bx - ax) + (by' - ay) * (by' - ay)
theorem qcmp_cases (p q : Rat) : (p < q ∧ qcmp p q = -1) ∨ (p = q ∧ qcmp p q = 0) ∨ (q < p ∧ qcmp p q = 1) := by
  by_cases h : p < q
  · exact .inl ⟨h, qcmp_lt h⟩
  · by_cases h2 : q < p
    · exact .inr (.inr ⟨h2, qcmp_gt h2⟩)
    · have e : p = q := by grind
      subst e; exact .inr (.inl ⟨rfl, qcmp_self _⟩)
theorem within_iff (n a b : Rat) : withinQ n a b = true ↔ (a ≤ n ∧ n ≤ b) ∨ (b ≤ n ∧ n ≤ a) := by
  unfold withinQ
  rw [decide_eq_true_iff]
  rcases qcmp_cases n a with ⟨h, e⟩ | ⟨h, e⟩ | ⟨h, e⟩ <;> rcases qcmp_cases n b with ⟨k, f⟩ | ⟨k, f⟩ | ⟨k, f⟩ <;> rw [e, f]
  · exact ⟨fun x => absurd x (by decide), fun x => by grind⟩
  · exact ⟨fun _ => by grind, fun _ => by decide⟩
  · exact ⟨fun _ => by grind, fun _ => by decide⟩
  · exact ⟨fun _ => by grind, fun _ => by decide⟩
  · exact ⟨fun _ => by grind, fun _ => by decide⟩
  · exact ⟨fun _ => by grind, fun _ => by decide⟩
  · exact ⟨fun _ => by grind, fun _ => by decide⟩
  · exact ⟨fun _ => by grind, fun _ => by decide⟩
  · exact ⟨fun x => absurd x (by decide), fun x => by grind⟩
theorem along_side (ax ay bx by' t : Rat) : sideQ ax ay bx by' (ax + t * (bx - ax)) (ay + t * (by' - ay)) = 0 := by
  unfold sideQ; rw [qcmp_zero]; grind
theorem along_dist (ax ay bx by' t : Rat) : distQ ax ay (ax + t * (bx - ax)) (ay + t * (by' - ay)) = t * t * distQ ax ay bx by' := by unfold distQ; grind
theorem along_back (a b t : Rat) : b + (1 - t) * (a - b) = a + t * (b - a) := by grind
theorem within_in {a b t : Rat} (h0 : 0 ≤ t) (h1 : t ≤ 1) : withinQ (a + t * (b - a)) a b = true := by
  rw [within_iff]
  by_cases h : a ≤ b
  · left
    have k1 := Rat.mul_nonneg h0 (show 0 ≤ b - a by grind)
    have k2 := Rat.mul_nonneg (show 0 ≤ 1 - t by grind) (show 0 ≤ b - a by grind)
    exact ⟨by grind, by grind⟩
  · right
    have k1 := Rat.mul_nonneg h0 (show 0 ≤ a - b by grind)
    have k2 := Rat.mul_nonneg (show 0 ≤ 1 - t by grind) (show 0 ≤ a - b by grind)
    exact ⟨by grind, by grind⟩
theorem within_out {a b t : Rat} (h : ¬ (0 ≤ t ∧ t ≤ 1)) (hne : a ≠ b) : withinQ (a + t * (b - a)) a b = false := by
  cases hw : withinQ (a + t * (b - a)) a b with
  | false => rfl
  | true =>
    exfalso
    rw [within_iff] at hw
    by_cases h0 : 0 ≤ t
    · have h1 : 1 < t := by grind
      rcases (show a < b ∨ b < a by grind) with k | k
      · have := Rat.mul_pos (show 0 < t - 1 by grind) (show 0 < b - a by grind); grind
      · have := Rat.mul_pos (show 0 < t - 1 by grind) (show 0 < a - b by grind); grind
    · rcases (show a < b ∨ b < a by grind) with k | k
      · have := Rat.mul_pos (show 0 < -t by grind) (show 0 < b - a by grind); grind
      · have := Rat.mul_pos (show 0 < -t by grind) (show 0 < a - b by grind); grind
theorem along_on {ax ay bx by' t : Rat} (b : Bool) (h : b = true ↔ (0 ≤ t ∧ t ≤ 1) ∨ (ax = bx ∧ ay = by')) : onQ (ax + t * (bx - ax)) (ay + t * (by' - ay)) ax ay bx by' = b := by
  unfold onQ
  rw [along_side, show ((0 : Int) == 0) = true from rfl, Bool.and_true]
  by_cases h1 : 0 ≤ t ∧ t ≤ 1
  · rw [within_in h1.1 h1.2, within_in h1.1 h1.2]; exact (h.2 (.inl h1)).symm
  · by_cases hx : ax = bx
    · subst hx
      have e : withinQ (ax + t * (ax - ax)) ax ax = true := by rw [within_iff]; grind
      rw [e, Bool.true_and]
      by_cases hy : ay = by'
      · subst hy
        have e : withinQ (ay + t * (ay - ay)) ay ay = true := by rw [within_iff]; grind
        rw [e]; exact (h.2 (.inr ⟨rfl, rfl⟩)).symm
      · rw [within_out h1 hy]
        cases b with
        | false => rfl
        | true => rcases h.1 rfl with k | k
                  · exact absurd k h1
                  · exact absurd k.2 hy
    · rw [within_out h1 hx, Bool.false_and]
      cases b with
      | false => rfl
      | true => rcases h.1 rfl with k | k
                · exact absurd k h1
                · exact absurd k.1 hx
theorem onQ_back (sx sy ax ay bx by' : Rat) : onQ sx sy bx by' ax ay = onQ sx sy ax ay bx by' := by
  have e : ∀ n a b : Rat, withinQ n b a = withinQ n a b := fun n a b => by rw [Bool.eq_iff_iff, within_iff, within_iff]; grind
  unfold onQ
  rw [e sx, e sy]
  congr 1
  rw [Bool.eq_iff_iff]
  simp only [beq_iff_eq]
  unfold sideQ
  rw [qcmp_zero, qcmp_zero]
  grind
/-- The centre's coordinates. -/
def cxN (a0 a1 b0 b1 v0 v1 : Int) : Int := sqd a0 a1 b0 b1 * (v1 - a1) - sqd a0 a1 v0 v1 * (b1 - a1)
def cyN (a0 a1 b0 b1 v0 v1 : Int) : Int := sqd a0 a1 v0 v1 * (b0 - a0) - sqd a0 a1 b0 b1 * (v0 - a0)
def cx (a0 a1 b0 b1 v0 v1 : Int) : Rat := (a0 : Rat) + ((cxN a0 a1 b0 b1 v0 v1 : Int) : Rat) / ((crs a0 a1 b0 b1 v0 v1 + crs a0 a1 b0 b1 v0 v1 : Int) : Rat)
def cy (a0 a1 b0 b1 v0 v1 : Int) : Rat := (a1 : Rat) + ((cyN a0 a1 b0 b1 v0 v1 : Int) : Rat) / ((crs a0 a1 b0 b1 v0 v1 + crs a0 a1 b0 b1 v0 v1 : Int) : Rat)
theorem cx_mul {a0 a1 b0 b1 v0 v1 : Int} (h : crs a0 a1 b0 b1 v0 v1 ≠ 0) : (cx a0 a1 b0 b1 v0 v1 - a0) * ((crs a0 a1 b0 b1 v0 v1 + crs a0 a1 b0 b1 v0 v1 : Int) : Rat) = ((cxN a0 a1 b0 b1 v0 v1 : Int) : Rat) := by
  unfold cx
  rw [show ∀ x y : Rat, x + y - x = y by intros; grind]
  exact Rat.div_mul_cancel (ic_ne (by omega))
theorem cy_mul {a0 a1 b0 b1 v0 v1 : Int} (h : crs a0 a1 b0 b1 v0 v1 ≠ 0) : (cy a0 a1 b0 b1 v0 v1 - a1) * ((crs a0 a1 b0 b1 v0 v1 + crs a0 a1 b0 b1 v0 v1 : Int) : Rat) = ((cyN a0 a1 b0 b1 v0 v1 : Int) : Rat) := by
  unfold cy
  rw [show ∀ x y : Rat, x + y - x = y by intros; grind]
  exact Rat.div_mul_cancel (ic_ne (by omega))
theorem mul_cancel {p q d : Rat} (hd : d ≠ 0) (h : p * d = q * d) : p = q := by
  have : p * d / d = q * d / d := by rw [h]
  rwa [Rat.mul_div_cancel hd, Rat.mul_div_cancel hd] at this
theorem centre_line {x y d u0 u1 v0 v1 X Y : Rat} (hd : d + d ≠ 0) (h1 : x * (d + d) = X) (h2 : y * (d + d) = Y) (e : d = u0 * v1 - u1 * v0) (eX : X = (u0 * u0 + u1 * u1) * v1 - (v0 * v0 + v1 * v1) * u1) (eY : Y = (v0 * v0 + v1 * v1) * u0 - (u0 * u0 + u1 * u1) * v0) :
    x * u0 + x * u0 + (y * u1 + y * u1) = u0 * u0 + u1 * u1 ∧ x * v0 + x * v0 + (y * v1 + y * v1) = v0 * v0 + v1 * v1 := by
  have hd2 : d ≠ 0 := by grind
  constructor
  · apply mul_cancel hd2
    have : (x * u0 + x * u0 + (y * u1 + y * u1)) * d = X * u0 + Y * u1 := by rw [← h1, ← h2]; grind
    rw [this, eX, eY, e]; grind
  · apply mul_cancel hd2
    have : (x * v0 + x * v0 + (y * v1 + y * v1)) * d = X * v0 + Y * v1 := by rw [← h1, ← h2]; grind
    rw [this, eX, eY, e]; grind
theorem centre_far {a0 a1 b0 b1 v0 v1 : Int} (h : crs a0 a1 b0 b1 v0 v1 ≠ 0) :
    distQ (cx a0 a1 b0 b1 v0 v1) (cy a0 a1 b0 b1 v0 v1) a0 a1 = distQ (cx a0 a1 b0 b1 v0 v1) (cy a0 a1 b0 b1 v0 v1) b0 b1 ∧ distQ (cx a0 a1 b0 b1 v0 v1) (cy a0 a1 b0 b1 v0 v1) a0 a1 = distQ (cx a0 a1 b0 b1 v0 v1) (cy a0 a1 b0 b1 v0 v1) v0 v1 := by
  have h1 := cx_mul h
  have h2 := cy_mul h
  have hd := ic_ne (show crs a0 a1 b0 b1 v0 v1 + crs a0 a1 b0 b1 v0 v1 ≠ 0 by omega)
  rw [ic_add] at h1 h2 hd
  have := centre_line (u0 := (b0 : Rat) - a0) (u1 := (b1 : Rat) - a1) (v0 := (v0 : Rat) - a0) (v1 := (v1 : Rat) - a1) hd h1 h2 (crs_q _ _ _ _ _ _) (by unfold cxN; simp only [ic_sub, ic_mul, sqd_q]) (by unfold cyN; simp only [ic_sub, ic_mul, sqd_q])
  obtain ⟨k1, k2⟩ := this
  unfold distQ
  generalize cx a0 a1 b0 b1 v0 v1 = x at *
  generalize cy a0 a1 b0 b1 v0 v1 = y at *
  exact ⟨by grind, by grind⟩
theorem centre_same {a0 a1 b0 b1 v0 v1 c0 c1 d0 d1 e0 e1 : Int} (h : crs a0 a1 b0 b1 v0 v1 ≠ 0) (hc : crs c0 c1 d0 d1 e0 e1 = crs a0 a1 b0 b1 v0 v1) {k : Rat} {m : Int}
    (hk : ((c0 * (crs a0 a1 b0 b1 v0 v1 + crs a0 a1 b0 b1 v0 v1) + cxN c0 c1 d0 d1 e0 e1 : Int) : Rat) = ((m : Int) : Rat)) (hm : ((m : Int) : Rat) = k * ((crs a0 a1 b0 b1 v0 v1 + crs a0 a1 b0 b1 v0 v1 : Int) : Rat)) : cx c0 c1 d0 d1 e0 e1 = k := by
  have h1 := cx_mul (a0 := c0) (a1 := c1) (b0 := d0) (b1 := d1) (v0 := e0) (v1 := e1) (by rw [hc]; exact h)
  have hd := ic_ne (show crs a0 a1 b0 b1 v0 v1 + crs a0 a1 b0 b1 v0 v1 ≠ 0 by omega)
  rw [hc] at h1
  apply mul_cancel hd
  rw [← hm, ← hk, ic_add (c0 * _), ic_mul c0, ← h1]
  generalize ((crs a0 a1 b0 b1 v0 v1 + crs a0 a1 b0 b1 v0 v1 : Int) : Rat) = D at *
  grind
theorem centre_same' {a0 a1 b0 b1 v0 v1 c0 c1 d0 d1 e0 e1 : Int} (h : crs a0 a1 b0 b1 v0 v1 ≠ 0) (hc : crs c0 c1 d0 d1 e0 e1 = crs a0 a1 b0 b1 v0 v1) {k : Rat} {m : Int}
    (hk : ((c1 * (crs a0 a1 b0 b1 v0 v1 + crs a0 a1 b0 b1 v0 v1) + cyN c0 c1 d0 d1 e0 e1 : Int) : Rat) = ((m : Int) : Rat)) (hm : ((m : Int) : Rat) = k * ((crs a0 a1 b0 b1 v0 v1 + crs a0 a1 b0 b1 v0 v1 : Int) : Rat)) : cy c0 c1 d0 d1 e0 e1 = k := by
  have h1 := cy_mul (a0 := c0) (a1 := c1) (b0 := d0) (b1 := d1) (v0 := e0) (v1 := e1) (by rw [hc]; exact h)
  have hd := ic_ne (show crs a0 a1 b0 b1 v0 v1 + crs a0 a1 b0 b1 v0 v1 ≠ 0 by omega)
  rw [hc] at h1
  apply mul_cancel hd
  rw [← hm, ← hk, ic_add (c1 * _), ic_mul c1, ← h1]
  generalize ((crs a0 a1 b0 b1 v0 v1 + crs a0 a1 b0 b1 v0 v1 : Int) : Rat) = D at *
  grind
theorem cx_cyc {a0 a1 b0 b1 v0 v1 : Int} (h : crs a0 a1 b0 b1 v0 v1 ≠ 0) : cx v0 v1 a0 a1 b0 b1 = cx a0 a1 b0 b1 v0 v1 := by
  refine centre_same h (by unfold crs; grind) (m := a0 * (crs a0 a1 b0 b1 v0 v1 + crs a0 a1 b0 b1 v0 v1) + cxN a0 a1 b0 b1 v0 v1) (congrArg _ (by unfold cxN sqd crs; grind)) ?_
  rw [ic_add (a0 * _), ic_mul a0, ← cx_mul h]
  generalize ((crs a0 a1 b0 b1 v0 v1 + crs a0 a1 b0 b1 v0 v1 : Int) : Rat) = D at *
  grind
theorem cy_cyc {a0 a1 b0 b1 v0 v1 : Int} (h : crs a0 a1 b0 b1 v0 v1 ≠ 0) : cy v0 v1 a0 a1 b0 b1 = cy a0 a1 b0 b1 v0 v1 := by
  refine centre_same' h (by unfold crs; grind) (m := a1 * (crs a0 a1 b0 b1 v0 v1 + crs a0 a1 b0 b1 v0 v1) + cyN a0 a1 b0 b1 v0 v1) (congrArg _ (by unfold cyN sqd crs; grind)) ?_
  rw [ic_add (a1 * _), ic_mul a1, ← cy_mul h]
  generalize ((crs a0 a1 b0 b1 v0 v1 + crs a0 a1 b0 b1 v0 v1 : Int) : Rat) = D at *
  grind
/-- The centre of points that are moved, and turned by a right angle. -/
theorem crs_turn (a0 a1 b0 b1 v0 v1 x y : Int) : crs (x - a1) (y + a0) (x - b1) (y + b0) (x - v1) (y + v0) = crs a0 a1 b0 b1 v0 v1 := by unfold crs; grind
theorem cx_turn {a0 a1 b0 b1 v0 v1 : Int} (x y : Int) (h : crs a0 a1 b0 b1 v0 v1 ≠ 0) : cx (x - a1) (y + a0) (x - b1) (y + b0) (x - v1) (y + v0) = (x : Rat) - cy a0 a1 b0 b1 v0 v1 := by
  refine centre_same h (crs_turn ..) (m := (x - a1) * (crs a0 a1 b0 b1 v0 v1 + crs a0 a1 b0 b1 v0 v1) - cyN a0 a1 b0 b1 v0 v1) (congrArg _ (by unfold cxN cyN sqd crs; grind)) ?_
  rw [ic_sub (_ * _), ic_mul (x - a1), ic_sub x, ← cy_mul h]
  generalize ((crs a0 a1 b0 b1 v0 v1 + crs a0 a1 b0 b1 v0 v1 : Int) : Rat) = D at *
  grind
theorem cy_turn {a0 a1 b0 b1 v0 v1 : Int} (x y : Int) (h : crs a0 a1 b0 b1 v0 v1 ≠ 0) : cy (x - a1) (y + a0) (x - b1) (y + b0) (x - v1) (y + v0) = (y : Rat) + cx a0 a1 b0 b1 v0 v1 := by
  refine centre_same' h (crs_turn ..) (m := (y + a0) * (crs a0 a1 b0 b1 v0 v1 + crs a0 a1 b0 b1 v0 v1) + cxN a0 a1 b0 b1 v0 v1) (congrArg _ (by unfold cxN cyN sqd crs; grind)) ?_
  rw [ic_add (_ * _), ic_mul (y + a0), ic_add y, ← cx_mul h]
  generalize ((crs a0 a1 b0 b1 v0 v1 + crs a0 a1 b0 b1 v0 v1 : Int) : Rat) = D at *
  grind
/-- Twice a polygon's area. -/
def termQ (l : List (Rat × Rat)) (i : Nat) : Rat := (l.getD i (0, 0)).1 * (l.getD ((i + 1) % l.length) (0, 0)).2 - (l.getD i (0, 0)).2 * (l.getD ((i + 1) % l.length) (0, 0)).1
def areaQ (l : List (Rat × Rat)) : Rat := ((List.range l.length).map (termQ l)).foldl (· + ·) 0
theorem areaQ_three (ax ay bx by' vx vy : Rat) : areaQ [(ax, ay), (bx, by'), (vx, vy)] = (ax * by' - ay * bx) + (bx * vy - by' * vx) + (vx * ay - vy * ax) := by
  simp [areaQ, termQ, List.range, List.range.loop, Rat.zero_add]
theorem areaQ_crs (a0 a1 b0 b1 v0 v1 : Int) : areaQ [((a0 : Rat), (a1 : Rat)), ((b0 : Rat), (b1 : Rat)), ((v0 : Rat), (v1 : Rat))] = ((crs a0 a1 b0 b1 v0 v1 : Int) : Rat) := by
  rw [areaQ_three, crs_q]; grind
/-- Shares. -/
theorem shares_sum {ax ay bx by' vx vy sx sy D : Rat} (hD : D ≠ 0) (h : areaQ [(ax, ay), (bx, by'), (vx, vy)] = D) :
    areaQ [(sx, sy), (bx, by'), (vx, vy)] / D + areaQ [(ax, ay), (sx, sy), (vx, vy)] / D + areaQ [(ax, ay), (bx, by'), (sx, sy)] / D = 1 := by
  apply mul_cancel hD
  rw [Rat.add_mul, Rat.add_mul, Rat.div_mul_cancel hD, Rat.div_mul_cancel hD, Rat.div_mul_cancel hD, Rat.one_mul, ← h]
  simp only [areaQ_three]; grind
theorem shares_x {ax ay bx by' vx vy sx sy D : Rat} (hD : D ≠ 0) (h : areaQ [(ax, ay), (bx, by'), (vx, vy)] = D) :
    areaQ [(sx, sy), (bx, by'), (vx, vy)] / D * ax + areaQ [(ax, ay), (sx, sy), (vx, vy)] / D * bx + areaQ [(ax, ay), (bx, by'), (sx, sy)] / D * vx = sx := by
  apply mul_cancel hD
  have e : ∀ p q : Rat, p / D * q * D = p * q := fun p q => by rw [Rat.mul_assoc, Rat.mul_comm q, ← Rat.mul_assoc, Rat.div_mul_cancel hD]
  rw [Rat.add_mul, Rat.add_mul, e, e, e, ← h]
  simp only [areaQ_three]; grind
theorem shares_y {ax ay bx by' vx vy sx sy D : Rat} (hD : D ≠ 0) (h : areaQ [(ax, ay), (bx, by'), (vx, vy)] = D) :
    areaQ [(sx, sy), (bx, by'), (vx, vy)] / D * ay + areaQ [(ax, ay), (sx, sy), (vx, vy)] / D * by' + areaQ [(ax, ay), (bx, by'), (sx, sy)] / D * vy = sy := by
  apply mul_cancel hD
  have e : ∀ p q : Rat, p / D * q * D = p * q := fun p q => by rw [Rat.mul_assoc, Rat.mul_comm q, ← Rat.mul_assoc, Rat.div_mul_cancel hD]
  rw [Rat.add_mul, Rat.add_mul, e, e, e, ← h]
  simp only [areaQ_three]; grind
/-- Points made so many times as great. -/
theorem qcmp_sub (p q : Rat) : qcmp p q = qcmp (p - q) 0 := by
  rcases qcmp_cases p q with ⟨h, e⟩ | ⟨h, e⟩ | ⟨h, e⟩ <;> rw [e]
  · exact (qcmp_lt (by grind)).symm
  · exact (qcmp_zero.2 (by grind)).symm
  · exact (qcmp_gt (by grind)).symm
theorem qcmp_int (z : Int) : qcmp (z : Rat) 0 = z.sign := by
  rcases Int.lt_trichotomy z 0 with h | h | h
  · rw [Int.sign_eq_neg_one_of_neg h]; exact qcmp_lt (Rat.intCast_lt_intCast.2 h)
  · subst h; exact qcmp_self _
  · rw [Int.sign_eq_one_of_pos h]; exact qcmp_gt (Rat.intCast_lt_intCast.2 h)
theorem qcmp_times {k : Rat} (hk : 0 < k) (p q : Rat) : qcmp (k * p) (k * q) = qcmp p q := by
  rcases qcmp_cases p q with ⟨h, e⟩ | ⟨h, e⟩ | ⟨h, e⟩ <;> rw [e]
  · exact qcmp_lt ((Rat.mul_lt_mul_left hk).2 h)
  · subst h; exact qcmp_self _
  · exact qcmp_gt ((Rat.mul_lt_mul_left hk).2 h)
theorem side_times {k : Rat} (hk : 0 < k) (a0 a1 b0 b1 v0 v1 : Int) : sideQ (k * a0) (k * a1) (k * b0) (k * b1) (k * v0) (k * v1) = (crs a0 a1 b0 b1 v0 v1).sign := by
  unfold sideQ
  rw [show (k * (b0 : Rat) - k * a0) * (k * (v1 : Rat) - k * a1) = (k * k) * (((b0 : Rat) - a0) * ((v1 : Rat) - a1)) by grind, show (k * (b1 : Rat) - k * a1) * (k * (v0 : Rat) - k * a0) = (k * k) * (((b1 : Rat) - a1) * ((v0 : Rat) - a0)) by grind,
    qcmp_times (Rat.mul_pos hk hk), qcmp_sub, ← crs_q, qcmp_int]
theorem within_times {k : Rat} (hk : 0 < k) (n a b : Int) : withinQ (k * n) (k * a) (k * b) = decide (min a b ≤ n ∧ n ≤ max a b) := by
  rw [Bool.eq_iff_iff, within_iff, decide_eq_true_iff]
  have e : ∀ x y : Int, k * (x : Rat) ≤ k * (y : Rat) ↔ x ≤ y := fun x y => by rw [← Rat.not_lt, Rat.mul_lt_mul_left hk, Rat.intCast_lt_intCast]; omega
  rw [e, e, e, e]
  omega
theorem on_times {k : Rat} (hk : 0 < k) (s0 s1 a0 a1 b0 b1 : Int) : onQ (k * s0) (k * s1) (k * a0) (k * a1) (k * b0) (k * b1) = onP s0 s1 a0 a1 b0 b1 := by
  unfold onQ onP
  rw [within_times hk, within_times hk, side_times hk, Bool.eq_iff_iff]
  simp only [Bool.and_eq_true, decide_eq_true_iff, beq_iff_eq]
  rw [Int.sign_eq_zero_iff_zero]
  exact ⟨fun h => ⟨⟨h.2, h.1.1⟩, h.1.2⟩, fun h => ⟨⟨h.1.2, h.2⟩, h.1.1⟩⟩
theorem dist_int (a0 a1 b0 b1 : Int) : distQ a0 a1 b0 b1 = ((sqd a0 a1 b0 b1 : Int) : Rat) := (sqd_q ..).symm
end Go.Proofs.Ytkcfaddilknelaa
/- A leap of Euclid's steps (Lehmer's way): the mathematics. -/
namespace Go.MagG
/-- Where a leap stands: a, b are what is left of the heads A0, B0; x, y are the factors; s: after steps (else none has been gone). -/
structure Leap (A0 B0 a b x0 x1 y0 y1 : Nat) (odd : Bool) : Prop where
  detA : y1 * a + y0 * b = A0
  detB : x1 * a + x0 * b = B0
  even : odd = false → x0 * y1 = x1 * y0 + 1
  odds : odd = true → y0 * x1 = x0 * y1 + 1
  gone : (y0 = 0 ∧ x0 = 1 ∧ x1 = 0 ∧ y1 = 1 ∧ b ≤ a) ∨ (1 ≤ y0 ∧ 1 ≤ x1 ∧ x0 ≤ y0 ∧ x1 ≤ y1 ∧ y1 ≤ b ∧ y0 + y1 + b ≤ a)
theorem Leap.start {A0 B0 : Nat} (h : B0 ≤ A0) : Leap A0 B0 A0 B0 1 0 0 1 false :=
  ⟨by simp, by simp, fun _ => rfl, fun h => by simp at h, .inl ⟨rfl, rfl, rfl, rfl, h⟩⟩
theorem Leap.le {A0 B0 a b x0 x1 y0 y1 : Nat} {odd : Bool} (h : Leap A0 B0 a b x0 x1 y0 y1 odd) : b ≤ a := by
  rcases h.gone with h | h <;> omega
theorem det_step (q y0 y1 a b r A : Nat) (h3 : a = b * q + r) (h : y1 * a + y0 * b = A) : (y0 + q * y1) * b + y1 * r = A := by grind
theorem det_flip (q x0 x1 y0 y1 : Nat) (h : x0 * y1 = x1 * y0 + 1) : y1 * (x0 + q * x1) = x1 * (y0 + q * y1) + 1 := by grind
theorem det_flop (q x0 x1 y0 y1 : Nat) (h : y0 * x1 = x0 * y1 + 1) : x1 * (y0 + q * y1) = (x0 + q * x1) * y1 + 1 := by grind
/-- One step: the next factors fit in a word, if the numbers do. -/
theorem Leap.next {A0 B0 a b x0 x1 y0 y1 : Nat} {odd : Bool} (h : Leap A0 B0 a b x0 x1 y0 y1 odd) (hb : b ≠ 0) :
    y0 + a / b * y1 ≤ A0 ∧ x0 + a / b * x1 ≤ B0 ∧ (y0 + a / b * y1 ≤ a % b → y1 + (y0 + a / b * y1) ≤ A0) := by
  have e := (Nat.div_add_mod a b).symm
  have h1 := det_step (a / b) y0 y1 a b (a % b) A0 e h.detA
  have h2 := det_step (a / b) x0 x1 a b (a % b) B0 e h.detB
  have hb1 : 1 ≤ b := by omega
  have h3 := Nat.mul_le_mul_left (y0 + a / b * y1) hb1
  have h4 := Nat.mul_le_mul_left (x0 + a / b * x1) hb1
  rw [Nat.mul_one] at h3 h4
  refine ⟨by omega, by omega, fun hr => ?_⟩
  have hny : 1 ≤ y0 + a / b * y1 := by
    rcases h.gone with ⟨g1, _, _, g2, g3⟩ | ⟨g1, _⟩
    · have : 1 ≤ a / b := (Nat.one_le_div_iff (by omega)).2 g3
      rw [g2]; omega
    · omega
  have h5 := Nat.mul_le_mul_left y1 (show 1 ≤ a % b by omega)
  rw [Nat.mul_one] at h5
  omega
theorem Leap.step {A0 B0 a b x0 x1 y0 y1 : Nat} {odd : Bool} (h : Leap A0 B0 a b x0 x1 y0 y1 odd) (hb : b ≠ 0)
    (h1 : y0 + a / b * y1 ≤ a % b) (h2 : y1 + (y0 + a / b * y1) ≤ b - a % b) :
    Leap A0 B0 b (a % b) x1 (x0 + a / b * x1) y1 (y0 + a / b * y1) (!odd) := by
  have e := (Nat.div_add_mod a b).symm
  have hr : a % b < b := Nat.mod_lt _ (by omega)
  refine ⟨det_step _ _ _ _ _ _ _ e h.detA, det_step _ _ _ _ _ _ _ e h.detB, fun ho => ?_, fun ho => ?_, .inr ?_⟩
  · have : odd = true := by simpa using ho
    exact det_flop _ _ _ _ _ (h.odds this)
  · have : odd = false := by simpa using ho
    exact det_flip _ _ _ _ _ (h.even this)
  · have hq : 1 ≤ a / b := (Nat.one_le_div_iff (by omega)).2 h.le
    rcases h.gone with ⟨g1, g2, g3, g4, g5⟩ | ⟨g1, g2, g3, g4, g5, g6⟩
    · subst g1; subst g2; subst g3; subst g4
      simp only [Nat.mul_zero, Nat.mul_one, Nat.zero_add, Nat.add_zero] at h1 h2 ⊢
      omega
    · have h5 := Nat.mul_le_mul_left (a / b) g4
      have h6 := Nat.mul_le_mul_right x1 hq
      omega
theorem sum_even (A0 B0 a b x0 x1 y0 y1 S lA lB P Q : Nat) (hA : y1 * a + y0 * b = A0) (hB : x1 * a + x0 * b = B0) (hd : x0 * y1 = x1 * y0 + 1)
    (hP : P + y0 * lB = a * S + x0 * lA) (hQ : Q + x1 * lA = b * S + y1 * lB) :
    P + y0 * (B0 * S + lB) = x0 * (A0 * S + lA) ∧ Q + x1 * (A0 * S + lA) = y1 * (B0 * S + lB) ∧ A0 * S + lA = y1 * P + y0 * Q ∧ B0 * S + lB = x1 * P + x0 * Q := by
  subst hA; subst hB
  refine ⟨?_, ?_, ?_, ?_⟩ <;> grind
theorem sum_odd (A0 B0 a b x0 x1 y0 y1 S lA lB P Q : Nat) (hA : y1 * a + y0 * b = A0) (hB : x1 * a + x0 * b = B0) (hd : y0 * x1 = x0 * y1 + 1)
    (hP : P + x0 * lA = a * S + y0 * lB) (hQ : Q + y1 * lB = b * S + x1 * lA) :
    P + x0 * (A0 * S + lA) = y0 * (B0 * S + lB) ∧ Q + y1 * (B0 * S + lB) = x1 * (A0 * S + lA) ∧ A0 * S + lA = y1 * P + y0 * Q ∧ B0 * S + lB = x1 * P + x0 * Q := by
  subst hA; subst hB
  refine ⟨?_, ?_, ?_, ?_⟩ <;> grind
/-- A pair with the same divisors: from A, B to P, Q. -/
theorem gcd_mix (A B P Q x0 x1 y0 y1 : Nat) (h1 : P + y0 * B = x0 * A) (h2 : Q + x1 * A = y1 * B) (h3 : A = y1 * P + y0 * Q) (h4 : B = x1 * P + x0 * Q) : Nat.gcd P Q = Nat.gcd A B := by
  apply Nat.dvd_antisymm
  · apply Nat.dvd_gcd
    · rw [h3]; exact Nat.dvd_add (Nat.dvd_mul_left_of_dvd (Nat.gcd_dvd_left _ _) _) (Nat.dvd_mul_left_of_dvd (Nat.gcd_dvd_right _ _) _)
    · rw [h4]; exact Nat.dvd_add (Nat.dvd_mul_left_of_dvd (Nat.gcd_dvd_left _ _) _) (Nat.dvd_mul_left_of_dvd (Nat.gcd_dvd_right _ _) _)
  · apply Nat.dvd_gcd
    · have := Nat.dvd_mul_left_of_dvd (Nat.gcd_dvd_left A B) x0
      rw [← h1] at this
      exact (Nat.dvd_add_iff_left (Nat.dvd_mul_left_of_dvd (Nat.gcd_dvd_right A B) y0)).2 this
    · have := Nat.dvd_mul_left_of_dvd (Nat.gcd_dvd_right A B) y1
      rw [← h2] at this
      exact (Nat.dvd_add_iff_left (Nat.dvd_mul_left_of_dvd (Nat.gcd_dvd_left A B) x1)).2 this
theorem gcd_mox (A B P Q x0 x1 y0 y1 : Nat) (h1 : P + x0 * A = y0 * B) (h2 : Q + y1 * B = x1 * A) (h3 : A = y1 * P + y0 * Q) (h4 : B = x1 * P + x0 * Q) : Nat.gcd P Q = Nat.gcd A B := by
  rw [Nat.gcd_comm A B]
  refine gcd_mix B A P Q y0 y1 x0 x1 h1 h2 h4 h3
theorem sub_room {c u l S t : Nat} (h : c ≤ t) (hl : l < S) : c * l ≤ t * S + u := by
  have := Nat.mul_le_mul h (Nat.le_of_lt hl); omega
/-- What the leap's end tells of the numbers whose heads they were: the new pair. -/
theorem Leap.pair {A0 B0 a b x0 x1 y0 y1 : Nat} {odd : Bool} (h : Leap A0 B0 a b x0 x1 y0 y1 odd) (hy : y0 ≠ 0) (S lA lB : Nat) (hlA : lA < S) (hlB : lB < S) :
    ∃ P Q, (odd = false → P + y0 * (B0 * S + lB) = x0 * (A0 * S + lA) ∧ Q + x1 * (A0 * S + lA) = y1 * (B0 * S + lB)) ∧
      (odd = true → P + x0 * (A0 * S + lA) = y0 * (B0 * S + lB) ∧ Q + y1 * (B0 * S + lB) = x1 * (A0 * S + lA)) ∧
      Q ≤ P ∧ Nat.gcd P Q = Nat.gcd (A0 * S + lA) (B0 * S + lB) ∧ A0 * S + lA = y1 * P + y0 * Q ∧ B0 * S + lB = x1 * P + x0 * Q ∧ 1 ≤ y0 ∧ 1 ≤ x1 ∧ x1 ≤ y1 := by
  obtain ⟨g1, g2, g3, g4, g5, g6⟩ := h.gone.resolve_left (fun g => hy g.1)
  have hab : (y0 + y1) * S + b * S ≤ a * S := by rw [← Nat.add_mul]; exact Nat.mul_le_mul_right S g6
  have e1 : y0 * lB ≤ a * S + x0 * lA := sub_room (by omega) hlB
  have e2 : x1 * lA ≤ b * S + y1 * lB := sub_room (by omega) hlA
  have e3 : x0 * lA ≤ a * S + y0 * lB := sub_room (by omega) hlA
  have e4 : y1 * lB ≤ b * S + x1 * lA := sub_room (by omega) hlB
  have m1 : (y0 + y1) * lB ≤ (y0 + y1) * S := Nat.mul_le_mul_left _ (Nat.le_of_lt hlB)
  have m2 : (x0 + x1) * lA ≤ (y0 + y1) * S := Nat.mul_le_mul (by omega) (Nat.le_of_lt hlA)
  rw [Nat.add_mul] at m1 m2
  cases odd with
  | false =>
    obtain ⟨P, hP⟩ : ∃ P, P + y0 * lB = a * S + x0 * lA := ⟨a * S + x0 * lA - y0 * lB, by omega⟩
    obtain ⟨Q, hQ⟩ : ∃ Q, Q + x1 * lA = b * S + y1 * lB := ⟨b * S + y1 * lB - x1 * lA, by omega⟩
    obtain ⟨r1, r2, r3, r4⟩ := sum_even A0 B0 a b x0 x1 y0 y1 S lA lB P Q h.detA h.detB (h.even rfl) hP hQ
    exact ⟨P, Q, fun _ => ⟨r1, r2⟩, fun h => (by cases h), by omega, gcd_mix _ _ _ _ _ _ _ _ r1 r2 r3 r4, r3, r4, g1, g2, g4⟩
  | true =>
    obtain ⟨P, hP⟩ : ∃ P, P + x0 * lA = a * S + y0 * lB := ⟨a * S + y0 * lB - x0 * lA, by omega⟩
    obtain ⟨Q, hQ⟩ : ∃ Q, Q + y1 * lB = b * S + x1 * lA := ⟨b * S + x1 * lA - y1 * lB, by omega⟩
    obtain ⟨r1, r2, r3, r4⟩ := sum_odd A0 B0 a b x0 x1 y0 y1 S lA lB P Q h.detA h.detB (h.odds rfl) hP hQ
    exact ⟨P, Q, fun h => (by cases h), fun _ => ⟨r1, r2⟩, by omega, gcd_mox _ _ _ _ _ _ _ _ r1 r2 r3 r4, r3, r4, g1, g2, g4⟩
/-- The new pair is less. -/
theorem less_pair (A B P Q x0 x1 y0 y1 : Nat) (h3 : A = y1 * P + y0 * Q) (h4 : B = x1 * P + x0 * Q) (hy0 : 1 ≤ y0) (hx1 : 1 ≤ x1) (hxy : x1 ≤ y1) (hle : Q ≤ P) (hA : 0 < A) : P + Q < A + B ∧ P ≤ A := by
  have h5 := Nat.mul_le_mul_right P (show 1 ≤ y1 by omega)
  have h6 := Nat.mul_le_mul_right P hx1
  have h7 := Nat.mul_le_mul_right Q hy0
  rw [Nat.one_mul] at h5 h6 h7
  have hP : 0 < P := by
    rcases Nat.eq_zero_or_pos P with h | h
    · subst h
      have : Q = 0 := by omega
      subst this; simp at h3; omega
    · exact h
  omega
end Go.MagG
/- The parts of Gcd: gcdWords, at, head. -/
namespace Go.Proofs.Ytkcfaddilknelaa
open Go.RowKit Go.MagM
set_option maxHeartbeats 1000000 in
theorem gcdWords_any (x y : Nat) (w : World) (hx : x < B) (hy : y < B) :
    Calls Try.prog 78 #[.int .u64 (x : Int), .int .u64 (y : Int)] w fun e w' => ∃ q, e = .returned (.int .u64 ((Nat.gcd x y : Nat) : Int)) ∧ w' = w.drewN q := by
  go_enter Try.func78, Try.ntmps78
  go_wp2
  go_loopw [0, 1] (fun av bv wr => ∃ a b q : Nat, av = .int .u64 a ∧ bv = .int .u64 b ∧ a < B ∧ b < B ∧ Nat.gcd a b = Nat.gcd x y ∧ wr = w.drewN q) (fun _ bv _ => (intOf bv).toNat)
  case atStart => exact ⟨x, y, 0, rfl, rfl, hx, hy, rfl, rfl⟩
  case round =>
    obtain ⟨a, b, q, rfl, rfl, ha, hb, hg, rfl⟩ := hrel
    have HG := Lib.hid hg; have HA := Lib.hid ha; have HBB := Lib.hid hb; clear hg ha hb
    by_cases h0 : b = 0
    · subst h0
      go_wp2
      go_ret
      refine ⟨q, ?_, rfl⟩
      rw [← HG.out, Nat.gcd_zero_right]; rfl
    · have hbb : ((b : Int) != 0) = true := by simp; omega
      have hb0 : (b : Int) ≠ 0 := by omega
      obtain ⟨r, hr⟩ : ∃ r, a % b = r := ⟨_, rfl⟩
      have hmod : (a : Int) % (b : Int) = (r : Int) := by rw [← hr]; simp
      have hrb : r < b := by rw [← hr]; exact Nat.mod_lt _ (by omega)
      have HR := Lib.hid hr; have HRB := Lib.hid hrb; clear hr hrb
      go_wp2
      go_quiet (fail)
      go_wp2
      refine ⟨⟨b, r, q + nq, rfl, by rw [hmod], HBB.out, Nat.lt_trans HRB.out HBB.out, ?_, by rw [World.drewN_drewN]⟩, ?_⟩
      · rw [← HG.out, ← HR.out, Nat.gcd_comm b, ← Nat.gcd_rec, Nat.gcd_comm]
      · have := HRB.out; simp [intOf]; omega
set_option maxHeartbeats 1000000 in
theorem at_any (ao : Option Addr) (n c i : Nat) (f : Nat → Nat) (w : World) (hr : Reads w ao n f) :
    Calls Try.prog 101 #[.slice ao n c, .int .i64 (i : Int)] w fun e w' => e = .returned (.int .u64 (((if i < n then f i else 0 : Nat)) : Int)) ∧ w = w' := by
  by_cases h : i < n
  · obtain ⟨b, o, rfl, hc, _⟩ := hr i h
    rw [if_pos h]
    clear hr
    go_enter Try.func101, Try.ntmps101
    go_wp2
    go_ret
    exact ⟨rfl, rfl⟩
  · rw [if_neg h]
    clear hr
    go_enter Try.func101, Try.ntmps101
    go_wp2
    go_ret
    exact ⟨rfl, rfl⟩
/-- A word of a number, 0 beyond its end. -/
def zx (f : Nat → Nat) (n i : Nat) : Nat := if i < n then f i else 0
theorem zx_lt {f : Nat → Nat} {n : Nat} (h : ∀ i, i < n → f i < B) (i : Nat) : zx f n i < B := by
  unfold zx; split
  · exact h i (by omega)
  · exact B_pos
set_option maxHeartbeats 1000000 in
theorem head_any (ao : Option Addr) (n c T t s : Nat) (f : Nat → Nat) (w : World) (hT : T ≤ 9000000000) (hTt : (T : Int) - 1 = (t : Int)) (hs : s ≤ 63) (hr : Reads w ao n f) :
    Calls Try.prog 91 #[.slice ao n c, .int .i64 (T : Int), .int .i64 (s : Int)] w fun e w' =>
      ∃ q, e = .returned (.int .u64 ((zx f n T * 2 ^ s % B + zx f n t * 2 ^ s / B : Nat) : Int)) ∧ w' = w.drewN q := by
  have hlt := zx_lt hr.lt t
  have a1 : ∀ (i : Nat) (q : Nat), Calls Try.prog 101 #[.slice ao n c, .int .i64 (i : Int)] (w.drewN q) fun e w' => e = .returned (.int .u64 ((zx f n i : Nat) : Int)) ∧ ∃ k, w' = w.drewN k :=
    fun i q => (at_any ao n c i f (w.drewN q) hr).mono fun _ _ h => ⟨h.1, q, h.2.symm⟩
  obtain ⟨x, hx⟩ : ∃ x, zx f n T = x := ⟨_, rfl⟩
  obtain ⟨y, hy⟩ : ∃ y, zx f n t = y := ⟨_, rfl⟩
  have aT := a1 T
  have at' := a1 t
  simp only [hx] at aT ⊢; simp only [hy] at at' hlt ⊢
  have AT := Lib.hid aT; have At := Lib.hid at'; have HL := Lib.hid hlt
  clear a1 hr hx hy aT at' hlt
  have b5 : (0 : Int) ≤ 64 - (s : Int) := by omega
  have hk1 : IntKind.i64.wrap ((T : Int) - 1) = (t : Int) := by rw [IntWalk.i64_in _ (by omega)]; omega
  have b7 : IntKind.i64.wrap (64 - (s : Int)) = 64 - (s : Int) := IntWalk.i64_in _ (by omega)
  clear hTt
  go_enter Try.func91, Try.ntmps91
  go_wp2
  go_quiet ((go_at_call 101; first | with_reducible exact AT.out _ | with_reducible exact At.out _))
  go_wp2
  go_ret
  refine ⟨nq, ?_, rfl⟩
  rw [← orU _ _ _ HL.out (by omega)]; rfl
end Go.Proofs.Ytkcfaddilknelaa
/- leap. -/
namespace Go.Proofs.Ytkcfaddilknelaa
open Go.RowKit Go.MagM Go.MagG
set_option maxRecDepth 100000 in
set_option maxHeartbeats 4000000 in
theorem leap_any (A0 B0 : Nat) (w : World) (hA : A0 < B) (hB : B0 < B) (hle : B0 ≤ A0) :
    Calls Try.prog 90 #[.int .u64 (A0 : Int), .int .u64 (B0 : Int)] w fun e w' =>
      ∃ a b x0 x1 y0 y1 odd, Leap A0 B0 a b x0 x1 y0 y1 odd ∧ e = .returned (.tuple #[.agg #[.int .u64 ((x0 : Nat) : Int), .int .u64 ((x1 : Nat) : Int)], .agg #[.int .u64 ((y0 : Nat) : Int), .int .u64 ((y1 : Nat) : Int)], .bool odd]) ∧ Below w.heap.size w w' := by
  have HA := Lib.hid hA; have HB := Lib.hid hB
  have hstart := Leap.start hle
  have HS := Lib.hid hstart
  obtain ⟨b0, b1, hB0⟩ := boxed2 w (.int .u64 1) (.int .u64 0) (.int .u64 0) (.int .u64 1) 115
  have B0' := Lib.hid b0; have B1' := Lib.hid b1; have H0 := Lib.hid hB0
  clear hA hB hle hstart b0 b1 hB0
  go_enter Try.func90, Try.ntmps90
  go_wp2
  go_loopw [0, 1, 6] (fun av bv ov wr => ∃ a b x0 x1 y0 y1 : Nat, ∃ odd : Bool, av = .int .u64 a ∧ bv = .int .u64 b ∧ ov = .bool odd ∧ Leap A0 B0 a b x0 x1 y0 y1 odd ∧
    Box2 wr w.heap.size (.int .u64 (x0 : Int)) (.int .u64 (x1 : Int)) ∧ Box2 wr (w.heap.size + 1) (.int .u64 (y0 : Int)) (.int .u64 (y1 : Int)) ∧ Below w.heap.size w wr ∧ a < B ∧ b < B) (fun _ bv _ _ => (intOf bv).toNat)
  case atStart => exact ⟨A0, B0, 1, 0, 0, 1, false, rfl, rfl, rfl, HS.out, B0'.out, B1'.out, H0.out, HA.out, HB.out⟩
  case round =>
    obtain ⟨a, b, x0, x1, y0, y1, odd, rfl, rfl, rfl, hl, hx, hy, hbel, haB, hbB⟩ := hrel
    have HL := Lib.hid hl; have HBE := Lib.hid hbel; have HX := Lib.hid hx; have HY := Lib.hid hy; have HAB := Lib.hid haB; have HBB := Lib.hid hbB
    clear hl hbel hx hy haB hbB B0' B1' H0 HS
    by_cases h0 : b = 0
    · subst h0
      go_wp2
      obtain ⟨xz0, xz1, xz2, xz3⟩ := HX.out.drew
      obtain ⟨yz0, yz1, yz2, yz3⟩ := HY.out.drew
      obtain ⟨xc0, xc1, xf0, xf1⟩ := HX.out
      obtain ⟨yc0, yc1, yf0, yf1⟩ := HY.out
      have bx := (HX.out.set2 (.int .u64 (x0 : Int)) (.int .u64 (x1 : Int))).far2 (g' := w.heap.size + 1) (by omega) (.int .u64 (y0 : Int)) (.int .u64 (y1 : Int))
      have by' := (HY.out.far2 (g' := w.heap.size) (by omega) (.int .u64 (x0 : Int)) (.int .u64 (x1 : Int))).set2 (.int .u64 (y0 : Int)) (.int .u64 (y1 : Int))
      have hbe := below_set2 (below_set2 HBE.out (g := w.heap.size) (by omega) (.int .u64 (x0 : Int)) (.int .u64 (x1 : Int))) (g := w.heap.size + 1) (by omega) (.int .u64 (y0 : Int)) (.int .u64 (y1 : Int))
      have BX := Lib.hid bx; have BY := Lib.hid by'; have BE := Lib.hid hbe; clear bx by' hbe
      obtain ⟨xs0, xs1, xt0, xt1⟩ := HX.out.set0 (.int .u64 (x0 : Int))
      obtain ⟨yd0, yd1, yg0, yg1⟩ := HY.out.far2 (g' := w.heap.size) (by omega) (.int .u64 (x0 : Int)) (.int .u64 (x1 : Int))
      obtain ⟨ys0, ys1, yt0, yt1⟩ := (HY.out.far2 (g' := w.heap.size) (by omega) (.int .u64 (x0 : Int)) (.int .u64 (x1 : Int))).set0 (.int .u64 (y0 : Int))
      go_region
      clear xz0 xz1 xz2 xz3 yz0 yz1 yz2 yz3 xc0 xc1 xf0 xf1 yc0 yc1 yf0 yf1 xs0 xs1 xt0 xt1 yd0 yd1 yg0 yg1 ys0 ys1 yt0 yt1
      obtain ⟨xc0, xc1, xf0, xf1⟩ := BX.out.drew
      obtain ⟨yc0, yc1, yf0, yf1⟩ := BY.out.drew
      obtain ⟨xd0, xd1, xg0, xg1⟩ := BX.out
      obtain ⟨yd0, yd1, yg0, yg1⟩ := BY.out
      go_wp2
      exact bodyPost_ret (v := .tuple #[.agg #[.int .u64 (x0 : Int), .int .u64 (x1 : Int)], .agg #[.int .u64 (y0 : Int), .int .u64 (y1 : Int)], .bool odd]) (by simp [results, Try.results90, go_sem, xd0, xd1, yd0, yd1]) rfl ⟨_, _, x0, x1, y0, y1, odd, HL.out, rfl, BE.out.drew'⟩
    · skip
      have hbb : ((b : Int) != 0) = true := by simp; omega
      have hb0 : (b : Int) ≠ 0 := by omega
      obtain ⟨n1, n2, n3⟩ := HL.out.next h0
      obtain ⟨q, hq⟩ : ∃ q, a / b = q := ⟨_, rfl⟩
      obtain ⟨r, hr⟩ : ∃ r, a % b = r := ⟨_, rfl⟩
      have hquo : (a : Int) / (b : Int) = (q : Int) := by rw [← hq]; simp
      have hmod : (a : Int) % (b : Int) = (r : Int) := by rw [← hr]; simp
      have hrb : r < b := by rw [← hr]; exact Nat.mod_lt _ (by omega)
      rw [hq] at n1 n2 n3
      rw [hr] at n3
      obtain ⟨m1, hm1⟩ : ∃ m, q * x1 = m := ⟨_, rfl⟩
      obtain ⟨m2, hm2⟩ : ∃ m, q * y1 = m := ⟨_, rfl⟩
      rw [hm2] at n1 n3
      rw [hm1] at n2
      obtain ⟨nx, hnx⟩ : ∃ n, x0 + m1 = n := ⟨_, rfl⟩
      obtain ⟨ny, hny⟩ : ∃ n, y0 + m2 = n := ⟨_, rfl⟩
      rw [hny] at n1 n3
      rw [hnx] at n2
      have hA := HA.out; have hBB := HB.out
      have hqa : q ≤ a := by rw [← hq]; exact Nat.div_le_self _ _
      have haB := HAB.out
      have e0 : IntKind.u64.wrap (q : Int) = (q : Int) := by rw [IntKind.wrap_u64]; unfold B at *; omega
      have e1 : IntKind.u64.wrap ((q : Int) * (x1 : Int)) = (m1 : Int) := by rw [← Int.natCast_mul, hm1, IntKind.wrap_u64]; unfold B at *; omega
      have e3 : IntKind.u64.wrap ((q : Int) * (y1 : Int)) = (m2 : Int) := by rw [← Int.natCast_mul, hm2, IntKind.wrap_u64]; unfold B at *; omega
      have e2 : IntKind.u64.wrap ((x0 : Int) + (m1 : Int)) = (nx : Int) := by rw [IntKind.wrap_u64]; unfold B at *; omega
      have e4 : IntKind.u64.wrap ((y0 : Int) + (m2 : Int)) = (ny : Int) := by rw [IntKind.wrap_u64]; unfold B at *; omega
      have HN := Lib.hid (And.intro hq (And.intro hr (And.intro hm1 (And.intro hm2 (And.intro hnx hny)))))
      have HN3 := Lib.hid n3; have HN1 := Lib.hid n1; have HN2 := Lib.hid n2; have HRB := Lib.hid hrb; have H0' := Lib.hid h0
      clear hq hr hm1 hm2 hnx hny n1 n2 n3 hA hBB hqa haB
      go_wp2
      go_quiet (fail)
      rw [hmod]
      clear hquo hmod hbb hb0
      have hX2 := HX.out.drewN nq; have hY2 := HY.out.drewN nq; have hBE2 := HBE.out.drewN' nq
      generalize wr.drewN nq = w2 at *
      clear HX HY HBE
      have HX := Lib.hid hX2; have HY := Lib.hid hY2; have HBE := Lib.hid hBE2; clear hX2 hY2 hBE2
      obtain ⟨xc0, xc1, xf0, xf1⟩ := HX.out
      obtain ⟨yc0, yc1, yf0, yf1⟩ := HY.out
      go_wp2
      go_quiet (fail)
      clear e0 e1 e2 e3 e4 xc0 xc1 xf0 xf1 yc0 yc1 yf0 yf1
      clear hrb; have hX2 := HX.out.drewN nq; have hY2 := HY.out.drewN nq; have hBE2 := HBE.out.drewN' nq
      generalize w2.drewN nq = w3 at *
      clear HX HY HBE
      have HX := Lib.hid hX2; have HY := Lib.hid hY2; have HBE := Lib.hid hBE2; clear hX2 hY2 hBE2
      by_cases hc1 : r < ny
      · skip
        go_wp2
        obtain ⟨xz0, xz1, xz2, xz3⟩ := HX.out.drew
        obtain ⟨yz0, yz1, yz2, yz3⟩ := HY.out.drew
        obtain ⟨xc0, xc1, xf0, xf1⟩ := HX.out
        obtain ⟨yc0, yc1, yf0, yf1⟩ := HY.out
        have bx := (HX.out.set2 (.int .u64 (x0 : Int)) (.int .u64 (x1 : Int))).far2 (g' := w.heap.size + 1) (by omega) (.int .u64 (y0 : Int)) (.int .u64 (y1 : Int))
        have by' := (HY.out.far2 (g' := w.heap.size) (by omega) (.int .u64 (x0 : Int)) (.int .u64 (x1 : Int))).set2 (.int .u64 (y0 : Int)) (.int .u64 (y1 : Int))
        have hbe := below_set2 (below_set2 HBE.out (g := w.heap.size) (by omega) (.int .u64 (x0 : Int)) (.int .u64 (x1 : Int))) (g := w.heap.size + 1) (by omega) (.int .u64 (y0 : Int)) (.int .u64 (y1 : Int))
        have BX := Lib.hid bx; have BY := Lib.hid by'; have BE := Lib.hid hbe; clear bx by' hbe
        obtain ⟨xs0, xs1, xt0, xt1⟩ := HX.out.set0 (.int .u64 (x0 : Int))
        obtain ⟨yd0, yd1, yg0, yg1⟩ := HY.out.far2 (g' := w.heap.size) (by omega) (.int .u64 (x0 : Int)) (.int .u64 (x1 : Int))
        obtain ⟨ys0, ys1, yt0, yt1⟩ := (HY.out.far2 (g' := w.heap.size) (by omega) (.int .u64 (x0 : Int)) (.int .u64 (x1 : Int))).set0 (.int .u64 (y0 : Int))
        go_region
        clear xz0 xz1 xz2 xz3 yz0 yz1 yz2 yz3 xc0 xc1 xf0 xf1 yc0 yc1 yf0 yf1 xs0 xs1 xt0 xt1 yd0 yd1 yg0 yg1 ys0 ys1 yt0 yt1
        obtain ⟨xc0, xc1, xf0, xf1⟩ := BX.out.drew
        obtain ⟨yc0, yc1, yf0, yf1⟩ := BY.out.drew
        obtain ⟨xd0, xd1, xg0, xg1⟩ := BX.out
        obtain ⟨yd0, yd1, yg0, yg1⟩ := BY.out
        go_wp2
        exact bodyPost_ret (v := .tuple #[.agg #[.int .u64 (x0 : Int), .int .u64 (x1 : Int)], .agg #[.int .u64 (y0 : Int), .int .u64 (y1 : Int)], .bool odd]) (by simp [results, Try.results90, go_sem, xd0, xd1, yd0, yd1]) rfl ⟨_, _, x0, x1, y0, y1, odd, HL.out, rfl, BE.out.drew'⟩
      · have hA := HA.out; have hbB := HBB.out; have hn3 := HN3.out (by omega); have hrb := HRB.out
        obtain ⟨d, hd⟩ : ∃ d, b - r = d := ⟨_, rfl⟩
        obtain ⟨s, hs⟩ : ∃ s, y1 + ny = s := ⟨_, rfl⟩
        have e5 : IntKind.u64.wrap ((b : Int) - (r : Int)) = (d : Int) := by rw [IntKind.wrap_u64]; unfold B at *; omega
        have e6 : IntKind.u64.wrap ((y1 : Int) + (ny : Int)) = (s : Int) := by rw [IntKind.wrap_u64]; unfold B at *; omega
        have HD := Lib.hid hd; have HSS := Lib.hid hs; clear hA hbB hn3 hrb hd hs
        have hc1' : decide (r < ny) = false := by simp; omega
        obtain ⟨xc0, xc1, xf0, xf1⟩ := HX.out
        obtain ⟨yc0, yc1, yf0, yf1⟩ := HY.out
        by_cases hc2 : d < s
        · skip
          go_wp2
          clear e5 e6 xc0 xc1 xf0 xf1 yc0 yc1 yf0 yf1
          obtain ⟨xz0, xz1, xz2, xz3⟩ := HX.out.drew
          obtain ⟨yz0, yz1, yz2, yz3⟩ := HY.out.drew
          obtain ⟨xc0, xc1, xf0, xf1⟩ := HX.out
          obtain ⟨yc0, yc1, yf0, yf1⟩ := HY.out
          have bx := (HX.out.set2 (.int .u64 (x0 : Int)) (.int .u64 (x1 : Int))).far2 (g' := w.heap.size + 1) (by omega) (.int .u64 (y0 : Int)) (.int .u64 (y1 : Int))
          have by' := (HY.out.far2 (g' := w.heap.size) (by omega) (.int .u64 (x0 : Int)) (.int .u64 (x1 : Int))).set2 (.int .u64 (y0 : Int)) (.int .u64 (y1 : Int))
          have hbe := below_set2 (below_set2 HBE.out (g := w.heap.size) (by omega) (.int .u64 (x0 : Int)) (.int .u64 (x1 : Int))) (g := w.heap.size + 1) (by omega) (.int .u64 (y0 : Int)) (.int .u64 (y1 : Int))
          have BX := Lib.hid bx; have BY := Lib.hid by'; have BE := Lib.hid hbe; clear bx by' hbe
          obtain ⟨xs0, xs1, xt0, xt1⟩ := HX.out.set0 (.int .u64 (x0 : Int))
          obtain ⟨yd0, yd1, yg0, yg1⟩ := HY.out.far2 (g' := w.heap.size) (by omega) (.int .u64 (x0 : Int)) (.int .u64 (x1 : Int))
          obtain ⟨ys0, ys1, yt0, yt1⟩ := (HY.out.far2 (g' := w.heap.size) (by omega) (.int .u64 (x0 : Int)) (.int .u64 (x1 : Int))).set0 (.int .u64 (y0 : Int))
          go_region
          clear xz0 xz1 xz2 xz3 yz0 yz1 yz2 yz3 xc0 xc1 xf0 xf1 yc0 yc1 yf0 yf1 xs0 xs1 xt0 xt1 yd0 yd1 yg0 yg1 ys0 ys1 yt0 yt1
          obtain ⟨xc0, xc1, xf0, xf1⟩ := BX.out.drew
          obtain ⟨yc0, yc1, yf0, yf1⟩ := BY.out.drew
          obtain ⟨xd0, xd1, xg0, xg1⟩ := BX.out
          obtain ⟨yd0, yd1, yg0, yg1⟩ := BY.out
          go_wp2
          exact bodyPost_ret (v := .tuple #[.agg #[.int .u64 (x0 : Int), .int .u64 (x1 : Int)], .agg #[.int .u64 (y0 : Int), .int .u64 (y1 : Int)], .bool odd]) (by simp [results, Try.results90, go_sem, xd0, xd1, yd0, yd1]) rfl ⟨_, _, x0, x1, y0, y1, odd, HL.out, rfl, BE.out.drew'⟩
        · skip
          go_wp2
          clear e5 e6 xc0 xc1 xf0 xf1 yc0 yc1 yf0 yf1
          obtain ⟨xz0, xz1, xz2, xz3⟩ := HX.out.drew
          obtain ⟨yz0, yz1, yz2, yz3⟩ := HY.out.drew
          obtain ⟨xc0, xc1, xf0, xf1⟩ := HX.out
          obtain ⟨yc0, yc1, yf0, yf1⟩ := HY.out
          have bx := (HX.out.set2 (.int .u64 (x1 : Int)) (.int .u64 (nx : Int))).far2 (g' := w.heap.size + 1) (by omega) (.int .u64 (y1 : Int)) (.int .u64 (ny : Int))
          have by' := (HY.out.far2 (g' := w.heap.size) (by omega) (.int .u64 (x1 : Int)) (.int .u64 (nx : Int))).set2 (.int .u64 (y1 : Int)) (.int .u64 (ny : Int))
          have hbe := below_set2 (below_set2 HBE.out (g := w.heap.size) (by omega) (.int .u64 (x1 : Int)) (.int .u64 (nx : Int))) (g := w.heap.size + 1) (by omega) (.int .u64 (y1 : Int)) (.int .u64 (ny : Int))
          have BX := Lib.hid bx; have BY := Lib.hid by'; have BE := Lib.hid hbe; clear bx by' hbe
          obtain ⟨xs0, xs1, xt0, xt1⟩ := HX.out.set0 (.int .u64 (x1 : Int))
          obtain ⟨yd0, yd1, yg0, yg1⟩ := HY.out.far2 (g' := w.heap.size) (by omega) (.int .u64 (x1 : Int)) (.int .u64 (nx : Int))
          obtain ⟨ys0, ys1, yt0, yt1⟩ := (HY.out.far2 (g' := w.heap.size) (by omega) (.int .u64 (x1 : Int)) (.int .u64 (nx : Int))).set0 (.int .u64 (y1 : Int))
          go_region
          go_wp2
          have hst := HL.out.step H0'.out
          obtain ⟨k1, k2, k3, k4, k5, k6⟩ := HN.out
          rw [k1, k2, k3, k4, k5, k6] at hst
          refine ⟨⟨b, r, x1, nx, y1, ny, !odd, rfl, rfl, rfl, hst (by omega) (by have := HD.out; have := HSS.out; omega), BX.out.drew, BY.out.drew, BE.out.drew', HBB.out, Nat.lt_trans HRB.out HBB.out⟩, ?_⟩
          have := HRB.out
          simp [intOf]; omega
end Go.Proofs.Ytkcfaddilknelaa
/- mix. -/
namespace Go.Proofs.Ytkcfaddilknelaa
open Go.RowKit Go.MagM Go.MagG
theorem mix_over {P H o lo c A : Nat} (h1 : c ≤ A) (h2 : lo < P) {lo3 : Nat} (h3 : lo3 + P * H = A) (h4 : lo + c = lo3 + o * P) : o ≤ H := by
  rcases Nat.lt_or_ge H o with h | h
  · exfalso
    have := Nat.mul_le_mul_left P (show H + 1 ≤ o by omega)
    rw [Nat.mul_add, Nat.mul_one, Nat.mul_comm P o] at this
    omega
  · exact h
theorem mix_sum {P H o lo lo3 c A hi : Nat} (h3 : lo3 + P * H = A) (h4 : lo + c = lo3 + o * P) (h5 : hi + o = H) : lo + P * hi = A - c := by
  subst h5
  rw [Nat.mul_add, Nat.mul_comm P o] at h3
  omega
theorem mix_first (f2 : Nat → Nat) (n d over : Nat) : V (upd (spl (fun _ => 0) f2 0 n) n over) (n + (d + 1)) = V f2 n + over * B ^ n := by
  rw [show n + (d + 1) = n + 1 + d by omega, V_split, V_none (n := d), Nat.mul_zero, Nat.add_zero, V_upd_succ]
  · have := spl_V (fun _ => 0) f2 0 n
    rw [Nat.zero_add] at this
    rw [this, V_zero]; simp
  · intro i _
    rw [upd_other _ _ _ (by omega), spl_out _ _ (.inr (by omega))]
set_option maxRecDepth 100000 in
set_option maxHeartbeats 4000000 in
theorem mix_any (ao : Option Addr) (n ca : Nat) (f : Nat → Nat) (bo : Option Addr) (m cb : Nat) (fb : Nat → Nat) (p q K : Nat) (w : World) (hn : n ≤ 4000000000) (hm : m ≤ 4000000000) (hK : K = max n m + 1)
    (hra : Reads w ao n f) (hrb : Reads w bo m fb) (hp : p < B) (hq : q < B) (hle : V fb m * q ≤ V f n * p) :
    Calls Try.prog 92 #[.slice ao n ca, .int .u64 (p : Int), .slice bo m cb, .int .u64 (q : Int)] w fun e w' =>
      ∃ v, e = .returned v ∧ RMag w' v K (V f n * p - V fb m * q) ∧ Below w.heap.size w w' := by
  have HP := Lib.hid hp; have HQ := Lib.hid hq; have HA := Lib.hid hra; have HB := Lib.hid hrb; have HL := Lib.hid hle
  have hKn : n < K := by omega
  have hKm : m < K := by omega
  have hKx : K ≤ 4000000001 := by omega
  have HK := Lib.hid hK
  clear hp hq hra hrb hle hK
  go_enter Try.func92, Try.ntmps92
  go_wp2_with (first
    | (at_make; refine wpList_make_words rfl (.tmp 16) (.tmp 16) 27 rfl 76 under_words info_u64 .i64 .i64 _ _ K rfl rfl (by rw [HK.out]; omega) (by rw [HK.out]; omega) (by omega) ?_; intro w1 hh1 hb1 hs1; replace hh1 := Lib.hid hh1))
  all_goals
    go_wp2_with fail
    refine (addTimes_any w.heap.size 0 n _ _ _ _ p w1 (by omega) (fun _ => 0) f (Nat.le_refl _) HP.out (hh1.out.less (by omega)) (HA.out.below hb1) (HA.out.apart (Nat.le_refl _))).mono ?_
    rintro e w2 ⟨f2, over, rfl, hov, hh2, ht2, hv2, _⟩
    obtain ⟨hoc, hof, hoB⟩ := hh1.out n (by omega)
    have hoc2 : w2.cell? ⟨w.heap.size, n, none⟩ = some (.int .u64 0) := by
      rw [ht2.cell n (by omega)]; simpa using hoc
    have hof2 : w2.frozen? ⟨w.heap.size, n, none⟩ = false := by rw [ht2.frz]; simpa using hof
    have hh3 : Held (w2.setCell ⟨w.heap.size, n, none⟩ (.int .u64 (over : Int))) w.heap.size 0 K (upd (spl (fun _ => 0) f2 0 n) n over) := by
      have h := (hh1.out.splice (by simpa using ht2) (by simpa using hh2) (by omega)).setCell (k := n) hov hKn
      simpa using h
    have ht3 : Turn w.heap.size 0 K w1 (w2.setCell ⟨w.heap.size, n, none⟩ (.int .u64 (over : Int))) := (ht2.wider (by omega) (by omega)).setCell (by omega) (by omega) _
    have hbe3 : Below w.heap.size w (w2.setCell ⟨w.heap.size, n, none⟩ (.int .u64 (over : Int))) := ht3.below hb1 (Nat.le_refl _) (by omega)
    obtain ⟨f3, hf3⟩ : ∃ f3, upd (spl (fun _ => 0) f2 0 n) n over = f3 := ⟨_, rfl⟩
    have hV3 : V f3 K = V f n * p := by
      obtain ⟨d, hd⟩ : ∃ d, K = n + (d + 1) := ⟨K - n - 1, by omega⟩
      rw [← hf3, hd, mix_first, hv2, V_none (fun _ _ => rfl)]; simp
    rw [hf3] at hh3
    have HH3 := Lib.hid hh3; have HT3 := Lib.hid ht3; have HB3 := Lib.hid hbe3; have HV3 := Lib.hid hV3
    clear hov hh2 ht2 hv2 hoc hof hoB hh3 ht3 hbe3 hf3 hV3
    go_wp2_with fail
    clear hoc2 hof2
    generalize w2.setCell ⟨w.heap.size, n, none⟩ (.int .u64 (over : Int)) = w3 at *
    refine (takeTimes_any w.heap.size 0 m _ _ _ _ q w3 (by omega) f3 fb (Nat.le_refl _) HQ.out (HH3.out.less (by omega)) (HB.out.below HB3.out) (HB.out.apart (Nat.le_refl _))).mono ?_
    rintro e w4 ⟨f4, ov, rfl, hov, hh4, ht4, hv4, _⟩
    have hsp := V_split f3 m (K - m)
    rw [show m + (K - m) = K by omega, HV3.out] at hsp
    have h4lt := V_lt hh4.lt
    have hoH : ov ≤ V (fun i => f3 (m + i)) (K - m) := mix_over HL.out h4lt hsp.symm hv4
    have hb4 := (ht4.wider (o' := 0) (n' := K) (by omega) (by omega)).below HB3.out (Nat.le_refl _) HB3.out.size
    have hpart : Held w4 w.heap.size (0 + m) (K - m) (fun i => f3 (m + i)) := (HH3.out.part (k := m) (m := K - m) (by omega)).turn ht4 (.inr (by omega))
    have hlt : w.heap.size < w4.heap.size := hpart.lt_size (by omega)
    have hal : Below w4.heap.size w4 (w4.alloc (.cells #[.int .u64 (ov : Int)] 76)) := (Below.refl _ _).alloc (Nat.le_refl _) _
    have hrd : Reads (w4.alloc (.cells #[.int .u64 (ov : Int)] 76)) (some ⟨w4.heap.size, 0, none⟩) 1 (fun _ => ov) := by
      intro i hi
      refine ⟨w4.heap.size, 0, rfl, ?_, hov⟩
      have : i = 0 := by omega
      subst this
      exact World.cell?_alloc_new w4 _ _ _
    have HH4 := Lib.hid hh4; have HV4 := Lib.hid hv4; have HSP := Lib.hid hsp; have HOH := Lib.hid hoH; have HB4 := Lib.hid hb4; have HPT := Lib.hid hpart; have HLT := Lib.hid hlt; have HAL := Lib.hid hal; have HRD := Lib.hid hrd
    clear hov hh4 ht4 hv4 hsp h4lt hoH hb4 hpart hlt hal hrd
    have hcap : ¬ (K = m) := by omega
    go_wp2_with fail
    refine (takeFrom_any w.heap.size m (K - m) _ _ 1 _ _ (by omega) (fun i => f3 (m + i)) (fun _ => ov) (by omega) (by have := HPT.out.below HAL.out; simpa using this) HRD.out (fun _ b' o' e => by simp at e; have := HLT.out; omega) (by rw [V_one]; exact HOH.out)).mono ?_
    rintro e w5 ⟨rfl, f5, hh5, ht5, hv5⟩
    rw [V_one] at hv5
    have hlow : Held w5 w.heap.size 0 m f4 := (HH4.out.below HAL.out).turn ht5 (.inl (by omega))
    obtain ⟨F, hF⟩ : ∃ F : Nat → Nat, F = fun i => if i < m then f4 i else f5 (i - m) := ⟨_, rfl⟩
    have hjoin : Held w5 w.heap.size 0 (m + (K - m)) F := by
      refine Held.join (hlow.congr fun i hi => ?_) ((show Held w5 w.heap.size (0 + m) (K - m) f5 by simpa using hh5).congr fun i hi => ?_)
      · rw [hF]; simp [hi]
      · rw [hF]; simp only [show ¬ (m + i < m) by omega, if_false, Nat.add_sub_cancel_left]
    rw [show m + (K - m) = K by omega] at hjoin
    have hVF : V F K = V f n * p - V fb m * q := by
      have h1 := V_split F m (K - m)
      rw [show m + (K - m) = K by omega] at h1
      rw [h1, V_congr (f := F) (g := f4) (n := m) (fun i hi => by rw [hF]; simp [hi]), V_congr (f := fun i => F (m + i)) (g := f5) (n := K - m) (fun i hi => by rw [hF]; simp only [show ¬ (m + i < m) by omega, if_false, Nat.add_sub_cancel_left])]
      exact mix_sum HSP.out.symm HV4.out hv5
    have hb5 : Below w.heap.size w w5 := ht5.below (HB4.out.trans (HAL.out.mono HB4.out.size)) (Nat.le_refl _) (by have := HAL.out.size; have := HB4.out.size; omega)
    have HJ := Lib.hid hjoin; have HVF := Lib.hid hVF; have HB5 := Lib.hid hb5
    clear hjoin hVF hb5 hlow hh5 ht5 hv5 hF
    go_wp2_with fail
    refine (trim_any _ _ _ _ (by omega) F (Nat.le_refl _) HJ.out.reads).mono ?_
    rintro e w6 ⟨rfl, rfl⟩
    go_wp2
    go_ret
    have hfin := RMag.of_trim HJ.out.reads (Nat.le_refl K)
    rw [HVF.out] at hfin
    exact ⟨_, rfl, hfin, HB5.out⟩
end Go.Proofs.Ytkcfaddilknelaa
/- What head tells: the number over the last bits, rounded down. -/
namespace Go.Proofs.Ytkcfaddilknelaa
open Go.RowKit Go.MagM
theorem zx_V (f : Nat → Nat) {n k : Nat} (hk : n ≤ k) : V (zx f n) k = V f n := by
  obtain ⟨d, rfl⟩ : ∃ d, k = n + d := ⟨k - n, by omega⟩
  rw [V_split, V_congr (f := zx f n) (g := f) (n := n) (fun i hi => if_pos hi), V_none (f := fun i => zx f n (n + i)) (fun i _ => if_neg (by omega))]; simp
theorem head_val (f : Nat → Nat) (n t s : Nat) (hf : ∀ i, i < n → f i < B) (hn : n ≤ t + 2) (hs : s ≤ 63) (htop : zx f n (t + 1) * 2 ^ s < B) :
    zx f n (t + 1) * 2 ^ s % B + zx f n t * 2 ^ s / B = V f n / (B ^ t * 2 ^ (64 - s)) := by
  have hz : ∀ i, zx f n i < B := zx_lt hf
  have h1 : V f n / B ^ t = zx f n t + zx f n (t + 1) * B := by
    rw [← zx_V f hn]
    have h2 := V_high (zx f n) (k := t) (n := 2) (fun i _ => hz i)
    rw [← h2, show (2 : Nat) = 1 + 1 from rfl, V_succ, V_one, Nat.pow_one]; rfl
  rw [← Nat.div_div_eq_div_mul, h1, Nat.mod_eq_of_lt htop, ← shr_eq _ s (by omega)]
  rw [show zx f n (t + 1) * B = 2 ^ (64 - s) * (zx f n (t + 1) * 2 ^ s) by rw [B_pow s (by omega), Nat.mul_left_comm]]
  rw [Nat.add_mul_div_left _ _ (Nat.pow_pos (by omega)), Nat.add_comm]
end Go.Proofs.Ytkcfaddilknelaa
