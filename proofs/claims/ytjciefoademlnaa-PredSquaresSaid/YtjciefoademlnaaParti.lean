/- From the form of the rows to the walks of layer 2: what an argument reads as. -/
import Derived.Test.YtjciefoademlnaaRows
import Derived.Test.YtjciefoademlnaaParth
import Derived.ProofKit
import Derived.ChangeVars
import Derived.JoinedOf
import Derived.RowKitTokens
import Derived.Lib.SmallJoins
import Derived.Test.YtjciefoademlnaaMath
import Derived.Test.YtjciefoademlnaaPartg
namespace Go.Proofs.Ytjciefoademlnaa
open Go.ChangeShapes Go.WideShapes Go.RowKit Go.MagM
theorem own0 : ownKnob Try.prog.godebug = none := by kernel_rfl
theorem laidOut0 : laidOutB Try.prog = true := by kernel_rfl
theorem cells42 : Try.prog.cellsOf 51 = 1 := by kernel_rfl
/-- What a list of words reads as: words. -/
theorem view_words {H : Type} {enc : TypeId × Value → H} {W : World} {fuel : Nat} {v : Value} {x : DataW H × List MemPlace}
    (hf : DataW.trod enc Try.prog W 0 (fun _ => true) true fuel 27 [v] = some x) :
    ∃ a0 len cap, v = .slice a0 len cap ∧ len ≤ cap ∧ ∃ f, Reads W a0 len f := by
  obtain ⟨d, p⟩ := x
  rcases open_ints Try.underlying27 Try.underlying51 cells42 hf with ⟨hcs, hx⟩ | ⟨a, len', cap', zs, hcs, _, hl, hm, hz, hx, hcell, hwz⟩
  · simp at hcs
    subst hcs
    exact ⟨_, _, _, rfl, Nat.le_refl _, fun _ => 0, Reads.nil _ _ _⟩
  · simp at hcs
    subst hcs
    simp only [if_true] at hz
    refine ⟨_, _, _, rfl, hl, fun i => (zs.getD i 0).toNat, ?_⟩
    intro i hi
    have hc := hcell i (by omega)
    have hsp := World.cell?_spot (hcell 0 (by omega))
    obtain ⟨b, o, sp⟩ := a
    have hsp' : sp = none := by simpa [Addr.add] using hsp
    subst hsp'
    have hmem : zs.getD i 0 ∈ zs := by
      rw [List.getD_eq_getElem?_getD, List.getElem?_eq_getElem (by omega)]; exact List.getElem_mem _
    have hw := hwz _ hmem
    have hadd : (⟨b, o, none⟩ : Addr).add i = ⟨b, o + i, none⟩ := by unfold Addr.add; split <;> simp_all
    rw [hadd] at hc
    show ∃ b' o', _ ∧ W.cell? ⟨b', o' + i, none⟩ = some (.int .u64 (((zs.getD i 0).toNat : Nat) : Int)) ∧ (zs.getD i 0).toNat < B
    generalize zs.getD i 0 = z at *
    have hr : 0 ≤ z ∧ z < 18446744073709551616 := by
      simp only [Lit.wf, IntKind.min, IntKind.max, IntKind.signed, IntKind.bits, Bool.and_eq_true] at hw
      simp at hw
      omega
    refine ⟨b, o, rfl, ?_, by unfold B; omega⟩
    rw [hc]
    congr 2
    omega
set_option maxRecDepth 100000 in
/-- What a Num reads as: a sign and words. -/
theorem view_num {H : Type} {enc : TypeId × Value → H} {W : World} {b0 : Nat} {v : Value} {d : DataW H} {p : List MemPlace} (hv : Value.okWide Try.prog W .any b0 29 v)
    (h : DataW.Trod enc Try.prog W 0 (fun _ => true) true 29 v d p) :
    ∃ m ao n c f, v = .agg #[.bool m, .slice ao n c] ∧ n ≤ c ∧ Reads W ao n f := by
  obtain ⟨v0, v1, y0, y1, k, rfl, _, _, h0, h1⟩ := Joins.open_agg2 Try.underlying29 (by kernel_rfl) (by kernel_rfl) hv h
  obtain ⟨m, hm, _⟩ := DataW.trod_bool Try.underlying4 h0
  simp at hm
  subst hm
  obtain ⟨ao, n, c, rfl, hc, f, hr⟩ := view_words h1
  exact ⟨m, ao, n, c, f, rfl, hc, hr⟩
theorem int_range {x : Int} (h : (Lit.int .i64 x).wf = true) : -9223372036854775808 ≤ x ∧ x < 9223372036854775808 := by
  simp only [Lit.wf, IntKind.min, IntKind.max, IntKind.signed, IntKind.bits, Bool.and_eq_true, decide_eq_true_eq] at h
  simp at h
  omega
end Go.Proofs.Ytjciefoademlnaa
/- Points with whole coordinates: how three turn, the power of a fourth one, what lies on a line: pure. -/
namespace Go.MagM
/-- How three points turn: twice their area. -/
def crs (ax ay bx by' cx cy : Int) : Int := (bx - ax) * (cy - ay) - (by' - ay) * (cx - ax)
/-- Where a fourth point lies to the circle through three. -/
def inc (ax ay bx by' cx cy dx dy : Int) : Int :=
  (ax - dx) * ((by' - dy) * ((cx - dx) * (cx - dx) + (cy - dy) * (cy - dy)) - ((bx - dx) * (bx - dx) + (by' - dy) * (by' - dy)) * (cy - dy))
  - (ay - dy) * ((bx - dx) * ((cx - dx) * (cx - dx) + (cy - dy) * (cy - dy)) - ((bx - dx) * (bx - dx) + (by' - dy) * (by' - dy)) * (cx - dx))
  + ((ax - dx) * (ax - dx) + (ay - dy) * (ay - dy)) * ((bx - dx) * (cy - dy) - (by' - dy) * (cx - dx))
/-- The square of a distance. -/
def sqd (ax ay bx by' : Int) : Int := (ax - bx) * (ax - bx) + (ay - by') * (ay - by')
theorem sq_nonneg (x : Int) : 0 ≤ x * x := by rw [← Int.natAbs_mul_self' x]; exact Int.mul_nonneg (Int.natCast_nonneg _) (Int.natCast_nonneg _)
theorem sq_pos {x : Int} (h : x ≠ 0) : 0 < x * x := by
  have h1 := sq_nonneg x
  have h2 : x * x ≠ 0 := fun e => h (by rcases Int.mul_eq_zero.1 e with h | h <;> exact h)
  omega
theorem sqd_nonneg (ax ay bx by' : Int) : 0 ≤ sqd ax ay bx by' := by
  have h1 := sq_nonneg (ax - bx); have h2 := sq_nonneg (ay - by'); unfold sqd; omega
theorem sqd_pos {ax ay bx by' : Int} (h : ¬ (ax = bx ∧ ay = by')) : 0 < sqd ax ay bx by' := by
  have h1 := sq_nonneg (ax - bx); have h2 := sq_nonneg (ay - by')
  unfold sqd
  by_cases hx : ax = bx
  · have := sq_pos (x := ay - by') (by omega); omega
  · have := sq_pos (x := ax - bx) (by omega); omega
theorem sqd_comm (ax ay bx by' : Int) : sqd ax ay bx by' = sqd bx by' ax ay := by unfold sqd; grind
theorem crs_cyc (ax ay bx by' cx cy : Int) : crs bx by' cx cy ax ay = crs ax ay bx by' cx cy := by unfold crs; grind
theorem crs_swap (ax ay bx by' cx cy : Int) : crs bx by' ax ay cx cy = -crs ax ay bx by' cx cy := by unfold crs; grind
theorem crs_back (ax ay bx by' cx cy : Int) : crs ax ay cx cy bx by' = -crs ax ay bx by' cx cy := by unfold crs; grind
theorem crs_shoe (ax ay bx by' cx cy : Int) : crs ax ay bx by' cx cy = (ax * by' - ay * bx) + (bx * cy - by' * cx) + (cx * ay - cy * ax) := by unfold crs; grind
theorem crs_sum (ax ay bx by' cx cy dx dy : Int) : crs ax ay bx by' dx dy + crs bx by' cx cy dx dy + crs cx cy ax ay dx dy = crs ax ay bx by' cx cy := by unfold crs; grind
theorem inc_cyc (ax ay bx by' cx cy dx dy : Int) : inc bx by' cx cy ax ay dx dy = inc ax ay bx by' cx cy dx dy := by unfold inc; grind
theorem inc_a (ax ay bx by' cx cy : Int) : inc ax ay bx by' cx cy ax ay = 0 := by unfold inc; grind
theorem inc_b (ax ay bx by' cx cy : Int) : inc ax ay bx by' cx cy bx by' = 0 := by unfold inc; grind
theorem inc_c (ax ay bx by' cx cy : Int) : inc ax ay bx by' cx cy cx cy = 0 := by unfold inc; grind
/-- The document's power of a point, by the centre, is it turned round, twice. -/
theorem inc_power (ax ay bx by' cx cy dx dy : Int) :
    2 * ((bx - ax) * (cy - ay) - (by' - ay) * (cx - ax)) * sqd ax ay dx dy
      - 2 * ((dx - ax) * (sqd ax ay bx by' * (cy - ay) - (by' - ay) * sqd ax ay cx cy) + (dy - ay) * ((bx - ax) * sqd ax ay cx cy - sqd ax ay bx by' * (cx - ax)))
    = -(2 * inc ax ay bx by' cx cy dx dy) := by unfold inc sqd; grind
/-- By the areas that a point makes with a triangle's sides. -/
theorem inc_bary (ax ay bx by' cx cy dx dy : Int) : crs ax ay bx by' cx cy * inc ax ay bx by' cx cy dx dy =
   crs bx by' cx cy dx dy * crs cx cy ax ay dx dy * sqd ax ay bx by'
   + crs cx cy ax ay dx dy * crs ax ay bx by' dx dy * sqd bx by' cx cy
   + crs ax ay bx by' dx dy * crs bx by' cx cy dx dy * sqd cx cy ax ay := by unfold inc crs sqd; grind
/-- What is in a triangle is in its circle, within it but for the corners. -/
theorem inc_in {ax ay bx by' cx cy dx dy : Int} (hD : 0 < crs ax ay bx by' cx cy) (hx : 0 ≤ crs ax ay bx by' dx dy) (hy : 0 ≤ crs bx by' cx cy dx dy) (hz : 0 ≤ crs cx cy ax ay dx dy) :
    0 < inc ax ay bx by' cx cy dx dy ∨ (dx = ax ∧ dy = ay) ∨ (dx = bx ∧ dy = by') ∨ (dx = cx ∧ dy = cy) := by
  have hb := inc_bary ax ay bx by' cx cy dx dy
  have hs := crs_sum ax ay bx by' cx cy dx dy
  have nab : ¬ (ax = bx ∧ ay = by') := by rintro ⟨rfl, rfl⟩; unfold crs at hD; grind
  have nbc : ¬ (bx = cx ∧ by' = cy) := by rintro ⟨rfl, rfl⟩; unfold crs at hD; grind
  have nca : ¬ (cx = ax ∧ cy = ay) := by rintro ⟨rfl, rfl⟩; unfold crs at hD; grind
  have pab := sqd_pos nab; have pbc := sqd_pos nbc; have pca := sqd_pos nca
  have ea : crs bx by' cx cy dx dy = crs ax ay bx by' cx cy → crs ax ay bx by' dx dy = 0 → crs cx cy ax ay dx dy = 0 → dx = ax ∧ dy = ay := by
    intro _ h1 h2
    have e1 : crs ax ay bx by' cx cy * (dx - ax) = 0 := by
      have : crs ax ay bx by' cx cy * (dx - ax) = (cx - ax) * crs ax ay bx by' dx dy + (bx - ax) * crs cx cy ax ay dx dy := by unfold crs; grind
      rw [this, h1, h2]; simp
    have e2 : crs ax ay bx by' cx cy * (dy - ay) = 0 := by
      have : crs ax ay bx by' cx cy * (dy - ay) = (cy - ay) * crs ax ay bx by' dx dy + (by' - ay) * crs cx cy ax ay dx dy := by unfold crs; grind
      rw [this, h1, h2]; simp
    rcases Int.mul_eq_zero.1 e1 with h | h <;> rcases Int.mul_eq_zero.1 e2 with k | k <;> omega
  have eb : crs bx by' cx cy dx dy = 0 → crs ax ay bx by' dx dy = 0 → dx = bx ∧ dy = by' := by
    intro h1 h2
    have e1 : crs ax ay bx by' cx cy * (dx - bx) = 0 := by
      have : crs ax ay bx by' cx cy * (dx - bx) = (ax - bx) * crs bx by' cx cy dx dy + (cx - bx) * crs ax ay bx by' dx dy := by unfold crs; grind
      rw [this, h1, h2]; simp
    have e2 : crs ax ay bx by' cx cy * (dy - by') = 0 := by
      have : crs ax ay bx by' cx cy * (dy - by') = (ay - by') * crs bx by' cx cy dx dy + (cy - by') * crs ax ay bx by' dx dy := by unfold crs; grind
      rw [this, h1, h2]; simp
    rcases Int.mul_eq_zero.1 e1 with h | h <;> rcases Int.mul_eq_zero.1 e2 with k | k <;> omega
  have ec : crs bx by' cx cy dx dy = 0 → crs cx cy ax ay dx dy = 0 → dx = cx ∧ dy = cy := by
    intro h1 h2
    have e1 : crs ax ay bx by' cx cy * (dx - cx) = 0 := by
      have : crs ax ay bx by' cx cy * (dx - cx) = (ax - cx) * crs bx by' cx cy dx dy + (bx - cx) * crs cx cy ax ay dx dy := by unfold crs; grind
      rw [this, h1, h2]; simp
    have e2 : crs ax ay bx by' cx cy * (dy - cy) = 0 := by
      have : crs ax ay bx by' cx cy * (dy - cy) = (ay - cy) * crs bx by' cx cy dx dy + (by' - cy) * crs cx cy ax ay dx dy := by unfold crs; grind
      rw [this, h1, h2]; simp
    rcases Int.mul_eq_zero.1 e1 with h | h <;> rcases Int.mul_eq_zero.1 e2 with k | k <;> omega
  generalize crs ax ay bx by' cx cy = D at *
  generalize crs bx by' cx cy dx dy = α at *
  generalize crs cx cy ax ay dx dy = β at *
  generalize crs ax ay bx by' dx dy = γ at *
  generalize inc ax ay bx by' cx cy dx dy = J at *
  generalize sqd ax ay bx by' = s1 at *
  generalize sqd bx by' cx cy = s2 at *
  generalize sqd cx cy ax ay = s3 at *
  have m1 := Int.mul_nonneg (Int.mul_nonneg hy hz) (Int.le_of_lt pab)
  have m2 := Int.mul_nonneg (Int.mul_nonneg hz hx) (Int.le_of_lt pbc)
  have m3 := Int.mul_nonneg (Int.mul_nonneg hx hy) (Int.le_of_lt pca)
  by_cases hJ : 0 < J
  · exact .inl hJ
  · right
    have hDJ : D * J ≤ 0 := Int.mul_nonpos_of_nonneg_of_nonpos (Int.le_of_lt hD) (Int.not_lt.1 hJ)
    have z1 : α * β * s1 = 0 := by omega
    have z2 : β * γ * s2 = 0 := by omega
    have z3 : γ * α * s3 = 0 := by omega
    have w1 : α = 0 ∨ β = 0 := by rcases Int.mul_eq_zero.1 z1 with h | h
                                  · exact Int.mul_eq_zero.1 h
                                  · omega
    have w2 : β = 0 ∨ γ = 0 := by rcases Int.mul_eq_zero.1 z2 with h | h
                                  · exact Int.mul_eq_zero.1 h
                                  · omega
    have w3 : γ = 0 ∨ α = 0 := by rcases Int.mul_eq_zero.1 z3 with h | h
                                  · exact Int.mul_eq_zero.1 h
                                  · omega
    by_cases ha : α = 0
    · by_cases hc : γ = 0
      · exact .inr (.inl (eb ha hc))
      · have hb0 : β = 0 := by omega
        exact .inr (.inr (ec ha hb0))
    · have hc : γ = 0 := by omega
      have hb0 : β = 0 := by omega
      exact .inl (ea (by omega) hc hb0)
/-- A rectangle's corners, and its midst. -/
theorem inc_rect (px py qx qy mx my : Int) : inc px py qx py qx qy mx my = (qx - px) * (qy - py) * ((mx - px) * (qx - mx) + (my - py) * (qy - my)) := by unfold inc; grind
theorem crs_rect (px py qx qy : Int) : crs px py qx py qx qy = (qx - px) * (qy - py) := by unfold crs; grind
/-- The roots of two squares add up to the root of a third: on one line, between. -/
theorem on_line (px py ax ay bx by' : Int) : (sqd ax ay bx by' - sqd ax ay px py - sqd px py bx by') * (sqd ax ay bx by' - sqd ax ay px py - sqd px py bx by') - 4 * (sqd ax ay px py * sqd px py bx by') = -(4 * (crs ax ay bx by' px py * crs ax ay bx by' px py)) := by unfold sqd crs; grind
theorem on_dot (px py ax ay bx by' : Int) : sqd ax ay bx by' - sqd ax ay px py - sqd px py bx by' = 2 * ((px - ax) * (bx - px) + (py - ay) * (by' - py)) := by unfold sqd; grind
/-- On a line, to be between is to be in the box. -/
theorem on_box {px py ax ay bx by' : Int} (h : crs ax ay bx by' px py = 0) : 0 ≤ (px - ax) * (bx - px) + (py - ay) * (by' - py) ↔ (0 ≤ (px - ax) * (bx - px) ∧ 0 ≤ (py - ay) * (by' - py)) := by
  have e : ((px - ax) * (bx - px)) * ((py - ay) * (by' - py)) = ((px - ax) * (by' - py)) * ((px - ax) * (by' - py)) := by
    have : (px - ax) * (by' - py) = (py - ay) * (bx - px) := by unfold crs at h; grind
    grind
  have hs := sq_nonneg ((px - ax) * (by' - py))
  rw [← e] at hs
  generalize (px - ax) * (bx - px) = u at *
  generalize (py - ay) * (by' - py) = v at *
  constructor
  · intro hd
    by_cases hu : 0 ≤ u
    · by_cases hv : 0 ≤ v
      · exact ⟨hu, hv⟩
      · have hup : 0 < u := by omega
        have := Int.mul_neg_of_pos_of_neg hup (show v < 0 by omega)
        omega
    · have hv : 0 < v := by omega
      have := Int.mul_neg_of_neg_of_pos (show u < 0 by omega) hv
      omega
  · rintro ⟨h1, h2⟩; omega
/-- Between two numbers. -/
theorem tween (p a b : Int) : 0 ≤ (p - a) * (b - p) ↔ (min a b ≤ p ∧ p ≤ max a b) := by
  constructor
  · intro h
    by_cases h1 : p < a
    · by_cases h2 : p < b
      · have := Int.mul_neg_of_neg_of_pos (show p - a < 0 by omega) (show 0 < b - p by omega); omega
      · omega
    · by_cases h2 : b < p
      · by_cases h3 : a < p
        · have := Int.mul_neg_of_pos_of_neg (show 0 < p - a by omega) (show b - p < 0 by omega); omega
        · omega
      · omega
  · rintro ⟨h1, h2⟩
    by_cases h3 : a ≤ p
    · by_cases h4 : p ≤ b
      · exact Int.mul_nonneg (by omega) (by omega)
      · have : p = a := by omega
        subst this; simp
    · have h4 : b ≤ p := by omega
      exact Int.mul_nonneg_of_nonpos_of_nonpos (by omega) (by omega)
end Go.MagM
/- Boxes of any number of cells. Over any program. -/
namespace Go.MagM
open Go.RowKit
/-- Block g is a box that holds vs, and may be written. -/
structure Box (w : World) (g : Nat) (vs : List Value) : Prop where
  c : ∀ i v, vs[i]? = some v → w.cell? ⟨g, i, none⟩ = some v
  f : ∀ i v, vs[i]? = some v → w.frozen? ⟨g, i, none⟩ = false
theorem Box.below {w w' : World} {g : Nat} {vs : List Value} (h : Box w g vs) (hb : Below w.heap.size w w') : Box w' g vs :=
  ⟨fun i v hi => (hb.cell (p := ⟨g, i, none⟩) (World.block_lt_of_cell? w _ (h.c i v hi))).trans (h.c i v hi),
    fun i v hi => (hb.frozen (p := ⟨g, i, none⟩) (World.block_lt_of_cell? w _ (h.c i v hi))).trans (h.f i v hi)⟩
theorem Box.drew {w : World} {g : Nat} {vs : List Value} (h : Box w g vs) : Box w.drew g vs := ⟨h.c, h.f⟩
theorem Box.drewN {w : World} {g : Nat} {vs : List Value} (h : Box w g vs) (n : Nat) : Box (w.drewN n) g vs := ⟨h.c, h.f⟩
theorem Box.lt {w : World} {g : Nat} {v : Value} {vs : List Value} (h : Box w g (v :: vs)) : g < w.heap.size := World.block_lt_of_cell? w _ (h.c 0 v rfl)
theorem Box.set {w : World} {g : Nat} {vs : List Value} (h : Box w g vs) (i : Nat) (x : Value) : Box (w.setCell ⟨g, i, none⟩ x) g (vs.set i x) := by
  refine ⟨fun j v hj => ?_, fun j v hj => ?_⟩
  · rw [List.getElem?_set] at hj
    by_cases e : i = j
    · subst e
      rw [if_pos rfl] at hj
      split at hj
      · next hl =>
        simp at hj; subst hj
        exact World.cell?_setCell_same _ _ _ (h.c i _ (List.getElem?_eq_getElem hl))
      · cases hj
    · rw [if_neg e] at hj
      have ne : (⟨g, i, none⟩ : Addr) ≠ ⟨g, j, none⟩ := by intro k; injection k with k1 k2; exact e k2
      rw [World.cell?_setCell_other _ _ _ _ (by first | exact ne | exact ne.symm)]; exact h.c j v hj
  · rw [World.frozen?_setCell]
    rw [List.getElem?_set] at hj
    by_cases e : i = j
    · subst e
      rw [if_pos rfl] at hj
      split at hj
      · next hl => exact h.f i _ (List.getElem?_eq_getElem hl)
      · cases hj
    · rw [if_neg e] at hj; exact h.f j v hj
theorem Box.far {w : World} {g g' : Nat} {vs : List Value} (h : Box w g vs) (hne : g ≠ g') (i : Nat) (x : Value) : Box (w.setCell ⟨g', i, none⟩ x) g vs := by
  refine ⟨fun j v hj => ?_, fun j v hj => (World.frozen?_setCell _ _ _ _).trans (h.f j v hj)⟩
  have ne : (⟨g', i, none⟩ : Addr) ≠ ⟨g, j, none⟩ := by intro k; injection k with k1; exact hne k1.symm
  rw [World.cell?_setCell_other _ _ _ _ (by first | exact ne | exact ne.symm)]; exact h.c j v hj
theorem box_new (w : World) (vs : List Value) (T : TypeId) : Box (w.alloc (.cells vs.toArray T)) w.heap.size vs := by
  refine ⟨fun i v hi => ?_, fun i v hi => ?_⟩
  · simp [go_sem, hi]
  · simp [go_sem]
theorem Box.two {w : World} {g : Nat} {u v : Value} (h : Box w g [u, v]) : Box2 w g u v := ⟨h.c 0 _ rfl, h.c 1 _ rfl, h.f 0 _ rfl, h.f 1 _ rfl⟩
end Go.MagM
/- Boxes of any number of cells, written whole; what stays where a box is written. Over any program. -/
namespace Go.MagM
open Go.RowKit
/-- Cells i, i + 1, .. of block g are written. -/
def setAll (w : World) (g : Nat) : Nat → List Value → World
  | _, [] => w
  | i, x :: xs => setAll (w.setCell ⟨g, i, none⟩ x) g (i + 1) xs
theorem new_box (w : World) (n : Nat) (hn : w.heap.size = n) (vs : List Value) (T : TypeId) :
    ∃ w1, w.alloc (.cells vs.toArray T) = w1 ∧ Box w1 n vs ∧ Below n w w1 ∧ w1.heap.size = n + 1 := by
  subst hn
  exact ⟨_, rfl, box_new w vs T, (Below.refl _ _).alloc (Nat.le_refl _) _, by simp⟩
theorem Box.c0 {w : World} {g : Nat} {u : Value} {l : List Value} (h : Box w g (u :: l)) : w.cell? ⟨g, 0, none⟩ = some u := h.c 0 _ rfl
theorem Box.c1 {w : World} {g : Nat} {u0 u : Value} {l : List Value} (h : Box w g (u0 :: u :: l)) : w.cell? ⟨g, 1, none⟩ = some u := h.c 1 _ rfl
theorem Box.c2 {w : World} {g : Nat} {u0 u1 u : Value} {l : List Value} (h : Box w g (u0 :: u1 :: u :: l)) : w.cell? ⟨g, 2, none⟩ = some u := h.c 2 _ rfl
theorem Box.c3 {w : World} {g : Nat} {u0 u1 u2 u : Value} {l : List Value} (h : Box w g (u0 :: u1 :: u2 :: u :: l)) : w.cell? ⟨g, 3, none⟩ = some u := h.c 3 _ rfl
theorem Box.c4 {w : World} {g : Nat} {u0 u1 u2 u3 u : Value} {l : List Value} (h : Box w g (u0 :: u1 :: u2 :: u3 :: u :: l)) : w.cell? ⟨g, 4, none⟩ = some u := h.c 4 _ rfl
theorem Box.c5 {w : World} {g : Nat} {u0 u1 u2 u3 u4 u : Value} {l : List Value} (h : Box w g (u0 :: u1 :: u2 :: u3 :: u4 :: u :: l)) : w.cell? ⟨g, 5, none⟩ = some u := h.c 5 _ rfl
theorem Box.open1 {w : World} {g : Nat} {u0 : Value} (h : Box w g [u0]) : w.cell? ⟨g, 0, none⟩ = some u0 ∧ w.frozen? ⟨g, 0, none⟩ = false := ⟨h.c 0 _ rfl, h.f 0 _ rfl⟩
theorem Box.open2 {w : World} {g : Nat} {u0 u1 : Value} (h : Box w g [u0, u1]) : w.cell? ⟨g, 0, none⟩ = some u0 ∧ w.cell? ⟨g, 1, none⟩ = some u1 ∧ w.frozen? ⟨g, 0, none⟩ = false ∧ w.frozen? ⟨g, 1, none⟩ = false := ⟨h.c 0 _ rfl, h.c 1 _ rfl, h.f 0 _ rfl, h.f 1 _ rfl⟩
theorem Box.open3 {w : World} {g : Nat} {u0 u1 u2 : Value} (h : Box w g [u0, u1, u2]) : w.cell? ⟨g, 0, none⟩ = some u0 ∧ w.cell? ⟨g, 1, none⟩ = some u1 ∧ w.cell? ⟨g, 2, none⟩ = some u2 ∧ w.frozen? ⟨g, 0, none⟩ = false ∧ w.frozen? ⟨g, 1, none⟩ = false ∧ w.frozen? ⟨g, 2, none⟩ = false :=
  ⟨h.c 0 _ rfl, h.c 1 _ rfl, h.c 2 _ rfl, h.f 0 _ rfl, h.f 1 _ rfl, h.f 2 _ rfl⟩
/-- What a store of two cells wants behind its first one. -/
theorem Box.put2 {w : World} {g : Nat} {u0 u1 : Value} (h : Box w g [u0, u1]) (x0 : Value) : (w.setCell ⟨g, 0, none⟩ x0).cell? ⟨g, 1, none⟩ = some u1 ∧ (w.setCell ⟨g, 0, none⟩ x0).frozen? ⟨g, 1, none⟩ = false :=
  ⟨(h.set 0 x0).c 1 _ rfl, (h.set 0 x0).f 1 _ rfl⟩
theorem Box.put3 {w : World} {g : Nat} {u0 u1 u2 : Value} (h : Box w g [u0, u1, u2]) (x0 x1 : Value) : (w.setCell ⟨g, 0, none⟩ x0).cell? ⟨g, 1, none⟩ = some u1 ∧ (w.setCell ⟨g, 0, none⟩ x0).frozen? ⟨g, 1, none⟩ = false ∧
    ((w.setCell ⟨g, 0, none⟩ x0).setCell ⟨g, 1, none⟩ x1).cell? ⟨g, 2, none⟩ = some u2 ∧ ((w.setCell ⟨g, 0, none⟩ x0).setCell ⟨g, 1, none⟩ x1).frozen? ⟨g, 2, none⟩ = false :=
  ⟨(h.set 0 x0).c 1 _ rfl, (h.set 0 x0).f 1 _ rfl, ((h.set 0 x0).set 1 x1).c 2 _ rfl, ((h.set 0 x0).set 1 x1).f 2 _ rfl⟩
theorem Box.setTail {g : Nat} : ∀ (xs : List Value) (pre vs : List Value) (w : World), vs.length = xs.length → Box w g (pre ++ vs) → Box (setAll w g pre.length xs) g (pre ++ xs)
  | [], pre, vs, w, hl, h => by
    have : vs = [] := List.length_eq_zero_iff.1 hl
    subst this; exact h
  | x :: xs, pre, [], w, hl, h => by simp at hl
  | x :: xs, pre, v :: vs, w, hl, h => by
    have e : (pre ++ v :: vs).set pre.length x = (pre ++ [x]) ++ vs := by simp
    have h1 := h.set pre.length x
    rw [e] at h1
    have := Box.setTail xs (pre ++ [x]) vs _ (by simpa using hl) h1
    simpa [setAll] using this
/-- A box is written whole. -/
theorem Box.setAll {w : World} {g : Nat} {vs : List Value} (h : Box w g vs) (xs : List Value) (hl : vs.length = xs.length) : Box (setAll w g 0 xs) g xs := Box.setTail xs [] vs w hl h
theorem Box.farFrom {g g' : Nat} (hne : g ≠ g') : ∀ (xs : List Value) (i : Nat) {w : World} {vs : List Value}, Box w g vs → Box (Go.MagM.setAll w g' i xs) g vs
  | [], _, _, _, h => h
  | x :: xs, i, _, _, h => Box.farFrom hne xs (i + 1) (h.far hne i x)
theorem Box.farAll {w : World} {g : Nat} {vs : List Value} (h : Box w g vs) {g' : Nat} (hne : g ≠ g') (xs : List Value) : Box (Go.MagM.setAll w g' 0 xs) g vs := Box.farFrom hne xs 0 h
theorem below_setFrom {M g : Nat} (hg : M ≤ g) {w : World} : ∀ (xs : List Value) (i : Nat) {w' : World}, Below M w w' → Below M w (setAll w' g i xs)
  | [], _, _, h => h
  | x :: xs, i, _, h => below_setFrom hg xs (i + 1) (h.setCell (p := ⟨g, i, none⟩) hg x)
theorem below_setAll {M : Nat} {w w' : World} (h : Below M w w') {g : Nat} (hg : M ≤ g) (xs : List Value) : Below M w (setAll w' g 0 xs) := below_setFrom hg xs 0 h
/-- No word. -/
def NoWord (u : Value) : Prop := ∀ x, u ≠ .int .u64 x
theorem NoWord.bool (b : Bool) : NoWord (.bool b) := fun _ h => by cases h
theorem NoWord.slice (a : Option Addr) (n c : Nat) : NoWord (.slice a n c) := fun _ h => by cases h
theorem NoWord.int (x : Int) : NoWord (.int .i64 x) := fun _ h => by cases h
theorem Reads.setOne {w : World} {ao : Option Addr} {n : Nat} {f : Nat → Nat} (hr : Reads w ao n f) {a : Addr} {u : Value} (hc : w.cell? a = some u) (hu : NoWord u) (v : Value) : Reads (w.setCell a v) ao n f := by
  intro i hi
  obtain ⟨b, o, e, h1, h2⟩ := hr i hi
  refine ⟨b, o, e, ?_, h2⟩
  have ne : a ≠ ⟨b, o + i, none⟩ := by
    intro h; rw [h, h1] at hc
    exact hu _ (Option.some.inj hc).symm
  rw [World.cell?_setCell_other _ _ _ _ (by first | exact ne | exact ne.symm)]; exact h1
/-- Words stay where a box that holds none is written whole. -/
theorem Reads.setTail {ao : Option Addr} {n g : Nat} {f : Nat → Nat} : ∀ (xs : List Value) (pre vs : List Value) {w : World}, vs.length = xs.length → (∀ u ∈ vs, NoWord u) → Box w g (pre ++ vs) → Reads w ao n f → Reads (Go.MagM.setAll w g pre.length xs) ao n f
  | [], _, _, _, _, _, _, h => h
  | x :: xs, pre, [], _, hl, _, _, _ => by simp at hl
  | x :: xs, pre, v :: vs, w, hl, hv, hb, h => by
    have e : (pre ++ v :: vs).set pre.length x = (pre ++ [x]) ++ vs := by simp
    have h1 := hb.set pre.length x
    rw [e] at h1
    have hc : w.cell? ⟨g, pre.length, none⟩ = some v := hb.c pre.length _ (by simp)
    have := Reads.setTail xs (pre ++ [x]) vs (by simpa using hl) (fun u hu => hv u (by simp [hu])) h1 (h.setOne hc (hv v (by simp)) x)
    simpa [Go.MagM.setAll] using this
theorem Reads.setAll {w : World} {ao : Option Addr} {n g : Nat} {f : Nat → Nat} (h : Reads w ao n f) {vs : List Value} (hb : Box w g vs) (hv : ∀ u ∈ vs, NoWord u) (xs : List Value) (hl : vs.length = xs.length) : Reads (Go.MagM.setAll w g 0 xs) ao n f :=
  Reads.setTail xs [] vs hl hv hb h
theorem Mag.setAll {w : World} {v : Value} {L N g : Nat} (h : Mag w v L N) {vs : List Value} (hb : Box w g vs) (hv : ∀ u ∈ vs, NoWord u) (xs : List Value) (hl : vs.length = xs.length) : Mag (Go.MagM.setAll w g 0 xs) v L N := by
  obtain ⟨ao, n, c, f, h1, h2, h3, h4, h5⟩ := h; exact ⟨ao, n, c, f, h1, h2, h3, h4.setAll hb hv xs hl, h5⟩
theorem RMag.setAll {w : World} {v : Value} {L N g : Nat} (h : RMag w v L N) {vs : List Value} (hb : Box w g vs) (hv : ∀ u ∈ vs, NoWord u) (xs : List Value) (hl : vs.length = xs.length) : RMag (Go.MagM.setAll w g 0 xs) v L N := by
  obtain ⟨ao, n, c, f, h1, h2, h3, h4, h5⟩ := h; exact ⟨ao, n, c, f, h1, h2, h3, h4.setAll hb hv xs hl, h5⟩
theorem Num.setAll {w : World} {v : Value} {L g : Nat} {N : Int} (h : Num w v L N) {vs : List Value} (hb : Box w g vs) (hv : ∀ u ∈ vs, NoWord u) (xs : List Value) (hl : vs.length = xs.length) : Num (Go.MagM.setAll w g 0 xs) v L N := by
  obtain ⟨m, vm, M, h1, h2, h3⟩ := h; exact ⟨m, vm, M, h1, h2.setAll hb hv xs hl, h3⟩
theorem RNum.setAll {w : World} {v : Value} {L g : Nat} {N : Int} (h : RNum w v L N) {vs : List Value} (hb : Box w g vs) (hv : ∀ u ∈ vs, NoWord u) (xs : List Value) (hl : vs.length = xs.length) : RNum (Go.MagM.setAll w g 0 xs) v L N := by
  obtain ⟨m, vm, M, h1, h2, h3⟩ := h; exact ⟨m, vm, M, h1, h2.setAll hb hv xs hl, h3⟩
theorem Mag.setOne {w : World} {v : Value} {L N : Nat} (h : Mag w v L N) {a : Addr} {u : Value} (hc : w.cell? a = some u) (hu : NoWord u) (x : Value) : Mag (w.setCell a x) v L N := by
  obtain ⟨ao, n, c, f, h1, h2, h3, h4, h5⟩ := h; exact ⟨ao, n, c, f, h1, h2, h3, h4.setOne hc hu x, h5⟩
theorem RMag.setOne {w : World} {v : Value} {L N : Nat} (h : RMag w v L N) {a : Addr} {u : Value} (hc : w.cell? a = some u) (hu : NoWord u) (x : Value) : RMag (w.setCell a x) v L N := by
  obtain ⟨ao, n, c, f, h1, h2, h3, h4, h5⟩ := h; exact ⟨ao, n, c, f, h1, h2, h3, h4.setOne hc hu x, h5⟩
theorem Num.setOne {w : World} {v : Value} {L : Nat} {N : Int} (h : Num w v L N) {a : Addr} {u : Value} (hc : w.cell? a = some u) (hu : NoWord u) (x : Value) : Num (w.setCell a x) v L N := by
  obtain ⟨m, vm, M, h1, h2, h3⟩ := h; exact ⟨m, vm, M, h1, h2.setOne hc hu x, h3⟩
theorem RNum.setOne {w : World} {v : Value} {L : Nat} {N : Int} (h : RNum w v L N) {a : Addr} {u : Value} (hc : w.cell? a = some u) (hu : NoWord u) (x : Value) : RNum (w.setCell a x) v L N := by
  obtain ⟨m, vm, M, h1, h2, h3⟩ := h; exact ⟨m, vm, M, h1, h2.setOne hc hu x, h3⟩
theorem Mag.num {w : World} {v : Value} {L N : Nat} (h : Mag w v L N) : Num w (.agg #[.bool false, v]) L (N : Int) := ⟨false, v, N, rfl, h, rfl⟩
/-- A cell holds a word. -/
structure WCell (w : World) (b o x : Nat) : Prop where
  c : w.cell? ⟨b, o, none⟩ = some (.int .u64 ((x : Nat) : Int))
theorem WCell.below {w w' : World} {b o x : Nat} (h : WCell w b o x) (hb : Below w.heap.size w w') : WCell w' b o x :=
  ⟨(hb.cell (p := ⟨b, o, none⟩) (World.block_lt_of_cell? w _ h.c)).trans h.c⟩
theorem WCell.drew {w : World} {b o x : Nat} (h : WCell w b o x) : WCell w.drew b o x := ⟨h.c⟩
theorem WCell.setOne {w : World} {b o x : Nat} (h : WCell w b o x) {a : Addr} {u : Value} (hc : w.cell? a = some u) (hu : NoWord u) (v : Value) : WCell (w.setCell a v) b o x := by
  refine ⟨?_⟩
  have ne : a ≠ ⟨b, o, none⟩ := by
    intro e; rw [e, h.c] at hc
    exact hu _ (Option.some.inj hc).symm
  rw [World.cell?_setCell_other _ _ _ _ (by first | exact ne | exact ne.symm)]; exact h.c
theorem WCell.setTail {g b o y : Nat} : ∀ (xs : List Value) (pre vs : List Value) {w : World}, vs.length = xs.length → (∀ u ∈ vs, NoWord u) → Box w g (pre ++ vs) → WCell w b o y → WCell (Go.MagM.setAll w g pre.length xs) b o y
  | [], _, _, _, _, _, _, h => h
  | x :: xs, pre, [], _, hl, _, _, _ => by simp at hl
  | x :: xs, pre, v :: vs, w, hl, hv, hb, h => by
    have e : (pre ++ v :: vs).set pre.length x = (pre ++ [x]) ++ vs := by simp
    have h1 := hb.set pre.length x
    rw [e] at h1
    have hc : w.cell? ⟨g, pre.length, none⟩ = some v := hb.c pre.length _ (by simp)
    have := WCell.setTail xs (pre ++ [x]) vs (by simpa using hl) (fun u hu => hv u (by simp [hu])) h1 (h.setOne hc (hv v (by simp)) x)
    simpa [Go.MagM.setAll] using this
theorem WCell.setAll {w : World} {b o x g : Nat} (h : WCell w b o x) {vs : List Value} (hb : Box w g vs) (hv : ∀ u ∈ vs, NoWord u) (xs : List Value) (hl : vs.length = xs.length) : WCell (Go.MagM.setAll w g 0 xs) b o x :=
  WCell.setTail xs [] vs hl hv hb h
/-- The word on top of a number that isn't 0. -/
theorem RMag.top {w : World} {ao : Option Addr} {n c L N : Nat} (h : RMag w (.slice ao n c) L N) (h0 : N ≠ 0) : ∃ b o k x, ao = some ⟨b, o, none⟩ ∧ n = k + 1 ∧ k + 1 ≤ L ∧ x ≠ 0 ∧ WCell w b (o + k) x := by
  obtain ⟨ao', n', c', f, e, _, h3, h4, h5, h6⟩ := h
  simp at e
  obtain ⟨rfl, rfl, rfl⟩ := e
  cases n with
  | zero => exact absurd h5.symm h0
  | succ k =>
    obtain ⟨b, o, h7, h8, h9⟩ := h4 k (by omega)
    exact ⟨b, o, k, f k, h7, rfl, h3, h6 k rfl, ⟨h8⟩⟩
/-- A number of one word. -/
theorem RMag.lone {w : World} {ao : Option Addr} {n c L N : Nat} (h : RMag w (.slice ao n c) L N) (h0 : N ≠ 0) (hB : N < B) : ∃ b o, ao = some ⟨b, o, none⟩ ∧ n = 1 ∧ WCell w b o N := by
  obtain ⟨ao', n', c', f, e, _, h3, h4, h5, h6⟩ := h
  simp at e
  obtain ⟨rfl, rfl, rfl⟩ := e
  cases n with
  | zero => exact absurd h5.symm h0
  | succ k =>
    have h11 := len_le_of_lt (L := 1) h6 (by rw [h5]; simpa using hB)
    obtain rfl : k = 0 := by omega
    obtain ⟨b, o, h7, h8, h9⟩ := h4 0 (by omega)
    refine ⟨b, o, h7, rfl, ⟨?_⟩⟩
    rw [V_succ, V_zero] at h5
    have : f 0 = N := by simpa using h5
    rw [← this]
    exact h8
theorem noWord2 (b : Bool) (ao : Option Addr) (n c : Nat) : ∀ u ∈ [.bool b, .slice ao n c], NoWord u := by
  intro u hu; simp at hu; rcases hu with rfl | rfl
  · exact NoWord.bool _
  · exact NoWord.slice _ _ _
theorem noWord3 (b : Bool) (ao : Option Addr) (n c : Nat) (bo : Option Addr) (k d : Nat) : ∀ u ∈ [.bool b, .slice ao n c, .slice bo k d], NoWord u := by
  intro u hu; simp at hu; rcases hu with rfl | rfl | rfl
  · exact NoWord.bool _
  · exact NoWord.slice _ _ _
  · exact NoWord.slice _ _ _
theorem Box.two_of {w : World} {g : Nat} {u v : Value} (h : Box2 w g u v) : Box w g [u, v] := by
  refine ⟨fun i x hi => ?_, fun i x hi => ?_⟩
  · match i, hi with
    | 0, hi => simp at hi; subst hi; exact h.c0
    | 1, hi => simp at hi; subst hi; exact h.c1
  · match i, hi with
    | 0, hi => exact h.f0
    | 1, hi => exact h.f1
/-- WHAT A FRAC IS: a number with a sign, and what it is divided by. -/
def FD (w : World) (v : Value) (L : Nat) (X : Int) (D : Nat) : Prop := ∃ m ao n c bo k d, v = .agg #[.bool m, .slice ao n c, .slice bo k d] ∧ Num w (.agg #[.bool m, .slice ao n c]) L X ∧ Mag w (.slice bo k d) L D
/-- The same, and it is right: a rational number. -/
def RF (w : World) (v : Value) (L : Nat) (q : Rat) : Prop := ∃ m ao n c bo k d, v = .agg #[.bool m, .slice ao n c, .slice bo k d] ∧ RNum w (.agg #[.bool m, .slice ao n c]) L q.num ∧ RMag w (.slice bo k d) L q.den
theorem FD.below {w w' : World} {v : Value} {L : Nat} {X : Int} {D : Nat} (h : FD w v L X D) (hb : Below w.heap.size w w') : FD w' v L X D := by
  obtain ⟨m, ao, n, c, bo, k, d, h1, h2, h3⟩ := h; exact ⟨m, ao, n, c, bo, k, d, h1, h2.below hb, h3.below hb⟩
theorem RF.below {w w' : World} {v : Value} {L : Nat} {q : Rat} (h : RF w v L q) (hb : Below w.heap.size w w') : RF w' v L q := by
  obtain ⟨m, ao, n, c, bo, k, d, h1, h2, h3⟩ := h; exact ⟨m, ao, n, c, bo, k, d, h1, h2.below hb, h3.below hb⟩
theorem FD.drew {w : World} {v : Value} {L : Nat} {X : Int} {D : Nat} (h : FD w v L X D) : FD w.drew v L X D := h
theorem RF.drew {w : World} {v : Value} {L : Nat} {q : Rat} (h : RF w v L q) : RF w.drew v L q := h
theorem FD.setOne {w : World} {v : Value} {L : Nat} {X : Int} {D : Nat} (h : FD w v L X D) {a : Addr} {u : Value} (hc : w.cell? a = some u) (hu : NoWord u) (x : Value) : FD (w.setCell a x) v L X D := by
  obtain ⟨m, ao, n, c, bo, k, d, h1, h2, h3⟩ := h; exact ⟨m, ao, n, c, bo, k, d, h1, h2.setOne hc hu x, h3.setOne hc hu x⟩
theorem RF.setOne {w : World} {v : Value} {L : Nat} {q : Rat} (h : RF w v L q) {a : Addr} {u : Value} (hc : w.cell? a = some u) (hu : NoWord u) (x : Value) : RF (w.setCell a x) v L q := by
  obtain ⟨m, ao, n, c, bo, k, d, h1, h2, h3⟩ := h; exact ⟨m, ao, n, c, bo, k, d, h1, h2.setOne hc hu x, h3.setOne hc hu x⟩
theorem FD.setAll {w : World} {v : Value} {L g : Nat} {X : Int} {D : Nat} (h : FD w v L X D) {vs : List Value} (hb : Box w g vs) (hv : ∀ u ∈ vs, NoWord u) (xs : List Value) (hl : vs.length = xs.length) : FD (Go.MagM.setAll w g 0 xs) v L X D := by
  obtain ⟨m, ao, n, c, bo, k, d, h1, h2, h3⟩ := h; exact ⟨m, ao, n, c, bo, k, d, h1, h2.setAll hb hv xs hl, h3.setAll hb hv xs hl⟩
theorem RF.setAll {w : World} {v : Value} {L g : Nat} {q : Rat} (h : RF w v L q) {vs : List Value} (hb : Box w g vs) (hv : ∀ u ∈ vs, NoWord u) (xs : List Value) (hl : vs.length = xs.length) : RF (Go.MagM.setAll w g 0 xs) v L q := by
  obtain ⟨m, ao, n, c, bo, k, d, h1, h2, h3⟩ := h; exact ⟨m, ao, n, c, bo, k, d, h1, h2.setAll hb hv xs hl, h3.setAll hb hv xs hl⟩
theorem FD.more {w : World} {v : Value} {L L' : Nat} {X : Int} {D : Nat} (h : FD w v L X D) (hL : L ≤ L') : FD w v L' X D := by
  obtain ⟨m, ao, n, c, bo, k, d, h1, h2, h3⟩ := h; exact ⟨m, ao, n, c, bo, k, d, h1, h2.more hL, h3.more hL⟩
theorem RF.more {w : World} {v : Value} {L L' : Nat} {q : Rat} (h : RF w v L q) (hL : L ≤ L') : RF w v L' q := by
  obtain ⟨m, ao, n, c, bo, k, d, h1, h2, h3⟩ := h; exact ⟨m, ao, n, c, bo, k, d, h1, h2.more hL, h3.more hL⟩
theorem RF.fd {w : World} {v : Value} {L : Nat} {q : Rat} (h : RF w v L q) : FD w v L q.num q.den := by
  obtain ⟨m, ao, n, c, bo, k, d, h1, h2, h3⟩ := h; exact ⟨m, ao, n, c, bo, k, d, h1, h2.num, h3.mag⟩
theorem RF.of {w : World} {v : Value} {L : Nat} {p q : Rat} (h : RF w v L p) (e : p = q) : RF w v L q := e ▸ h
/-- What a number is divided by: 1, if that is 0. -/
def den1 (D : Nat) : Nat := if D = 0 then 1 else D
theorem den1_pos (D : Nat) : 0 < den1 D := by unfold den1; split <;> omega
theorem den1_ne (D : Nat) : den1 D ≠ 0 := Nat.ne_of_gt (den1_pos D)
theorem den1_of {D : Nat} (h : D ≠ 0) : den1 D = D := if_neg h
/-- The number that a Frac counts. -/
def qv (X : Int) (D : Nat) : Rat := mkRat X (den1 D)
theorem qv_self (q : Rat) : qv q.num q.den = q := by unfold qv; rw [den1_of q.den_nz]; exact Rat.mkRat_self q
/-- What is read as a Frac counts q, right or not. -/
def FQ (w : World) (v : Value) (L : Nat) (q : Rat) : Prop := ∃ X D, FD w v L X D ∧ qv X D = q
theorem FD.q {w : World} {v : Value} {L : Nat} {X : Int} {D : Nat} (h : FD w v L X D) : FQ w v L (qv X D) := ⟨X, D, h, rfl⟩
theorem RF.q {w : World} {v : Value} {L : Nat} {q : Rat} (h : RF w v L q) : FQ w v L q := ⟨_, _, h.fd, qv_self q⟩
theorem FQ.below {w w' : World} {v : Value} {L : Nat} {q : Rat} (h : FQ w v L q) (hb : Below w.heap.size w w') : FQ w' v L q := by
  obtain ⟨X, D, h1, h2⟩ := h; exact ⟨X, D, h1.below hb, h2⟩
theorem FQ.drew {w : World} {v : Value} {L : Nat} {q : Rat} (h : FQ w v L q) : FQ w.drew v L q := h
theorem FQ.more {w : World} {v : Value} {L L' : Nat} {q : Rat} (h : FQ w v L q) (hL : L ≤ L') : FQ w v L' q := by
  obtain ⟨X, D, h1, h2⟩ := h; exact ⟨X, D, h1.more hL, h2⟩
theorem FQ.setOne {w : World} {v : Value} {L : Nat} {q : Rat} (h : FQ w v L q) {a : Addr} {u : Value} (hc : w.cell? a = some u) (hu : NoWord u) (x : Value) : FQ (w.setCell a x) v L q := by
  obtain ⟨X, D, h1, h2⟩ := h; exact ⟨X, D, h1.setOne hc hu x, h2⟩
theorem FQ.setAll {w : World} {v : Value} {L g : Nat} {q : Rat} (h : FQ w v L q) {vs : List Value} (hb : Box w g vs) (hv : ∀ u ∈ vs, NoWord u) (xs : List Value) (hl : vs.length = xs.length) : FQ (Go.MagM.setAll w g 0 xs) v L q := by
  obtain ⟨X, D, h1, h2⟩ := h; exact ⟨X, D, h1.setAll hb hv xs hl, h2⟩
/-- A call's answer is a right Frac of at most L words, q. -/
def AnsF (w w' : World) (e : Ending) (L : Nat) (q : Rat) : Prop := ∃ m ao n c bo k d, e = .returned (.agg #[.bool m, .slice ao n c, .slice bo k d]) ∧ RF w' (.agg #[.bool m, .slice ao n c, .slice bo k d]) L q ∧ Below w.heap.size w w'
theorem AnsF.of {w w' : World} {e : Ending} {L L' : Nat} {p q : Rat} (h : AnsF w w' e L p) (hL : L ≤ L') (he : p = q) : AnsF w w' e L' q := by
  subst he; obtain ⟨m, ao, n, c, bo, k, d, h1, h2, h3⟩ := h; exact ⟨m, ao, n, c, bo, k, d, h1, h2.more hL, h3⟩
theorem FD.num {w : World} {m : Bool} {ao : Option Addr} {n c : Nat} {bo : Option Addr} {k d L D : Nat} {X : Int} (h : FD w (.agg #[.bool m, .slice ao n c, .slice bo k d]) L X D) : Num w (.agg #[.bool m, .slice ao n c]) L X := by
  obtain ⟨_, _, _, _, _, _, _, e, h1, h2⟩ := h
  simp at e
  obtain ⟨rfl, ⟨rfl, rfl, rfl⟩, rfl, rfl, rfl⟩ := e
  exact h1
theorem FD.mag {w : World} {m : Bool} {ao : Option Addr} {n c : Nat} {bo : Option Addr} {k d L D : Nat} {X : Int} (h : FD w (.agg #[.bool m, .slice ao n c, .slice bo k d]) L X D) : Mag w (.slice bo k d) L D := by
  obtain ⟨_, _, _, _, _, _, _, e, h1, h2⟩ := h
  simp at e
  obtain ⟨rfl, ⟨rfl, rfl, rfl⟩, rfl, rfl, rfl⟩ := e
  exact h2
theorem Num.part {w : World} {m : Bool} {vm : Value} {L : Nat} {X : Int} (h : Num w (.agg #[.bool m, vm]) L X) : ∃ N, Mag w vm L N ∧ X = sgn m N := by
  obtain ⟨m', vm', N, e, h1, h2⟩ := h
  simp at e
  obtain ⟨rfl, rfl⟩ := e
  exact ⟨N, h1, h2⟩
theorem RNum.part {w : World} {m : Bool} {vm : Value} {L : Nat} {X : Int} (h : RNum w (.agg #[.bool m, vm]) L X) : ∃ N, RMag w vm L N ∧ X = sgn m N ∧ (m = true → N ≠ 0) := by
  obtain ⟨m', vm', N, e, h1, h2⟩ := h
  simp at e
  obtain ⟨rfl, rfl⟩ := e
  exact ⟨N, h1, h2⟩
theorem FD.neg {w : World} {m : Bool} {ao : Option Addr} {n c : Nat} {bo : Option Addr} {k d L D : Nat} {X : Int} (h : FD w (.agg #[.bool m, .slice ao n c, .slice bo k d]) L X D) : FD w (.agg #[.bool (!m), .slice ao n c, .slice bo k d]) L (-X) D := by
  obtain ⟨N, h1, rfl⟩ := h.num.part
  exact ⟨_, _, _, _, _, _, _, rfl, ⟨!m, _, N, rfl, h1, (sgn_neg m N).symm⟩, h.mag⟩
theorem FD.make {w : World} (m : Bool) {ao : Option Addr} {n c : Nat} {bo : Option Addr} {k d L N D : Nat} (h : Mag w (.slice ao n c) (max L 1) N) (h2 : Mag w (.slice bo k d) L D) : FD w (.agg #[.bool m, .slice ao n c, .slice bo k d]) (max L 1) (sgn m N) D :=
  ⟨_, _, _, _, _, _, _, rfl, ⟨m, _, N, rfl, h, rfl⟩, h2.more (by omega)⟩
/-- A call's answer is a slice of words that count N. -/
def AnsMag (w w' : World) (e : Ending) (L N : Nat) : Prop := ∃ ao n c, e = .returned (.slice ao n c) ∧ Mag w' (.slice ao n c) L N ∧ Below w.heap.size w w'
/-- The same, and it is right. -/
def AnsRMag (w w' : World) (e : Ending) (L N : Nat) : Prop := ∃ ao n c, e = .returned (.slice ao n c) ∧ RMag w' (.slice ao n c) L N ∧ Below w.heap.size w w'
theorem AnsRMag.of {w w' : World} {e : Ending} {L N : Nat} (h : ∃ v, e = .returned v ∧ RMag w' v L N ∧ Below w.heap.size w w') : AnsRMag w w' e L N := by
  obtain ⟨v, rfl, h1, h2⟩ := h
  obtain ⟨ao, n, c, rfl⟩ := h1.slice
  exact ⟨ao, n, c, rfl, h1, h2⟩
end Go.MagM
/- Whole numbers of 128 bits: the two words of an integer, and what sums, differences, products of words are. Over any program. -/
namespace Go.MagM
open Go.RowKit
/-- The high word of a whole number, modulo 2 to 128. -/
def wh (z : Int) : Nat := (z / 18446744073709551616 % 18446744073709551616).toNat
/-- The low word. -/
def wl (z : Int) : Nat := (z % 18446744073709551616).toNat
/-- A number of 128 bits. -/
def InW (z : Int) : Prop := -170141183460469231731687303715884105728 ≤ z ∧ z < 170141183460469231731687303715884105728
instance (z : Int) : Decidable (InW z) := by unfold InW; exact inferInstance
/-- What a number of 128 bits is, as a value. -/
def WV (z : Int) : Value := .agg #[.int .u64 ((wh z : Nat) : Int), .int .u64 ((wl z : Nat) : Int)]
theorem wh_lt (z : Int) : wh z < B := by unfold wh B; omega
theorem wl_lt (z : Int) : wl z < B := by unfold wl B; omega
theorem w_mod (z : Int) : ((wh z : Nat) : Int) * 18446744073709551616 + ((wl z : Nat) : Int) = z % 340282366920938463463374607431768211456 := by unfold wh wl; omega
/-- The words of a number are those that make it up, modulo 2 to 128. -/
theorem w_of {z : Int} {h l : Nat} (hh : h < B) (hl : l < B) (k : Int) (e : (h : Int) * 18446744073709551616 + (l : Int) = z + k * 340282366920938463463374607431768211456) : h = wh z ∧ l = wl z := by
  have := w_mod z; have h1 := wh_lt z; have h2 := wl_lt z
  unfold B at *
  omega
theorem w_eq {x y : Int} (hx : InW x) (hy : InW y) (h1 : wh x = wh y) (h2 : wl x = wl y) : x = y := by
  have a := w_mod x; have b := w_mod y; rw [h1, h2] at a; unfold InW at *; omega
theorem w_beq {x y : Int} (hx : InW x) (hy : InW y) : (((wh x : Nat) : Int) == ((wh y : Nat) : Int) && ((wl x : Nat) : Int) == ((wl y : Nat) : Int)) = decide (x = y) := by
  by_cases h : x = y
  · subst h; simp
  · simp only [h, decide_false, Bool.and_eq_false_iff, beq_eq_false_iff_ne]
    by_cases h1 : wh x = wh y
    · right; intro h2; exact h (w_eq hx hy h1 (by omega))
    · left; omega
theorem wh_zero : wh 0 = 0 := by decide
theorem wl_zero : wl 0 = 0 := by decide
theorem wh_least : wh (-170141183460469231731687303715884105728) = 9223372036854775808 := by decide
theorem wl_least : wl (-170141183460469231731687303715884105728) = 0 := by decide
/-- Any two words are those of a number of 128 bits. -/
theorem w_some (h l : Nat) (hh : h < B) (hl : l < B) : ∃ z, InW z ∧ wh z = h ∧ wl z = l := by
  have c : h < 9223372036854775808 ∨ 9223372036854775808 ≤ h := by omega
  unfold B at *
  rcases c with c | c
  · obtain ⟨a, b⟩ := w_of (z := (h : Int) * 18446744073709551616 + (l : Int)) hh hl 0 (by omega)
    exact ⟨_, by unfold InW; omega, a.symm, b.symm⟩
  · obtain ⟨a, b⟩ := w_of (z := (h : Int) * 18446744073709551616 + (l : Int) - 340282366920938463463374607431768211456) hh hl 1 (by omega)
    exact ⟨_, by unfold InW; omega, a.symm, b.symm⟩
/-- Sums, word by word. -/
theorem w_add (x y : Int) : (wh x + wh y + (wl x + wl y + 0) / B) % B = wh (x + y) ∧ (wl x + wl y + 0) % B = wl (x + y) := by
  have a := w_mod x; have b := w_mod y; have h1 := wh_lt x; have h2 := wl_lt x; have h3 := wh_lt y; have h4 := wl_lt y
  simp only [B_eq] at *
  refine w_of (by rw [B_eq]; omega) (by rw [B_eq]; omega) (-(((wh x + wh y + (wl x + wl y + 0) / 18446744073709551616) / 18446744073709551616 : Nat) : Int) - x / 340282366920938463463374607431768211456 - y / 340282366920938463463374607431768211456) ?_
  omega
/-- Differences, word by word. -/
theorem w_sub (x y : Int) : (wh x + B - wh y - (if wl x < wl y + 0 then 1 else 0)) % B = wh (x - y) ∧ (wl x + B - wl y - 0) % B = wl (x - y) := by
  have a := w_mod x; have b := w_mod y; have h1 := wh_lt x; have h2 := wl_lt x; have h3 := wh_lt y; have h4 := wl_lt y
  simp only [B_eq] at *
  generalize wh x = h at *; generalize wl x = l at *; generalize wh y = h' at *; generalize wl y = l' at *
  by_cases c : l < l' + 0
  · rw [if_pos c]
    by_cases d : h < h' + 1
    · exact w_of (by rw [B_eq]; omega) (by rw [B_eq]; omega) (1 - x / 340282366920938463463374607431768211456 + y / 340282366920938463463374607431768211456) (by omega)
    · exact w_of (by rw [B_eq]; omega) (by rw [B_eq]; omega) (- (x / 340282366920938463463374607431768211456) + y / 340282366920938463463374607431768211456) (by omega)
  · rw [if_neg c]
    by_cases d : h < h'
    · exact w_of (by rw [B_eq]; omega) (by rw [B_eq]; omega) (1 - x / 340282366920938463463374607431768211456 + y / 340282366920938463463374607431768211456) (by omega)
    · exact w_of (by rw [B_eq]; omega) (by rw [B_eq]; omega) (- (x / 340282366920938463463374607431768211456) + y / 340282366920938463463374607431768211456) (by omega)
theorem w_neg {z : Int} (h : InW z) : (9223372036854775808 ≤ wh z) ↔ z < 0 := by
  have := w_mod z; have h1 := wh_lt z; have h2 := wl_lt z; unfold InW B at *; omega
theorem w_pos {z : Int} (h : InW z) (h0 : 0 ≤ z) : (wh z : Int) * 18446744073709551616 + (wl z : Int) = z := by
  have := w_mod z; unfold InW at *; omega
theorem w_size {z : Int} (h : InW z) : ((wh (z.natAbs : Int) : Nat) : Int) * 18446744073709551616 + ((wl (z.natAbs : Int) : Nat) : Int) = (z.natAbs : Int) := by
  have := w_mod (z.natAbs : Int); unfold InW at *; omega
/-- The words of an int. -/
theorem w_int_neg {n : Int} (h : -9223372036854775808 ≤ n) (h0 : n < 0) : wh n = 18446744073709551615 ∧ ((wl n : Nat) : Int) = IntKind.u64.wrap n := by
  rw [IntKind.wrap_u64]; unfold wh wl; omega
theorem w_int_pos {n : Int} (h : n < 9223372036854775808) (h0 : 0 ≤ n) : wh n = 0 ∧ ((wl n : Nat) : Int) = IntKind.u64.wrap n := by
  rw [IntKind.wrap_u64]; unfold wh wl; omega
theorem w_abs_int {n : Int} (h : -9223372036854775808 ≤ n) (h1 : n < 9223372036854775808) : wl (n.natAbs : Int) = n.natAbs ∧ n.natAbs < B := by
  unfold wl B; omega
end Go.MagM
/- Points, and boxes of six and eight cells. Over any program. -/
namespace Go.MagM
open Go.RowKit
theorem Box.c6 {w : World} {g : Nat} {u0 u1 u2 u3 u4 u5 u : Value} {l : List Value} (h : Box w g (u0 :: u1 :: u2 :: u3 :: u4 :: u5 :: u :: l)) : w.cell? ⟨g, 6, none⟩ = some u := h.c 6 _ rfl
theorem Box.c7 {w : World} {g : Nat} {u0 u1 u2 u3 u4 u5 u6 u : Value} {l : List Value} (h : Box w g (u0 :: u1 :: u2 :: u3 :: u4 :: u5 :: u6 :: u :: l)) : w.cell? ⟨g, 7, none⟩ = some u := h.c 7 _ rfl
theorem Box.open6 {w : World} {g : Nat} {u0 u1 u2 u3 u4 u5 : Value} (h : Box w g [u0, u1, u2, u3, u4, u5]) : w.cell? ⟨g, 0, none⟩ = some u0 ∧ w.cell? ⟨g, 1, none⟩ = some u1 ∧ w.cell? ⟨g, 2, none⟩ = some u2 ∧ w.cell? ⟨g, 3, none⟩ = some u3 ∧ w.cell? ⟨g, 4, none⟩ = some u4 ∧ w.cell? ⟨g, 5, none⟩ = some u5 ∧ w.frozen? ⟨g, 0, none⟩ = false ∧ w.frozen? ⟨g, 1, none⟩ = false ∧ w.frozen? ⟨g, 2, none⟩ = false ∧ w.frozen? ⟨g, 3, none⟩ = false ∧ w.frozen? ⟨g, 4, none⟩ = false ∧ w.frozen? ⟨g, 5, none⟩ = false :=
  ⟨h.c 0 _ rfl, h.c 1 _ rfl, h.c 2 _ rfl, h.c 3 _ rfl, h.c 4 _ rfl, h.c 5 _ rfl, h.f 0 _ rfl, h.f 1 _ rfl, h.f 2 _ rfl, h.f 3 _ rfl, h.f 4 _ rfl, h.f 5 _ rfl⟩
theorem Box.open8 {w : World} {g : Nat} {u0 u1 u2 u3 u4 u5 u6 u7 : Value} (h : Box w g [u0, u1, u2, u3, u4, u5, u6, u7]) : w.cell? ⟨g, 0, none⟩ = some u0 ∧ w.cell? ⟨g, 1, none⟩ = some u1 ∧ w.cell? ⟨g, 2, none⟩ = some u2 ∧ w.cell? ⟨g, 3, none⟩ = some u3 ∧ w.cell? ⟨g, 4, none⟩ = some u4 ∧ w.cell? ⟨g, 5, none⟩ = some u5 ∧ w.cell? ⟨g, 6, none⟩ = some u6 ∧ w.cell? ⟨g, 7, none⟩ = some u7 ∧ w.frozen? ⟨g, 0, none⟩ = false ∧ w.frozen? ⟨g, 1, none⟩ = false ∧ w.frozen? ⟨g, 2, none⟩ = false ∧ w.frozen? ⟨g, 3, none⟩ = false ∧ w.frozen? ⟨g, 4, none⟩ = false ∧ w.frozen? ⟨g, 5, none⟩ = false ∧ w.frozen? ⟨g, 6, none⟩ = false ∧ w.frozen? ⟨g, 7, none⟩ = false :=
  ⟨h.c 0 _ rfl, h.c 1 _ rfl, h.c 2 _ rfl, h.c 3 _ rfl, h.c 4 _ rfl, h.c 5 _ rfl, h.c 6 _ rfl, h.c 7 _ rfl, h.f 0 _ rfl, h.f 1 _ rfl, h.f 2 _ rfl, h.f 3 _ rfl, h.f 4 _ rfl, h.f 5 _ rfl, h.f 6 _ rfl, h.f 7 _ rfl⟩
theorem RNum.shape {w : World} {v : Value} {L : Nat} {X : Int} (h : RNum w v L X) : ∃ m o n c, v = .agg #[.bool m, .slice o n c] := by
  obtain ⟨m, _, _, rfl, ⟨o, n, c, _, rfl, _⟩, _⟩ := h; exact ⟨m, o, n, c, rfl⟩
/-- A coordinate that may be. -/
def InP (x : Int) : Prop := -2147483648 ≤ x ∧ x ≤ 2147483648
theorem InP.wrap {x y : Int} (hx : InP x) (hy : InP y) : IntKind.i64.wrap (x - y) = x - y := by
  unfold InP at hx hy; rw [IntKind.wrap_i64]; omega
theorem InP.neg {x y : Int} (hx : InP x) (hy : InP y) : IntKind.i64.wrap (-(x - y)) = -(x - y) := by
  unfold InP at hx hy; rw [IntKind.wrap_i64]; omega
theorem InP.lo {x y : Int} (hx : InP x) (hy : InP y) : -9223372036854775808 ≤ x - y := by unfold InP at hx hy; omega
theorem InP.hi {x y : Int} (hx : InP x) (hy : InP y) : x - y < 9223372036854775808 := by unfold InP at hx hy; omega
theorem InP.lo' {x y : Int} (hx : InP x) (hy : InP y) : -9223372036854775808 ≤ -(x - y) := by unfold InP at hx hy; omega
theorem InP.hi' {x y : Int} (hx : InP x) (hy : InP y) : -(x - y) < 9223372036854775808 := by unfold InP at hx hy; omega
theorem abs_prod {x y : Int} {M N : Nat} (hx : x.natAbs ≤ M) (hy : y.natAbs ≤ N) : (x * y).natAbs ≤ M * N := by rw [Int.natAbs_mul]; exact Nat.mul_le_mul hx hy
/-- The determinant of differences has 128 bits. -/
theorem inW_dets {p q r s : Int} (hp : p.natAbs ≤ 4294967296) (hq : q.natAbs ≤ 4294967296) (hr : r.natAbs ≤ 4294967296) (hs : s.natAbs ≤ 4294967296) : InW (p * s - q * r) := by
  have h1 := abs_prod hp hs; have h2 := abs_prod hq hr
  unfold InW; omega
theorem InP.abs {x y : Int} (hx : InP x) (hy : InP y) : (x - y).natAbs ≤ 4294967296 := by unfold InP at hx hy; omega
theorem InP.abs' {x y : Int} (hx : InP x) (hy : InP y) : (-(x - y)).natAbs ≤ 4294967296 := by unfold InP at hx hy; omega
theorem inW_crs {ax ay bx by' cx cy : Int} (h1 : InP ax) (h2 : InP ay) (h3 : InP bx) (h4 : InP by') (h5 : InP cx) (h6 : InP cy) : InW (crs ax ay bx by' cx cy) :=
  inW_dets (h3.abs h1) (h4.abs h2) (h5.abs h1) (h6.abs h2)
theorem sqd_det (ax ay bx by' : Int) : (bx - ax) * (bx - ax) - (-(by' - ay)) * (by' - ay) = sqd ax ay bx by' := by unfold sqd; grind
theorem inW_sqd {ax ay bx by' : Int} (h1 : InP ax) (h2 : InP ay) (h3 : InP bx) (h4 : InP by') : InW (sqd ax ay bx by') := by
  rw [← sqd_det]; exact inW_dets (h3.abs h1) (h4.abs' h2) (h4.abs h2) (h3.abs h1)
theorem inc_circle (ax ay bx by' cx cy dx dy : Int) : sqd ax ay dx dy * crs dx dy bx by' cx cy + sqd bx by' dx dy * crs dx dy cx cy ax ay + sqd cx cy dx dy * crs dx dy ax ay bx by' = inc ax ay bx by' cx cy dx dy := by unfold inc crs sqd; grind
end Go.MagM
/- From the form of the rows to the walks of layer 6: what a point, and an array of points, reads as. -/
namespace Go.Proofs.Ytjciefoademlnaa
open Go.ChangeShapes Go.WideShapes Go.RowKit Go.MagM
theorem ptCells : Try.prog.cellsOf 23 = 2 := by kernel_rfl
theorem ptCell1 : Try.prog.cellsOf 3 = 1 := by kernel_rfl
set_option maxRecDepth 100000 in
theorem view_pt {H : Type} {enc : TypeId × Value → H} {W : World} {b0 : Nat} {v : Value} {d : DataW H} {p : List MemPlace} (hv : Value.okWide Try.prog W .any b0 23 v)
    (h : DataW.Trod enc Try.prog W 0 (fun _ => true) true 23 v d p) :
    ∃ x y : Int, v = .agg #[.int .i64 x, .int .i64 y] := by
  obtain ⟨v0, v1, y0, y1, k, rfl, _, _, h0, h1⟩ := Joins.open_agg2 Try.underlying23 (by kernel_rfl) (by kernel_rfl) hv h
  obtain ⟨x, e0, _, w0⟩ := DataW.trod_int Try.underlying3 h0
  obtain ⟨y, e1, _, w1⟩ := DataW.trod_int Try.underlying3 h1
  simp at e0 e1
  subst e0 e1
  exact ⟨x, y, rfl⟩
/-- Two cells that read as a point. -/
theorem open_pt {H : Type} {enc : TypeId × Value → H} {W : World} {n : Nat} {c0 c1 : Value} {x : DataW H × List MemPlace} (h : DataW.trod enc Try.prog W 0 (fun _ => true) true n 23 [c0, c1] = some x) :
    ∃ a b : Int, c0 = .int .i64 a ∧ c1 = .int .i64 b := by
  obtain ⟨y0, y1, m, rfl, _, h0, h1⟩ := trod_struct2 Try.underlying23 h
  obtain ⟨a, e0, _, _⟩ := DataW.trod_int Try.underlying3 h0
  obtain ⟨b, e1, _, _⟩ := DataW.trod_int Try.underlying3 h1
  simp [ptCell1] at e0 e1
  exact ⟨a, b, e0, e1⟩
theorem ptsCells4 : Try.prog.cellsOf 37 = 8 := by kernel_rfl
theorem array8_of {α : Type} {a : Array α} (h : a.size = 8) : ∃ x0 x1 x2 x3 x4 x5 x6 x7, a = #[x0, x1, x2, x3, x4, x5, x6, x7] := by
  obtain ⟨l⟩ := a
  simp only [List.size_toArray] at h
  match l, h with
  | [x0, x1, x2, x3, x4, x5, x6, x7], _ => exact ⟨x0, x1, x2, x3, x4, x5, x6, x7, rfl⟩
set_option maxRecDepth 100000 in
theorem view_pts4 {H : Type} {enc : TypeId × Value → H} {W : World} {b0 : Nat} {v : Value} {d : DataW H} {p : List MemPlace} (hv : Value.okWide Try.prog W .any b0 37 v)
    (h : DataW.Trod enc Try.prog W 0 (fun _ => true) true 37 v d p) :
    ∃ x0 x1 x2 x3 x4 x5 x6 x7 : Int, v = .agg #[.int .i64 x0, .int .i64 x1, .int .i64 x2, .int .i64 x3, .int .i64 x4, .int .i64 x5, .int .i64 x6, .int .i64 x7] := by
  obtain ⟨cs, rfl, hsz, _⟩ : ∃ cs, v = .agg cs ∧ cs.size = Try.prog.cellsOf 37 ∧ Row.okWide Try.prog W .any b0 37 cs := by
    simpa [Value.okWide, Try.underlying37] using hv
  rw [ptsCells4] at hsz
  obtain ⟨c0, c1, c2, c3, c4, c5, c6, c7, rfl⟩ := array8_of hsz
  obtain ⟨fuel, hf⟩ := h
  obtain ⟨xs, m, rfl, hx, hl, hn, hi⟩ := DataW.trod_array Try.underlying37 hf
  have h0 := hi 0 (by decide)
  have h1 := hi 1 (by decide)
  have h2 := hi 2 (by decide)
  have h3 := hi 3 (by decide)
  rw [ptCells] at h0 h1 h2 h3
  rw [List.getElem?_eq_getElem (by omega)] at h0 h1 h2 h3
  obtain ⟨x0, x1, e0, e1⟩ := open_pt (by simpa [Value.cells] using h0)
  obtain ⟨x2, x3, e2, e3⟩ := open_pt (by simpa [Value.cells] using h1)
  obtain ⟨x4, x5, e4, e5⟩ := open_pt (by simpa [Value.cells] using h2)
  obtain ⟨x6, x7, e6, e7⟩ := open_pt (by simpa [Value.cells] using h3)
  subst e0 e1 e2 e3 e4 e5 e6 e7
  exact ⟨x0, x1, x2, x3, x4, x5, x6, x7, rfl⟩
theorem ptsCells3 : Try.prog.cellsOf 45 = 6 := by kernel_rfl
theorem array6_of {α : Type} {a : Array α} (h : a.size = 6) : ∃ x0 x1 x2 x3 x4 x5, a = #[x0, x1, x2, x3, x4, x5] := by
  obtain ⟨l⟩ := a
  simp only [List.size_toArray] at h
  match l, h with
  | [x0, x1, x2, x3, x4, x5], _ => exact ⟨x0, x1, x2, x3, x4, x5, rfl⟩
set_option maxRecDepth 100000 in
theorem view_pts3 {H : Type} {enc : TypeId × Value → H} {W : World} {b0 : Nat} {v : Value} {d : DataW H} {p : List MemPlace} (hv : Value.okWide Try.prog W .any b0 45 v)
    (h : DataW.Trod enc Try.prog W 0 (fun _ => true) true 45 v d p) :
    ∃ x0 x1 x2 x3 x4 x5 : Int, v = .agg #[.int .i64 x0, .int .i64 x1, .int .i64 x2, .int .i64 x3, .int .i64 x4, .int .i64 x5] := by
  obtain ⟨cs, rfl, hsz, _⟩ : ∃ cs, v = .agg cs ∧ cs.size = Try.prog.cellsOf 45 ∧ Row.okWide Try.prog W .any b0 45 cs := by
    simpa [Value.okWide, Try.underlying45] using hv
  rw [ptsCells3] at hsz
  obtain ⟨c0, c1, c2, c3, c4, c5, rfl⟩ := array6_of hsz
  obtain ⟨fuel, hf⟩ := h
  obtain ⟨xs, m, rfl, hx, hl, hn, hi⟩ := DataW.trod_array Try.underlying45 hf
  have h0 := hi 0 (by decide)
  have h1 := hi 1 (by decide)
  have h2 := hi 2 (by decide)
  rw [ptCells] at h0 h1 h2
  rw [List.getElem?_eq_getElem (by omega)] at h0 h1 h2
  obtain ⟨x0, x1, e0, e1⟩ := open_pt (by simpa [Value.cells] using h0)
  obtain ⟨x2, x3, e2, e3⟩ := open_pt (by simpa [Value.cells] using h1)
  obtain ⟨x4, x5, e4, e5⟩ := open_pt (by simpa [Value.cells] using h2)
  subst e0 e1 e2 e3 e4 e5
  exact ⟨x0, x1, x2, x3, x4, x5, rfl⟩
end Go.Proofs.Ytjciefoademlnaa
/- The statements' own calls: less, det, square. -/
namespace Go.Proofs.Ytjciefoademlnaa
open Go.RowKit Go.MagM
set_option maxHeartbeats 4000000 in
theorem less_w (a b : Int) (ha1 : -9223372036854775808 ≤ a) (ha2 : a < 9223372036854775808) (hb1 : -9223372036854775808 ≤ b) (hb2 : b < 9223372036854775808) (w : World) :
    Calls Try.prog 38 #[.int .i64 a, .int .i64 b] w fun e w' => AnsNum w w' e 2 (a - b) := by
  have hB_0 := Below.refl w.heap.size w
  have HA1 := Lib.hid ha1; have HA2 := Lib.hid ha2; have HB1 := Lib.hid hb1; have HB2 := Lib.hid hb2
  clear ha1 ha2 hb1 hb2
  obtain ⟨w1, hw1, pr_0, hb1, hs1⟩ := new_box w (w.heap.size) rfl [.bool false, .slice none 0 0] 29
  have hb1' : Below w.heap.size w w1 := hb1.mono (by omega)
  clear hb1
  have hB_1 := hB_0.trans (hb1'.mono hB_0.size)
  clear hb1' hB_0
  go_enter Try.func38, Try.ntmps38
  obtain ⟨pre0, pre1, pre2, pre3⟩ := pr_0.open2
  go_wp2_with fail
  refine (nOf_any a HA1.out HA2.out _).mono ?_
  rintro e w2 ⟨m1, o1, n1, c1, rfl, f1_0, hb2⟩
  clear pre0 pre1 pre2 pre3
  have hB_2 := hB_1.trans (hb2.mono hB_1.size)
  have pr_1 := pr_0.below hb2
  clear hb2 hB_1 pr_0
  obtain ⟨pre0, pre1, pre2, pre3⟩ := pr_1.open2
  go_wp2_with fail
  refine (nOf_any b HB1.out HB2.out _).mono ?_
  rintro e w3 ⟨m2, o2, n2, c2, rfl, f2_0, hb3⟩
  clear pre0 pre1 pre2 pre3
  have hB_3 := hB_2.trans (hb3.mono hB_2.size)
  have pr_2 := pr_1.below hb3
  have f1_1 := f1_0.below hb3
  clear hb3 hB_2 pr_1 f1_0
  obtain ⟨pre0, pre1, pre2, pre3⟩ := pr_2.open2
  go_wp2_with fail
  refine (nSub_any _ _ 1 1 a b _ (by omega) (by omega) f1_1.num f2_0.num).mono ?_
  rintro e w4 ⟨m3, o3, n3, c3, rfl, f3_0, hb4⟩
  clear pre0 pre1 pre2 pre3
  have hB_4 := hB_3.trans (hb4.mono hB_3.size)
  have pr_3 := pr_2.below hb4
  have f1_2 := f1_1.below hb4
  have f2_1 := f2_0.below hb4
  clear hb4 hB_3 pr_2 f1_1 f2_0
  obtain ⟨pre0, pre1, pre2, pre3⟩ := pr_3.open2
  obtain ⟨sf1a, sf1b, sf1c, sf1d⟩ := pr_3.open2
  obtain ⟨sg1a, sg1b⟩ := Box.put2 pr_3 (.bool m3)
  go_wp2
  clear pre0 pre1 pre2 pre3 sf1a sf1b sf1c sf1d sg1a sg1b
  have hB_5 := below_setAll hB_4 (g := w.heap.size) (by omega) [.bool m3, .slice o3 n3 c3]
  have f1_3 := f1_2.setAll pr_3 (noWord2 _ _ _ _) [.bool m3, .slice o3 n3 c3] rfl
  have f2_2 := f2_1.setAll pr_3 (noWord2 _ _ _ _) [.bool m3, .slice o3 n3 c3] rfl
  have f3_1 := f3_0.setAll pr_3 (noWord2 _ _ _ _) [.bool m3, .slice o3 n3 c3] rfl
  have pr_4 := pr_3.setAll [.bool m3, .slice o3 n3 c3] rfl
  simp only [setAll, Nat.zero_add] at hB_5 pr_4 f1_3 f2_2 f3_1
  clear hB_4 f1_2 f2_1 f3_0 pr_3
  generalize (World.setCell (World.setCell w4 ⟨w.heap.size, 0, none⟩ (.bool m3)) ⟨w.heap.size, 1, none⟩ (.slice o3 n3 c3)) = w5 at *
  go_wp2
  obtain ⟨pre0, pre1, pre2, pre3⟩ := pr_4.open2
  exact bodyPost_ret (v := .agg #[.bool m3, .slice o3 n3 c3]) (by simp [results, Try.results38, go_sem, pre0, pre1]) rfl ⟨_, _, _, _, rfl, f3_1, hB_5⟩
theorem lessP (a b : Int) (ha : InP a) (hb : InP b) (w : World) : Calls Try.prog 38 #[.int .i64 a, .int .i64 b] w fun e w' => AnsNum w w' e 2 (a - b) := by
  unfold InP at ha hb; exact less_w a b (by omega) (by omega) (by omega) (by omega) w
set_option maxHeartbeats 4000000 in
theorem det_w (am : Bool) (ao : Option Addr) (an ac : Nat) (bm : Bool) (bo : Option Addr) (bn bc : Nat) (cm : Bool) (co : Option Addr) (cn cc : Nat) (um : Bool) (uo : Option Addr) (un uc : Nat) (La Lb Lc Lu : Nat) (Xa Xb Xc Xu : Int) (w : World) (ha : La ≤ 1000000) (hb : Lb ≤ 1000000) (hc : Lc ≤ 1000000) (hu : Lu ≤ 1000000) (fa_0 : Num w (.agg #[.bool am, .slice ao an ac]) La Xa) (fb_0 : Num w (.agg #[.bool bm, .slice bo bn bc]) Lb Xb) (fc_0 : Num w (.agg #[.bool cm, .slice co cn cc]) Lc Xc) (fu_0 : Num w (.agg #[.bool um, .slice uo un uc]) Lu Xu) :
    Calls Try.prog 31 #[.agg #[.bool am, .slice ao an ac], .agg #[.bool bm, .slice bo bn bc], .agg #[.bool cm, .slice co cn cc], .agg #[.bool um, .slice uo un uc]] w fun e w' => AnsNum w w' e (max (La + Lu) (Lb + Lc) + 1) (Xa * Xu - Xb * Xc) := by
  have hB_0 := Below.refl w.heap.size w
  have HA := Lib.hid ha; have HB := Lib.hid hb; have HC := Lib.hid hc; have HU := Lib.hid hu
  clear ha hb hc hu
  obtain ⟨w1, hw1, pa_0, hb1, hs1⟩ := new_box w (w.heap.size) rfl [.bool am, .slice ao an ac] 29
  have hb1' : Below w.heap.size w w1 := hb1.mono (by omega)
  clear hb1
  have hB_1 := hB_0.trans (hb1'.mono hB_0.size)
  have fa_1 := fa_0.below hb1'
  have fb_1 := fb_0.below hb1'
  have fc_1 := fc_0.below hb1'
  have fu_1 := fu_0.below hb1'
  clear hb1' hB_0 fa_0 fb_0 fc_0 fu_0
  obtain ⟨w2, hw2, pb_0, hb2, hs2⟩ := new_box w1 (w.heap.size + 1) hs1 [.bool bm, .slice bo bn bc] 29
  have hb2' : Below w1.heap.size w1 w2 := hb2.mono (by omega)
  clear hb2
  have hB_2 := hB_1.trans (hb2'.mono hB_1.size)
  have fa_2 := fa_1.below hb2'
  have fb_2 := fb_1.below hb2'
  have fc_2 := fc_1.below hb2'
  have fu_2 := fu_1.below hb2'
  have pa_1 := pa_0.below hb2'
  clear hb2' hB_1 fa_1 fb_1 fc_1 fu_1 pa_0
  obtain ⟨w3, hw3, pc_0, hb3, hs3⟩ := new_box w2 (w.heap.size + 1 + 1) hs2 [.bool cm, .slice co cn cc] 29
  have hb3' : Below w2.heap.size w2 w3 := hb3.mono (by omega)
  clear hb3
  have hB_3 := hB_2.trans (hb3'.mono hB_2.size)
  have fa_3 := fa_2.below hb3'
  have fb_3 := fb_2.below hb3'
  have fc_3 := fc_2.below hb3'
  have fu_3 := fu_2.below hb3'
  have pa_2 := pa_1.below hb3'
  have pb_1 := pb_0.below hb3'
  clear hb3' hB_2 fa_2 fb_2 fc_2 fu_2 pa_1 pb_0
  obtain ⟨w4, hw4, pu_0, hb4, hs4⟩ := new_box w3 (w.heap.size + 1 + 1 + 1) hs3 [.bool um, .slice uo un uc] 29
  have hb4' : Below w3.heap.size w3 w4 := hb4.mono (by omega)
  clear hb4
  have hB_4 := hB_3.trans (hb4'.mono hB_3.size)
  have fa_4 := fa_3.below hb4'
  have fb_4 := fb_3.below hb4'
  have fc_4 := fc_3.below hb4'
  have fu_4 := fu_3.below hb4'
  have pa_3 := pa_2.below hb4'
  have pb_2 := pb_1.below hb4'
  have pc_1 := pc_0.below hb4'
  clear hb4' hB_3 fa_3 fb_3 fc_3 fu_3 pa_2 pb_1 pc_0
  obtain ⟨w5, hw5, pr_0, hb5, hs5⟩ := new_box w4 (w.heap.size + 1 + 1 + 1 + 1) hs4 [.bool false, .slice none 0 0] 29
  have hb5' : Below w4.heap.size w4 w5 := hb5.mono (by omega)
  clear hb5
  have hB_5 := hB_4.trans (hb5'.mono hB_4.size)
  have fa_5 := fa_4.below hb5'
  have fb_5 := fb_4.below hb5'
  have fc_5 := fc_4.below hb5'
  have fu_5 := fu_4.below hb5'
  have pa_4 := pa_3.below hb5'
  have pb_3 := pb_2.below hb5'
  have pc_2 := pc_1.below hb5'
  have pu_1 := pu_0.below hb5'
  clear hb5' hB_4 fa_4 fb_4 fc_4 fu_4 pa_3 pb_2 pc_1 pu_0
  go_enter Try.func31, Try.ntmps31
  go_wp2
  have hB_6 := hB_5.drew'
  have fa_6 := fa_5.drew
  have fb_6 := fb_5.drew
  have fc_6 := fc_5.drew
  have fu_6 := fu_5.drew
  have pa_5 := pa_4.drew
  have pb_4 := pb_3.drew
  have pc_3 := pc_2.drew
  have pu_2 := pu_1.drew
  have pr_1 := pr_0.drew
  clear hB_5 fa_5 fb_5 fc_5 fu_5 pa_4 pb_3 pc_2 pu_1 pr_0
  go_region_held3 (fun w' => w'.cell? ⟨w.heap.size, 0, none⟩ = some (.bool am) ∧ w'.cell? ⟨w.heap.size, 1, none⟩ = some (.slice ao an ac) ∧ w'.cell? ⟨w.heap.size + 1, 0, none⟩ = some (.bool bm) ∧ w'.cell? ⟨w.heap.size + 1, 1, none⟩ = some (.slice bo bn bc) ∧ w'.cell? ⟨w.heap.size + 1 + 1, 0, none⟩ = some (.bool cm) ∧ w'.cell? ⟨w.heap.size + 1 + 1, 1, none⟩ = some (.slice co cn cc) ∧ w'.cell? ⟨w.heap.size + 1 + 1 + 1, 0, none⟩ = some (.bool um) ∧ w'.cell? ⟨w.heap.size + 1 + 1 + 1, 1, none⟩ = some (.slice uo un uc))
    (first | with_reducible exact ⟨pa_5.c0, pa_5.c1, pb_4.c0, pb_4.c1, pc_3.c0, pc_3.c1, pu_2.c0, pu_2.c1⟩ | with_reducible exact ⟨pa_6.c0, pa_6.c1, pb_5.c0, pb_5.c1, pc_4.c0, pc_4.c1, pu_3.c0, pu_3.c1⟩ | with_reducible exact ⟨pa_7.c0, pa_7.c1, pb_6.c0, pb_6.c1, pc_5.c0, pc_5.c1, pu_4.c0, pu_4.c1⟩ | with_reducible exact ⟨pa_8.c0, pa_8.c1, pb_7.c0, pb_7.c1, pc_6.c0, pc_6.c1, pu_5.c0, pu_5.c1⟩ | with_reducible exact ⟨pa_9.c0, pa_9.c1, pb_8.c0, pb_8.c1, pc_7.c0, pc_7.c1, pu_6.c0, pu_6.c1⟩ | fail)
    (first
      | (go_at_call 21; (with_reducible refine (nMul_any _ _ La Lu Xa Xu _ (by have := HA.out; omega) (by have := HU.out; omega) fa_6 fu_6).mono ?_); rintro e w6 ⟨m1, o1, n1, c1, rfl, f1_0, hb6⟩; have hB_7 := hB_6.trans (hb6.mono hB_6.size); have fa_7 := fa_6.below hb6; have fb_7 := fb_6.below hb6; have fc_7 := fc_6.below hb6; have fu_7 := fu_6.below hb6; have pa_6 := pa_5.below hb6; have pb_5 := pb_4.below hb6; have pc_4 := pc_3.below hb6; have pu_3 := pu_2.below hb6; have pr_2 := pr_1.below hb6; clear hb6 hB_6 fa_6 fb_6 fc_6 fu_6 pa_5 pb_4 pc_3 pu_2 pr_1)
      | (go_at_call 21; (with_reducible refine (nMul_any _ _ Lb Lc Xb Xc _ (by have := HB.out; omega) (by have := HC.out; omega) fb_7 fc_7).mono ?_); rintro e w7 ⟨m2, o2, n2, c2, rfl, f2_0, hb7⟩; have hB_8 := hB_7.trans (hb7.mono hB_7.size); have fa_8 := fa_7.below hb7; have fb_8 := fb_7.below hb7; have fc_8 := fc_7.below hb7; have fu_8 := fu_7.below hb7; have pa_7 := pa_6.below hb7; have pb_6 := pb_5.below hb7; have pc_5 := pc_4.below hb7; have pu_4 := pu_3.below hb7; have pr_3 := pr_2.below hb7; have f1_1 := f1_0.below hb7; clear hb7 hB_7 fa_7 fb_7 fc_7 fu_7 pa_6 pb_5 pc_4 pu_3 pr_2 f1_0)
      | (go_at_call 20; (with_reducible refine (nSub_any _ _ (La + Lu) (Lb + Lc) _ _ _ (by have := HA.out; have := HU.out; omega) (by have := HB.out; have := HC.out; omega) f1_1.num f2_0.num).mono ?_); rintro e w8 ⟨m3, o3, n3, c3, rfl, f3_0, hb8⟩; have hB_9 := hB_8.trans (hb8.mono hB_8.size); have fa_9 := fa_8.below hb8; have fb_9 := fb_8.below hb8; have fc_9 := fc_8.below hb8; have fu_9 := fu_8.below hb8; have pa_8 := pa_7.below hb8; have pb_7 := pb_6.below hb8; have pc_6 := pc_5.below hb8; have pu_5 := pu_4.below hb8; have pr_4 := pr_3.below hb8; have f1_2 := f1_1.below hb8; have f2_1 := f2_0.below hb8; clear hb8 hB_8 fa_8 fb_8 fc_8 fu_8 pa_7 pb_6 pc_5 pu_4 pr_3 f1_1 f2_0; obtain ⟨sf1a, sf1b, sf1c, sf1d⟩ := pr_4.open2; obtain ⟨sg1a, sg1b⟩ := Box.put2 pr_4 (.bool m3); have hB_10 := below_setAll hB_9 (g := w.heap.size + 1 + 1 + 1 + 1) (by omega) [.bool m3, .slice o3 n3 c3]; have fa_10 := fa_9.setAll pr_4 (noWord2 _ _ _ _) [.bool m3, .slice o3 n3 c3] rfl; have fb_10 := fb_9.setAll pr_4 (noWord2 _ _ _ _) [.bool m3, .slice o3 n3 c3] rfl; have fc_10 := fc_9.setAll pr_4 (noWord2 _ _ _ _) [.bool m3, .slice o3 n3 c3] rfl; have fu_10 := fu_9.setAll pr_4 (noWord2 _ _ _ _) [.bool m3, .slice o3 n3 c3] rfl; have pa_9 := pa_8.farAll (g' := w.heap.size + 1 + 1 + 1 + 1) (by omega) [.bool m3, .slice o3 n3 c3]; have pb_8 := pb_7.farAll (g' := w.heap.size + 1 + 1 + 1 + 1) (by omega) [.bool m3, .slice o3 n3 c3]; have pc_7 := pc_6.farAll (g' := w.heap.size + 1 + 1 + 1 + 1) (by omega) [.bool m3, .slice o3 n3 c3]; have pu_6 := pu_5.farAll (g' := w.heap.size + 1 + 1 + 1 + 1) (by omega) [.bool m3, .slice o3 n3 c3]; have f1_3 := f1_2.setAll pr_4 (noWord2 _ _ _ _) [.bool m3, .slice o3 n3 c3] rfl; have f2_2 := f2_1.setAll pr_4 (noWord2 _ _ _ _) [.bool m3, .slice o3 n3 c3] rfl; have f3_1 := f3_0.setAll pr_4 (noWord2 _ _ _ _) [.bool m3, .slice o3 n3 c3] rfl; have pr_5 := pr_4.setAll [.bool m3, .slice o3 n3 c3] rfl; simp only [setAll, Nat.zero_add] at hB_10 fa_10 fb_10 fc_10 fu_10 pa_9 pb_8 pc_7 pu_6 pr_5 f1_3 f2_2 f3_1))
  clear hB_9 fa_9 fb_9 fc_9 fu_9 pa_8 pb_7 pc_6 pu_5 f1_2 f2_1 f3_0 pr_4
  clear sf1a sf1b sf1c sf1d sg1a sg1b
  generalize (World.setCell (World.setCell w8 ⟨w.heap.size + 1 + 1 + 1 + 1, 0, none⟩ (.bool m3)) ⟨w.heap.size + 1 + 1 + 1 + 1, 1, none⟩ (.slice o3 n3 c3)) = w9 at *
  go_wp2
  obtain ⟨pre0, pre1, pre2, pre3⟩ := pr_5.open2
  exact bodyPost_ret (v := .agg #[.bool m3, .slice o3 n3 c3]) (by simp [results, Try.results31, go_sem, pre0, pre1]) rfl ⟨_, _, _, _, rfl, f3_1, hB_10⟩
theorem det_any (va vb vc vd : Value) (La Lb Lc Ld : Nat) (Xa Xb Xc Xd : Int) (w : World) (ha : La ≤ 1000000) (hb : Lb ≤ 1000000) (hc : Lc ≤ 1000000) (hd : Ld ≤ 1000000)
    (fa : Num w va La Xa) (fb : Num w vb Lb Xb) (fc : Num w vc Lc Xc) (fd : Num w vd Ld Xd) :
    Calls Try.prog 31 #[va, vb, vc, vd] w fun e w' => AnsNum w w' e (max (La + Ld) (Lb + Lc) + 1) (Xa * Xd - Xb * Xc) := by
  have ga := fa; have gb := fb; have gc := fc; have gd := fd
  obtain ⟨m1, _, _, rfl, ⟨o1, n1, c1, _, rfl, _⟩, _⟩ := ga
  obtain ⟨m2, _, _, rfl, ⟨o2, n2, c2, _, rfl, _⟩, _⟩ := gb
  obtain ⟨m3, _, _, rfl, ⟨o3, n3, c3, _, rfl, _⟩, _⟩ := gc
  obtain ⟨m4, _, _, rfl, ⟨o4, n4, c4, _, rfl, _⟩, _⟩ := gd
  exact det_w m1 o1 n1 c1 m2 o2 n2 c2 m3 o3 n3 c3 m4 o4 n4 c4 La Lb Lc Ld Xa Xb Xc Xd w ha hb hc hd fa fb fc fd
set_option maxHeartbeats 8000000 in
theorem square_w (a0 a1 b0 b1 : Int) (x y : Int) (cx : ∀ w, Calls Try.prog 38 #[.int .i64 a0, .int .i64 b0] w fun e w' => AnsNum w w' e 2 x) (cy : ∀ w, Calls Try.prog 38 #[.int .i64 a1, .int .i64 b1] w fun e w' => AnsNum w w' e 2 y) (w : World) :
    Calls Try.prog 19 #[.agg #[.int .i64 a0, .int .i64 a1], .agg #[.int .i64 b0, .int .i64 b1]] w fun e w' => AnsNum w w' e 5 (x * x + y * y) := by
  have hB_0 := Below.refl w.heap.size w
  have CX := Lib.hid cx; have CY := Lib.hid cy
  clear cx cy
  obtain ⟨w1, hw1, pa_0, hb1, hs1⟩ := new_box w (w.heap.size) rfl [.int .i64 a0, .int .i64 a1] 23
  have hb1' : Below w.heap.size w w1 := hb1.mono (by omega)
  clear hb1
  have hB_1 := hB_0.trans (hb1'.mono hB_0.size)
  clear hb1' hB_0
  obtain ⟨w2, hw2, pb_0, hb2, hs2⟩ := new_box w1 (w.heap.size + 1) hs1 [.int .i64 b0, .int .i64 b1] 23
  have hb2' : Below w1.heap.size w1 w2 := hb2.mono (by omega)
  clear hb2
  have hB_2 := hB_1.trans (hb2'.mono hB_1.size)
  have pa_1 := pa_0.below hb2'
  clear hb2' hB_1 pa_0
  obtain ⟨w3, hw3, pr_0, hb3, hs3⟩ := new_box w2 (w.heap.size + 1 + 1) hs2 [.bool false, .slice none 0 0] 29
  have hb3' : Below w2.heap.size w2 w3 := hb3.mono (by omega)
  clear hb3
  have hB_3 := hB_2.trans (hb3'.mono hB_2.size)
  have pa_2 := pa_1.below hb3'
  have pb_1 := pb_0.below hb3'
  clear hb3' hB_2 pa_1 pb_0
  go_enter Try.func19, Try.ntmps19
  obtain ⟨pae0, pae1, pae2, pae3⟩ := pa_2.open2
  obtain ⟨pbe0, pbe1, pbe2, pbe3⟩ := pb_1.open2
  obtain ⟨pre0, pre1, pre2, pre3⟩ := pr_0.open2
  go_wp2
  clear pae0 pae1 pae2 pae3 pbe0 pbe1 pbe2 pbe3 pre0 pre1 pre2 pre3
  have hWq_0 := Below.refl w3.heap.size w3
  have hsq : w.heap.size ≤ w3.heap.size := hB_3.size
  have hlqpa := pa_2.lt
  have hlqpb := pb_1.lt
  have hlqpr := pr_0.lt
  have hB_4 := hB_3.drew'
  have pa_3 := pa_2.drew
  have pb_2 := pb_1.drew
  have pr_1 := pr_0.drew
  have hWq_1 := hWq_0.drew'
  clear hB_3 pa_2 pb_1 pr_0 hWq_0
  refine wp_region_noPanic ?_
  refine wp_region_held_drew (S := fun w' => w'.cell? ⟨w.heap.size, 0, none⟩ = some (.int .i64 a0) ∧ w'.cell? ⟨w.heap.size, 1, none⟩ = some (.int .i64 a1) ∧ w'.cell? ⟨w.heap.size + 1, 0, none⟩ = some (.int .i64 b0) ∧ w'.cell? ⟨w.heap.size + 1, 1, none⟩ = some (.int .i64 b1)) (by kernel_rfl) (⟨pa_3.c0, pa_3.c1, pb_2.c0, pb_2.c1⟩) (fun hHeld => ?_)
  refine reg_take 0 ?_ ?_ ?_ (by kernel_rfl) (by kernel_rfl) (by kernel_rfl) (fun _ _ _ h => h) ?_ ?_ (by assumption) ?_
  rotate_left 2
  · simp only [List.getElem?_toArray, List.getElem?_cons_zero]; exact rfl
  · rfl
  · intro w hSw; (try dsimp only at hSw); go_simp; try with_reducible rfl
  try simp only [Act.put]
  try simp only [List.setIfInBounds_toArray, List.set_cons_zero, List.set_cons_succ]
  refine reg_take 1 ?_ ?_ ?_ (by kernel_rfl) (by kernel_rfl) (by kernel_rfl) (fun _ _ _ h => h) ?_ ?_ (by assumption) ?_
  rotate_left 2
  · simp only [List.getElem?_toArray, List.getElem?_cons_succ, List.getElem?_cons_zero]; exact rfl
  · rfl
  · intro w hSw; (try dsimp only at hSw); go_simp; try with_reducible rfl
  try simp only [Act.put]
  try simp only [List.setIfInBounds_toArray, List.set_cons_zero, List.set_cons_succ]
  refine reg_take 2 ?_ ?_ ?_ (by kernel_rfl) (by kernel_rfl) (by kernel_rfl) (fun _ _ _ h => h) ?_ ?_ (by assumption) ?_
  rotate_left 2
  · simp only [List.getElem?_toArray, List.getElem?_cons_succ, List.getElem?_cons_zero]; exact rfl
  · rfl
  · intro w hSw; (try dsimp only at hSw); go_simp; try with_reducible rfl
  try simp only [Act.put]
  try simp only [List.setIfInBounds_toArray, List.set_cons_zero, List.set_cons_succ]
  refine reg_take 3 ?_ ?_ ?_ (by kernel_rfl) (by kernel_rfl) (by kernel_rfl) (fun _ _ _ h => h) ?_ ?_ (by assumption) ?_
  rotate_left 2
  · simp only [List.getElem?_toArray, List.getElem?_cons_succ, List.getElem?_cons_zero]; exact rfl
  · rfl
  · intro w hSw; (try dsimp only at hSw); go_simp; try with_reducible rfl
  try simp only [Act.put]
  try simp only [List.setIfInBounds_toArray, List.set_cons_zero, List.set_cons_succ]
  refine reg_take 5 ?_ ?_ ?_ (by kernel_rfl) (by kernel_rfl) (by kernel_rfl) (fun _ _ _ h => h) ?_ ?_ (by assumption) ?_
  rotate_left 2
  · simp only [List.getElem?_toArray, List.getElem?_cons_succ, List.getElem?_cons_zero]; exact rfl
  · rfl
  · intro w hSw; (try dsimp only at hSw); go_simp; try with_reducible rfl
  try simp only [Act.put]
  try simp only [List.setIfInBounds_toArray, List.set_cons_zero, List.set_cons_succ]
  refine reg_take 6 ?_ ?_ ?_ (by kernel_rfl) (by kernel_rfl) (by kernel_rfl) (fun _ _ _ h => h) ?_ ?_ (by assumption) ?_
  rotate_left 2
  · simp only [List.getElem?_toArray, List.getElem?_cons_succ, List.getElem?_cons_zero]; exact rfl
  · rfl
  · intro w hSw; (try dsimp only at hSw); go_simp; try with_reducible rfl
  try simp only [Act.put]
  try simp only [List.setIfInBounds_toArray, List.set_cons_zero, List.set_cons_succ]
  refine reg_take 7 ?_ ?_ ?_ (by kernel_rfl) (by kernel_rfl) (by kernel_rfl) (fun _ _ _ h => h) ?_ ?_ (by assumption) ?_
  rotate_left 2
  · simp only [List.getElem?_toArray, List.getElem?_cons_succ, List.getElem?_cons_zero]; exact rfl
  · rfl
  · intro w hSw; (try dsimp only at hSw); go_simp; try with_reducible rfl
  try simp only [Act.put]
  try simp only [List.setIfInBounds_toArray, List.set_cons_zero, List.set_cons_succ]
  refine reg_take 8 ?_ ?_ ?_ (by kernel_rfl) (by kernel_rfl) (by kernel_rfl) (fun _ _ _ h => h) ?_ ?_ (by assumption) ?_
  rotate_left 2
  · simp only [List.getElem?_toArray, List.getElem?_cons_succ, List.getElem?_cons_zero]; exact rfl
  · rfl
  · intro w hSw; (try dsimp only at hSw); go_simp; try with_reducible rfl
  try simp only [Act.put]
  try simp only [List.setIfInBounds_toArray, List.set_cons_zero, List.set_cons_succ]
  refine reg_grab (fun WWq aq hWW hAA => ?_)
  have HWq := Lib.hid hWW; have HAq := Lib.hid hAA; clear hWW hAA hHeld
  have stq_2tt : ∀ (w' : World) (m1 : Bool) (o1 : Option Addr) (n1 : Nat) (c1 : Nat) (m2 : Bool) (o2 : Option Addr) (n2 : Nat) (c2 : Nat) (gpx : Nat) (gpy : Nat), Below w.heap.size w w' → Box w' (w.heap.size) [.int .i64 a0, .int .i64 a1] → Box w' (w.heap.size + 1) [.int .i64 b0, .int .i64 b1] → Box w' (w.heap.size + 1 + 1) [.bool false, .slice none 0 0] → Below w3.heap.size w3 w' → RNum w' (.agg #[.bool m1, .slice o1 n1 c1]) (2) (x) → RNum w' (.agg #[.bool m2, .slice o2 n2 c2]) (2) (y) → Box w' gpx [.bool false, .slice none 0 0] → Box w' gpy [.bool false, .slice none 0 0] → w3.heap.size ≤ gpx → w3.heap.size ≤ gpy → gpx ≠ gpy → WWq 2 #[true, true, true, true, true, true, true, true, true, true, true, true, false, false] ((((aq.put (some 11) (.agg #[.bool m1, .slice o1 n1 c1])).put (some 16) (.agg #[.bool m2, .slice o2 n2 c2])).put (some 5) (.pointer (some ⟨gpx, 0, none⟩))).put (some 6) (.pointer (some ⟨gpy, 0, none⟩))) w' := by
    intro w4 m1 o1 n1 c1 m2 o2 n2 c2 gpx gpy hB_0 pa_0 pb_0 pr_0 hWq_0 f1_0 f2_0 px_0 py_0 hgpx hgpy hnpxpy
    rw [HWq.out, HAq.out]
    try simp only [Act.put]
    try simp only [List.setIfInBounds_toArray, List.set_cons_zero, List.set_cons_succ]
    clear hWq_0
    obtain ⟨sf1a, sf1b, sf1c, sf1d⟩ := px_0.open2
    obtain ⟨sg1a, sg1b⟩ := Box.put2 px_0 (.bool m1)
    refine reg_call 12 ?_ (by kernel_rfl) ?_ (fun K hK => ?_)
    rotate_left 1
    · simp only [List.getElem?_toArray, List.getElem?_cons_succ, List.getElem?_cons_zero]; exact rfl
    go_simp
    have hB_1 := below_setAll hB_0 (g := gpx) (by omega) [.bool m1, .slice o1 n1 c1]
    have pa_1 := pa_0.farAll (g' := gpx) (by omega) [.bool m1, .slice o1 n1 c1]
    have pb_1 := pb_0.farAll (g' := gpx) (by omega) [.bool m1, .slice o1 n1 c1]
    have pr_1 := pr_0.farAll (g' := gpx) (by omega) [.bool m1, .slice o1 n1 c1]
    have f1_1 := f1_0.setAll px_0 (noWord2 _ _ _ _) [.bool m1, .slice o1 n1 c1] rfl
    have f2_1 := f2_0.setAll px_0 (noWord2 _ _ _ _) [.bool m1, .slice o1 n1 c1] rfl
    have py_1 := py_0.farAll (g' := gpx) (by omega) [.bool m1, .slice o1 n1 c1]
    have px_1 := px_0.setAll [.bool m1, .slice o1 n1 c1] rfl
    simp only [setAll, Nat.zero_add] at hB_1 pa_1 pb_1 pr_1 f1_1 f2_1 px_1 py_1
    clear sf1a sf1b sf1c sf1d sg1a sg1b
    clear hB_0 pa_0 pb_0 pr_0 f1_0 f2_0 py_0 px_0
    refine hK.out _ _ ⟨pa_1.c0, pa_1.c1, pb_1.c0, pb_1.c1⟩ (fun hHeld => ?_)
    clear hK K
    try simp only [Act.put]
    try simp only [List.setIfInBounds_toArray, List.set_cons_zero, List.set_cons_succ]
    generalize (World.setCell (World.setCell w4 ⟨gpx, 0, none⟩ (.bool m1)) ⟨gpx, 1, none⟩ (.slice o1 n1 c1)) = w5 at *
    obtain ⟨sf2a, sf2b, sf2c, sf2d⟩ := py_1.open2
    obtain ⟨sg2a, sg2b⟩ := Box.put2 py_1 (.bool m2)
    refine reg_call 13 ?_ (by kernel_rfl) ?_ (fun K hK => ?_)
    rotate_left 1
    · simp only [List.getElem?_toArray, List.getElem?_cons_succ, List.getElem?_cons_zero]; exact rfl
    go_simp
    have hB_2 := below_setAll hB_1 (g := gpy) (by omega) [.bool m2, .slice o2 n2 c2]
    have pa_2 := pa_1.farAll (g' := gpy) (by omega) [.bool m2, .slice o2 n2 c2]
    have pb_2 := pb_1.farAll (g' := gpy) (by omega) [.bool m2, .slice o2 n2 c2]
    have pr_2 := pr_1.farAll (g' := gpy) (by omega) [.bool m2, .slice o2 n2 c2]
    have f1_2 := f1_1.setAll py_1 (noWord2 _ _ _ _) [.bool m2, .slice o2 n2 c2] rfl
    have f2_2 := f2_1.setAll py_1 (noWord2 _ _ _ _) [.bool m2, .slice o2 n2 c2] rfl
    have px_2 := px_1.farAll (g' := gpy) (by omega) [.bool m2, .slice o2 n2 c2]
    have py_2 := py_1.setAll [.bool m2, .slice o2 n2 c2] rfl
    simp only [setAll, Nat.zero_add] at hB_2 pa_2 pb_2 pr_2 f1_2 f2_2 px_2 py_2
    clear sf2a sf2b sf2c sf2d sg2a sg2b
    clear hB_1 pa_1 pb_1 pr_1 f1_1 f2_1 px_1 py_1
    refine hK.out _ _ ⟨pa_2.c0, pa_2.c1, pb_2.c0, pb_2.c1⟩ (fun hHeld => ?_)
    clear hK K
    try simp only [Act.put]
    try simp only [List.setIfInBounds_toArray, List.set_cons_zero, List.set_cons_succ]
    generalize (World.setCell (World.setCell w5 ⟨gpy, 0, none⟩ (.bool m2)) ⟨gpy, 1, none⟩ (.slice o2 n2 c2)) = w6 at *
    refine wpAnyH_done (by kernel_rfl) ?_ _
    refine NoPanic.normal ?_
    clear pa_2 pb_2
    go_wp2
    have hB_3 := hB_2.drew'
    have pr_3 := pr_2.drew
    have f1_3 := f1_2.drew
    have f2_3 := f2_2.drew
    have px_3 := px_2.drew
    have py_3 := py_2.drew
    clear hB_2 pr_2 f1_2 f2_2 px_2 py_2
    go_region_held3 (fun w' => w'.cell? ⟨gpx, 0, none⟩ = some (.bool m1) ∧ w'.cell? ⟨gpx, 1, none⟩ = some (.slice o1 n1 c1) ∧ w'.cell? ⟨gpy, 0, none⟩ = some (.bool m2) ∧ w'.cell? ⟨gpy, 1, none⟩ = some (.slice o2 n2 c2))
      (first | with_reducible exact ⟨px_3.c0, px_3.c1, py_3.c0, py_3.c1⟩ | with_reducible exact ⟨px_4.c0, px_4.c1, py_4.c0, py_4.c1⟩ | with_reducible exact ⟨px_5.c0, px_5.c1, py_5.c0, py_5.c1⟩ | with_reducible exact ⟨px_6.c0, px_6.c1, py_6.c0, py_6.c1⟩ | with_reducible exact ⟨px_7.c0, px_7.c1, py_7.c0, py_7.c1⟩ | fail)
      (first
        | (go_at_call 21; (with_reducible refine (nMul_any _ _ 2 2 x x _ (by omega) (by omega) f1_3.num f1_3.num).mono ?_); rintro e w7 ⟨m3, o3, n3, c3, rfl, f3_0, hb7⟩; have hB_4 := hB_3.trans (hb7.mono hB_3.size); have pr_4 := pr_3.below hb7; have f1_4 := f1_3.below hb7; have f2_4 := f2_3.below hb7; have px_4 := px_3.below hb7; have py_4 := py_3.below hb7; clear hb7 hB_3 pr_3 f1_3 f2_3 px_3 py_3)
        | (go_at_call 21; (with_reducible refine (nMul_any _ _ 2 2 y y _ (by omega) (by omega) f2_4.num f2_4.num).mono ?_); rintro e w8 ⟨m4, o4, n4, c4, rfl, f4_0, hb8⟩; have hB_5 := hB_4.trans (hb8.mono hB_4.size); have pr_5 := pr_4.below hb8; have f1_5 := f1_4.below hb8; have f2_5 := f2_4.below hb8; have px_5 := px_4.below hb8; have py_5 := py_4.below hb8; have f3_1 := f3_0.below hb8; clear hb8 hB_4 pr_4 f1_4 f2_4 px_4 py_4 f3_0)
        | (go_at_call 30; (with_reducible refine (nAdd_any _ _ 4 4 _ _ _ (by omega) (by omega) f3_1.num f4_0.num).mono ?_); rintro e w9 ⟨m5, o5, n5, c5, rfl, f5_0, hb9⟩; have hB_6 := hB_5.trans (hb9.mono hB_5.size); have pr_6 := pr_5.below hb9; have f1_6 := f1_5.below hb9; have f2_6 := f2_5.below hb9; have px_6 := px_5.below hb9; have py_6 := py_5.below hb9; have f3_2 := f3_1.below hb9; have f4_1 := f4_0.below hb9; clear hb9 hB_5 pr_5 f1_5 f2_5 px_5 py_5 f3_1 f4_0; obtain ⟨sf3a, sf3b, sf3c, sf3d⟩ := pr_6.open2; obtain ⟨sg3a, sg3b⟩ := Box.put2 pr_6 (.bool m5); have hB_7 := below_setAll hB_6 (g := w.heap.size + 1 + 1) (by omega) [.bool m5, .slice o5 n5 c5]; have f1_7 := f1_6.setAll pr_6 (noWord2 _ _ _ _) [.bool m5, .slice o5 n5 c5] rfl; have f2_7 := f2_6.setAll pr_6 (noWord2 _ _ _ _) [.bool m5, .slice o5 n5 c5] rfl; have px_7 := px_6.farAll (g' := w.heap.size + 1 + 1) (by omega) [.bool m5, .slice o5 n5 c5]; have py_7 := py_6.farAll (g' := w.heap.size + 1 + 1) (by omega) [.bool m5, .slice o5 n5 c5]; have f3_3 := f3_2.setAll pr_6 (noWord2 _ _ _ _) [.bool m5, .slice o5 n5 c5] rfl; have f4_2 := f4_1.setAll pr_6 (noWord2 _ _ _ _) [.bool m5, .slice o5 n5 c5] rfl; have f5_1 := f5_0.setAll pr_6 (noWord2 _ _ _ _) [.bool m5, .slice o5 n5 c5] rfl; have pr_7 := pr_6.setAll [.bool m5, .slice o5 n5 c5] rfl; simp only [setAll, Nat.zero_add] at hB_7 pr_7 f1_7 f2_7 px_7 py_7 f3_3 f4_2 f5_1))
    clear hB_6 f1_6 f2_6 px_6 py_6 f3_2 f4_1 f5_0 pr_6
    clear sf3a sf3b sf3c sf3d sg3a sg3b
    generalize (World.setCell (World.setCell w9 ⟨w.heap.size + 1 + 1, 0, none⟩ (.bool m5)) ⟨w.heap.size + 1 + 1, 1, none⟩ (.slice o5 n5 c5)) = w10 at *
    go_wp2
    obtain ⟨pre0, pre1, pre2, pre3⟩ := pr_7.open2
    exact bodyPost_ret (v := .agg #[.bool m5, .slice o5 n5 c5]) (by simp [results, Try.results19, go_sem, pre0, pre1]) rfl ⟨_, _, _, _, rfl, f5_1, hB_7⟩
  simp only [HAq.out, Act.put, List.setIfInBounds_toArray, List.set_cons_zero, List.set_cons_succ] at stq_2tt
  have stq_2tf : ∀ (w' : World) (m1 : Bool) (o1 : Option Addr) (n1 : Nat) (c1 : Nat) (m2 : Bool) (o2 : Option Addr) (n2 : Nat) (c2 : Nat) (gpx : Nat), Below w.heap.size w w' → Box w' (w.heap.size) [.int .i64 a0, .int .i64 a1] → Box w' (w.heap.size + 1) [.int .i64 b0, .int .i64 b1] → Box w' (w.heap.size + 1 + 1) [.bool false, .slice none 0 0] → Below w3.heap.size w3 w' → RNum w' (.agg #[.bool m1, .slice o1 n1 c1]) (2) (x) → RNum w' (.agg #[.bool m2, .slice o2 n2 c2]) (2) (y) → Box w' gpx [.bool false, .slice none 0 0] → w3.heap.size ≤ gpx → WWq 3 #[true, true, true, true, true, true, true, true, true, true, true, false, false, false] (((aq.put (some 11) (.agg #[.bool m1, .slice o1 n1 c1])).put (some 16) (.agg #[.bool m2, .slice o2 n2 c2])).put (some 5) (.pointer (some ⟨gpx, 0, none⟩))) w' := by
    intro w11 m1 o1 n1 c1 m2 o2 n2 c2 gpx hB_0 pa_0 pb_0 pr_0 hWq_0 f1_0 f2_0 px_0 hgpx
    rw [HWq.out, HAq.out]
    try simp only [Act.put]
    try simp only [List.setIfInBounds_toArray, List.set_cons_zero, List.set_cons_succ]
    refine reg_all1 11 ?_ (by kernel_rfl) ?_ (fun K hK => ?_)
    rotate_left 1
    · simp only [List.getElem?_toArray, List.getElem?_cons_succ, List.getElem?_cons_zero]; exact rfl
    · go_simp
      have hgn : w3.heap.size ≤ w11.heap.size := hWq_0.size
      have hlpx := px_0.lt
      obtain ⟨w12, hww12, py_0, hb12, -⟩ := new_box w11 _ rfl [.bool false, .slice none 0 0] 29
      rw [hww12]
      have hB_1 := hB_0.trans (hb12.mono hB_0.size)
      have pa_1 := pa_0.below hb12
      have pb_1 := pb_0.below hb12
      have pr_1 := pr_0.below hb12
      have hWq_1 := hWq_0.trans (hb12.mono hWq_0.size)
      have f1_1 := f1_0.below hb12
      have f2_1 := f2_0.below hb12
      have px_1 := px_0.below hb12
      clear hb12 hB_0 pa_0 pb_0 pr_0 hWq_0 f1_0 f2_0 px_0
      refine hK.out _ _ ⟨pa_1.c0, pa_1.c1, pb_1.c0, pb_1.c1⟩ (fun hHeld => ?_)
      clear hK K
      try simp only [Act.put]
      try simp only [List.setIfInBounds_toArray, List.set_cons_zero, List.set_cons_succ]
      rw [← HWq.out]
      exact stq_2tt _ m1 o1 n1 c1 m2 o2 n2 c2 gpx w11.heap.size hB_1 pa_1 pb_1 pr_1 hWq_1 f1_1 f2_1 px_1 py_0 (by omega) (by omega) (by omega)
  try simp only [HAq.out, Act.put, List.setIfInBounds_toArray, List.set_cons_zero, List.set_cons_succ] at stq_2tf
  have stq_2ft : ∀ (w' : World) (m1 : Bool) (o1 : Option Addr) (n1 : Nat) (c1 : Nat) (m2 : Bool) (o2 : Option Addr) (n2 : Nat) (c2 : Nat) (gpy : Nat), Below w.heap.size w w' → Box w' (w.heap.size) [.int .i64 a0, .int .i64 a1] → Box w' (w.heap.size + 1) [.int .i64 b0, .int .i64 b1] → Box w' (w.heap.size + 1 + 1) [.bool false, .slice none 0 0] → Below w3.heap.size w3 w' → RNum w' (.agg #[.bool m1, .slice o1 n1 c1]) (2) (x) → RNum w' (.agg #[.bool m2, .slice o2 n2 c2]) (2) (y) → Box w' gpy [.bool false, .slice none 0 0] → w3.heap.size ≤ gpy → WWq 3 #[true, true, true, true, true, true, true, true, true, true, false, true, false, false] (((aq.put (some 11) (.agg #[.bool m1, .slice o1 n1 c1])).put (some 16) (.agg #[.bool m2, .slice o2 n2 c2])).put (some 6) (.pointer (some ⟨gpy, 0, none⟩))) w' := by
    intro w13 m1 o1 n1 c1 m2 o2 n2 c2 gpy hB_0 pa_0 pb_0 pr_0 hWq_0 f1_0 f2_0 py_0 hgpy
    rw [HWq.out, HAq.out]
    try simp only [Act.put]
    try simp only [List.setIfInBounds_toArray, List.set_cons_zero, List.set_cons_succ]
    refine reg_all1 10 ?_ (by kernel_rfl) ?_ (fun K hK => ?_)
    rotate_left 1
    · simp only [List.getElem?_toArray, List.getElem?_cons_succ, List.getElem?_cons_zero]; exact rfl
    · go_simp
      have hgn : w3.heap.size ≤ w13.heap.size := hWq_0.size
      have hlpy := py_0.lt
      obtain ⟨w14, hww14, px_0, hb14, -⟩ := new_box w13 _ rfl [.bool false, .slice none 0 0] 29
      rw [hww14]
      have hB_1 := hB_0.trans (hb14.mono hB_0.size)
      have pa_1 := pa_0.below hb14
      have pb_1 := pb_0.below hb14
      have pr_1 := pr_0.below hb14
      have hWq_1 := hWq_0.trans (hb14.mono hWq_0.size)
      have f1_1 := f1_0.below hb14
      have f2_1 := f2_0.below hb14
      have py_1 := py_0.below hb14
      clear hb14 hB_0 pa_0 pb_0 pr_0 hWq_0 f1_0 f2_0 py_0
      refine hK.out _ _ ⟨pa_1.c0, pa_1.c1, pb_1.c0, pb_1.c1⟩ (fun hHeld => ?_)
      clear hK K
      try simp only [Act.put]
      try simp only [List.setIfInBounds_toArray, List.set_cons_zero, List.set_cons_succ]
      rw [← HWq.out]
      exact stq_2tt _ m1 o1 n1 c1 m2 o2 n2 c2 w13.heap.size gpy hB_1 pa_1 pb_1 pr_1 hWq_1 f1_1 f2_1 px_0 py_1 (by omega) (by omega) (by omega)
  try simp only [HAq.out, Act.put, List.setIfInBounds_toArray, List.set_cons_zero, List.set_cons_succ] at stq_2ft
  have stq_1tt : ∀ (w' : World) (m1 : Bool) (o1 : Option Addr) (n1 : Nat) (c1 : Nat) (gpx : Nat) (gpy : Nat), Below w.heap.size w w' → Box w' (w.heap.size) [.int .i64 a0, .int .i64 a1] → Box w' (w.heap.size + 1) [.int .i64 b0, .int .i64 b1] → Box w' (w.heap.size + 1 + 1) [.bool false, .slice none 0 0] → Below w3.heap.size w3 w' → RNum w' (.agg #[.bool m1, .slice o1 n1 c1]) (2) (x) → Box w' gpx [.bool false, .slice none 0 0] → Box w' gpy [.bool false, .slice none 0 0] → w3.heap.size ≤ gpx → w3.heap.size ≤ gpy → gpx ≠ gpy → WWq 3 #[true, true, true, true, true, true, true, true, true, false, true, true, false, false] (((aq.put (some 11) (.agg #[.bool m1, .slice o1 n1 c1])).put (some 5) (.pointer (some ⟨gpx, 0, none⟩))).put (some 6) (.pointer (some ⟨gpy, 0, none⟩))) w' := by
    intro w15 m1 o1 n1 c1 gpx gpy hB_0 pa_0 pb_0 pr_0 hWq_0 f1_0 px_0 py_0 hgpx hgpy hnpxpy
    rw [HWq.out, HAq.out]
    try simp only [Act.put]
    try simp only [List.setIfInBounds_toArray, List.set_cons_zero, List.set_cons_succ]
    refine reg_all1 9 ?_ (by kernel_rfl) ?_ (fun K hK => ?_)
    rotate_left 1
    · simp only [List.getElem?_toArray, List.getElem?_cons_succ, List.getElem?_cons_zero]; exact rfl
    · go_simp
      refine (CY.out _).mono ?_
      rintro e w16 ⟨m2, o2, n2, c2, rfl, f2_0, hb16⟩
      have hB_1 := hB_0.trans (hb16.mono hB_0.size)
      have pa_1 := pa_0.below hb16
      have pb_1 := pb_0.below hb16
      have pr_1 := pr_0.below hb16
      have hWq_1 := hWq_0.trans (hb16.mono hWq_0.size)
      have f1_1 := f1_0.below hb16
      have px_1 := px_0.below hb16
      have py_1 := py_0.below hb16
      clear hb16 hB_0 pa_0 pb_0 pr_0 hWq_0 f1_0 px_0 py_0
      go_wp2_with fail
      refine hK.out _ _ ⟨pa_1.c0, pa_1.c1, pb_1.c0, pb_1.c1⟩ (fun hHeld => ?_)
      clear hK K
      try simp only [Act.put]
      try simp only [List.setIfInBounds_toArray, List.set_cons_zero, List.set_cons_succ]
      rw [← HWq.out]
      exact stq_2tt _ m1 o1 n1 c1 m2 o2 n2 c2 gpx gpy hB_1 pa_1 pb_1 pr_1 hWq_1 f1_1 f2_0 px_1 py_1 (by omega) (by omega) (by omega)
  try simp only [HAq.out, Act.put, List.setIfInBounds_toArray, List.set_cons_zero, List.set_cons_succ] at stq_1tt
  have stq_2ff : ∀ (w' : World) (m1 : Bool) (o1 : Option Addr) (n1 : Nat) (c1 : Nat) (m2 : Bool) (o2 : Option Addr) (n2 : Nat) (c2 : Nat), Below w.heap.size w w' → Box w' (w.heap.size) [.int .i64 a0, .int .i64 a1] → Box w' (w.heap.size + 1) [.int .i64 b0, .int .i64 b1] → Box w' (w.heap.size + 1 + 1) [.bool false, .slice none 0 0] → Below w3.heap.size w3 w' → RNum w' (.agg #[.bool m1, .slice o1 n1 c1]) (2) (x) → RNum w' (.agg #[.bool m2, .slice o2 n2 c2]) (2) (y) → WWq 4 #[true, true, true, true, true, true, true, true, true, true, false, false, false, false] ((aq.put (some 11) (.agg #[.bool m1, .slice o1 n1 c1])).put (some 16) (.agg #[.bool m2, .slice o2 n2 c2])) w' := by
    intro w17 m1 o1 n1 c1 m2 o2 n2 c2 hB_0 pa_0 pb_0 pr_0 hWq_0 f1_0 f2_0
    rw [HWq.out, HAq.out]
    try simp only [Act.put]
    try simp only [List.setIfInBounds_toArray, List.set_cons_zero, List.set_cons_succ]
    refine reg_all2 10 11 ?_ ?_ (by kernel_rfl) ?_ ?_ (fun K hK => ?_) (fun K hK => ?_)
    rotate_left 2
    · simp only [List.getElem?_toArray, List.getElem?_cons_succ, List.getElem?_cons_zero]; exact rfl
    · simp only [List.getElem?_toArray, List.getElem?_cons_succ, List.getElem?_cons_zero]; exact rfl
    · go_simp
      have hgn : w3.heap.size ≤ w17.heap.size := hWq_0.size
      obtain ⟨w18, hww18, px_0, hb18, -⟩ := new_box w17 _ rfl [.bool false, .slice none 0 0] 29
      rw [hww18]
      have hB_1 := hB_0.trans (hb18.mono hB_0.size)
      have pa_1 := pa_0.below hb18
      have pb_1 := pb_0.below hb18
      have pr_1 := pr_0.below hb18
      have hWq_1 := hWq_0.trans (hb18.mono hWq_0.size)
      have f1_1 := f1_0.below hb18
      have f2_1 := f2_0.below hb18
      clear hb18 hB_0 pa_0 pb_0 pr_0 hWq_0 f1_0 f2_0
      refine hK.out _ _ ⟨pa_1.c0, pa_1.c1, pb_1.c0, pb_1.c1⟩ (fun hHeld => ?_)
      clear hK K
      try simp only [Act.put]
      try simp only [List.setIfInBounds_toArray, List.set_cons_zero, List.set_cons_succ]
      rw [← HWq.out]
      exact stq_2tf _ m1 o1 n1 c1 m2 o2 n2 c2 w17.heap.size hB_1 pa_1 pb_1 pr_1 hWq_1 f1_1 f2_1 px_0 (by omega)
    · go_simp
      have hgn : w3.heap.size ≤ w17.heap.size := hWq_0.size
      obtain ⟨w19, hww19, py_0, hb19, -⟩ := new_box w17 _ rfl [.bool false, .slice none 0 0] 29
      rw [hww19]
      have hB_1 := hB_0.trans (hb19.mono hB_0.size)
      have pa_1 := pa_0.below hb19
      have pb_1 := pb_0.below hb19
      have pr_1 := pr_0.below hb19
      have hWq_1 := hWq_0.trans (hb19.mono hWq_0.size)
      have f1_1 := f1_0.below hb19
      have f2_1 := f2_0.below hb19
      clear hb19 hB_0 pa_0 pb_0 pr_0 hWq_0 f1_0 f2_0
      refine hK.out _ _ ⟨pa_1.c0, pa_1.c1, pb_1.c0, pb_1.c1⟩ (fun hHeld => ?_)
      clear hK K
      try simp only [Act.put]
      try simp only [List.setIfInBounds_toArray, List.set_cons_zero, List.set_cons_succ]
      rw [← HWq.out]
      exact stq_2ft _ m1 o1 n1 c1 m2 o2 n2 c2 w17.heap.size hB_1 pa_1 pb_1 pr_1 hWq_1 f1_1 f2_1 py_0 (by omega)
  try simp only [HAq.out, Act.put, List.setIfInBounds_toArray, List.set_cons_zero, List.set_cons_succ] at stq_2ff
  have stq_1tf : ∀ (w' : World) (m1 : Bool) (o1 : Option Addr) (n1 : Nat) (c1 : Nat) (gpx : Nat), Below w.heap.size w w' → Box w' (w.heap.size) [.int .i64 a0, .int .i64 a1] → Box w' (w.heap.size + 1) [.int .i64 b0, .int .i64 b1] → Box w' (w.heap.size + 1 + 1) [.bool false, .slice none 0 0] → Below w3.heap.size w3 w' → RNum w' (.agg #[.bool m1, .slice o1 n1 c1]) (2) (x) → Box w' gpx [.bool false, .slice none 0 0] → w3.heap.size ≤ gpx → WWq 4 #[true, true, true, true, true, true, true, true, true, false, true, false, false, false] ((aq.put (some 11) (.agg #[.bool m1, .slice o1 n1 c1])).put (some 5) (.pointer (some ⟨gpx, 0, none⟩))) w' := by
    intro w20 m1 o1 n1 c1 gpx hB_0 pa_0 pb_0 pr_0 hWq_0 f1_0 px_0 hgpx
    rw [HWq.out, HAq.out]
    try simp only [Act.put]
    try simp only [List.setIfInBounds_toArray, List.set_cons_zero, List.set_cons_succ]
    refine reg_all2 9 11 ?_ ?_ (by kernel_rfl) ?_ ?_ (fun K hK => ?_) (fun K hK => ?_)
    rotate_left 2
    · simp only [List.getElem?_toArray, List.getElem?_cons_succ, List.getElem?_cons_zero]; exact rfl
    · simp only [List.getElem?_toArray, List.getElem?_cons_succ, List.getElem?_cons_zero]; exact rfl
    · go_simp
      refine (CY.out _).mono ?_
      rintro e w21 ⟨m2, o2, n2, c2, rfl, f2_0, hb21⟩
      have hB_1 := hB_0.trans (hb21.mono hB_0.size)
      have pa_1 := pa_0.below hb21
      have pb_1 := pb_0.below hb21
      have pr_1 := pr_0.below hb21
      have hWq_1 := hWq_0.trans (hb21.mono hWq_0.size)
      have f1_1 := f1_0.below hb21
      have px_1 := px_0.below hb21
      clear hb21 hB_0 pa_0 pb_0 pr_0 hWq_0 f1_0 px_0
      go_wp2_with fail
      refine hK.out _ _ ⟨pa_1.c0, pa_1.c1, pb_1.c0, pb_1.c1⟩ (fun hHeld => ?_)
      clear hK K
      try simp only [Act.put]
      try simp only [List.setIfInBounds_toArray, List.set_cons_zero, List.set_cons_succ]
      rw [← HWq.out]
      exact stq_2tf _ m1 o1 n1 c1 m2 o2 n2 c2 gpx hB_1 pa_1 pb_1 pr_1 hWq_1 f1_1 f2_0 px_1 (by omega)
    · go_simp
      have hgn : w3.heap.size ≤ w20.heap.size := hWq_0.size
      have hlpx := px_0.lt
      obtain ⟨w22, hww22, py_0, hb22, -⟩ := new_box w20 _ rfl [.bool false, .slice none 0 0] 29
      rw [hww22]
      have hB_1 := hB_0.trans (hb22.mono hB_0.size)
      have pa_1 := pa_0.below hb22
      have pb_1 := pb_0.below hb22
      have pr_1 := pr_0.below hb22
      have hWq_1 := hWq_0.trans (hb22.mono hWq_0.size)
      have f1_1 := f1_0.below hb22
      have px_1 := px_0.below hb22
      clear hb22 hB_0 pa_0 pb_0 pr_0 hWq_0 f1_0 px_0
      refine hK.out _ _ ⟨pa_1.c0, pa_1.c1, pb_1.c0, pb_1.c1⟩ (fun hHeld => ?_)
      clear hK K
      try simp only [Act.put]
      try simp only [List.setIfInBounds_toArray, List.set_cons_zero, List.set_cons_succ]
      rw [← HWq.out]
      exact stq_1tt _ m1 o1 n1 c1 gpx w20.heap.size hB_1 pa_1 pb_1 pr_1 hWq_1 f1_1 px_1 py_0 (by omega) (by omega) (by omega)
  try simp only [HAq.out, Act.put, List.setIfInBounds_toArray, List.set_cons_zero, List.set_cons_succ] at stq_1tf
  have stq_1ft : ∀ (w' : World) (m1 : Bool) (o1 : Option Addr) (n1 : Nat) (c1 : Nat) (gpy : Nat), Below w.heap.size w w' → Box w' (w.heap.size) [.int .i64 a0, .int .i64 a1] → Box w' (w.heap.size + 1) [.int .i64 b0, .int .i64 b1] → Box w' (w.heap.size + 1 + 1) [.bool false, .slice none 0 0] → Below w3.heap.size w3 w' → RNum w' (.agg #[.bool m1, .slice o1 n1 c1]) (2) (x) → Box w' gpy [.bool false, .slice none 0 0] → w3.heap.size ≤ gpy → WWq 4 #[true, true, true, true, true, true, true, true, true, false, false, true, false, false] ((aq.put (some 11) (.agg #[.bool m1, .slice o1 n1 c1])).put (some 6) (.pointer (some ⟨gpy, 0, none⟩))) w' := by
    intro w23 m1 o1 n1 c1 gpy hB_0 pa_0 pb_0 pr_0 hWq_0 f1_0 py_0 hgpy
    rw [HWq.out, HAq.out]
    try simp only [Act.put]
    try simp only [List.setIfInBounds_toArray, List.set_cons_zero, List.set_cons_succ]
    refine reg_all2 9 10 ?_ ?_ (by kernel_rfl) ?_ ?_ (fun K hK => ?_) (fun K hK => ?_)
    rotate_left 2
    · simp only [List.getElem?_toArray, List.getElem?_cons_succ, List.getElem?_cons_zero]; exact rfl
    · simp only [List.getElem?_toArray, List.getElem?_cons_succ, List.getElem?_cons_zero]; exact rfl
    · go_simp
      refine (CY.out _).mono ?_
      rintro e w24 ⟨m2, o2, n2, c2, rfl, f2_0, hb24⟩
      have hB_1 := hB_0.trans (hb24.mono hB_0.size)
      have pa_1 := pa_0.below hb24
      have pb_1 := pb_0.below hb24
      have pr_1 := pr_0.below hb24
      have hWq_1 := hWq_0.trans (hb24.mono hWq_0.size)
      have f1_1 := f1_0.below hb24
      have py_1 := py_0.below hb24
      clear hb24 hB_0 pa_0 pb_0 pr_0 hWq_0 f1_0 py_0
      go_wp2_with fail
      refine hK.out _ _ ⟨pa_1.c0, pa_1.c1, pb_1.c0, pb_1.c1⟩ (fun hHeld => ?_)
      clear hK K
      try simp only [Act.put]
      try simp only [List.setIfInBounds_toArray, List.set_cons_zero, List.set_cons_succ]
      rw [← HWq.out]
      exact stq_2ft _ m1 o1 n1 c1 m2 o2 n2 c2 gpy hB_1 pa_1 pb_1 pr_1 hWq_1 f1_1 f2_0 py_1 (by omega)
    · go_simp
      have hgn : w3.heap.size ≤ w23.heap.size := hWq_0.size
      have hlpy := py_0.lt
      obtain ⟨w25, hww25, px_0, hb25, -⟩ := new_box w23 _ rfl [.bool false, .slice none 0 0] 29
      rw [hww25]
      have hB_1 := hB_0.trans (hb25.mono hB_0.size)
      have pa_1 := pa_0.below hb25
      have pb_1 := pb_0.below hb25
      have pr_1 := pr_0.below hb25
      have hWq_1 := hWq_0.trans (hb25.mono hWq_0.size)
      have f1_1 := f1_0.below hb25
      have py_1 := py_0.below hb25
      clear hb25 hB_0 pa_0 pb_0 pr_0 hWq_0 f1_0 py_0
      refine hK.out _ _ ⟨pa_1.c0, pa_1.c1, pb_1.c0, pb_1.c1⟩ (fun hHeld => ?_)
      clear hK K
      try simp only [Act.put]
      try simp only [List.setIfInBounds_toArray, List.set_cons_zero, List.set_cons_succ]
      rw [← HWq.out]
      exact stq_1tt _ m1 o1 n1 c1 w23.heap.size gpy hB_1 pa_1 pb_1 pr_1 hWq_1 f1_1 px_0 py_1 (by omega) (by omega) (by omega)
  try simp only [HAq.out, Act.put, List.setIfInBounds_toArray, List.set_cons_zero, List.set_cons_succ] at stq_1ft
  have stq_0tt : ∀ (w' : World) (gpx : Nat) (gpy : Nat), Below w.heap.size w w' → Box w' (w.heap.size) [.int .i64 a0, .int .i64 a1] → Box w' (w.heap.size + 1) [.int .i64 b0, .int .i64 b1] → Box w' (w.heap.size + 1 + 1) [.bool false, .slice none 0 0] → Below w3.heap.size w3 w' → Box w' gpx [.bool false, .slice none 0 0] → Box w' gpy [.bool false, .slice none 0 0] → w3.heap.size ≤ gpx → w3.heap.size ≤ gpy → gpx ≠ gpy → WWq 4 #[true, true, true, true, false, true, true, true, true, false, true, true, false, false] ((aq.put (some 5) (.pointer (some ⟨gpx, 0, none⟩))).put (some 6) (.pointer (some ⟨gpy, 0, none⟩))) w' := by
    intro w26 gpx gpy hB_0 pa_0 pb_0 pr_0 hWq_0 px_0 py_0 hgpx hgpy hnpxpy
    rw [HWq.out, HAq.out]
    try simp only [Act.put]
    try simp only [List.setIfInBounds_toArray, List.set_cons_zero, List.set_cons_succ]
    refine reg_all1 4 ?_ (by kernel_rfl) ?_ (fun K hK => ?_)
    rotate_left 1
    · simp only [List.getElem?_toArray, List.getElem?_cons_succ, List.getElem?_cons_zero]; exact rfl
    · go_simp
      refine (CX.out _).mono ?_
      rintro e w27 ⟨m1, o1, n1, c1, rfl, f1_0, hb27⟩
      have hB_1 := hB_0.trans (hb27.mono hB_0.size)
      have pa_1 := pa_0.below hb27
      have pb_1 := pb_0.below hb27
      have pr_1 := pr_0.below hb27
      have hWq_1 := hWq_0.trans (hb27.mono hWq_0.size)
      have px_1 := px_0.below hb27
      have py_1 := py_0.below hb27
      clear hb27 hB_0 pa_0 pb_0 pr_0 hWq_0 px_0 py_0
      go_wp2_with fail
      refine hK.out _ _ ⟨pa_1.c0, pa_1.c1, pb_1.c0, pb_1.c1⟩ (fun hHeld => ?_)
      clear hK K
      try simp only [Act.put]
      try simp only [List.setIfInBounds_toArray, List.set_cons_zero, List.set_cons_succ]
      rw [← HWq.out]
      exact stq_1tt _ m1 o1 n1 c1 gpx gpy hB_1 pa_1 pb_1 pr_1 hWq_1 f1_0 px_1 py_1 (by omega) (by omega) (by omega)
  try simp only [HAq.out, Act.put, List.setIfInBounds_toArray, List.set_cons_zero, List.set_cons_succ] at stq_0tt
  have stq_1ff : ∀ (w' : World) (m1 : Bool) (o1 : Option Addr) (n1 : Nat) (c1 : Nat), Below w.heap.size w w' → Box w' (w.heap.size) [.int .i64 a0, .int .i64 a1] → Box w' (w.heap.size + 1) [.int .i64 b0, .int .i64 b1] → Box w' (w.heap.size + 1 + 1) [.bool false, .slice none 0 0] → Below w3.heap.size w3 w' → RNum w' (.agg #[.bool m1, .slice o1 n1 c1]) (2) (x) → WWq 5 #[true, true, true, true, true, true, true, true, true, false, false, false, false, false] (aq.put (some 11) (.agg #[.bool m1, .slice o1 n1 c1])) w' := by
    intro w28 m1 o1 n1 c1 hB_0 pa_0 pb_0 pr_0 hWq_0 f1_0
    rw [HWq.out, HAq.out]
    try simp only [Act.put]
    try simp only [List.setIfInBounds_toArray, List.set_cons_zero, List.set_cons_succ]
    refine reg_all3 9 10 11 ?_ ?_ ?_ (by kernel_rfl) ?_ ?_ ?_ (fun K hK => ?_) (fun K hK => ?_) (fun K hK => ?_)
    rotate_left 3
    · simp only [List.getElem?_toArray, List.getElem?_cons_succ, List.getElem?_cons_zero]; exact rfl
    · simp only [List.getElem?_toArray, List.getElem?_cons_succ, List.getElem?_cons_zero]; exact rfl
    · simp only [List.getElem?_toArray, List.getElem?_cons_succ, List.getElem?_cons_zero]; exact rfl
    · go_simp
      refine (CY.out _).mono ?_
      rintro e w29 ⟨m2, o2, n2, c2, rfl, f2_0, hb29⟩
      have hB_1 := hB_0.trans (hb29.mono hB_0.size)
      have pa_1 := pa_0.below hb29
      have pb_1 := pb_0.below hb29
      have pr_1 := pr_0.below hb29
      have hWq_1 := hWq_0.trans (hb29.mono hWq_0.size)
      have f1_1 := f1_0.below hb29
      clear hb29 hB_0 pa_0 pb_0 pr_0 hWq_0 f1_0
      go_wp2_with fail
      refine hK.out _ _ ⟨pa_1.c0, pa_1.c1, pb_1.c0, pb_1.c1⟩ (fun hHeld => ?_)
      clear hK K
      try simp only [Act.put]
      try simp only [List.setIfInBounds_toArray, List.set_cons_zero, List.set_cons_succ]
      rw [← HWq.out]
      exact stq_2ff _ m1 o1 n1 c1 m2 o2 n2 c2 hB_1 pa_1 pb_1 pr_1 hWq_1 f1_1 f2_0
    · go_simp
      have hgn : w3.heap.size ≤ w28.heap.size := hWq_0.size
      obtain ⟨w30, hww30, px_0, hb30, -⟩ := new_box w28 _ rfl [.bool false, .slice none 0 0] 29
      rw [hww30]
      have hB_1 := hB_0.trans (hb30.mono hB_0.size)
      have pa_1 := pa_0.below hb30
      have pb_1 := pb_0.below hb30
      have pr_1 := pr_0.below hb30
      have hWq_1 := hWq_0.trans (hb30.mono hWq_0.size)
      have f1_1 := f1_0.below hb30
      clear hb30 hB_0 pa_0 pb_0 pr_0 hWq_0 f1_0
      refine hK.out _ _ ⟨pa_1.c0, pa_1.c1, pb_1.c0, pb_1.c1⟩ (fun hHeld => ?_)
      clear hK K
      try simp only [Act.put]
      try simp only [List.setIfInBounds_toArray, List.set_cons_zero, List.set_cons_succ]
      rw [← HWq.out]
      exact stq_1tf _ m1 o1 n1 c1 w28.heap.size hB_1 pa_1 pb_1 pr_1 hWq_1 f1_1 px_0 (by omega)
    · go_simp
      have hgn : w3.heap.size ≤ w28.heap.size := hWq_0.size
      obtain ⟨w31, hww31, py_0, hb31, -⟩ := new_box w28 _ rfl [.bool false, .slice none 0 0] 29
      rw [hww31]
      have hB_1 := hB_0.trans (hb31.mono hB_0.size)
      have pa_1 := pa_0.below hb31
      have pb_1 := pb_0.below hb31
      have pr_1 := pr_0.below hb31
      have hWq_1 := hWq_0.trans (hb31.mono hWq_0.size)
      have f1_1 := f1_0.below hb31
      clear hb31 hB_0 pa_0 pb_0 pr_0 hWq_0 f1_0
      refine hK.out _ _ ⟨pa_1.c0, pa_1.c1, pb_1.c0, pb_1.c1⟩ (fun hHeld => ?_)
      clear hK K
      try simp only [Act.put]
      try simp only [List.setIfInBounds_toArray, List.set_cons_zero, List.set_cons_succ]
      rw [← HWq.out]
      exact stq_1ft _ m1 o1 n1 c1 w28.heap.size hB_1 pa_1 pb_1 pr_1 hWq_1 f1_1 py_0 (by omega)
  try simp only [HAq.out, Act.put, List.setIfInBounds_toArray, List.set_cons_zero, List.set_cons_succ] at stq_1ff
  have stq_0tf : ∀ (w' : World) (gpx : Nat), Below w.heap.size w w' → Box w' (w.heap.size) [.int .i64 a0, .int .i64 a1] → Box w' (w.heap.size + 1) [.int .i64 b0, .int .i64 b1] → Box w' (w.heap.size + 1 + 1) [.bool false, .slice none 0 0] → Below w3.heap.size w3 w' → Box w' gpx [.bool false, .slice none 0 0] → w3.heap.size ≤ gpx → WWq 5 #[true, true, true, true, false, true, true, true, true, false, true, false, false, false] (aq.put (some 5) (.pointer (some ⟨gpx, 0, none⟩))) w' := by
    intro w32 gpx hB_0 pa_0 pb_0 pr_0 hWq_0 px_0 hgpx
    rw [HWq.out, HAq.out]
    try simp only [Act.put]
    try simp only [List.setIfInBounds_toArray, List.set_cons_zero, List.set_cons_succ]
    refine reg_all2 4 11 ?_ ?_ (by kernel_rfl) ?_ ?_ (fun K hK => ?_) (fun K hK => ?_)
    rotate_left 2
    · simp only [List.getElem?_toArray, List.getElem?_cons_succ, List.getElem?_cons_zero]; exact rfl
    · simp only [List.getElem?_toArray, List.getElem?_cons_succ, List.getElem?_cons_zero]; exact rfl
    · go_simp
      refine (CX.out _).mono ?_
      rintro e w33 ⟨m1, o1, n1, c1, rfl, f1_0, hb33⟩
      have hB_1 := hB_0.trans (hb33.mono hB_0.size)
      have pa_1 := pa_0.below hb33
      have pb_1 := pb_0.below hb33
      have pr_1 := pr_0.below hb33
      have hWq_1 := hWq_0.trans (hb33.mono hWq_0.size)
      have px_1 := px_0.below hb33
      clear hb33 hB_0 pa_0 pb_0 pr_0 hWq_0 px_0
      go_wp2_with fail
      refine hK.out _ _ ⟨pa_1.c0, pa_1.c1, pb_1.c0, pb_1.c1⟩ (fun hHeld => ?_)
      clear hK K
      try simp only [Act.put]
      try simp only [List.setIfInBounds_toArray, List.set_cons_zero, List.set_cons_succ]
      rw [← HWq.out]
      exact stq_1tf _ m1 o1 n1 c1 gpx hB_1 pa_1 pb_1 pr_1 hWq_1 f1_0 px_1 (by omega)
    · go_simp
      have hgn : w3.heap.size ≤ w32.heap.size := hWq_0.size
      have hlpx := px_0.lt
      obtain ⟨w34, hww34, py_0, hb34, -⟩ := new_box w32 _ rfl [.bool false, .slice none 0 0] 29
      rw [hww34]
      have hB_1 := hB_0.trans (hb34.mono hB_0.size)
      have pa_1 := pa_0.below hb34
      have pb_1 := pb_0.below hb34
      have pr_1 := pr_0.below hb34
      have hWq_1 := hWq_0.trans (hb34.mono hWq_0.size)
      have px_1 := px_0.below hb34
      clear hb34 hB_0 pa_0 pb_0 pr_0 hWq_0 px_0
      refine hK.out _ _ ⟨pa_1.c0, pa_1.c1, pb_1.c0, pb_1.c1⟩ (fun hHeld => ?_)
      clear hK K
      try simp only [Act.put]
      try simp only [List.setIfInBounds_toArray, List.set_cons_zero, List.set_cons_succ]
      rw [← HWq.out]
      exact stq_0tt _ gpx w32.heap.size hB_1 pa_1 pb_1 pr_1 hWq_1 px_1 py_0 (by omega) (by omega) (by omega)
  try simp only [HAq.out, Act.put, List.setIfInBounds_toArray, List.set_cons_zero, List.set_cons_succ] at stq_0tf
  have stq_0ft : ∀ (w' : World) (gpy : Nat), Below w.heap.size w w' → Box w' (w.heap.size) [.int .i64 a0, .int .i64 a1] → Box w' (w.heap.size + 1) [.int .i64 b0, .int .i64 b1] → Box w' (w.heap.size + 1 + 1) [.bool false, .slice none 0 0] → Below w3.heap.size w3 w' → Box w' gpy [.bool false, .slice none 0 0] → w3.heap.size ≤ gpy → WWq 5 #[true, true, true, true, false, true, true, true, true, false, false, true, false, false] (aq.put (some 6) (.pointer (some ⟨gpy, 0, none⟩))) w' := by
    intro w35 gpy hB_0 pa_0 pb_0 pr_0 hWq_0 py_0 hgpy
    rw [HWq.out, HAq.out]
    try simp only [Act.put]
    try simp only [List.setIfInBounds_toArray, List.set_cons_zero, List.set_cons_succ]
    refine reg_all2 4 10 ?_ ?_ (by kernel_rfl) ?_ ?_ (fun K hK => ?_) (fun K hK => ?_)
    rotate_left 2
    · simp only [List.getElem?_toArray, List.getElem?_cons_succ, List.getElem?_cons_zero]; exact rfl
    · simp only [List.getElem?_toArray, List.getElem?_cons_succ, List.getElem?_cons_zero]; exact rfl
    · go_simp
      refine (CX.out _).mono ?_
      rintro e w36 ⟨m1, o1, n1, c1, rfl, f1_0, hb36⟩
      have hB_1 := hB_0.trans (hb36.mono hB_0.size)
      have pa_1 := pa_0.below hb36
      have pb_1 := pb_0.below hb36
      have pr_1 := pr_0.below hb36
      have hWq_1 := hWq_0.trans (hb36.mono hWq_0.size)
      have py_1 := py_0.below hb36
      clear hb36 hB_0 pa_0 pb_0 pr_0 hWq_0 py_0
      go_wp2_with fail
      refine hK.out _ _ ⟨pa_1.c0, pa_1.c1, pb_1.c0, pb_1.c1⟩ (fun hHeld => ?_)
      clear hK K
      try simp only [Act.put]
      try simp only [List.setIfInBounds_toArray, List.set_cons_zero, List.set_cons_succ]
      rw [← HWq.out]
      exact stq_1ft _ m1 o1 n1 c1 gpy hB_1 pa_1 pb_1 pr_1 hWq_1 f1_0 py_1 (by omega)
    · go_simp
      have hgn : w3.heap.size ≤ w35.heap.size := hWq_0.size
      have hlpy := py_0.lt
      obtain ⟨w37, hww37, px_0, hb37, -⟩ := new_box w35 _ rfl [.bool false, .slice none 0 0] 29
      rw [hww37]
      have hB_1 := hB_0.trans (hb37.mono hB_0.size)
      have pa_1 := pa_0.below hb37
      have pb_1 := pb_0.below hb37
      have pr_1 := pr_0.below hb37
      have hWq_1 := hWq_0.trans (hb37.mono hWq_0.size)
      have py_1 := py_0.below hb37
      clear hb37 hB_0 pa_0 pb_0 pr_0 hWq_0 py_0
      refine hK.out _ _ ⟨pa_1.c0, pa_1.c1, pb_1.c0, pb_1.c1⟩ (fun hHeld => ?_)
      clear hK K
      try simp only [Act.put]
      try simp only [List.setIfInBounds_toArray, List.set_cons_zero, List.set_cons_succ]
      rw [← HWq.out]
      exact stq_0tt _ w35.heap.size gpy hB_1 pa_1 pb_1 pr_1 hWq_1 px_0 py_1 (by omega) (by omega) (by omega)
  try simp only [HAq.out, Act.put, List.setIfInBounds_toArray, List.set_cons_zero, List.set_cons_succ] at stq_0ft
  have stq_0ff : ∀ (w' : World), Below w.heap.size w w' → Box w' (w.heap.size) [.int .i64 a0, .int .i64 a1] → Box w' (w.heap.size + 1) [.int .i64 b0, .int .i64 b1] → Box w' (w.heap.size + 1 + 1) [.bool false, .slice none 0 0] → Below w3.heap.size w3 w' → WWq 6 #[true, true, true, true, false, true, true, true, true, false, false, false, false, false] aq w' := by
    intro w38 hB_0 pa_0 pb_0 pr_0 hWq_0
    rw [HWq.out, HAq.out]
    try simp only [Act.put]
    try simp only [List.setIfInBounds_toArray, List.set_cons_zero, List.set_cons_succ]
    refine reg_all3 4 10 11 ?_ ?_ ?_ (by kernel_rfl) ?_ ?_ ?_ (fun K hK => ?_) (fun K hK => ?_) (fun K hK => ?_)
    rotate_left 3
    · simp only [List.getElem?_toArray, List.getElem?_cons_succ, List.getElem?_cons_zero]; exact rfl
    · simp only [List.getElem?_toArray, List.getElem?_cons_succ, List.getElem?_cons_zero]; exact rfl
    · simp only [List.getElem?_toArray, List.getElem?_cons_succ, List.getElem?_cons_zero]; exact rfl
    · go_simp
      refine (CX.out _).mono ?_
      rintro e w39 ⟨m1, o1, n1, c1, rfl, f1_0, hb39⟩
      have hB_1 := hB_0.trans (hb39.mono hB_0.size)
      have pa_1 := pa_0.below hb39
      have pb_1 := pb_0.below hb39
      have pr_1 := pr_0.below hb39
      have hWq_1 := hWq_0.trans (hb39.mono hWq_0.size)
      clear hb39 hB_0 pa_0 pb_0 pr_0 hWq_0
      go_wp2_with fail
      refine hK.out _ _ ⟨pa_1.c0, pa_1.c1, pb_1.c0, pb_1.c1⟩ (fun hHeld => ?_)
      clear hK K
      try simp only [Act.put]
      try simp only [List.setIfInBounds_toArray, List.set_cons_zero, List.set_cons_succ]
      rw [← HWq.out]
      exact stq_1ff _ m1 o1 n1 c1 hB_1 pa_1 pb_1 pr_1 hWq_1 f1_0
    · go_simp
      have hgn : w3.heap.size ≤ w38.heap.size := hWq_0.size
      obtain ⟨w40, hww40, px_0, hb40, -⟩ := new_box w38 _ rfl [.bool false, .slice none 0 0] 29
      rw [hww40]
      have hB_1 := hB_0.trans (hb40.mono hB_0.size)
      have pa_1 := pa_0.below hb40
      have pb_1 := pb_0.below hb40
      have pr_1 := pr_0.below hb40
      have hWq_1 := hWq_0.trans (hb40.mono hWq_0.size)
      clear hb40 hB_0 pa_0 pb_0 pr_0 hWq_0
      refine hK.out _ _ ⟨pa_1.c0, pa_1.c1, pb_1.c0, pb_1.c1⟩ (fun hHeld => ?_)
      clear hK K
      try simp only [Act.put]
      try simp only [List.setIfInBounds_toArray, List.set_cons_zero, List.set_cons_succ]
      rw [← HWq.out]
      exact stq_0tf _ w38.heap.size hB_1 pa_1 pb_1 pr_1 hWq_1 px_0 (by omega)
    · go_simp
      have hgn : w3.heap.size ≤ w38.heap.size := hWq_0.size
      obtain ⟨w41, hww41, py_0, hb41, -⟩ := new_box w38 _ rfl [.bool false, .slice none 0 0] 29
      rw [hww41]
      have hB_1 := hB_0.trans (hb41.mono hB_0.size)
      have pa_1 := pa_0.below hb41
      have pb_1 := pb_0.below hb41
      have pr_1 := pr_0.below hb41
      have hWq_1 := hWq_0.trans (hb41.mono hWq_0.size)
      clear hb41 hB_0 pa_0 pb_0 pr_0 hWq_0
      refine hK.out _ _ ⟨pa_1.c0, pa_1.c1, pb_1.c0, pb_1.c1⟩ (fun hHeld => ?_)
      clear hK K
      try simp only [Act.put]
      try simp only [List.setIfInBounds_toArray, List.set_cons_zero, List.set_cons_succ]
      rw [← HWq.out]
      exact stq_0ft _ w38.heap.size hB_1 pa_1 pb_1 pr_1 hWq_1 py_0 (by omega)
  exact stq_0ff _ hB_4 pa_3 pb_2 pr_1 hWq_1
theorem square_any (a0 a1 b0 b1 : Int) (ha0 : InP a0) (ha1 : InP a1) (hb0 : InP b0) (hb1 : InP b1) (w : World) :
    Calls Try.prog 19 #[.agg #[.int .i64 a0, .int .i64 a1], .agg #[.int .i64 b0, .int .i64 b1]] w fun e w' => AnsNum w w' e 5 (sqd a0 a1 b0 b1) :=
  square_w a0 a1 b0 b1 _ _ (fun w => lessP a0 b0 ha0 hb0 w) (fun w => lessP a1 b1 ha1 hb1 w) w
end Go.Proofs.Ytjciefoademlnaa
/- The statements' own area2, of three points. -/
namespace Go.Proofs.Ytjciefoademlnaa
open Go.RowKit Go.MagM
set_option maxHeartbeats 16000000 in
theorem area2_three (a0 a1 b0 b1 v0 v1 : Int) (g : Nat) (w : World) (ha0 : InP a0) (ha1 : InP a1) (hb0 : InP b0) (hb1 : InP b1) (hv0 : InP v0) (hv1 : InP v1) (pl_0 : Box w g [.int .i64 a0, .int .i64 a1, .int .i64 b0, .int .i64 b1, .int .i64 v0, .int .i64 v1]) :
    Calls Try.prog 11 #[.slice (some ⟨g, 0, none⟩) 3 3] w fun e w' => AnsNum w w' e 7 (crs a0 a1 b0 b1 v0 v1) := by
  have hB_0 := Below.refl w.heap.size w
  have HA0 := Lib.hid ha0; have HA1 := Lib.hid ha1; have HB0 := Lib.hid hb0; have HB1 := Lib.hid hb1; have HV0 := Lib.hid hv0; have HV1 := Lib.hid hv1
  clear ha0 ha1 hb0 hb1 hv0 hv1
  have hlg := pl_0.lt
  obtain ⟨w1, hw1, pr_0, hb1, hs1⟩ := new_box w (w.heap.size) rfl [.bool false, .slice none 0 0] 29
  have hb1' : Below w.heap.size w w1 := hb1.mono (by omega)
  clear hb1
  have hB_1 := hB_0.trans (hb1'.mono hB_0.size)
  have pl_1 := pl_0.below hb1'
  clear hb1' hB_0 pl_0
  go_enter Try.func11, Try.ntmps11
  obtain ⟨pre0, pre1, pre2, pre3⟩ := pr_0.open2
  go_wp2_with fail
  refine (nOf_any 0 (by omega) (by omega) _).mono ?_
  rintro e w2 ⟨m1, o1, n1, c1, rfl, f1_0, hb2⟩
  clear pre0 pre1 pre2 pre3
  have hB_2 := hB_1.trans (hb2.mono hB_1.size)
  have pl_2 := pl_1.below hb2
  have pr_1 := pr_0.below hb2
  clear hb2 hB_1 pl_1 pr_0
  obtain ⟨pre0, pre1, pre2, pre3⟩ := pr_1.open2
  clear pre0 pre1 pre2 pre3
  have hl1pl := pl_2.lt
  have hl1pr := pr_1.lt
  have hl1B := hB_2.size
  obtain ⟨w3, hw3, po_0, hb3, hs3⟩ := new_box w2 (w2.heap.size) rfl [.bool m1, .slice o1 n1 c1] 29
  have hb3' : Below w2.heap.size w2 w3 := hb3.mono (by omega)
  clear hb3
  have hB_3 := hB_2.trans (hb3'.mono hB_2.size)
  have pl_3 := pl_2.below hb3'
  have pr_2 := pr_1.below hb3'
  have f1_1 := f1_0.below hb3'
  clear hb3' hB_2 pl_2 pr_1 f1_0
  obtain ⟨pre0, pre1, pre2, pre3⟩ := pr_2.open2
  obtain ⟨poe0, poe1, poe2, poe3⟩ := po_0.open2
  go_wp2
  have hgp : w.heap.size < w2.heap.size := by have := hl1pr; omega
  clear pre0 pre1 pre2 pre3 poe0 poe1 poe2 poe3
  go_loopw [10] (fun iv wr => ∃ j : Nat, ∃ X : Int, j ≤ 3 ∧ iv = .int .i64 j ∧ (j = 0 → X = 0) ∧ (j = 1 → X = 0 + (a0 * b1 - a1 * b0)) ∧ (j = 2 → X = 0 + (a0 * b1 - a1 * b0) + (b0 * v1 - b1 * v0)) ∧ (j = 3 → X = 0 + (a0 * b1 - a1 * b0) + (b0 * v1 - b1 * v0) + (v0 * a1 - v1 * a0)) ∧ Below w.heap.size w wr ∧ Box wr g [.int .i64 a0, .int .i64 a1, .int .i64 b0, .int .i64 b1, .int .i64 v0, .int .i64 v1] ∧ Box wr w.heap.size [.bool false, .slice none 0 0] ∧
      w2.heap.size < wr.heap.size ∧ w.heap.size < w2.heap.size ∧ g < w.heap.size ∧ ∃ m tp tn tc, Box wr (w2.heap.size) [.bool m, .slice tp tn tc] ∧ RNum wr (.agg #[.bool m, .slice tp tn tc]) (4 + j) X) (fun iv _ => 3 - (intOf iv).toNat)
  case atStart => exact ⟨0, _, by omega, rfl, fun _ => rfl, fun h => absurd h (by omega), fun h => absurd h (by omega), fun h => absurd h (by omega), hB_3, pl_3, pr_2, po_0.lt, hgp, hlg, _, _, _, _, po_0, f1_1.more (by omega)⟩
  case round =>
    obtain ⟨j, X, hj, rfl, x0, x1, x2, x3, hB_0, pl_0, pr_0, hgt, hwg, hlg, m1, o1, n1, c1, po_0, f1_0⟩ := hrel
    obtain rfl | rfl | rfl | rfl : j = 0 ∨ j = 1 ∨ j = 2 ∨ j = 3 := by omega
    · obtain rfl := x0 rfl
      clear x0 x1 x2 x3 hj
      obtain ⟨xl0, xl1, xl2, xl3, xl4, xl5, xl6, xl7, xl8, xl9, xl10, xl11⟩ := pl_0.open6
      have hl2pl := pl_0.lt
      have hl2pr := pr_0.lt
      have hl2po := po_0.lt
      have hl2B := hB_0.size
      obtain ⟨w4, hw4, pp_0, hb4, hs4⟩ := new_box wr (wr.heap.size) rfl [.int .i64 a0, .int .i64 a1] 23
      have hb4' : Below wr.heap.size wr w4 := hb4.mono (by omega)
      clear hb4
      have hB_1 := hB_0.trans (hb4'.mono hB_0.size)
      have pl_1 := pl_0.below hb4'
      have pr_1 := pr_0.below hb4'
      have po_1 := po_0.below hb4'
      have f1_1 := f1_0.below hb4'
      clear hb4' hB_0 pl_0 pr_0 po_0 f1_0
      obtain ⟨yl0, yl1, yl2, yl3, yl4, yl5, yl6, yl7, yl8, yl9, yl10, yl11⟩ := pl_1.open6
      have hl3pl := pl_1.lt
      have hl3pr := pr_1.lt
      have hl3po := po_1.lt
      have hl3pp := pp_0.lt
      have hl3B := hB_1.size
      obtain ⟨w5, hw5, pq_0, hb5, hs5⟩ := new_box w4 (wr.heap.size + 1) hs4 [.int .i64 b0, .int .i64 b1] 23
      have hb5' : Below w4.heap.size w4 w5 := hb5.mono (by omega)
      clear hb5
      have hB_2 := hB_1.trans (hb5'.mono hB_1.size)
      have pl_2 := pl_1.below hb5'
      have pr_2 := pr_1.below hb5'
      have po_2 := po_1.below hb5'
      have f1_2 := f1_1.below hb5'
      have pp_1 := pp_0.below hb5'
      clear hb5' hB_1 pl_1 pr_1 po_1 f1_1 pp_0
      obtain ⟨ple0, ple1, ple2, ple3, ple4, ple5, ple6, ple7, ple8, ple9, ple10, ple11⟩ := pl_2.open6
      obtain ⟨ppe0, ppe1, ppe2, ppe3⟩ := pp_1.open2
      obtain ⟨pqe0, pqe1, pqe2, pqe3⟩ := pq_0.open2
      obtain ⟨poe0, poe1, poe2, poe3⟩ := po_2.open2
      go_wp2
      clear xl0 xl1 xl2 xl3 xl4 xl5 xl6 xl7 xl8 xl9 xl10 xl11 yl0 yl1 yl2 yl3 yl4 yl5 yl6 yl7 yl8 yl9 yl10 yl11
      clear ple0 ple1 ple2 ple3 ple4 ple5 ple6 ple7 ple8 ple9 ple10 ple11 ppe0 ppe1 ppe2 ppe3 pqe0 pqe1 pqe2 pqe3 poe0 poe1 poe2 poe3
      have hWu_0 := Below.refl w5.heap.size w5
      have hsu : w.heap.size ≤ w5.heap.size := hB_2.size
      have hlupl := pl_2.lt
      have hlupr := pr_2.lt
      have hlupo := po_2.lt
      have hlupp := pp_1.lt
      have hlupq := pq_0.lt
      have hB_3 := hB_2.drew'
      have pl_3 := pl_2.drew
      have pr_3 := pr_2.drew
      have po_3 := po_2.drew
      have f1_3 := f1_2.drew
      have pp_2 := pp_1.drew
      have pq_1 := pq_0.drew
      have hWu_1 := hWu_0.drew'
      clear hB_2 pl_2 pr_2 po_2 f1_2 pp_1 pq_0 hWu_0
      refine wp_region_noPanic ?_
      refine wp_region_held_drew (S := fun w' => w'.cell? ⟨wr.heap.size, 0, none⟩ = some (.int .i64 a0) ∧ w'.cell? ⟨wr.heap.size, 1, none⟩ = some (.int .i64 a1) ∧ w'.cell? ⟨wr.heap.size + 1, 0, none⟩ = some (.int .i64 b0) ∧ w'.cell? ⟨wr.heap.size + 1, 1, none⟩ = some (.int .i64 b1)) (by kernel_rfl) (⟨pp_2.c0, pp_2.c1, pq_1.c0, pq_1.c1⟩) (fun hHeld => ?_)
      refine reg_take 1 ?_ ?_ ?_ (by kernel_rfl) (by kernel_rfl) (by kernel_rfl) (fun _ _ _ h => h) ?_ ?_ (by assumption) ?_
      rotate_left 2
      · simp only [List.getElem?_toArray, List.getElem?_cons_succ, List.getElem?_cons_zero]; exact rfl
      · rfl
      · intro w hSw; (try dsimp only at hSw); go_simp; try with_reducible rfl
      try simp only [Act.put]
      try simp only [List.setIfInBounds_toArray, List.set_cons_zero, List.set_cons_succ]
      refine reg_take 2 ?_ ?_ ?_ (by kernel_rfl) (by kernel_rfl) (by kernel_rfl) (fun _ _ _ h => h) ?_ ?_ (by assumption) ?_
      rotate_left 2
      · simp only [List.getElem?_toArray, List.getElem?_cons_succ, List.getElem?_cons_zero]; exact rfl
      · rfl
      · intro w hSw; (try dsimp only at hSw); go_simp; try with_reducible rfl
      try simp only [Act.put]
      try simp only [List.setIfInBounds_toArray, List.set_cons_zero, List.set_cons_succ]
      refine reg_take 4 ?_ ?_ ?_ (by kernel_rfl) (by kernel_rfl) (by kernel_rfl) (fun _ _ _ h => h) ?_ ?_ (by assumption) ?_
      rotate_left 2
      · simp only [List.getElem?_toArray, List.getElem?_cons_succ, List.getElem?_cons_zero]; exact rfl
      · rfl
      · intro w hSw; (try dsimp only at hSw); go_simp; try with_reducible rfl
      try simp only [Act.put]
      try simp only [List.setIfInBounds_toArray, List.set_cons_zero, List.set_cons_succ]
      refine reg_take 5 ?_ ?_ ?_ (by kernel_rfl) (by kernel_rfl) (by kernel_rfl) (fun _ _ _ h => h) ?_ ?_ (by assumption) ?_
      rotate_left 2
      · simp only [List.getElem?_toArray, List.getElem?_cons_succ, List.getElem?_cons_zero]; exact rfl
      · rfl
      · intro w hSw; (try dsimp only at hSw); go_simp; try with_reducible rfl
      try simp only [Act.put]
      try simp only [List.setIfInBounds_toArray, List.set_cons_zero, List.set_cons_succ]
      refine reg_take 7 ?_ ?_ ?_ (by kernel_rfl) (by kernel_rfl) (by kernel_rfl) (fun _ _ _ h => h) ?_ ?_ (by assumption) ?_
      rotate_left 2
      · simp only [List.getElem?_toArray, List.getElem?_cons_succ, List.getElem?_cons_zero]; exact rfl
      · rfl
      · intro w hSw; (try dsimp only at hSw); go_simp; try with_reducible rfl
      try simp only [Act.put]
      try simp only [List.setIfInBounds_toArray, List.set_cons_zero, List.set_cons_succ]
      refine reg_take 8 ?_ ?_ ?_ (by kernel_rfl) (by kernel_rfl) (by kernel_rfl) (fun _ _ _ h => h) ?_ ?_ (by assumption) ?_
      rotate_left 2
      · simp only [List.getElem?_toArray, List.getElem?_cons_succ, List.getElem?_cons_zero]; exact rfl
      · rfl
      · intro w hSw; (try dsimp only at hSw); go_simp; try with_reducible rfl
      try simp only [Act.put]
      try simp only [List.setIfInBounds_toArray, List.set_cons_zero, List.set_cons_succ]
      refine reg_take 10 ?_ ?_ ?_ (by kernel_rfl) (by kernel_rfl) (by kernel_rfl) (fun _ _ _ h => h) ?_ ?_ (by assumption) ?_
      rotate_left 2
      · simp only [List.getElem?_toArray, List.getElem?_cons_succ, List.getElem?_cons_zero]; exact rfl
      · rfl
      · intro w hSw; (try dsimp only at hSw); go_simp; try with_reducible rfl
      try simp only [Act.put]
      try simp only [List.setIfInBounds_toArray, List.set_cons_zero, List.set_cons_succ]
      refine reg_take 11 ?_ ?_ ?_ (by kernel_rfl) (by kernel_rfl) (by kernel_rfl) (fun _ _ _ h => h) ?_ ?_ (by assumption) ?_
      rotate_left 2
      · simp only [List.getElem?_toArray, List.getElem?_cons_succ, List.getElem?_cons_zero]; exact rfl
      · rfl
      · intro w hSw; (try dsimp only at hSw); go_simp; try with_reducible rfl
      try simp only [Act.put]
      try simp only [List.setIfInBounds_toArray, List.set_cons_zero, List.set_cons_succ]
      refine reg_grab (fun WWu au hWW hAA => ?_)
      have HWu := Lib.hid hWW; have HAu := Lib.hid hAA; clear hWW hAA hHeld
      have stu_6t : ∀ (w' : World) (m2 : Bool) (o2 : Option Addr) (n2 : Nat) (c2 : Nat) (m3 : Bool) (o3 : Option Addr) (n3 : Nat) (c3 : Nat) (m4 : Bool) (o4 : Option Addr) (n4 : Nat) (c4 : Nat) (m5 : Bool) (o5 : Option Addr) (n5 : Nat) (c5 : Nat) (m6 : Bool) (o6 : Option Addr) (n6 : Nat) (c6 : Nat) (m7 : Bool) (o7 : Option Addr) (n7 : Nat) (c7 : Nat), Below w.heap.size w w' → Box w' (g) [.int .i64 a0, .int .i64 a1, .int .i64 b0, .int .i64 b1, .int .i64 v0, .int .i64 v1] → Box w' (w.heap.size) [.bool false, .slice none 0 0] → Box w' (w2.heap.size) [.bool m1, .slice o1 n1 c1] → RNum w' (.agg #[.bool m1, .slice o1 n1 c1]) (4) (0) → Box w' (wr.heap.size) [.int .i64 a0, .int .i64 a1] → Box w' (wr.heap.size + 1) [.int .i64 b0, .int .i64 b1] → Below w5.heap.size w5 w' → RNum w' (.agg #[.bool m2, .slice o2 n2 c2]) (1) (a0) → RNum w' (.agg #[.bool m3, .slice o3 n3 c3]) (1) (a1) → RNum w' (.agg #[.bool m4, .slice o4 n4 c4]) (1) (b0) → RNum w' (.agg #[.bool m5, .slice o5 n5 c5]) (1) (b1) → RNum w' (.agg #[.bool m6, .slice o6 n6 c6]) (3) (a0 * b1 - a1 * b0) → RNum w' (.agg #[.bool m7, .slice o7 n7 c7]) (5) (0 + (a0 * b1 - a1 * b0)) → WWu 1 #[true, true, true, true, true, true, true, true, true, true, true, true, true, true, true, false] (((((((au.put (some 23) (.agg #[.bool m1, .slice o1 n1 c1])).put (some 26) (.agg #[.bool m2, .slice o2 n2 c2])).put (some 29) (.agg #[.bool m3, .slice o3 n3 c3])).put (some 32) (.agg #[.bool m4, .slice o4 n4 c4])).put (some 35) (.agg #[.bool m5, .slice o5 n5 c5])).put (some 36) (.agg #[.bool m6, .slice o6 n6 c6])).put (some 37) (.agg #[.bool m7, .slice o7 n7 c7])) w' := by
        intro w6 m2 o2 n2 c2 m3 o3 n3 c3 m4 o4 n4 c4 m5 o5 n5 c5 m6 o6 n6 c6 m7 o7 n7 c7 hB_0 pl_0 pr_0 po_0 f1_0 pp_0 pq_0 hWu_0 f2_0 f3_0 f4_0 f5_0 f6_0 f7_0
        rw [HWu.out, HAu.out]
        try simp only [Act.put]
        try simp only [List.setIfInBounds_toArray, List.set_cons_zero, List.set_cons_succ]
        clear hWu_0
        obtain ⟨sf1a, sf1b, sf1c, sf1d⟩ := po_0.open2
        obtain ⟨sg1a, sg1b⟩ := Box.put2 po_0 (.bool m7)
        refine reg_call 15 ?_ (by kernel_rfl) ?_ (fun K hK => ?_)
        rotate_left 1
        · simp only [List.getElem?_toArray, List.getElem?_cons_succ, List.getElem?_cons_zero]; exact rfl
        go_simp
        have hB_1 := below_setAll hB_0 (g := w2.heap.size) (by omega) [.bool m7, .slice o7 n7 c7]
        have pl_1 := pl_0.farAll (g' := w2.heap.size) (by omega) [.bool m7, .slice o7 n7 c7]
        have pr_1 := pr_0.farAll (g' := w2.heap.size) (by omega) [.bool m7, .slice o7 n7 c7]
        have f1_1 := f1_0.setAll po_0 (noWord2 _ _ _ _) [.bool m7, .slice o7 n7 c7] rfl
        have pp_1 := pp_0.farAll (g' := w2.heap.size) (by omega) [.bool m7, .slice o7 n7 c7]
        have pq_1 := pq_0.farAll (g' := w2.heap.size) (by omega) [.bool m7, .slice o7 n7 c7]
        have f2_1 := f2_0.setAll po_0 (noWord2 _ _ _ _) [.bool m7, .slice o7 n7 c7] rfl
        have f3_1 := f3_0.setAll po_0 (noWord2 _ _ _ _) [.bool m7, .slice o7 n7 c7] rfl
        have f4_1 := f4_0.setAll po_0 (noWord2 _ _ _ _) [.bool m7, .slice o7 n7 c7] rfl
        have f5_1 := f5_0.setAll po_0 (noWord2 _ _ _ _) [.bool m7, .slice o7 n7 c7] rfl
        have f6_1 := f6_0.setAll po_0 (noWord2 _ _ _ _) [.bool m7, .slice o7 n7 c7] rfl
        have f7_1 := f7_0.setAll po_0 (noWord2 _ _ _ _) [.bool m7, .slice o7 n7 c7] rfl
        have po_1 := po_0.setAll [.bool m7, .slice o7 n7 c7] rfl
        simp only [setAll, Nat.zero_add] at hB_1 pl_1 pr_1 po_1 f1_1 pp_1 pq_1 f2_1 f3_1 f4_1 f5_1 f6_1 f7_1
        clear sf1a sf1b sf1c sf1d sg1a sg1b
        clear hB_0 pl_0 pr_0 f1_0 pp_0 pq_0 f2_0 f3_0 f4_0 f5_0 f6_0 f7_0 po_0
        refine hK.out _ _ ⟨pp_1.c0, pp_1.c1, pq_1.c0, pq_1.c1⟩ (fun hHeld => ?_)
        clear hK K
        try simp only [Act.put]
        try simp only [List.setIfInBounds_toArray, List.set_cons_zero, List.set_cons_succ]
        generalize (World.setCell (World.setCell w6 ⟨w2.heap.size, 0, none⟩ (.bool m7)) ⟨w2.heap.size, 1, none⟩ (.slice o7 n7 c7)) = w7 at *
        refine wpAnyH_done (by kernel_rfl) ?_ _
        refine NoPanic.normal ?_
        go_wp2
        exact ⟨⟨1, _, by omega, by go_num, fun h => absurd h (by omega), fun _ => rfl, fun h => absurd h (by omega), fun h => absurd h (by omega), hB_1, pl_1, pr_1, po_1.lt, hwg, hlg, _, _, _, _, po_1, f7_1⟩, by simp [intOf]⟩
      simp only [HAu.out, Act.put, List.setIfInBounds_toArray, List.set_cons_zero, List.set_cons_succ] at stu_6t
      have stu_5t : ∀ (w' : World) (m2 : Bool) (o2 : Option Addr) (n2 : Nat) (c2 : Nat) (m3 : Bool) (o3 : Option Addr) (n3 : Nat) (c3 : Nat) (m4 : Bool) (o4 : Option Addr) (n4 : Nat) (c4 : Nat) (m5 : Bool) (o5 : Option Addr) (n5 : Nat) (c5 : Nat) (m6 : Bool) (o6 : Option Addr) (n6 : Nat) (c6 : Nat), Below w.heap.size w w' → Box w' (g) [.int .i64 a0, .int .i64 a1, .int .i64 b0, .int .i64 b1, .int .i64 v0, .int .i64 v1] → Box w' (w.heap.size) [.bool false, .slice none 0 0] → Box w' (w2.heap.size) [.bool m1, .slice o1 n1 c1] → RNum w' (.agg #[.bool m1, .slice o1 n1 c1]) (4) (0) → Box w' (wr.heap.size) [.int .i64 a0, .int .i64 a1] → Box w' (wr.heap.size + 1) [.int .i64 b0, .int .i64 b1] → Below w5.heap.size w5 w' → RNum w' (.agg #[.bool m2, .slice o2 n2 c2]) (1) (a0) → RNum w' (.agg #[.bool m3, .slice o3 n3 c3]) (1) (a1) → RNum w' (.agg #[.bool m4, .slice o4 n4 c4]) (1) (b0) → RNum w' (.agg #[.bool m5, .slice o5 n5 c5]) (1) (b1) → RNum w' (.agg #[.bool m6, .slice o6 n6 c6]) (3) (a0 * b1 - a1 * b0) → WWu 2 #[true, true, true, true, true, true, true, true, true, true, true, true, true, true, false, false] ((((((au.put (some 23) (.agg #[.bool m1, .slice o1 n1 c1])).put (some 26) (.agg #[.bool m2, .slice o2 n2 c2])).put (some 29) (.agg #[.bool m3, .slice o3 n3 c3])).put (some 32) (.agg #[.bool m4, .slice o4 n4 c4])).put (some 35) (.agg #[.bool m5, .slice o5 n5 c5])).put (some 36) (.agg #[.bool m6, .slice o6 n6 c6])) w' := by
        intro w8 m2 o2 n2 c2 m3 o3 n3 c3 m4 o4 n4 c4 m5 o5 n5 c5 m6 o6 n6 c6 hB_0 pl_0 pr_0 po_0 f1_0 pp_0 pq_0 hWu_0 f2_0 f3_0 f4_0 f5_0 f6_0
        rw [HWu.out, HAu.out]
        try simp only [Act.put]
        try simp only [List.setIfInBounds_toArray, List.set_cons_zero, List.set_cons_succ]
        refine reg_all1 14 ?_ (by kernel_rfl) ?_ (fun K hK => ?_)
        rotate_left 1
        · simp only [List.getElem?_toArray, List.getElem?_cons_succ, List.getElem?_cons_zero]; exact rfl
        · go_simp
          refine (nAdd_any _ _ 4 3 _ _ _ (by omega) (by omega) f1_0.num f6_0.num).mono ?_
          rintro e w9 ⟨m7, o7, n7, c7, rfl, f7_0, hb9⟩
          have hB_1 := hB_0.trans (hb9.mono hB_0.size)
          have pl_1 := pl_0.below hb9
          have pr_1 := pr_0.below hb9
          have po_1 := po_0.below hb9
          have f1_1 := f1_0.below hb9
          have pp_1 := pp_0.below hb9
          have pq_1 := pq_0.below hb9
          have hWu_1 := hWu_0.trans (hb9.mono hWu_0.size)
          have f2_1 := f2_0.below hb9
          have f3_1 := f3_0.below hb9
          have f4_1 := f4_0.below hb9
          have f5_1 := f5_0.below hb9
          have f6_1 := f6_0.below hb9
          clear hb9 hB_0 pl_0 pr_0 po_0 f1_0 pp_0 pq_0 hWu_0 f2_0 f3_0 f4_0 f5_0 f6_0
          go_wp2_with fail
          refine hK.out _ _ ⟨pp_1.c0, pp_1.c1, pq_1.c0, pq_1.c1⟩ (fun hHeld => ?_)
          clear hK K
          try simp only [Act.put]
          try simp only [List.setIfInBounds_toArray, List.set_cons_zero, List.set_cons_succ]
          rw [← HWu.out]
          exact stu_6t _ m2 o2 n2 c2 m3 o3 n3 c3 m4 o4 n4 c4 m5 o5 n5 c5 m6 o6 n6 c6 m7 o7 n7 c7 hB_1 pl_1 pr_1 po_1 f1_1 pp_1 pq_1 hWu_1 f2_1 f3_1 f4_1 f5_1 f6_1 f7_0
      try simp only [HAu.out, Act.put, List.setIfInBounds_toArray, List.set_cons_zero, List.set_cons_succ] at stu_5t
      have stu_5f : ∀ (w' : World) (m2 : Bool) (o2 : Option Addr) (n2 : Nat) (c2 : Nat) (m3 : Bool) (o3 : Option Addr) (n3 : Nat) (c3 : Nat) (m4 : Bool) (o4 : Option Addr) (n4 : Nat) (c4 : Nat) (m5 : Bool) (o5 : Option Addr) (n5 : Nat) (c5 : Nat) (m6 : Bool) (o6 : Option Addr) (n6 : Nat) (c6 : Nat), Below w.heap.size w w' → Box w' (g) [.int .i64 a0, .int .i64 a1, .int .i64 b0, .int .i64 b1, .int .i64 v0, .int .i64 v1] → Box w' (w.heap.size) [.bool false, .slice none 0 0] → Box w' (w2.heap.size) [.bool m1, .slice o1 n1 c1] → RNum w' (.agg #[.bool m1, .slice o1 n1 c1]) (4) (0) → Box w' (wr.heap.size) [.int .i64 a0, .int .i64 a1] → Box w' (wr.heap.size + 1) [.int .i64 b0, .int .i64 b1] → Below w5.heap.size w5 w' → RNum w' (.agg #[.bool m2, .slice o2 n2 c2]) (1) (a0) → RNum w' (.agg #[.bool m3, .slice o3 n3 c3]) (1) (a1) → RNum w' (.agg #[.bool m4, .slice o4 n4 c4]) (1) (b0) → RNum w' (.agg #[.bool m5, .slice o5 n5 c5]) (1) (b1) → RNum w' (.agg #[.bool m6, .slice o6 n6 c6]) (3) (a0 * b1 - a1 * b0) → WWu 3 #[false, true, true, true, true, true, true, true, true, true, true, true, true, true, false, false] (((((au.put (some 26) (.agg #[.bool m2, .slice o2 n2 c2])).put (some 29) (.agg #[.bool m3, .slice o3 n3 c3])).put (some 32) (.agg #[.bool m4, .slice o4 n4 c4])).put (some 35) (.agg #[.bool m5, .slice o5 n5 c5])).put (some 36) (.agg #[.bool m6, .slice o6 n6 c6])) w' := by
        intro w10 m2 o2 n2 c2 m3 o3 n3 c3 m4 o4 n4 c4 m5 o5 n5 c5 m6 o6 n6 c6 hB_0 pl_0 pr_0 po_0 f1_0 pp_0 pq_0 hWu_0 f2_0 f3_0 f4_0 f5_0 f6_0
        rw [HWu.out, HAu.out]
        try simp only [Act.put]
        try simp only [List.setIfInBounds_toArray, List.set_cons_zero, List.set_cons_succ]
        refine reg_all1 0 ?_ (by kernel_rfl) ?_ (fun K hK => ?_)
        rotate_left 1
        · simp only [List.getElem?_toArray, List.getElem?_cons_zero]; exact rfl
        · obtain ⟨poe0, poe1, poe2, poe3⟩ := po_0.open2
          go_simp
          clear poe0 poe1 poe2 poe3
          refine hK.out _ _ ⟨pp_0.c0, pp_0.c1, pq_0.c0, pq_0.c1⟩ (fun hHeld => ?_)
          clear hK K
          try simp only [Act.put]
          try simp only [List.setIfInBounds_toArray, List.set_cons_zero]
          rw [← HWu.out]
          exact stu_5t _ m2 o2 n2 c2 m3 o3 n3 c3 m4 o4 n4 c4 m5 o5 n5 c5 m6 o6 n6 c6 hB_0 pl_0 pr_0 po_0 f1_0 pp_0 pq_0 hWu_0 f2_0 f3_0 f4_0 f5_0 f6_0
      try simp only [HAu.out, Act.put, List.setIfInBounds_toArray, List.set_cons_zero, List.set_cons_succ] at stu_5f
      have stu_4t : ∀ (w' : World) (m2 : Bool) (o2 : Option Addr) (n2 : Nat) (c2 : Nat) (m3 : Bool) (o3 : Option Addr) (n3 : Nat) (c3 : Nat) (m4 : Bool) (o4 : Option Addr) (n4 : Nat) (c4 : Nat) (m5 : Bool) (o5 : Option Addr) (n5 : Nat) (c5 : Nat), Below w.heap.size w w' → Box w' (g) [.int .i64 a0, .int .i64 a1, .int .i64 b0, .int .i64 b1, .int .i64 v0, .int .i64 v1] → Box w' (w.heap.size) [.bool false, .slice none 0 0] → Box w' (w2.heap.size) [.bool m1, .slice o1 n1 c1] → RNum w' (.agg #[.bool m1, .slice o1 n1 c1]) (4) (0) → Box w' (wr.heap.size) [.int .i64 a0, .int .i64 a1] → Box w' (wr.heap.size + 1) [.int .i64 b0, .int .i64 b1] → Below w5.heap.size w5 w' → RNum w' (.agg #[.bool m2, .slice o2 n2 c2]) (1) (a0) → RNum w' (.agg #[.bool m3, .slice o3 n3 c3]) (1) (a1) → RNum w' (.agg #[.bool m4, .slice o4 n4 c4]) (1) (b0) → RNum w' (.agg #[.bool m5, .slice o5 n5 c5]) (1) (b1) → WWu 3 #[true, true, true, true, true, true, true, true, true, true, true, true, true, false, false, false] (((((au.put (some 23) (.agg #[.bool m1, .slice o1 n1 c1])).put (some 26) (.agg #[.bool m2, .slice o2 n2 c2])).put (some 29) (.agg #[.bool m3, .slice o3 n3 c3])).put (some 32) (.agg #[.bool m4, .slice o4 n4 c4])).put (some 35) (.agg #[.bool m5, .slice o5 n5 c5])) w' := by
        intro w11 m2 o2 n2 c2 m3 o3 n3 c3 m4 o4 n4 c4 m5 o5 n5 c5 hB_0 pl_0 pr_0 po_0 f1_0 pp_0 pq_0 hWu_0 f2_0 f3_0 f4_0 f5_0
        rw [HWu.out, HAu.out]
        try simp only [Act.put]
        try simp only [List.setIfInBounds_toArray, List.set_cons_zero, List.set_cons_succ]
        refine reg_all1 13 ?_ (by kernel_rfl) ?_ (fun K hK => ?_)
        rotate_left 1
        · simp only [List.getElem?_toArray, List.getElem?_cons_succ, List.getElem?_cons_zero]; exact rfl
        · go_simp
          refine (det_any _ _ _ _ 1 1 1 1 _ _ _ _ _ (by omega) (by omega) (by omega) (by omega) f2_0.num f3_0.num f4_0.num f5_0.num).mono ?_
          rintro e w12 ⟨m6, o6, n6, c6, rfl, f6_0, hb12⟩
          have hB_1 := hB_0.trans (hb12.mono hB_0.size)
          have pl_1 := pl_0.below hb12
          have pr_1 := pr_0.below hb12
          have po_1 := po_0.below hb12
          have f1_1 := f1_0.below hb12
          have pp_1 := pp_0.below hb12
          have pq_1 := pq_0.below hb12
          have hWu_1 := hWu_0.trans (hb12.mono hWu_0.size)
          have f2_1 := f2_0.below hb12
          have f3_1 := f3_0.below hb12
          have f4_1 := f4_0.below hb12
          have f5_1 := f5_0.below hb12
          clear hb12 hB_0 pl_0 pr_0 po_0 f1_0 pp_0 pq_0 hWu_0 f2_0 f3_0 f4_0 f5_0
          go_wp2_with fail
          refine hK.out _ _ ⟨pp_1.c0, pp_1.c1, pq_1.c0, pq_1.c1⟩ (fun hHeld => ?_)
          clear hK K
          try simp only [Act.put]
          try simp only [List.setIfInBounds_toArray, List.set_cons_zero, List.set_cons_succ]
          rw [← HWu.out]
          exact stu_5t _ m2 o2 n2 c2 m3 o3 n3 c3 m4 o4 n4 c4 m5 o5 n5 c5 m6 o6 n6 c6 hB_1 pl_1 pr_1 po_1 f1_1 pp_1 pq_1 hWu_1 f2_1 f3_1 f4_1 f5_1 f6_0
      try simp only [HAu.out, Act.put, List.setIfInBounds_toArray, List.set_cons_zero, List.set_cons_succ] at stu_4t
      have stu_4f : ∀ (w' : World) (m2 : Bool) (o2 : Option Addr) (n2 : Nat) (c2 : Nat) (m3 : Bool) (o3 : Option Addr) (n3 : Nat) (c3 : Nat) (m4 : Bool) (o4 : Option Addr) (n4 : Nat) (c4 : Nat) (m5 : Bool) (o5 : Option Addr) (n5 : Nat) (c5 : Nat), Below w.heap.size w w' → Box w' (g) [.int .i64 a0, .int .i64 a1, .int .i64 b0, .int .i64 b1, .int .i64 v0, .int .i64 v1] → Box w' (w.heap.size) [.bool false, .slice none 0 0] → Box w' (w2.heap.size) [.bool m1, .slice o1 n1 c1] → RNum w' (.agg #[.bool m1, .slice o1 n1 c1]) (4) (0) → Box w' (wr.heap.size) [.int .i64 a0, .int .i64 a1] → Box w' (wr.heap.size + 1) [.int .i64 b0, .int .i64 b1] → Below w5.heap.size w5 w' → RNum w' (.agg #[.bool m2, .slice o2 n2 c2]) (1) (a0) → RNum w' (.agg #[.bool m3, .slice o3 n3 c3]) (1) (a1) → RNum w' (.agg #[.bool m4, .slice o4 n4 c4]) (1) (b0) → RNum w' (.agg #[.bool m5, .slice o5 n5 c5]) (1) (b1) → WWu 4 #[false, true, true, true, true, true, true, true, true, true, true, true, true, false, false, false] ((((au.put (some 26) (.agg #[.bool m2, .slice o2 n2 c2])).put (some 29) (.agg #[.bool m3, .slice o3 n3 c3])).put (some 32) (.agg #[.bool m4, .slice o4 n4 c4])).put (some 35) (.agg #[.bool m5, .slice o5 n5 c5])) w' := by
        intro w13 m2 o2 n2 c2 m3 o3 n3 c3 m4 o4 n4 c4 m5 o5 n5 c5 hB_0 pl_0 pr_0 po_0 f1_0 pp_0 pq_0 hWu_0 f2_0 f3_0 f4_0 f5_0
        rw [HWu.out, HAu.out]
        try simp only [Act.put]
        try simp only [List.setIfInBounds_toArray, List.set_cons_zero, List.set_cons_succ]
        refine reg_all2 0 13 ?_ ?_ (by kernel_rfl) ?_ ?_ (fun K hK => ?_) (fun K hK => ?_)
        rotate_left 2
        · simp only [List.getElem?_toArray, List.getElem?_cons_zero]; exact rfl
        · simp only [List.getElem?_toArray, List.getElem?_cons_succ, List.getElem?_cons_zero]; exact rfl
        · obtain ⟨poe0, poe1, poe2, poe3⟩ := po_0.open2
          go_simp
          clear poe0 poe1 poe2 poe3
          refine hK.out _ _ ⟨pp_0.c0, pp_0.c1, pq_0.c0, pq_0.c1⟩ (fun hHeld => ?_)
          clear hK K
          try simp only [Act.put]
          try simp only [List.setIfInBounds_toArray, List.set_cons_zero]
          rw [← HWu.out]
          exact stu_4t _ m2 o2 n2 c2 m3 o3 n3 c3 m4 o4 n4 c4 m5 o5 n5 c5 hB_0 pl_0 pr_0 po_0 f1_0 pp_0 pq_0 hWu_0 f2_0 f3_0 f4_0 f5_0
        · go_simp
          refine (det_any _ _ _ _ 1 1 1 1 _ _ _ _ _ (by omega) (by omega) (by omega) (by omega) f2_0.num f3_0.num f4_0.num f5_0.num).mono ?_
          rintro e w14 ⟨m6, o6, n6, c6, rfl, f6_0, hb14⟩
          have hB_1 := hB_0.trans (hb14.mono hB_0.size)
          have pl_1 := pl_0.below hb14
          have pr_1 := pr_0.below hb14
          have po_1 := po_0.below hb14
          have f1_1 := f1_0.below hb14
          have pp_1 := pp_0.below hb14
          have pq_1 := pq_0.below hb14
          have hWu_1 := hWu_0.trans (hb14.mono hWu_0.size)
          have f2_1 := f2_0.below hb14
          have f3_1 := f3_0.below hb14
          have f4_1 := f4_0.below hb14
          have f5_1 := f5_0.below hb14
          clear hb14 hB_0 pl_0 pr_0 po_0 f1_0 pp_0 pq_0 hWu_0 f2_0 f3_0 f4_0 f5_0
          go_wp2_with fail
          refine hK.out _ _ ⟨pp_1.c0, pp_1.c1, pq_1.c0, pq_1.c1⟩ (fun hHeld => ?_)
          clear hK K
          try simp only [Act.put]
          try simp only [List.setIfInBounds_toArray, List.set_cons_zero, List.set_cons_succ]
          rw [← HWu.out]
          exact stu_5f _ m2 o2 n2 c2 m3 o3 n3 c3 m4 o4 n4 c4 m5 o5 n5 c5 m6 o6 n6 c6 hB_1 pl_1 pr_1 po_1 f1_1 pp_1 pq_1 hWu_1 f2_1 f3_1 f4_1 f5_1 f6_0
      try simp only [HAu.out, Act.put, List.setIfInBounds_toArray, List.set_cons_zero, List.set_cons_succ] at stu_4f
      have stu_3t : ∀ (w' : World) (m2 : Bool) (o2 : Option Addr) (n2 : Nat) (c2 : Nat) (m3 : Bool) (o3 : Option Addr) (n3 : Nat) (c3 : Nat) (m4 : Bool) (o4 : Option Addr) (n4 : Nat) (c4 : Nat), Below w.heap.size w w' → Box w' (g) [.int .i64 a0, .int .i64 a1, .int .i64 b0, .int .i64 b1, .int .i64 v0, .int .i64 v1] → Box w' (w.heap.size) [.bool false, .slice none 0 0] → Box w' (w2.heap.size) [.bool m1, .slice o1 n1 c1] → RNum w' (.agg #[.bool m1, .slice o1 n1 c1]) (4) (0) → Box w' (wr.heap.size) [.int .i64 a0, .int .i64 a1] → Box w' (wr.heap.size + 1) [.int .i64 b0, .int .i64 b1] → Below w5.heap.size w5 w' → RNum w' (.agg #[.bool m2, .slice o2 n2 c2]) (1) (a0) → RNum w' (.agg #[.bool m3, .slice o3 n3 c3]) (1) (a1) → RNum w' (.agg #[.bool m4, .slice o4 n4 c4]) (1) (b0) → WWu 4 #[true, true, true, true, true, true, true, true, true, true, true, true, false, false, false, false] ((((au.put (some 23) (.agg #[.bool m1, .slice o1 n1 c1])).put (some 26) (.agg #[.bool m2, .slice o2 n2 c2])).put (some 29) (.agg #[.bool m3, .slice o3 n3 c3])).put (some 32) (.agg #[.bool m4, .slice o4 n4 c4])) w' := by
        intro w15 m2 o2 n2 c2 m3 o3 n3 c3 m4 o4 n4 c4 hB_0 pl_0 pr_0 po_0 f1_0 pp_0 pq_0 hWu_0 f2_0 f3_0 f4_0
        rw [HWu.out, HAu.out]
        try simp only [Act.put]
        try simp only [List.setIfInBounds_toArray, List.set_cons_zero, List.set_cons_succ]
        refine reg_all1 12 ?_ (by kernel_rfl) ?_ (fun K hK => ?_)
        rotate_left 1
        · simp only [List.getElem?_toArray, List.getElem?_cons_succ, List.getElem?_cons_zero]; exact rfl
        · go_simp
          refine (nOf_any b1 (by have := HB1.out; unfold InP at this; omega) (by have := HB1.out; unfold InP at this; omega) _).mono ?_
          rintro e w16 ⟨m5, o5, n5, c5, rfl, f5_0, hb16⟩
          have hB_1 := hB_0.trans (hb16.mono hB_0.size)
          have pl_1 := pl_0.below hb16
          have pr_1 := pr_0.below hb16
          have po_1 := po_0.below hb16
          have f1_1 := f1_0.below hb16
          have pp_1 := pp_0.below hb16
          have pq_1 := pq_0.below hb16
          have hWu_1 := hWu_0.trans (hb16.mono hWu_0.size)
          have f2_1 := f2_0.below hb16
          have f3_1 := f3_0.below hb16
          have f4_1 := f4_0.below hb16
          clear hb16 hB_0 pl_0 pr_0 po_0 f1_0 pp_0 pq_0 hWu_0 f2_0 f3_0 f4_0
          go_wp2_with fail
          refine hK.out _ _ ⟨pp_1.c0, pp_1.c1, pq_1.c0, pq_1.c1⟩ (fun hHeld => ?_)
          clear hK K
          try simp only [Act.put]
          try simp only [List.setIfInBounds_toArray, List.set_cons_zero, List.set_cons_succ]
          rw [← HWu.out]
          exact stu_4t _ m2 o2 n2 c2 m3 o3 n3 c3 m4 o4 n4 c4 m5 o5 n5 c5 hB_1 pl_1 pr_1 po_1 f1_1 pp_1 pq_1 hWu_1 f2_1 f3_1 f4_1 f5_0
      try simp only [HAu.out, Act.put, List.setIfInBounds_toArray, List.set_cons_zero, List.set_cons_succ] at stu_3t
      have stu_3f : ∀ (w' : World) (m2 : Bool) (o2 : Option Addr) (n2 : Nat) (c2 : Nat) (m3 : Bool) (o3 : Option Addr) (n3 : Nat) (c3 : Nat) (m4 : Bool) (o4 : Option Addr) (n4 : Nat) (c4 : Nat), Below w.heap.size w w' → Box w' (g) [.int .i64 a0, .int .i64 a1, .int .i64 b0, .int .i64 b1, .int .i64 v0, .int .i64 v1] → Box w' (w.heap.size) [.bool false, .slice none 0 0] → Box w' (w2.heap.size) [.bool m1, .slice o1 n1 c1] → RNum w' (.agg #[.bool m1, .slice o1 n1 c1]) (4) (0) → Box w' (wr.heap.size) [.int .i64 a0, .int .i64 a1] → Box w' (wr.heap.size + 1) [.int .i64 b0, .int .i64 b1] → Below w5.heap.size w5 w' → RNum w' (.agg #[.bool m2, .slice o2 n2 c2]) (1) (a0) → RNum w' (.agg #[.bool m3, .slice o3 n3 c3]) (1) (a1) → RNum w' (.agg #[.bool m4, .slice o4 n4 c4]) (1) (b0) → WWu 5 #[false, true, true, true, true, true, true, true, true, true, true, true, false, false, false, false] (((au.put (some 26) (.agg #[.bool m2, .slice o2 n2 c2])).put (some 29) (.agg #[.bool m3, .slice o3 n3 c3])).put (some 32) (.agg #[.bool m4, .slice o4 n4 c4])) w' := by
        intro w17 m2 o2 n2 c2 m3 o3 n3 c3 m4 o4 n4 c4 hB_0 pl_0 pr_0 po_0 f1_0 pp_0 pq_0 hWu_0 f2_0 f3_0 f4_0
        rw [HWu.out, HAu.out]
        try simp only [Act.put]
        try simp only [List.setIfInBounds_toArray, List.set_cons_zero, List.set_cons_succ]
        refine reg_all2 0 12 ?_ ?_ (by kernel_rfl) ?_ ?_ (fun K hK => ?_) (fun K hK => ?_)
        rotate_left 2
        · simp only [List.getElem?_toArray, List.getElem?_cons_zero]; exact rfl
        · simp only [List.getElem?_toArray, List.getElem?_cons_succ, List.getElem?_cons_zero]; exact rfl
        · obtain ⟨poe0, poe1, poe2, poe3⟩ := po_0.open2
          go_simp
          clear poe0 poe1 poe2 poe3
          refine hK.out _ _ ⟨pp_0.c0, pp_0.c1, pq_0.c0, pq_0.c1⟩ (fun hHeld => ?_)
          clear hK K
          try simp only [Act.put]
          try simp only [List.setIfInBounds_toArray, List.set_cons_zero]
          rw [← HWu.out]
          exact stu_3t _ m2 o2 n2 c2 m3 o3 n3 c3 m4 o4 n4 c4 hB_0 pl_0 pr_0 po_0 f1_0 pp_0 pq_0 hWu_0 f2_0 f3_0 f4_0
        · go_simp
          refine (nOf_any b1 (by have := HB1.out; unfold InP at this; omega) (by have := HB1.out; unfold InP at this; omega) _).mono ?_
          rintro e w18 ⟨m5, o5, n5, c5, rfl, f5_0, hb18⟩
          have hB_1 := hB_0.trans (hb18.mono hB_0.size)
          have pl_1 := pl_0.below hb18
          have pr_1 := pr_0.below hb18
          have po_1 := po_0.below hb18
          have f1_1 := f1_0.below hb18
          have pp_1 := pp_0.below hb18
          have pq_1 := pq_0.below hb18
          have hWu_1 := hWu_0.trans (hb18.mono hWu_0.size)
          have f2_1 := f2_0.below hb18
          have f3_1 := f3_0.below hb18
          have f4_1 := f4_0.below hb18
          clear hb18 hB_0 pl_0 pr_0 po_0 f1_0 pp_0 pq_0 hWu_0 f2_0 f3_0 f4_0
          go_wp2_with fail
          refine hK.out _ _ ⟨pp_1.c0, pp_1.c1, pq_1.c0, pq_1.c1⟩ (fun hHeld => ?_)
          clear hK K
          try simp only [Act.put]
          try simp only [List.setIfInBounds_toArray, List.set_cons_zero, List.set_cons_succ]
          rw [← HWu.out]
          exact stu_4f _ m2 o2 n2 c2 m3 o3 n3 c3 m4 o4 n4 c4 m5 o5 n5 c5 hB_1 pl_1 pr_1 po_1 f1_1 pp_1 pq_1 hWu_1 f2_1 f3_1 f4_1 f5_0
      try simp only [HAu.out, Act.put, List.setIfInBounds_toArray, List.set_cons_zero, List.set_cons_succ] at stu_3f
      have stu_2t : ∀ (w' : World) (m2 : Bool) (o2 : Option Addr) (n2 : Nat) (c2 : Nat) (m3 : Bool) (o3 : Option Addr) (n3 : Nat) (c3 : Nat), Below w.heap.size w w' → Box w' (g) [.int .i64 a0, .int .i64 a1, .int .i64 b0, .int .i64 b1, .int .i64 v0, .int .i64 v1] → Box w' (w.heap.size) [.bool false, .slice none 0 0] → Box w' (w2.heap.size) [.bool m1, .slice o1 n1 c1] → RNum w' (.agg #[.bool m1, .slice o1 n1 c1]) (4) (0) → Box w' (wr.heap.size) [.int .i64 a0, .int .i64 a1] → Box w' (wr.heap.size + 1) [.int .i64 b0, .int .i64 b1] → Below w5.heap.size w5 w' → RNum w' (.agg #[.bool m2, .slice o2 n2 c2]) (1) (a0) → RNum w' (.agg #[.bool m3, .slice o3 n3 c3]) (1) (a1) → WWu 5 #[true, true, true, true, true, true, true, true, true, false, true, true, false, false, false, false] (((au.put (some 23) (.agg #[.bool m1, .slice o1 n1 c1])).put (some 26) (.agg #[.bool m2, .slice o2 n2 c2])).put (some 29) (.agg #[.bool m3, .slice o3 n3 c3])) w' := by
        intro w19 m2 o2 n2 c2 m3 o3 n3 c3 hB_0 pl_0 pr_0 po_0 f1_0 pp_0 pq_0 hWu_0 f2_0 f3_0
        rw [HWu.out, HAu.out]
        try simp only [Act.put]
        try simp only [List.setIfInBounds_toArray, List.set_cons_zero, List.set_cons_succ]
        refine reg_all1 9 ?_ (by kernel_rfl) ?_ (fun K hK => ?_)
        rotate_left 1
        · simp only [List.getElem?_toArray, List.getElem?_cons_succ, List.getElem?_cons_zero]; exact rfl
        · go_simp
          refine (nOf_any b0 (by have := HB0.out; unfold InP at this; omega) (by have := HB0.out; unfold InP at this; omega) _).mono ?_
          rintro e w20 ⟨m4, o4, n4, c4, rfl, f4_0, hb20⟩
          have hB_1 := hB_0.trans (hb20.mono hB_0.size)
          have pl_1 := pl_0.below hb20
          have pr_1 := pr_0.below hb20
          have po_1 := po_0.below hb20
          have f1_1 := f1_0.below hb20
          have pp_1 := pp_0.below hb20
          have pq_1 := pq_0.below hb20
          have hWu_1 := hWu_0.trans (hb20.mono hWu_0.size)
          have f2_1 := f2_0.below hb20
          have f3_1 := f3_0.below hb20
          clear hb20 hB_0 pl_0 pr_0 po_0 f1_0 pp_0 pq_0 hWu_0 f2_0 f3_0
          go_wp2_with fail
          refine hK.out _ _ ⟨pp_1.c0, pp_1.c1, pq_1.c0, pq_1.c1⟩ (fun hHeld => ?_)
          clear hK K
          try simp only [Act.put]
          try simp only [List.setIfInBounds_toArray, List.set_cons_zero, List.set_cons_succ]
          rw [← HWu.out]
          exact stu_3t _ m2 o2 n2 c2 m3 o3 n3 c3 m4 o4 n4 c4 hB_1 pl_1 pr_1 po_1 f1_1 pp_1 pq_1 hWu_1 f2_1 f3_1 f4_0
      try simp only [HAu.out, Act.put, List.setIfInBounds_toArray, List.set_cons_zero, List.set_cons_succ] at stu_2t
      have stu_2f : ∀ (w' : World) (m2 : Bool) (o2 : Option Addr) (n2 : Nat) (c2 : Nat) (m3 : Bool) (o3 : Option Addr) (n3 : Nat) (c3 : Nat), Below w.heap.size w w' → Box w' (g) [.int .i64 a0, .int .i64 a1, .int .i64 b0, .int .i64 b1, .int .i64 v0, .int .i64 v1] → Box w' (w.heap.size) [.bool false, .slice none 0 0] → Box w' (w2.heap.size) [.bool m1, .slice o1 n1 c1] → RNum w' (.agg #[.bool m1, .slice o1 n1 c1]) (4) (0) → Box w' (wr.heap.size) [.int .i64 a0, .int .i64 a1] → Box w' (wr.heap.size + 1) [.int .i64 b0, .int .i64 b1] → Below w5.heap.size w5 w' → RNum w' (.agg #[.bool m2, .slice o2 n2 c2]) (1) (a0) → RNum w' (.agg #[.bool m3, .slice o3 n3 c3]) (1) (a1) → WWu 6 #[false, true, true, true, true, true, true, true, true, false, true, true, false, false, false, false] ((au.put (some 26) (.agg #[.bool m2, .slice o2 n2 c2])).put (some 29) (.agg #[.bool m3, .slice o3 n3 c3])) w' := by
        intro w21 m2 o2 n2 c2 m3 o3 n3 c3 hB_0 pl_0 pr_0 po_0 f1_0 pp_0 pq_0 hWu_0 f2_0 f3_0
        rw [HWu.out, HAu.out]
        try simp only [Act.put]
        try simp only [List.setIfInBounds_toArray, List.set_cons_zero, List.set_cons_succ]
        refine reg_all2 0 9 ?_ ?_ (by kernel_rfl) ?_ ?_ (fun K hK => ?_) (fun K hK => ?_)
        rotate_left 2
        · simp only [List.getElem?_toArray, List.getElem?_cons_zero]; exact rfl
        · simp only [List.getElem?_toArray, List.getElem?_cons_succ, List.getElem?_cons_zero]; exact rfl
        · obtain ⟨poe0, poe1, poe2, poe3⟩ := po_0.open2
          go_simp
          clear poe0 poe1 poe2 poe3
          refine hK.out _ _ ⟨pp_0.c0, pp_0.c1, pq_0.c0, pq_0.c1⟩ (fun hHeld => ?_)
          clear hK K
          try simp only [Act.put]
          try simp only [List.setIfInBounds_toArray, List.set_cons_zero]
          rw [← HWu.out]
          exact stu_2t _ m2 o2 n2 c2 m3 o3 n3 c3 hB_0 pl_0 pr_0 po_0 f1_0 pp_0 pq_0 hWu_0 f2_0 f3_0
        · go_simp
          refine (nOf_any b0 (by have := HB0.out; unfold InP at this; omega) (by have := HB0.out; unfold InP at this; omega) _).mono ?_
          rintro e w22 ⟨m4, o4, n4, c4, rfl, f4_0, hb22⟩
          have hB_1 := hB_0.trans (hb22.mono hB_0.size)
          have pl_1 := pl_0.below hb22
          have pr_1 := pr_0.below hb22
          have po_1 := po_0.below hb22
          have f1_1 := f1_0.below hb22
          have pp_1 := pp_0.below hb22
          have pq_1 := pq_0.below hb22
          have hWu_1 := hWu_0.trans (hb22.mono hWu_0.size)
          have f2_1 := f2_0.below hb22
          have f3_1 := f3_0.below hb22
          clear hb22 hB_0 pl_0 pr_0 po_0 f1_0 pp_0 pq_0 hWu_0 f2_0 f3_0
          go_wp2_with fail
          refine hK.out _ _ ⟨pp_1.c0, pp_1.c1, pq_1.c0, pq_1.c1⟩ (fun hHeld => ?_)
          clear hK K
          try simp only [Act.put]
          try simp only [List.setIfInBounds_toArray, List.set_cons_zero, List.set_cons_succ]
          rw [← HWu.out]
          exact stu_3f _ m2 o2 n2 c2 m3 o3 n3 c3 m4 o4 n4 c4 hB_1 pl_1 pr_1 po_1 f1_1 pp_1 pq_1 hWu_1 f2_1 f3_1 f4_0
      try simp only [HAu.out, Act.put, List.setIfInBounds_toArray, List.set_cons_zero, List.set_cons_succ] at stu_2f
      have stu_1t : ∀ (w' : World) (m2 : Bool) (o2 : Option Addr) (n2 : Nat) (c2 : Nat), Below w.heap.size w w' → Box w' (g) [.int .i64 a0, .int .i64 a1, .int .i64 b0, .int .i64 b1, .int .i64 v0, .int .i64 v1] → Box w' (w.heap.size) [.bool false, .slice none 0 0] → Box w' (w2.heap.size) [.bool m1, .slice o1 n1 c1] → RNum w' (.agg #[.bool m1, .slice o1 n1 c1]) (4) (0) → Box w' (wr.heap.size) [.int .i64 a0, .int .i64 a1] → Box w' (wr.heap.size + 1) [.int .i64 b0, .int .i64 b1] → Below w5.heap.size w5 w' → RNum w' (.agg #[.bool m2, .slice o2 n2 c2]) (1) (a0) → WWu 6 #[true, true, true, true, true, true, false, true, true, false, true, true, false, false, false, false] ((au.put (some 23) (.agg #[.bool m1, .slice o1 n1 c1])).put (some 26) (.agg #[.bool m2, .slice o2 n2 c2])) w' := by
        intro w23 m2 o2 n2 c2 hB_0 pl_0 pr_0 po_0 f1_0 pp_0 pq_0 hWu_0 f2_0
        rw [HWu.out, HAu.out]
        try simp only [Act.put]
        try simp only [List.setIfInBounds_toArray, List.set_cons_zero, List.set_cons_succ]
        refine reg_all1 6 ?_ (by kernel_rfl) ?_ (fun K hK => ?_)
        rotate_left 1
        · simp only [List.getElem?_toArray, List.getElem?_cons_succ, List.getElem?_cons_zero]; exact rfl
        · go_simp
          refine (nOf_any a1 (by have := HA1.out; unfold InP at this; omega) (by have := HA1.out; unfold InP at this; omega) _).mono ?_
          rintro e w24 ⟨m3, o3, n3, c3, rfl, f3_0, hb24⟩
          have hB_1 := hB_0.trans (hb24.mono hB_0.size)
          have pl_1 := pl_0.below hb24
          have pr_1 := pr_0.below hb24
          have po_1 := po_0.below hb24
          have f1_1 := f1_0.below hb24
          have pp_1 := pp_0.below hb24
          have pq_1 := pq_0.below hb24
          have hWu_1 := hWu_0.trans (hb24.mono hWu_0.size)
          have f2_1 := f2_0.below hb24
          clear hb24 hB_0 pl_0 pr_0 po_0 f1_0 pp_0 pq_0 hWu_0 f2_0
          go_wp2_with fail
          refine hK.out _ _ ⟨pp_1.c0, pp_1.c1, pq_1.c0, pq_1.c1⟩ (fun hHeld => ?_)
          clear hK K
          try simp only [Act.put]
          try simp only [List.setIfInBounds_toArray, List.set_cons_zero, List.set_cons_succ]
          rw [← HWu.out]
          exact stu_2t _ m2 o2 n2 c2 m3 o3 n3 c3 hB_1 pl_1 pr_1 po_1 f1_1 pp_1 pq_1 hWu_1 f2_1 f3_0
      try simp only [HAu.out, Act.put, List.setIfInBounds_toArray, List.set_cons_zero, List.set_cons_succ] at stu_1t
      have stu_1f : ∀ (w' : World) (m2 : Bool) (o2 : Option Addr) (n2 : Nat) (c2 : Nat), Below w.heap.size w w' → Box w' (g) [.int .i64 a0, .int .i64 a1, .int .i64 b0, .int .i64 b1, .int .i64 v0, .int .i64 v1] → Box w' (w.heap.size) [.bool false, .slice none 0 0] → Box w' (w2.heap.size) [.bool m1, .slice o1 n1 c1] → RNum w' (.agg #[.bool m1, .slice o1 n1 c1]) (4) (0) → Box w' (wr.heap.size) [.int .i64 a0, .int .i64 a1] → Box w' (wr.heap.size + 1) [.int .i64 b0, .int .i64 b1] → Below w5.heap.size w5 w' → RNum w' (.agg #[.bool m2, .slice o2 n2 c2]) (1) (a0) → WWu 7 #[false, true, true, true, true, true, false, true, true, false, true, true, false, false, false, false] (au.put (some 26) (.agg #[.bool m2, .slice o2 n2 c2])) w' := by
        intro w25 m2 o2 n2 c2 hB_0 pl_0 pr_0 po_0 f1_0 pp_0 pq_0 hWu_0 f2_0
        rw [HWu.out, HAu.out]
        try simp only [Act.put]
        try simp only [List.setIfInBounds_toArray, List.set_cons_zero, List.set_cons_succ]
        refine reg_all2 0 6 ?_ ?_ (by kernel_rfl) ?_ ?_ (fun K hK => ?_) (fun K hK => ?_)
        rotate_left 2
        · simp only [List.getElem?_toArray, List.getElem?_cons_zero]; exact rfl
        · simp only [List.getElem?_toArray, List.getElem?_cons_succ, List.getElem?_cons_zero]; exact rfl
        · obtain ⟨poe0, poe1, poe2, poe3⟩ := po_0.open2
          go_simp
          clear poe0 poe1 poe2 poe3
          refine hK.out _ _ ⟨pp_0.c0, pp_0.c1, pq_0.c0, pq_0.c1⟩ (fun hHeld => ?_)
          clear hK K
          try simp only [Act.put]
          try simp only [List.setIfInBounds_toArray, List.set_cons_zero]
          rw [← HWu.out]
          exact stu_1t _ m2 o2 n2 c2 hB_0 pl_0 pr_0 po_0 f1_0 pp_0 pq_0 hWu_0 f2_0
        · go_simp
          refine (nOf_any a1 (by have := HA1.out; unfold InP at this; omega) (by have := HA1.out; unfold InP at this; omega) _).mono ?_
          rintro e w26 ⟨m3, o3, n3, c3, rfl, f3_0, hb26⟩
          have hB_1 := hB_0.trans (hb26.mono hB_0.size)
          have pl_1 := pl_0.below hb26
          have pr_1 := pr_0.below hb26
          have po_1 := po_0.below hb26
          have f1_1 := f1_0.below hb26
          have pp_1 := pp_0.below hb26
          have pq_1 := pq_0.below hb26
          have hWu_1 := hWu_0.trans (hb26.mono hWu_0.size)
          have f2_1 := f2_0.below hb26
          clear hb26 hB_0 pl_0 pr_0 po_0 f1_0 pp_0 pq_0 hWu_0 f2_0
          go_wp2_with fail
          refine hK.out _ _ ⟨pp_1.c0, pp_1.c1, pq_1.c0, pq_1.c1⟩ (fun hHeld => ?_)
          clear hK K
          try simp only [Act.put]
          try simp only [List.setIfInBounds_toArray, List.set_cons_zero, List.set_cons_succ]
          rw [← HWu.out]
          exact stu_2f _ m2 o2 n2 c2 m3 o3 n3 c3 hB_1 pl_1 pr_1 po_1 f1_1 pp_1 pq_1 hWu_1 f2_1 f3_0
      try simp only [HAu.out, Act.put, List.setIfInBounds_toArray, List.set_cons_zero, List.set_cons_succ] at stu_1f
      have stu_0t : ∀ (w' : World), Below w.heap.size w w' → Box w' (g) [.int .i64 a0, .int .i64 a1, .int .i64 b0, .int .i64 b1, .int .i64 v0, .int .i64 v1] → Box w' (w.heap.size) [.bool false, .slice none 0 0] → Box w' (w2.heap.size) [.bool m1, .slice o1 n1 c1] → RNum w' (.agg #[.bool m1, .slice o1 n1 c1]) (4) (0) → Box w' (wr.heap.size) [.int .i64 a0, .int .i64 a1] → Box w' (wr.heap.size + 1) [.int .i64 b0, .int .i64 b1] → Below w5.heap.size w5 w' → WWu 7 #[true, true, true, false, true, true, false, true, true, false, true, true, false, false, false, false] (au.put (some 23) (.agg #[.bool m1, .slice o1 n1 c1])) w' := by
        intro w27 hB_0 pl_0 pr_0 po_0 f1_0 pp_0 pq_0 hWu_0
        rw [HWu.out, HAu.out]
        try simp only [Act.put]
        try simp only [List.setIfInBounds_toArray, List.set_cons_zero, List.set_cons_succ]
        refine reg_all1 3 ?_ (by kernel_rfl) ?_ (fun K hK => ?_)
        rotate_left 1
        · simp only [List.getElem?_toArray, List.getElem?_cons_succ, List.getElem?_cons_zero]; exact rfl
        · go_simp
          refine (nOf_any a0 (by have := HA0.out; unfold InP at this; omega) (by have := HA0.out; unfold InP at this; omega) _).mono ?_
          rintro e w28 ⟨m2, o2, n2, c2, rfl, f2_0, hb28⟩
          have hB_1 := hB_0.trans (hb28.mono hB_0.size)
          have pl_1 := pl_0.below hb28
          have pr_1 := pr_0.below hb28
          have po_1 := po_0.below hb28
          have f1_1 := f1_0.below hb28
          have pp_1 := pp_0.below hb28
          have pq_1 := pq_0.below hb28
          have hWu_1 := hWu_0.trans (hb28.mono hWu_0.size)
          clear hb28 hB_0 pl_0 pr_0 po_0 f1_0 pp_0 pq_0 hWu_0
          go_wp2_with fail
          refine hK.out _ _ ⟨pp_1.c0, pp_1.c1, pq_1.c0, pq_1.c1⟩ (fun hHeld => ?_)
          clear hK K
          try simp only [Act.put]
          try simp only [List.setIfInBounds_toArray, List.set_cons_zero, List.set_cons_succ]
          rw [← HWu.out]
          exact stu_1t _ m2 o2 n2 c2 hB_1 pl_1 pr_1 po_1 f1_1 pp_1 pq_1 hWu_1 f2_0
      try simp only [HAu.out, Act.put, List.setIfInBounds_toArray, List.set_cons_zero, List.set_cons_succ] at stu_0t
      have stu_0f : ∀ (w' : World), Below w.heap.size w w' → Box w' (g) [.int .i64 a0, .int .i64 a1, .int .i64 b0, .int .i64 b1, .int .i64 v0, .int .i64 v1] → Box w' (w.heap.size) [.bool false, .slice none 0 0] → Box w' (w2.heap.size) [.bool m1, .slice o1 n1 c1] → RNum w' (.agg #[.bool m1, .slice o1 n1 c1]) (4) (0) → Box w' (wr.heap.size) [.int .i64 a0, .int .i64 a1] → Box w' (wr.heap.size + 1) [.int .i64 b0, .int .i64 b1] → Below w5.heap.size w5 w' → WWu 8 #[false, true, true, false, true, true, false, true, true, false, true, true, false, false, false, false] au w' := by
        intro w29 hB_0 pl_0 pr_0 po_0 f1_0 pp_0 pq_0 hWu_0
        rw [HWu.out, HAu.out]
        try simp only [Act.put]
        try simp only [List.setIfInBounds_toArray, List.set_cons_zero, List.set_cons_succ]
        refine reg_all2 0 3 ?_ ?_ (by kernel_rfl) ?_ ?_ (fun K hK => ?_) (fun K hK => ?_)
        rotate_left 2
        · simp only [List.getElem?_toArray, List.getElem?_cons_zero]; exact rfl
        · simp only [List.getElem?_toArray, List.getElem?_cons_succ, List.getElem?_cons_zero]; exact rfl
        · obtain ⟨poe0, poe1, poe2, poe3⟩ := po_0.open2
          go_simp
          clear poe0 poe1 poe2 poe3
          refine hK.out _ _ ⟨pp_0.c0, pp_0.c1, pq_0.c0, pq_0.c1⟩ (fun hHeld => ?_)
          clear hK K
          try simp only [Act.put]
          try simp only [List.setIfInBounds_toArray, List.set_cons_zero]
          rw [← HWu.out]
          exact stu_0t _ hB_0 pl_0 pr_0 po_0 f1_0 pp_0 pq_0 hWu_0
        · go_simp
          refine (nOf_any a0 (by have := HA0.out; unfold InP at this; omega) (by have := HA0.out; unfold InP at this; omega) _).mono ?_
          rintro e w30 ⟨m2, o2, n2, c2, rfl, f2_0, hb30⟩
          have hB_1 := hB_0.trans (hb30.mono hB_0.size)
          have pl_1 := pl_0.below hb30
          have pr_1 := pr_0.below hb30
          have po_1 := po_0.below hb30
          have f1_1 := f1_0.below hb30
          have pp_1 := pp_0.below hb30
          have pq_1 := pq_0.below hb30
          have hWu_1 := hWu_0.trans (hb30.mono hWu_0.size)
          clear hb30 hB_0 pl_0 pr_0 po_0 f1_0 pp_0 pq_0 hWu_0
          go_wp2_with fail
          refine hK.out _ _ ⟨pp_1.c0, pp_1.c1, pq_1.c0, pq_1.c1⟩ (fun hHeld => ?_)
          clear hK K
          try simp only [Act.put]
          try simp only [List.setIfInBounds_toArray, List.set_cons_zero, List.set_cons_succ]
          rw [← HWu.out]
          exact stu_1f _ m2 o2 n2 c2 hB_1 pl_1 pr_1 po_1 f1_1 pp_1 pq_1 hWu_1 f2_0
      exact stu_0f _ hB_3 pl_3 pr_3 po_3 f1_3 pp_2 pq_1 hWu_1
    · obtain rfl := x1 rfl
      clear x0 x1 x2 x3 hj
      obtain ⟨xl0, xl1, xl2, xl3, xl4, xl5, xl6, xl7, xl8, xl9, xl10, xl11⟩ := pl_0.open6
      have hl2pl := pl_0.lt
      have hl2pr := pr_0.lt
      have hl2po := po_0.lt
      have hl2B := hB_0.size
      obtain ⟨w4, hw4, pp_0, hb4, hs4⟩ := new_box wr (wr.heap.size) rfl [.int .i64 b0, .int .i64 b1] 23
      have hb4' : Below wr.heap.size wr w4 := hb4.mono (by omega)
      clear hb4
      have hB_1 := hB_0.trans (hb4'.mono hB_0.size)
      have pl_1 := pl_0.below hb4'
      have pr_1 := pr_0.below hb4'
      have po_1 := po_0.below hb4'
      have f1_1 := f1_0.below hb4'
      clear hb4' hB_0 pl_0 pr_0 po_0 f1_0
      obtain ⟨yl0, yl1, yl2, yl3, yl4, yl5, yl6, yl7, yl8, yl9, yl10, yl11⟩ := pl_1.open6
      have hl3pl := pl_1.lt
      have hl3pr := pr_1.lt
      have hl3po := po_1.lt
      have hl3pp := pp_0.lt
      have hl3B := hB_1.size
      obtain ⟨w5, hw5, pq_0, hb5, hs5⟩ := new_box w4 (wr.heap.size + 1) hs4 [.int .i64 v0, .int .i64 v1] 23
      have hb5' : Below w4.heap.size w4 w5 := hb5.mono (by omega)
      clear hb5
      have hB_2 := hB_1.trans (hb5'.mono hB_1.size)
      have pl_2 := pl_1.below hb5'
      have pr_2 := pr_1.below hb5'
      have po_2 := po_1.below hb5'
      have f1_2 := f1_1.below hb5'
      have pp_1 := pp_0.below hb5'
      clear hb5' hB_1 pl_1 pr_1 po_1 f1_1 pp_0
      obtain ⟨ple0, ple1, ple2, ple3, ple4, ple5, ple6, ple7, ple8, ple9, ple10, ple11⟩ := pl_2.open6
      obtain ⟨ppe0, ppe1, ppe2, ppe3⟩ := pp_1.open2
      obtain ⟨pqe0, pqe1, pqe2, pqe3⟩ := pq_0.open2
      obtain ⟨poe0, poe1, poe2, poe3⟩ := po_2.open2
      go_wp2
      clear xl0 xl1 xl2 xl3 xl4 xl5 xl6 xl7 xl8 xl9 xl10 xl11 yl0 yl1 yl2 yl3 yl4 yl5 yl6 yl7 yl8 yl9 yl10 yl11
      clear ple0 ple1 ple2 ple3 ple4 ple5 ple6 ple7 ple8 ple9 ple10 ple11 ppe0 ppe1 ppe2 ppe3 pqe0 pqe1 pqe2 pqe3 poe0 poe1 poe2 poe3
      have hWu_0 := Below.refl w5.heap.size w5
      have hsu : w.heap.size ≤ w5.heap.size := hB_2.size
      have hlupl := pl_2.lt
      have hlupr := pr_2.lt
      have hlupo := po_2.lt
      have hlupp := pp_1.lt
      have hlupq := pq_0.lt
      have hB_3 := hB_2.drew'
      have pl_3 := pl_2.drew
      have pr_3 := pr_2.drew
      have po_3 := po_2.drew
      have f1_3 := f1_2.drew
      have pp_2 := pp_1.drew
      have pq_1 := pq_0.drew
      have hWu_1 := hWu_0.drew'
      clear hB_2 pl_2 pr_2 po_2 f1_2 pp_1 pq_0 hWu_0
      refine wp_region_noPanic ?_
      refine wp_region_held_drew (S := fun w' => w'.cell? ⟨wr.heap.size, 0, none⟩ = some (.int .i64 b0) ∧ w'.cell? ⟨wr.heap.size, 1, none⟩ = some (.int .i64 b1) ∧ w'.cell? ⟨wr.heap.size + 1, 0, none⟩ = some (.int .i64 v0) ∧ w'.cell? ⟨wr.heap.size + 1, 1, none⟩ = some (.int .i64 v1)) (by kernel_rfl) (⟨pp_2.c0, pp_2.c1, pq_1.c0, pq_1.c1⟩) (fun hHeld => ?_)
      refine reg_take 1 ?_ ?_ ?_ (by kernel_rfl) (by kernel_rfl) (by kernel_rfl) (fun _ _ _ h => h) ?_ ?_ (by assumption) ?_
      rotate_left 2
      · simp only [List.getElem?_toArray, List.getElem?_cons_succ, List.getElem?_cons_zero]; exact rfl
      · rfl
      · intro w hSw; (try dsimp only at hSw); go_simp; try with_reducible rfl
      try simp only [Act.put]
      try simp only [List.setIfInBounds_toArray, List.set_cons_zero, List.set_cons_succ]
      refine reg_take 2 ?_ ?_ ?_ (by kernel_rfl) (by kernel_rfl) (by kernel_rfl) (fun _ _ _ h => h) ?_ ?_ (by assumption) ?_
      rotate_left 2
      · simp only [List.getElem?_toArray, List.getElem?_cons_succ, List.getElem?_cons_zero]; exact rfl
      · rfl
      · intro w hSw; (try dsimp only at hSw); go_simp; try with_reducible rfl
      try simp only [Act.put]
      try simp only [List.setIfInBounds_toArray, List.set_cons_zero, List.set_cons_succ]
      refine reg_take 4 ?_ ?_ ?_ (by kernel_rfl) (by kernel_rfl) (by kernel_rfl) (fun _ _ _ h => h) ?_ ?_ (by assumption) ?_
      rotate_left 2
      · simp only [List.getElem?_toArray, List.getElem?_cons_succ, List.getElem?_cons_zero]; exact rfl
      · rfl
      · intro w hSw; (try dsimp only at hSw); go_simp; try with_reducible rfl
      try simp only [Act.put]
      try simp only [List.setIfInBounds_toArray, List.set_cons_zero, List.set_cons_succ]
      refine reg_take 5 ?_ ?_ ?_ (by kernel_rfl) (by kernel_rfl) (by kernel_rfl) (fun _ _ _ h => h) ?_ ?_ (by assumption) ?_
      rotate_left 2
      · simp only [List.getElem?_toArray, List.getElem?_cons_succ, List.getElem?_cons_zero]; exact rfl
      · rfl
      · intro w hSw; (try dsimp only at hSw); go_simp; try with_reducible rfl
      try simp only [Act.put]
      try simp only [List.setIfInBounds_toArray, List.set_cons_zero, List.set_cons_succ]
      refine reg_take 7 ?_ ?_ ?_ (by kernel_rfl) (by kernel_rfl) (by kernel_rfl) (fun _ _ _ h => h) ?_ ?_ (by assumption) ?_
      rotate_left 2
      · simp only [List.getElem?_toArray, List.getElem?_cons_succ, List.getElem?_cons_zero]; exact rfl
      · rfl
      · intro w hSw; (try dsimp only at hSw); go_simp; try with_reducible rfl
      try simp only [Act.put]
      try simp only [List.setIfInBounds_toArray, List.set_cons_zero, List.set_cons_succ]
      refine reg_take 8 ?_ ?_ ?_ (by kernel_rfl) (by kernel_rfl) (by kernel_rfl) (fun _ _ _ h => h) ?_ ?_ (by assumption) ?_
      rotate_left 2
      · simp only [List.getElem?_toArray, List.getElem?_cons_succ, List.getElem?_cons_zero]; exact rfl
      · rfl
      · intro w hSw; (try dsimp only at hSw); go_simp; try with_reducible rfl
      try simp only [Act.put]
      try simp only [List.setIfInBounds_toArray, List.set_cons_zero, List.set_cons_succ]
      refine reg_take 10 ?_ ?_ ?_ (by kernel_rfl) (by kernel_rfl) (by kernel_rfl) (fun _ _ _ h => h) ?_ ?_ (by assumption) ?_
      rotate_left 2
      · simp only [List.getElem?_toArray, List.getElem?_cons_succ, List.getElem?_cons_zero]; exact rfl
      · rfl
      · intro w hSw; (try dsimp only at hSw); go_simp; try with_reducible rfl
      try simp only [Act.put]
      try simp only [List.setIfInBounds_toArray, List.set_cons_zero, List.set_cons_succ]
      refine reg_take 11 ?_ ?_ ?_ (by kernel_rfl) (by kernel_rfl) (by kernel_rfl) (fun _ _ _ h => h) ?_ ?_ (by assumption) ?_
      rotate_left 2
      · simp only [List.getElem?_toArray, List.getElem?_cons_succ, List.getElem?_cons_zero]; exact rfl
      · rfl
      · intro w hSw; (try dsimp only at hSw); go_simp; try with_reducible rfl
      try simp only [Act.put]
      try simp only [List.setIfInBounds_toArray, List.set_cons_zero, List.set_cons_succ]
      refine reg_grab (fun WWu au hWW hAA => ?_)
      have HWu := Lib.hid hWW; have HAu := Lib.hid hAA; clear hWW hAA hHeld
      have stu_6t : ∀ (w' : World) (m2 : Bool) (o2 : Option Addr) (n2 : Nat) (c2 : Nat) (m3 : Bool) (o3 : Option Addr) (n3 : Nat) (c3 : Nat) (m4 : Bool) (o4 : Option Addr) (n4 : Nat) (c4 : Nat) (m5 : Bool) (o5 : Option Addr) (n5 : Nat) (c5 : Nat) (m6 : Bool) (o6 : Option Addr) (n6 : Nat) (c6 : Nat) (m7 : Bool) (o7 : Option Addr) (n7 : Nat) (c7 : Nat), Below w.heap.size w w' → Box w' (g) [.int .i64 a0, .int .i64 a1, .int .i64 b0, .int .i64 b1, .int .i64 v0, .int .i64 v1] → Box w' (w.heap.size) [.bool false, .slice none 0 0] → Box w' (w2.heap.size) [.bool m1, .slice o1 n1 c1] → RNum w' (.agg #[.bool m1, .slice o1 n1 c1]) (5) (0 + (a0 * b1 - a1 * b0)) → Box w' (wr.heap.size) [.int .i64 b0, .int .i64 b1] → Box w' (wr.heap.size + 1) [.int .i64 v0, .int .i64 v1] → Below w5.heap.size w5 w' → RNum w' (.agg #[.bool m2, .slice o2 n2 c2]) (1) (b0) → RNum w' (.agg #[.bool m3, .slice o3 n3 c3]) (1) (b1) → RNum w' (.agg #[.bool m4, .slice o4 n4 c4]) (1) (v0) → RNum w' (.agg #[.bool m5, .slice o5 n5 c5]) (1) (v1) → RNum w' (.agg #[.bool m6, .slice o6 n6 c6]) (3) (b0 * v1 - b1 * v0) → RNum w' (.agg #[.bool m7, .slice o7 n7 c7]) (6) (0 + (a0 * b1 - a1 * b0) + (b0 * v1 - b1 * v0)) → WWu 1 #[true, true, true, true, true, true, true, true, true, true, true, true, true, true, true, false] (((((((au.put (some 23) (.agg #[.bool m1, .slice o1 n1 c1])).put (some 26) (.agg #[.bool m2, .slice o2 n2 c2])).put (some 29) (.agg #[.bool m3, .slice o3 n3 c3])).put (some 32) (.agg #[.bool m4, .slice o4 n4 c4])).put (some 35) (.agg #[.bool m5, .slice o5 n5 c5])).put (some 36) (.agg #[.bool m6, .slice o6 n6 c6])).put (some 37) (.agg #[.bool m7, .slice o7 n7 c7])) w' := by
        intro w6 m2 o2 n2 c2 m3 o3 n3 c3 m4 o4 n4 c4 m5 o5 n5 c5 m6 o6 n6 c6 m7 o7 n7 c7 hB_0 pl_0 pr_0 po_0 f1_0 pp_0 pq_0 hWu_0 f2_0 f3_0 f4_0 f5_0 f6_0 f7_0
        rw [HWu.out, HAu.out]
        try simp only [Act.put]
        try simp only [List.setIfInBounds_toArray, List.set_cons_zero, List.set_cons_succ]
        clear hWu_0
        obtain ⟨sf1a, sf1b, sf1c, sf1d⟩ := po_0.open2
        obtain ⟨sg1a, sg1b⟩ := Box.put2 po_0 (.bool m7)
        refine reg_call 15 ?_ (by kernel_rfl) ?_ (fun K hK => ?_)
        rotate_left 1
        · simp only [List.getElem?_toArray, List.getElem?_cons_succ, List.getElem?_cons_zero]; exact rfl
        go_simp
        have hB_1 := below_setAll hB_0 (g := w2.heap.size) (by omega) [.bool m7, .slice o7 n7 c7]
        have pl_1 := pl_0.farAll (g' := w2.heap.size) (by omega) [.bool m7, .slice o7 n7 c7]
        have pr_1 := pr_0.farAll (g' := w2.heap.size) (by omega) [.bool m7, .slice o7 n7 c7]
        have f1_1 := f1_0.setAll po_0 (noWord2 _ _ _ _) [.bool m7, .slice o7 n7 c7] rfl
        have pp_1 := pp_0.farAll (g' := w2.heap.size) (by omega) [.bool m7, .slice o7 n7 c7]
        have pq_1 := pq_0.farAll (g' := w2.heap.size) (by omega) [.bool m7, .slice o7 n7 c7]
        have f2_1 := f2_0.setAll po_0 (noWord2 _ _ _ _) [.bool m7, .slice o7 n7 c7] rfl
        have f3_1 := f3_0.setAll po_0 (noWord2 _ _ _ _) [.bool m7, .slice o7 n7 c7] rfl
        have f4_1 := f4_0.setAll po_0 (noWord2 _ _ _ _) [.bool m7, .slice o7 n7 c7] rfl
        have f5_1 := f5_0.setAll po_0 (noWord2 _ _ _ _) [.bool m7, .slice o7 n7 c7] rfl
        have f6_1 := f6_0.setAll po_0 (noWord2 _ _ _ _) [.bool m7, .slice o7 n7 c7] rfl
        have f7_1 := f7_0.setAll po_0 (noWord2 _ _ _ _) [.bool m7, .slice o7 n7 c7] rfl
        have po_1 := po_0.setAll [.bool m7, .slice o7 n7 c7] rfl
        simp only [setAll, Nat.zero_add] at hB_1 pl_1 pr_1 po_1 f1_1 pp_1 pq_1 f2_1 f3_1 f4_1 f5_1 f6_1 f7_1
        clear sf1a sf1b sf1c sf1d sg1a sg1b
        clear hB_0 pl_0 pr_0 f1_0 pp_0 pq_0 f2_0 f3_0 f4_0 f5_0 f6_0 f7_0 po_0
        refine hK.out _ _ ⟨pp_1.c0, pp_1.c1, pq_1.c0, pq_1.c1⟩ (fun hHeld => ?_)
        clear hK K
        try simp only [Act.put]
        try simp only [List.setIfInBounds_toArray, List.set_cons_zero, List.set_cons_succ]
        generalize (World.setCell (World.setCell w6 ⟨w2.heap.size, 0, none⟩ (.bool m7)) ⟨w2.heap.size, 1, none⟩ (.slice o7 n7 c7)) = w7 at *
        refine wpAnyH_done (by kernel_rfl) ?_ _
        refine NoPanic.normal ?_
        go_wp2
        exact ⟨⟨2, _, by omega, by go_num, fun h => absurd h (by omega), fun h => absurd h (by omega), fun _ => rfl, fun h => absurd h (by omega), hB_1, pl_1, pr_1, po_1.lt, hwg, hlg, _, _, _, _, po_1, f7_1⟩, by simp [intOf]⟩
      simp only [HAu.out, Act.put, List.setIfInBounds_toArray, List.set_cons_zero, List.set_cons_succ] at stu_6t
      have stu_5t : ∀ (w' : World) (m2 : Bool) (o2 : Option Addr) (n2 : Nat) (c2 : Nat) (m3 : Bool) (o3 : Option Addr) (n3 : Nat) (c3 : Nat) (m4 : Bool) (o4 : Option Addr) (n4 : Nat) (c4 : Nat) (m5 : Bool) (o5 : Option Addr) (n5 : Nat) (c5 : Nat) (m6 : Bool) (o6 : Option Addr) (n6 : Nat) (c6 : Nat), Below w.heap.size w w' → Box w' (g) [.int .i64 a0, .int .i64 a1, .int .i64 b0, .int .i64 b1, .int .i64 v0, .int .i64 v1] → Box w' (w.heap.size) [.bool false, .slice none 0 0] → Box w' (w2.heap.size) [.bool m1, .slice o1 n1 c1] → RNum w' (.agg #[.bool m1, .slice o1 n1 c1]) (5) (0 + (a0 * b1 - a1 * b0)) → Box w' (wr.heap.size) [.int .i64 b0, .int .i64 b1] → Box w' (wr.heap.size + 1) [.int .i64 v0, .int .i64 v1] → Below w5.heap.size w5 w' → RNum w' (.agg #[.bool m2, .slice o2 n2 c2]) (1) (b0) → RNum w' (.agg #[.bool m3, .slice o3 n3 c3]) (1) (b1) → RNum w' (.agg #[.bool m4, .slice o4 n4 c4]) (1) (v0) → RNum w' (.agg #[.bool m5, .slice o5 n5 c5]) (1) (v1) → RNum w' (.agg #[.bool m6, .slice o6 n6 c6]) (3) (b0 * v1 - b1 * v0) → WWu 2 #[true, true, true, true, true, true, true, true, true, true, true, true, true, true, false, false] ((((((au.put (some 23) (.agg #[.bool m1, .slice o1 n1 c1])).put (some 26) (.agg #[.bool m2, .slice o2 n2 c2])).put (some 29) (.agg #[.bool m3, .slice o3 n3 c3])).put (some 32) (.agg #[.bool m4, .slice o4 n4 c4])).put (some 35) (.agg #[.bool m5, .slice o5 n5 c5])).put (some 36) (.agg #[.bool m6, .slice o6 n6 c6])) w' := by
        intro w8 m2 o2 n2 c2 m3 o3 n3 c3 m4 o4 n4 c4 m5 o5 n5 c5 m6 o6 n6 c6 hB_0 pl_0 pr_0 po_0 f1_0 pp_0 pq_0 hWu_0 f2_0 f3_0 f4_0 f5_0 f6_0
        rw [HWu.out, HAu.out]
        try simp only [Act.put]
        try simp only [List.setIfInBounds_toArray, List.set_cons_zero, List.set_cons_succ]
        refine reg_all1 14 ?_ (by kernel_rfl) ?_ (fun K hK => ?_)
        rotate_left 1
        · simp only [List.getElem?_toArray, List.getElem?_cons_succ, List.getElem?_cons_zero]; exact rfl
        · go_simp
          refine (nAdd_any _ _ 5 3 _ _ _ (by omega) (by omega) f1_0.num f6_0.num).mono ?_
          rintro e w9 ⟨m7, o7, n7, c7, rfl, f7_0, hb9⟩
          have hB_1 := hB_0.trans (hb9.mono hB_0.size)
          have pl_1 := pl_0.below hb9
          have pr_1 := pr_0.below hb9
          have po_1 := po_0.below hb9
          have f1_1 := f1_0.below hb9
          have pp_1 := pp_0.below hb9
          have pq_1 := pq_0.below hb9
          have hWu_1 := hWu_0.trans (hb9.mono hWu_0.size)
          have f2_1 := f2_0.below hb9
          have f3_1 := f3_0.below hb9
          have f4_1 := f4_0.below hb9
          have f5_1 := f5_0.below hb9
          have f6_1 := f6_0.below hb9
          clear hb9 hB_0 pl_0 pr_0 po_0 f1_0 pp_0 pq_0 hWu_0 f2_0 f3_0 f4_0 f5_0 f6_0
          go_wp2_with fail
          refine hK.out _ _ ⟨pp_1.c0, pp_1.c1, pq_1.c0, pq_1.c1⟩ (fun hHeld => ?_)
          clear hK K
          try simp only [Act.put]
          try simp only [List.setIfInBounds_toArray, List.set_cons_zero, List.set_cons_succ]
          rw [← HWu.out]
          exact stu_6t _ m2 o2 n2 c2 m3 o3 n3 c3 m4 o4 n4 c4 m5 o5 n5 c5 m6 o6 n6 c6 m7 o7 n7 c7 hB_1 pl_1 pr_1 po_1 f1_1 pp_1 pq_1 hWu_1 f2_1 f3_1 f4_1 f5_1 f6_1 f7_0
      try simp only [HAu.out, Act.put, List.setIfInBounds_toArray, List.set_cons_zero, List.set_cons_succ] at stu_5t
      have stu_5f : ∀ (w' : World) (m2 : Bool) (o2 : Option Addr) (n2 : Nat) (c2 : Nat) (m3 : Bool) (o3 : Option Addr) (n3 : Nat) (c3 : Nat) (m4 : Bool) (o4 : Option Addr) (n4 : Nat) (c4 : Nat) (m5 : Bool) (o5 : Option Addr) (n5 : Nat) (c5 : Nat) (m6 : Bool) (o6 : Option Addr) (n6 : Nat) (c6 : Nat), Below w.heap.size w w' → Box w' (g) [.int .i64 a0, .int .i64 a1, .int .i64 b0, .int .i64 b1, .int .i64 v0, .int .i64 v1] → Box w' (w.heap.size) [.bool false, .slice none 0 0] → Box w' (w2.heap.size) [.bool m1, .slice o1 n1 c1] → RNum w' (.agg #[.bool m1, .slice o1 n1 c1]) (5) (0 + (a0 * b1 - a1 * b0)) → Box w' (wr.heap.size) [.int .i64 b0, .int .i64 b1] → Box w' (wr.heap.size + 1) [.int .i64 v0, .int .i64 v1] → Below w5.heap.size w5 w' → RNum w' (.agg #[.bool m2, .slice o2 n2 c2]) (1) (b0) → RNum w' (.agg #[.bool m3, .slice o3 n3 c3]) (1) (b1) → RNum w' (.agg #[.bool m4, .slice o4 n4 c4]) (1) (v0) → RNum w' (.agg #[.bool m5, .slice o5 n5 c5]) (1) (v1) → RNum w' (.agg #[.bool m6, .slice o6 n6 c6]) (3) (b0 * v1 - b1 * v0) → WWu 3 #[false, true, true, true, true, true, true, true, true, true, true, true, true, true, false, false] (((((au.put (some 26) (.agg #[.bool m2, .slice o2 n2 c2])).put (some 29) (.agg #[.bool m3, .slice o3 n3 c3])).put (some 32) (.agg #[.bool m4, .slice o4 n4 c4])).put (some 35) (.agg #[.bool m5, .slice o5 n5 c5])).put (some 36) (.agg #[.bool m6, .slice o6 n6 c6])) w' := by
        intro w10 m2 o2 n2 c2 m3 o3 n3 c3 m4 o4 n4 c4 m5 o5 n5 c5 m6 o6 n6 c6 hB_0 pl_0 pr_0 po_0 f1_0 pp_0 pq_0 hWu_0 f2_0 f3_0 f4_0 f5_0 f6_0
        rw [HWu.out, HAu.out]
        try simp only [Act.put]
        try simp only [List.setIfInBounds_toArray, List.set_cons_zero, List.set_cons_succ]
        refine reg_all1 0 ?_ (by kernel_rfl) ?_ (fun K hK => ?_)
        rotate_left 1
        · simp only [List.getElem?_toArray, List.getElem?_cons_zero]; exact rfl
        · obtain ⟨poe0, poe1, poe2, poe3⟩ := po_0.open2
          go_simp
          clear poe0 poe1 poe2 poe3
          refine hK.out _ _ ⟨pp_0.c0, pp_0.c1, pq_0.c0, pq_0.c1⟩ (fun hHeld => ?_)
          clear hK K
          try simp only [Act.put]
          try simp only [List.setIfInBounds_toArray, List.set_cons_zero]
          rw [← HWu.out]
          exact stu_5t _ m2 o2 n2 c2 m3 o3 n3 c3 m4 o4 n4 c4 m5 o5 n5 c5 m6 o6 n6 c6 hB_0 pl_0 pr_0 po_0 f1_0 pp_0 pq_0 hWu_0 f2_0 f3_0 f4_0 f5_0 f6_0
      try simp only [HAu.out, Act.put, List.setIfInBounds_toArray, List.set_cons_zero, List.set_cons_succ] at stu_5f
      have stu_4t : ∀ (w' : World) (m2 : Bool) (o2 : Option Addr) (n2 : Nat) (c2 : Nat) (m3 : Bool) (o3 : Option Addr) (n3 : Nat) (c3 : Nat) (m4 : Bool) (o4 : Option Addr) (n4 : Nat) (c4 : Nat) (m5 : Bool) (o5 : Option Addr) (n5 : Nat) (c5 : Nat), Below w.heap.size w w' → Box w' (g) [.int .i64 a0, .int .i64 a1, .int .i64 b0, .int .i64 b1, .int .i64 v0, .int .i64 v1] → Box w' (w.heap.size) [.bool false, .slice none 0 0] → Box w' (w2.heap.size) [.bool m1, .slice o1 n1 c1] → RNum w' (.agg #[.bool m1, .slice o1 n1 c1]) (5) (0 + (a0 * b1 - a1 * b0)) → Box w' (wr.heap.size) [.int .i64 b0, .int .i64 b1] → Box w' (wr.heap.size + 1) [.int .i64 v0, .int .i64 v1] → Below w5.heap.size w5 w' → RNum w' (.agg #[.bool m2, .slice o2 n2 c2]) (1) (b0) → RNum w' (.agg #[.bool m3, .slice o3 n3 c3]) (1) (b1) → RNum w' (.agg #[.bool m4, .slice o4 n4 c4]) (1) (v0) → RNum w' (.agg #[.bool m5, .slice o5 n5 c5]) (1) (v1) → WWu 3 #[true, true, true, true, true, true, true, true, true, true, true, true, true, false, false, false] (((((au.put (some 23) (.agg #[.bool m1, .slice o1 n1 c1])).put (some 26) (.agg #[.bool m2, .slice o2 n2 c2])).put (some 29) (.agg #[.bool m3, .slice o3 n3 c3])).put (some 32) (.agg #[.bool m4, .slice o4 n4 c4])).put (some 35) (.agg #[.bool m5, .slice o5 n5 c5])) w' := by
        intro w11 m2 o2 n2 c2 m3 o3 n3 c3 m4 o4 n4 c4 m5 o5 n5 c5 hB_0 pl_0 pr_0 po_0 f1_0 pp_0 pq_0 hWu_0 f2_0 f3_0 f4_0 f5_0
        rw [HWu.out, HAu.out]
        try simp only [Act.put]
        try simp only [List.setIfInBounds_toArray, List.set_cons_zero, List.set_cons_succ]
        refine reg_all1 13 ?_ (by kernel_rfl) ?_ (fun K hK => ?_)
        rotate_left 1
        · simp only [List.getElem?_toArray, List.getElem?_cons_succ, List.getElem?_cons_zero]; exact rfl
        · go_simp
          refine (det_any _ _ _ _ 1 1 1 1 _ _ _ _ _ (by omega) (by omega) (by omega) (by omega) f2_0.num f3_0.num f4_0.num f5_0.num).mono ?_
          rintro e w12 ⟨m6, o6, n6, c6, rfl, f6_0, hb12⟩
          have hB_1 := hB_0.trans (hb12.mono hB_0.size)
          have pl_1 := pl_0.below hb12
          have pr_1 := pr_0.below hb12
          have po_1 := po_0.below hb12
          have f1_1 := f1_0.below hb12
          have pp_1 := pp_0.below hb12
          have pq_1 := pq_0.below hb12
          have hWu_1 := hWu_0.trans (hb12.mono hWu_0.size)
          have f2_1 := f2_0.below hb12
          have f3_1 := f3_0.below hb12
          have f4_1 := f4_0.below hb12
          have f5_1 := f5_0.below hb12
          clear hb12 hB_0 pl_0 pr_0 po_0 f1_0 pp_0 pq_0 hWu_0 f2_0 f3_0 f4_0 f5_0
          go_wp2_with fail
          refine hK.out _ _ ⟨pp_1.c0, pp_1.c1, pq_1.c0, pq_1.c1⟩ (fun hHeld => ?_)
          clear hK K
          try simp only [Act.put]
          try simp only [List.setIfInBounds_toArray, List.set_cons_zero, List.set_cons_succ]
          rw [← HWu.out]
          exact stu_5t _ m2 o2 n2 c2 m3 o3 n3 c3 m4 o4 n4 c4 m5 o5 n5 c5 m6 o6 n6 c6 hB_1 pl_1 pr_1 po_1 f1_1 pp_1 pq_1 hWu_1 f2_1 f3_1 f4_1 f5_1 f6_0
      try simp only [HAu.out, Act.put, List.setIfInBounds_toArray, List.set_cons_zero, List.set_cons_succ] at stu_4t
      have stu_4f : ∀ (w' : World) (m2 : Bool) (o2 : Option Addr) (n2 : Nat) (c2 : Nat) (m3 : Bool) (o3 : Option Addr) (n3 : Nat) (c3 : Nat) (m4 : Bool) (o4 : Option Addr) (n4 : Nat) (c4 : Nat) (m5 : Bool) (o5 : Option Addr) (n5 : Nat) (c5 : Nat), Below w.heap.size w w' → Box w' (g) [.int .i64 a0, .int .i64 a1, .int .i64 b0, .int .i64 b1, .int .i64 v0, .int .i64 v1] → Box w' (w.heap.size) [.bool false, .slice none 0 0] → Box w' (w2.heap.size) [.bool m1, .slice o1 n1 c1] → RNum w' (.agg #[.bool m1, .slice o1 n1 c1]) (5) (0 + (a0 * b1 - a1 * b0)) → Box w' (wr.heap.size) [.int .i64 b0, .int .i64 b1] → Box w' (wr.heap.size + 1) [.int .i64 v0, .int .i64 v1] → Below w5.heap.size w5 w' → RNum w' (.agg #[.bool m2, .slice o2 n2 c2]) (1) (b0) → RNum w' (.agg #[.bool m3, .slice o3 n3 c3]) (1) (b1) → RNum w' (.agg #[.bool m4, .slice o4 n4 c4]) (1) (v0) → RNum w' (.agg #[.bool m5, .slice o5 n5 c5]) (1) (v1) → WWu 4 #[false, true, true, true, true, true, true, true, true, true, true, true, true, false, false, false] ((((au.put (some 26) (.agg #[.bool m2, .slice o2 n2 c2])).put (some 29) (.agg #[.bool m3, .slice o3 n3 c3])).put (some 32) (.agg #[.bool m4, .slice o4 n4 c4])).put (some 35) (.agg #[.bool m5, .slice o5 n5 c5])) w' := by
        intro w13 m2 o2 n2 c2 m3 o3 n3 c3 m4 o4 n4 c4 m5 o5 n5 c5 hB_0 pl_0 pr_0 po_0 f1_0 pp_0 pq_0 hWu_0 f2_0 f3_0 f4_0 f5_0
        rw [HWu.out, HAu.out]
        try simp only [Act.put]
        try simp only [List.setIfInBounds_toArray, List.set_cons_zero, List.set_cons_succ]
        refine reg_all2 0 13 ?_ ?_ (by kernel_rfl) ?_ ?_ (fun K hK => ?_) (fun K hK => ?_)
        rotate_left 2
        · simp only [List.getElem?_toArray, List.getElem?_cons_zero]; exact rfl
        · simp only [List.getElem?_toArray, List.getElem?_cons_succ, List.getElem?_cons_zero]; exact rfl
        · obtain ⟨poe0, poe1, poe2, poe3⟩ := po_0.open2
          go_simp
          clear poe0 poe1 poe2 poe3
          refine hK.out _ _ ⟨pp_0.c0, pp_0.c1, pq_0.c0, pq_0.c1⟩ (fun hHeld => ?_)
          clear hK K
          try simp only [Act.put]
          try simp only [List.setIfInBounds_toArray, List.set_cons_zero]
          rw [← HWu.out]
          exact stu_4t _ m2 o2 n2 c2 m3 o3 n3 c3 m4 o4 n4 c4 m5 o5 n5 c5 hB_0 pl_0 pr_0 po_0 f1_0 pp_0 pq_0 hWu_0 f2_0 f3_0 f4_0 f5_0
        · go_simp
          refine (det_any _ _ _ _ 1 1 1 1 _ _ _ _ _ (by omega) (by omega) (by omega) (by omega) f2_0.num f3_0.num f4_0.num f5_0.num).mono ?_
          rintro e w14 ⟨m6, o6, n6, c6, rfl, f6_0, hb14⟩
          have hB_1 := hB_0.trans (hb14.mono hB_0.size)
          have pl_1 := pl_0.below hb14
          have pr_1 := pr_0.below hb14
          have po_1 := po_0.below hb14
          have f1_1 := f1_0.below hb14
          have pp_1 := pp_0.below hb14
          have pq_1 := pq_0.below hb14
          have hWu_1 := hWu_0.trans (hb14.mono hWu_0.size)
          have f2_1 := f2_0.below hb14
          have f3_1 := f3_0.below hb14
          have f4_1 := f4_0.below hb14
          have f5_1 := f5_0.below hb14
          clear hb14 hB_0 pl_0 pr_0 po_0 f1_0 pp_0 pq_0 hWu_0 f2_0 f3_0 f4_0 f5_0
          go_wp2_with fail
          refine hK.out _ _ ⟨pp_1.c0, pp_1.c1, pq_1.c0, pq_1.c1⟩ (fun hHeld => ?_)
          clear hK K
          try simp only [Act.put]
          try simp only [List.setIfInBounds_toArray, List.set_cons_zero, List.set_cons_succ]
          rw [← HWu.out]
          exact stu_5f _ m2 o2 n2 c2 m3 o3 n3 c3 m4 o4 n4 c4 m5 o5 n5 c5 m6 o6 n6 c6 hB_1 pl_1 pr_1 po_1 f1_1 pp_1 pq_1 hWu_1 f2_1 f3_1 f4_1 f5_1 f6_0
      try simp only [HAu.out, Act.put, List.setIfInBounds_toArray, List.set_cons_zero, List.set_cons_succ] at stu_4f
      have stu_3t : ∀ (w' : World) (m2 : Bool) (o2 : Option Addr) (n2 : Nat) (c2 : Nat) (m3 : Bool) (o3 : Option Addr) (n3 : Nat) (c3 : Nat) (m4 : Bool) (o4 : Option Addr) (n4 : Nat) (c4 : Nat), Below w.heap.size w w' → Box w' (g) [.int .i64 a0, .int .i64 a1, .int .i64 b0, .int .i64 b1, .int .i64 v0, .int .i64 v1] → Box w' (w.heap.size) [.bool false, .slice none 0 0] → Box w' (w2.heap.size) [.bool m1, .slice o1 n1 c1] → RNum w' (.agg #[.bool m1, .slice o1 n1 c1]) (5) (0 + (a0 * b1 - a1 * b0)) → Box w' (wr.heap.size) [.int .i64 b0, .int .i64 b1] → Box w' (wr.heap.size + 1) [.int .i64 v0, .int .i64 v1] → Below w5.heap.size w5 w' → RNum w' (.agg #[.bool m2, .slice o2 n2 c2]) (1) (b0) → RNum w' (.agg #[.bool m3, .slice o3 n3 c3]) (1) (b1) → RNum w' (.agg #[.bool m4, .slice o4 n4 c4]) (1) (v0) → WWu 4 #[true, true, true, true, true, true, true, true, true, true, true, true, false, false, false, false] ((((au.put (some 23) (.agg #[.bool m1, .slice o1 n1 c1])).put (some 26) (.agg #[.bool m2, .slice o2 n2 c2])).put (some 29) (.agg #[.bool m3, .slice o3 n3 c3])).put (some 32) (.agg #[.bool m4, .slice o4 n4 c4])) w' := by
        intro w15 m2 o2 n2 c2 m3 o3 n3 c3 m4 o4 n4 c4 hB_0 pl_0 pr_0 po_0 f1_0 pp_0 pq_0 hWu_0 f2_0 f3_0 f4_0
        rw [HWu.out, HAu.out]
        try simp only [Act.put]
        try simp only [List.setIfInBounds_toArray, List.set_cons_zero, List.set_cons_succ]
        refine reg_all1 12 ?_ (by kernel_rfl) ?_ (fun K hK => ?_)
        rotate_left 1
        · simp only [List.getElem?_toArray, List.getElem?_cons_succ, List.getElem?_cons_zero]; exact rfl
        · go_simp
          refine (nOf_any v1 (by have := HV1.out; unfold InP at this; omega) (by have := HV1.out; unfold InP at this; omega) _).mono ?_
          rintro e w16 ⟨m5, o5, n5, c5, rfl, f5_0, hb16⟩
          have hB_1 := hB_0.trans (hb16.mono hB_0.size)
          have pl_1 := pl_0.below hb16
          have pr_1 := pr_0.below hb16
          have po_1 := po_0.below hb16
          have f1_1 := f1_0.below hb16
          have pp_1 := pp_0.below hb16
          have pq_1 := pq_0.below hb16
          have hWu_1 := hWu_0.trans (hb16.mono hWu_0.size)
          have f2_1 := f2_0.below hb16
          have f3_1 := f3_0.below hb16
          have f4_1 := f4_0.below hb16
          clear hb16 hB_0 pl_0 pr_0 po_0 f1_0 pp_0 pq_0 hWu_0 f2_0 f3_0 f4_0
          go_wp2_with fail
          refine hK.out _ _ ⟨pp_1.c0, pp_1.c1, pq_1.c0, pq_1.c1⟩ (fun hHeld => ?_)
          clear hK K
          try simp only [Act.put]
          try simp only [List.setIfInBounds_toArray, List.set_cons_zero, List.set_cons_succ]
          rw [← HWu.out]
          exact stu_4t _ m2 o2 n2 c2 m3 o3 n3 c3 m4 o4 n4 c4 m5 o5 n5 c5 hB_1 pl_1 pr_1 po_1 f1_1 pp_1 pq_1 hWu_1 f2_1 f3_1 f4_1 f5_0
      try simp only [HAu.out, Act.put, List.setIfInBounds_toArray, List.set_cons_zero, List.set_cons_succ] at stu_3t
      have stu_3f : ∀ (w' : World) (m2 : Bool) (o2 : Option Addr) (n2 : Nat) (c2 : Nat) (m3 : Bool) (o3 : Option Addr) (n3 : Nat) (c3 : Nat) (m4 : Bool) (o4 : Option Addr) (n4 : Nat) (c4 : Nat), Below w.heap.size w w' → Box w' (g) [.int .i64 a0, .int .i64 a1, .int .i64 b0, .int .i64 b1, .int .i64 v0, .int .i64 v1] → Box w' (w.heap.size) [.bool false, .slice none 0 0] → Box w' (w2.heap.size) [.bool m1, .slice o1 n1 c1] → RNum w' (.agg #[.bool m1, .slice o1 n1 c1]) (5) (0 + (a0 * b1 - a1 * b0)) → Box w' (wr.heap.size) [.int .i64 b0, .int .i64 b1] → Box w' (wr.heap.size + 1) [.int .i64 v0, .int .i64 v1] → Below w5.heap.size w5 w' → RNum w' (.agg #[.bool m2, .slice o2 n2 c2]) (1) (b0) → RNum w' (.agg #[.bool m3, .slice o3 n3 c3]) (1) (b1) → RNum w' (.agg #[.bool m4, .slice o4 n4 c4]) (1) (v0) → WWu 5 #[false, true, true, true, true, true, true, true, true, true, true, true, false, false, false, false] (((au.put (some 26) (.agg #[.bool m2, .slice o2 n2 c2])).put (some 29) (.agg #[.bool m3, .slice o3 n3 c3])).put (some 32) (.agg #[.bool m4, .slice o4 n4 c4])) w' := by
        intro w17 m2 o2 n2 c2 m3 o3 n3 c3 m4 o4 n4 c4 hB_0 pl_0 pr_0 po_0 f1_0 pp_0 pq_0 hWu_0 f2_0 f3_0 f4_0
        rw [HWu.out, HAu.out]
        try simp only [Act.put]
        try simp only [List.setIfInBounds_toArray, List.set_cons_zero, List.set_cons_succ]
        refine reg_all2 0 12 ?_ ?_ (by kernel_rfl) ?_ ?_ (fun K hK => ?_) (fun K hK => ?_)
        rotate_left 2
        · simp only [List.getElem?_toArray, List.getElem?_cons_zero]; exact rfl
        · simp only [List.getElem?_toArray, List.getElem?_cons_succ, List.getElem?_cons_zero]; exact rfl
        · obtain ⟨poe0, poe1, poe2, poe3⟩ := po_0.open2
          go_simp
          clear poe0 poe1 poe2 poe3
          refine hK.out _ _ ⟨pp_0.c0, pp_0.c1, pq_0.c0, pq_0.c1⟩ (fun hHeld => ?_)
          clear hK K
          try simp only [Act.put]
          try simp only [List.setIfInBounds_toArray, List.set_cons_zero]
          rw [← HWu.out]
          exact stu_3t _ m2 o2 n2 c2 m3 o3 n3 c3 m4 o4 n4 c4 hB_0 pl_0 pr_0 po_0 f1_0 pp_0 pq_0 hWu_0 f2_0 f3_0 f4_0
        · go_simp
          refine (nOf_any v1 (by have := HV1.out; unfold InP at this; omega) (by have := HV1.out; unfold InP at this; omega) _).mono ?_
          rintro e w18 ⟨m5, o5, n5, c5, rfl, f5_0, hb18⟩
          have hB_1 := hB_0.trans (hb18.mono hB_0.size)
          have pl_1 := pl_0.below hb18
          have pr_1 := pr_0.below hb18
          have po_1 := po_0.below hb18
          have f1_1 := f1_0.below hb18
          have pp_1 := pp_0.below hb18
          have pq_1 := pq_0.below hb18
          have hWu_1 := hWu_0.trans (hb18.mono hWu_0.size)
          have f2_1 := f2_0.below hb18
          have f3_1 := f3_0.below hb18
          have f4_1 := f4_0.below hb18
          clear hb18 hB_0 pl_0 pr_0 po_0 f1_0 pp_0 pq_0 hWu_0 f2_0 f3_0 f4_0
          go_wp2_with fail
          refine hK.out _ _ ⟨pp_1.c0, pp_1.c1, pq_1.c0, pq_1.c1⟩ (fun hHeld => ?_)
          clear hK K
          try simp only [Act.put]
          try simp only [List.setIfInBounds_toArray, List.set_cons_zero, List.set_cons_succ]
          rw [← HWu.out]
          exact stu_4f _ m2 o2 n2 c2 m3 o3 n3 c3 m4 o4 n4 c4 m5 o5 n5 c5 hB_1 pl_1 pr_1 po_1 f1_1 pp_1 pq_1 hWu_1 f2_1 f3_1 f4_1 f5_0
      try simp only [HAu.out, Act.put, List.setIfInBounds_toArray, List.set_cons_zero, List.set_cons_succ] at stu_3f
      have stu_2t : ∀ (w' : World) (m2 : Bool) (o2 : Option Addr) (n2 : Nat) (c2 : Nat) (m3 : Bool) (o3 : Option Addr) (n3 : Nat) (c3 : Nat), Below w.heap.size w w' → Box w' (g) [.int .i64 a0, .int .i64 a1, .int .i64 b0, .int .i64 b1, .int .i64 v0, .int .i64 v1] → Box w' (w.heap.size) [.bool false, .slice none 0 0] → Box w' (w2.heap.size) [.bool m1, .slice o1 n1 c1] → RNum w' (.agg #[.bool m1, .slice o1 n1 c1]) (5) (0 + (a0 * b1 - a1 * b0)) → Box w' (wr.heap.size) [.int .i64 b0, .int .i64 b1] → Box w' (wr.heap.size + 1) [.int .i64 v0, .int .i64 v1] → Below w5.heap.size w5 w' → RNum w' (.agg #[.bool m2, .slice o2 n2 c2]) (1) (b0) → RNum w' (.agg #[.bool m3, .slice o3 n3 c3]) (1) (b1) → WWu 5 #[true, true, true, true, true, true, true, true, true, false, true, true, false, false, false, false] (((au.put (some 23) (.agg #[.bool m1, .slice o1 n1 c1])).put (some 26) (.agg #[.bool m2, .slice o2 n2 c2])).put (some 29) (.agg #[.bool m3, .slice o3 n3 c3])) w' := by
        intro w19 m2 o2 n2 c2 m3 o3 n3 c3 hB_0 pl_0 pr_0 po_0 f1_0 pp_0 pq_0 hWu_0 f2_0 f3_0
        rw [HWu.out, HAu.out]
        try simp only [Act.put]
        try simp only [List.setIfInBounds_toArray, List.set_cons_zero, List.set_cons_succ]
        refine reg_all1 9 ?_ (by kernel_rfl) ?_ (fun K hK => ?_)
        rotate_left 1
        · simp only [List.getElem?_toArray, List.getElem?_cons_succ, List.getElem?_cons_zero]; exact rfl
        · go_simp
          refine (nOf_any v0 (by have := HV0.out; unfold InP at this; omega) (by have := HV0.out; unfold InP at this; omega) _).mono ?_
          rintro e w20 ⟨m4, o4, n4, c4, rfl, f4_0, hb20⟩
          have hB_1 := hB_0.trans (hb20.mono hB_0.size)
          have pl_1 := pl_0.below hb20
          have pr_1 := pr_0.below hb20
          have po_1 := po_0.below hb20
          have f1_1 := f1_0.below hb20
          have pp_1 := pp_0.below hb20
          have pq_1 := pq_0.below hb20
          have hWu_1 := hWu_0.trans (hb20.mono hWu_0.size)
          have f2_1 := f2_0.below hb20
          have f3_1 := f3_0.below hb20
          clear hb20 hB_0 pl_0 pr_0 po_0 f1_0 pp_0 pq_0 hWu_0 f2_0 f3_0
          go_wp2_with fail
          refine hK.out _ _ ⟨pp_1.c0, pp_1.c1, pq_1.c0, pq_1.c1⟩ (fun hHeld => ?_)
          clear hK K
          try simp only [Act.put]
          try simp only [List.setIfInBounds_toArray, List.set_cons_zero, List.set_cons_succ]
          rw [← HWu.out]
          exact stu_3t _ m2 o2 n2 c2 m3 o3 n3 c3 m4 o4 n4 c4 hB_1 pl_1 pr_1 po_1 f1_1 pp_1 pq_1 hWu_1 f2_1 f3_1 f4_0
      try simp only [HAu.out, Act.put, List.setIfInBounds_toArray, List.set_cons_zero, List.set_cons_succ] at stu_2t
      have stu_2f : ∀ (w' : World) (m2 : Bool) (o2 : Option Addr) (n2 : Nat) (c2 : Nat) (m3 : Bool) (o3 : Option Addr) (n3 : Nat) (c3 : Nat), Below w.heap.size w w' → Box w' (g) [.int .i64 a0, .int .i64 a1, .int .i64 b0, .int .i64 b1, .int .i64 v0, .int .i64 v1] → Box w' (w.heap.size) [.bool false, .slice none 0 0] → Box w' (w2.heap.size) [.bool m1, .slice o1 n1 c1] → RNum w' (.agg #[.bool m1, .slice o1 n1 c1]) (5) (0 + (a0 * b1 - a1 * b0)) → Box w' (wr.heap.size) [.int .i64 b0, .int .i64 b1] → Box w' (wr.heap.size + 1) [.int .i64 v0, .int .i64 v1] → Below w5.heap.size w5 w' → RNum w' (.agg #[.bool m2, .slice o2 n2 c2]) (1) (b0) → RNum w' (.agg #[.bool m3, .slice o3 n3 c3]) (1) (b1) → WWu 6 #[false, true, true, true, true, true, true, true, true, false, true, true, false, false, false, false] ((au.put (some 26) (.agg #[.bool m2, .slice o2 n2 c2])).put (some 29) (.agg #[.bool m3, .slice o3 n3 c3])) w' := by
        intro w21 m2 o2 n2 c2 m3 o3 n3 c3 hB_0 pl_0 pr_0 po_0 f1_0 pp_0 pq_0 hWu_0 f2_0 f3_0
        rw [HWu.out, HAu.out]
        try simp only [Act.put]
        try simp only [List.setIfInBounds_toArray, List.set_cons_zero, List.set_cons_succ]
        refine reg_all2 0 9 ?_ ?_ (by kernel_rfl) ?_ ?_ (fun K hK => ?_) (fun K hK => ?_)
        rotate_left 2
        · simp only [List.getElem?_toArray, List.getElem?_cons_zero]; exact rfl
        · simp only [List.getElem?_toArray, List.getElem?_cons_succ, List.getElem?_cons_zero]; exact rfl
        · obtain ⟨poe0, poe1, poe2, poe3⟩ := po_0.open2
          go_simp
          clear poe0 poe1 poe2 poe3
          refine hK.out _ _ ⟨pp_0.c0, pp_0.c1, pq_0.c0, pq_0.c1⟩ (fun hHeld => ?_)
          clear hK K
          try simp only [Act.put]
          try simp only [List.setIfInBounds_toArray, List.set_cons_zero]
          rw [← HWu.out]
          exact stu_2t _ m2 o2 n2 c2 m3 o3 n3 c3 hB_0 pl_0 pr_0 po_0 f1_0 pp_0 pq_0 hWu_0 f2_0 f3_0
        · go_simp
          refine (nOf_any v0 (by have := HV0.out; unfold InP at this; omega) (by have := HV0.out; unfold InP at this; omega) _).mono ?_
          rintro e w22 ⟨m4, o4, n4, c4, rfl, f4_0, hb22⟩
          have hB_1 := hB_0.trans (hb22.mono hB_0.size)
          have pl_1 := pl_0.below hb22
          have pr_1 := pr_0.below hb22
          have po_1 := po_0.below hb22
          have f1_1 := f1_0.below hb22
          have pp_1 := pp_0.below hb22
          have pq_1 := pq_0.below hb22
          have hWu_1 := hWu_0.trans (hb22.mono hWu_0.size)
          have f2_1 := f2_0.below hb22
          have f3_1 := f3_0.below hb22
          clear hb22 hB_0 pl_0 pr_0 po_0 f1_0 pp_0 pq_0 hWu_0 f2_0 f3_0
          go_wp2_with fail
          refine hK.out _ _ ⟨pp_1.c0, pp_1.c1, pq_1.c0, pq_1.c1⟩ (fun hHeld => ?_)
          clear hK K
          try simp only [Act.put]
          try simp only [List.setIfInBounds_toArray, List.set_cons_zero, List.set_cons_succ]
          rw [← HWu.out]
          exact stu_3f _ m2 o2 n2 c2 m3 o3 n3 c3 m4 o4 n4 c4 hB_1 pl_1 pr_1 po_1 f1_1 pp_1 pq_1 hWu_1 f2_1 f3_1 f4_0
      try simp only [HAu.out, Act.put, List.setIfInBounds_toArray, List.set_cons_zero, List.set_cons_succ] at stu_2f
      have stu_1t : ∀ (w' : World) (m2 : Bool) (o2 : Option Addr) (n2 : Nat) (c2 : Nat), Below w.heap.size w w' → Box w' (g) [.int .i64 a0, .int .i64 a1, .int .i64 b0, .int .i64 b1, .int .i64 v0, .int .i64 v1] → Box w' (w.heap.size) [.bool false, .slice none 0 0] → Box w' (w2.heap.size) [.bool m1, .slice o1 n1 c1] → RNum w' (.agg #[.bool m1, .slice o1 n1 c1]) (5) (0 + (a0 * b1 - a1 * b0)) → Box w' (wr.heap.size) [.int .i64 b0, .int .i64 b1] → Box w' (wr.heap.size + 1) [.int .i64 v0, .int .i64 v1] → Below w5.heap.size w5 w' → RNum w' (.agg #[.bool m2, .slice o2 n2 c2]) (1) (b0) → WWu 6 #[true, true, true, true, true, true, false, true, true, false, true, true, false, false, false, false] ((au.put (some 23) (.agg #[.bool m1, .slice o1 n1 c1])).put (some 26) (.agg #[.bool m2, .slice o2 n2 c2])) w' := by
        intro w23 m2 o2 n2 c2 hB_0 pl_0 pr_0 po_0 f1_0 pp_0 pq_0 hWu_0 f2_0
        rw [HWu.out, HAu.out]
        try simp only [Act.put]
        try simp only [List.setIfInBounds_toArray, List.set_cons_zero, List.set_cons_succ]
        refine reg_all1 6 ?_ (by kernel_rfl) ?_ (fun K hK => ?_)
        rotate_left 1
        · simp only [List.getElem?_toArray, List.getElem?_cons_succ, List.getElem?_cons_zero]; exact rfl
        · go_simp
          refine (nOf_any b1 (by have := HB1.out; unfold InP at this; omega) (by have := HB1.out; unfold InP at this; omega) _).mono ?_
          rintro e w24 ⟨m3, o3, n3, c3, rfl, f3_0, hb24⟩
          have hB_1 := hB_0.trans (hb24.mono hB_0.size)
          have pl_1 := pl_0.below hb24
          have pr_1 := pr_0.below hb24
          have po_1 := po_0.below hb24
          have f1_1 := f1_0.below hb24
          have pp_1 := pp_0.below hb24
          have pq_1 := pq_0.below hb24
          have hWu_1 := hWu_0.trans (hb24.mono hWu_0.size)
          have f2_1 := f2_0.below hb24
          clear hb24 hB_0 pl_0 pr_0 po_0 f1_0 pp_0 pq_0 hWu_0 f2_0
          go_wp2_with fail
          refine hK.out _ _ ⟨pp_1.c0, pp_1.c1, pq_1.c0, pq_1.c1⟩ (fun hHeld => ?_)
          clear hK K
          try simp only [Act.put]
          try simp only [List.setIfInBounds_toArray, List.set_cons_zero, List.set_cons_succ]
          rw [← HWu.out]
          exact stu_2t _ m2 o2 n2 c2 m3 o3 n3 c3 hB_1 pl_1 pr_1 po_1 f1_1 pp_1 pq_1 hWu_1 f2_1 f3_0
      try simp only [HAu.out, Act.put, List.setIfInBounds_toArray, List.set_cons_zero, List.set_cons_succ] at stu_1t
      have stu_1f : ∀ (w' : World) (m2 : Bool) (o2 : Option Addr) (n2 : Nat) (c2 : Nat), Below w.heap.size w w' → Box w' (g) [.int .i64 a0, .int .i64 a1, .int .i64 b0, .int .i64 b1, .int .i64 v0, .int .i64 v1] → Box w' (w.heap.size) [.bool false, .slice none 0 0] → Box w' (w2.heap.size) [.bool m1, .slice o1 n1 c1] → RNum w' (.agg #[.bool m1, .slice o1 n1 c1]) (5) (0 + (a0 * b1 - a1 * b0)) → Box w' (wr.heap.size) [.int .i64 b0, .int .i64 b1] → Box w' (wr.heap.size + 1) [.int .i64 v0, .int .i64 v1] → Below w5.heap.size w5 w' → RNum w' (.agg #[.bool m2, .slice o2 n2 c2]) (1) (b0) → WWu 7 #[false, true, true, true, true, true, false, true, true, false, true, true, false, false, false, false] (au.put (some 26) (.agg #[.bool m2, .slice o2 n2 c2])) w' := by
        intro w25 m2 o2 n2 c2 hB_0 pl_0 pr_0 po_0 f1_0 pp_0 pq_0 hWu_0 f2_0
        rw [HWu.out, HAu.out]
        try simp only [Act.put]
        try simp only [List.setIfInBounds_toArray, List.set_cons_zero, List.set_cons_succ]
        refine reg_all2 0 6 ?_ ?_ (by kernel_rfl) ?_ ?_ (fun K hK => ?_) (fun K hK => ?_)
        rotate_left 2
        · simp only [List.getElem?_toArray, List.getElem?_cons_zero]; exact rfl
        · simp only [List.getElem?_toArray, List.getElem?_cons_succ, List.getElem?_cons_zero]; exact rfl
        · obtain ⟨poe0, poe1, poe2, poe3⟩ := po_0.open2
          go_simp
          clear poe0 poe1 poe2 poe3
          refine hK.out _ _ ⟨pp_0.c0, pp_0.c1, pq_0.c0, pq_0.c1⟩ (fun hHeld => ?_)
          clear hK K
          try simp only [Act.put]
          try simp only [List.setIfInBounds_toArray, List.set_cons_zero]
          rw [← HWu.out]
          exact stu_1t _ m2 o2 n2 c2 hB_0 pl_0 pr_0 po_0 f1_0 pp_0 pq_0 hWu_0 f2_0
        · go_simp
          refine (nOf_any b1 (by have := HB1.out; unfold InP at this; omega) (by have := HB1.out; unfold InP at this; omega) _).mono ?_
          rintro e w26 ⟨m3, o3, n3, c3, rfl, f3_0, hb26⟩
          have hB_1 := hB_0.trans (hb26.mono hB_0.size)
          have pl_1 := pl_0.below hb26
          have pr_1 := pr_0.below hb26
          have po_1 := po_0.below hb26
          have f1_1 := f1_0.below hb26
          have pp_1 := pp_0.below hb26
          have pq_1 := pq_0.below hb26
          have hWu_1 := hWu_0.trans (hb26.mono hWu_0.size)
          have f2_1 := f2_0.below hb26
          clear hb26 hB_0 pl_0 pr_0 po_0 f1_0 pp_0 pq_0 hWu_0 f2_0
          go_wp2_with fail
          refine hK.out _ _ ⟨pp_1.c0, pp_1.c1, pq_1.c0, pq_1.c1⟩ (fun hHeld => ?_)
          clear hK K
          try simp only [Act.put]
          try simp only [List.setIfInBounds_toArray, List.set_cons_zero, List.set_cons_succ]
          rw [← HWu.out]
          exact stu_2f _ m2 o2 n2 c2 m3 o3 n3 c3 hB_1 pl_1 pr_1 po_1 f1_1 pp_1 pq_1 hWu_1 f2_1 f3_0
      try simp only [HAu.out, Act.put, List.setIfInBounds_toArray, List.set_cons_zero, List.set_cons_succ] at stu_1f
      have stu_0t : ∀ (w' : World), Below w.heap.size w w' → Box w' (g) [.int .i64 a0, .int .i64 a1, .int .i64 b0, .int .i64 b1, .int .i64 v0, .int .i64 v1] → Box w' (w.heap.size) [.bool false, .slice none 0 0] → Box w' (w2.heap.size) [.bool m1, .slice o1 n1 c1] → RNum w' (.agg #[.bool m1, .slice o1 n1 c1]) (5) (0 + (a0 * b1 - a1 * b0)) → Box w' (wr.heap.size) [.int .i64 b0, .int .i64 b1] → Box w' (wr.heap.size + 1) [.int .i64 v0, .int .i64 v1] → Below w5.heap.size w5 w' → WWu 7 #[true, true, true, false, true, true, false, true, true, false, true, true, false, false, false, false] (au.put (some 23) (.agg #[.bool m1, .slice o1 n1 c1])) w' := by
        intro w27 hB_0 pl_0 pr_0 po_0 f1_0 pp_0 pq_0 hWu_0
        rw [HWu.out, HAu.out]
        try simp only [Act.put]
        try simp only [List.setIfInBounds_toArray, List.set_cons_zero, List.set_cons_succ]
        refine reg_all1 3 ?_ (by kernel_rfl) ?_ (fun K hK => ?_)
        rotate_left 1
        · simp only [List.getElem?_toArray, List.getElem?_cons_succ, List.getElem?_cons_zero]; exact rfl
        · go_simp
          refine (nOf_any b0 (by have := HB0.out; unfold InP at this; omega) (by have := HB0.out; unfold InP at this; omega) _).mono ?_
          rintro e w28 ⟨m2, o2, n2, c2, rfl, f2_0, hb28⟩
          have hB_1 := hB_0.trans (hb28.mono hB_0.size)
          have pl_1 := pl_0.below hb28
          have pr_1 := pr_0.below hb28
          have po_1 := po_0.below hb28
          have f1_1 := f1_0.below hb28
          have pp_1 := pp_0.below hb28
          have pq_1 := pq_0.below hb28
          have hWu_1 := hWu_0.trans (hb28.mono hWu_0.size)
          clear hb28 hB_0 pl_0 pr_0 po_0 f1_0 pp_0 pq_0 hWu_0
          go_wp2_with fail
          refine hK.out _ _ ⟨pp_1.c0, pp_1.c1, pq_1.c0, pq_1.c1⟩ (fun hHeld => ?_)
          clear hK K
          try simp only [Act.put]
          try simp only [List.setIfInBounds_toArray, List.set_cons_zero, List.set_cons_succ]
          rw [← HWu.out]
          exact stu_1t _ m2 o2 n2 c2 hB_1 pl_1 pr_1 po_1 f1_1 pp_1 pq_1 hWu_1 f2_0
      try simp only [HAu.out, Act.put, List.setIfInBounds_toArray, List.set_cons_zero, List.set_cons_succ] at stu_0t
      have stu_0f : ∀ (w' : World), Below w.heap.size w w' → Box w' (g) [.int .i64 a0, .int .i64 a1, .int .i64 b0, .int .i64 b1, .int .i64 v0, .int .i64 v1] → Box w' (w.heap.size) [.bool false, .slice none 0 0] → Box w' (w2.heap.size) [.bool m1, .slice o1 n1 c1] → RNum w' (.agg #[.bool m1, .slice o1 n1 c1]) (5) (0 + (a0 * b1 - a1 * b0)) → Box w' (wr.heap.size) [.int .i64 b0, .int .i64 b1] → Box w' (wr.heap.size + 1) [.int .i64 v0, .int .i64 v1] → Below w5.heap.size w5 w' → WWu 8 #[false, true, true, false, true, true, false, true, true, false, true, true, false, false, false, false] au w' := by
        intro w29 hB_0 pl_0 pr_0 po_0 f1_0 pp_0 pq_0 hWu_0
        rw [HWu.out, HAu.out]
        try simp only [Act.put]
        try simp only [List.setIfInBounds_toArray, List.set_cons_zero, List.set_cons_succ]
        refine reg_all2 0 3 ?_ ?_ (by kernel_rfl) ?_ ?_ (fun K hK => ?_) (fun K hK => ?_)
        rotate_left 2
        · simp only [List.getElem?_toArray, List.getElem?_cons_zero]; exact rfl
        · simp only [List.getElem?_toArray, List.getElem?_cons_succ, List.getElem?_cons_zero]; exact rfl
        · obtain ⟨poe0, poe1, poe2, poe3⟩ := po_0.open2
          go_simp
          clear poe0 poe1 poe2 poe3
          refine hK.out _ _ ⟨pp_0.c0, pp_0.c1, pq_0.c0, pq_0.c1⟩ (fun hHeld => ?_)
          clear hK K
          try simp only [Act.put]
          try simp only [List.setIfInBounds_toArray, List.set_cons_zero]
          rw [← HWu.out]
          exact stu_0t _ hB_0 pl_0 pr_0 po_0 f1_0 pp_0 pq_0 hWu_0
        · go_simp
          refine (nOf_any b0 (by have := HB0.out; unfold InP at this; omega) (by have := HB0.out; unfold InP at this; omega) _).mono ?_
          rintro e w30 ⟨m2, o2, n2, c2, rfl, f2_0, hb30⟩
          have hB_1 := hB_0.trans (hb30.mono hB_0.size)
          have pl_1 := pl_0.below hb30
          have pr_1 := pr_0.below hb30
          have po_1 := po_0.below hb30
          have f1_1 := f1_0.below hb30
          have pp_1 := pp_0.below hb30
          have pq_1 := pq_0.below hb30
          have hWu_1 := hWu_0.trans (hb30.mono hWu_0.size)
          clear hb30 hB_0 pl_0 pr_0 po_0 f1_0 pp_0 pq_0 hWu_0
          go_wp2_with fail
          refine hK.out _ _ ⟨pp_1.c0, pp_1.c1, pq_1.c0, pq_1.c1⟩ (fun hHeld => ?_)
          clear hK K
          try simp only [Act.put]
          try simp only [List.setIfInBounds_toArray, List.set_cons_zero, List.set_cons_succ]
          rw [← HWu.out]
          exact stu_1f _ m2 o2 n2 c2 hB_1 pl_1 pr_1 po_1 f1_1 pp_1 pq_1 hWu_1 f2_0
      exact stu_0f _ hB_3 pl_3 pr_3 po_3 f1_3 pp_2 pq_1 hWu_1
    · obtain rfl := x2 rfl
      clear x0 x1 x2 x3 hj
      obtain ⟨xl0, xl1, xl2, xl3, xl4, xl5, xl6, xl7, xl8, xl9, xl10, xl11⟩ := pl_0.open6
      have hl2pl := pl_0.lt
      have hl2pr := pr_0.lt
      have hl2po := po_0.lt
      have hl2B := hB_0.size
      obtain ⟨w4, hw4, pp_0, hb4, hs4⟩ := new_box wr (wr.heap.size) rfl [.int .i64 v0, .int .i64 v1] 23
      have hb4' : Below wr.heap.size wr w4 := hb4.mono (by omega)
      clear hb4
      have hB_1 := hB_0.trans (hb4'.mono hB_0.size)
      have pl_1 := pl_0.below hb4'
      have pr_1 := pr_0.below hb4'
      have po_1 := po_0.below hb4'
      have f1_1 := f1_0.below hb4'
      clear hb4' hB_0 pl_0 pr_0 po_0 f1_0
      obtain ⟨yl0, yl1, yl2, yl3, yl4, yl5, yl6, yl7, yl8, yl9, yl10, yl11⟩ := pl_1.open6
      have hl3pl := pl_1.lt
      have hl3pr := pr_1.lt
      have hl3po := po_1.lt
      have hl3pp := pp_0.lt
      have hl3B := hB_1.size
      obtain ⟨w5, hw5, pq_0, hb5, hs5⟩ := new_box w4 (wr.heap.size + 1) hs4 [.int .i64 a0, .int .i64 a1] 23
      have hb5' : Below w4.heap.size w4 w5 := hb5.mono (by omega)
      clear hb5
      have hB_2 := hB_1.trans (hb5'.mono hB_1.size)
      have pl_2 := pl_1.below hb5'
      have pr_2 := pr_1.below hb5'
      have po_2 := po_1.below hb5'
      have f1_2 := f1_1.below hb5'
      have pp_1 := pp_0.below hb5'
      clear hb5' hB_1 pl_1 pr_1 po_1 f1_1 pp_0
      obtain ⟨ple0, ple1, ple2, ple3, ple4, ple5, ple6, ple7, ple8, ple9, ple10, ple11⟩ := pl_2.open6
      obtain ⟨ppe0, ppe1, ppe2, ppe3⟩ := pp_1.open2
      obtain ⟨pqe0, pqe1, pqe2, pqe3⟩ := pq_0.open2
      obtain ⟨poe0, poe1, poe2, poe3⟩ := po_2.open2
      go_wp2
      clear xl0 xl1 xl2 xl3 xl4 xl5 xl6 xl7 xl8 xl9 xl10 xl11 yl0 yl1 yl2 yl3 yl4 yl5 yl6 yl7 yl8 yl9 yl10 yl11
      clear ple0 ple1 ple2 ple3 ple4 ple5 ple6 ple7 ple8 ple9 ple10 ple11 ppe0 ppe1 ppe2 ppe3 pqe0 pqe1 pqe2 pqe3 poe0 poe1 poe2 poe3
      have hWu_0 := Below.refl w5.heap.size w5
      have hsu : w.heap.size ≤ w5.heap.size := hB_2.size
      have hlupl := pl_2.lt
      have hlupr := pr_2.lt
      have hlupo := po_2.lt
      have hlupp := pp_1.lt
      have hlupq := pq_0.lt
      have hB_3 := hB_2.drew'
      have pl_3 := pl_2.drew
      have pr_3 := pr_2.drew
      have po_3 := po_2.drew
      have f1_3 := f1_2.drew
      have pp_2 := pp_1.drew
      have pq_1 := pq_0.drew
      have hWu_1 := hWu_0.drew'
      clear hB_2 pl_2 pr_2 po_2 f1_2 pp_1 pq_0 hWu_0
      refine wp_region_noPanic ?_
      refine wp_region_held_drew (S := fun w' => w'.cell? ⟨wr.heap.size, 0, none⟩ = some (.int .i64 v0) ∧ w'.cell? ⟨wr.heap.size, 1, none⟩ = some (.int .i64 v1) ∧ w'.cell? ⟨wr.heap.size + 1, 0, none⟩ = some (.int .i64 a0) ∧ w'.cell? ⟨wr.heap.size + 1, 1, none⟩ = some (.int .i64 a1)) (by kernel_rfl) (⟨pp_2.c0, pp_2.c1, pq_1.c0, pq_1.c1⟩) (fun hHeld => ?_)
      refine reg_take 1 ?_ ?_ ?_ (by kernel_rfl) (by kernel_rfl) (by kernel_rfl) (fun _ _ _ h => h) ?_ ?_ (by assumption) ?_
      rotate_left 2
      · simp only [List.getElem?_toArray, List.getElem?_cons_succ, List.getElem?_cons_zero]; exact rfl
      · rfl
      · intro w hSw; (try dsimp only at hSw); go_simp; try with_reducible rfl
      try simp only [Act.put]
      try simp only [List.setIfInBounds_toArray, List.set_cons_zero, List.set_cons_succ]
      refine reg_take 2 ?_ ?_ ?_ (by kernel_rfl) (by kernel_rfl) (by kernel_rfl) (fun _ _ _ h => h) ?_ ?_ (by assumption) ?_
      rotate_left 2
      · simp only [List.getElem?_toArray, List.getElem?_cons_succ, List.getElem?_cons_zero]; exact rfl
      · rfl
      · intro w hSw; (try dsimp only at hSw); go_simp; try with_reducible rfl
      try simp only [Act.put]
      try simp only [List.setIfInBounds_toArray, List.set_cons_zero, List.set_cons_succ]
      refine reg_take 4 ?_ ?_ ?_ (by kernel_rfl) (by kernel_rfl) (by kernel_rfl) (fun _ _ _ h => h) ?_ ?_ (by assumption) ?_
      rotate_left 2
      · simp only [List.getElem?_toArray, List.getElem?_cons_succ, List.getElem?_cons_zero]; exact rfl
      · rfl
      · intro w hSw; (try dsimp only at hSw); go_simp; try with_reducible rfl
      try simp only [Act.put]
      try simp only [List.setIfInBounds_toArray, List.set_cons_zero, List.set_cons_succ]
      refine reg_take 5 ?_ ?_ ?_ (by kernel_rfl) (by kernel_rfl) (by kernel_rfl) (fun _ _ _ h => h) ?_ ?_ (by assumption) ?_
      rotate_left 2
      · simp only [List.getElem?_toArray, List.getElem?_cons_succ, List.getElem?_cons_zero]; exact rfl
      · rfl
      · intro w hSw; (try dsimp only at hSw); go_simp; try with_reducible rfl
      try simp only [Act.put]
      try simp only [List.setIfInBounds_toArray, List.set_cons_zero, List.set_cons_succ]
      refine reg_take 7 ?_ ?_ ?_ (by kernel_rfl) (by kernel_rfl) (by kernel_rfl) (fun _ _ _ h => h) ?_ ?_ (by assumption) ?_
      rotate_left 2
      · simp only [List.getElem?_toArray, List.getElem?_cons_succ, List.getElem?_cons_zero]; exact rfl
      · rfl
      · intro w hSw; (try dsimp only at hSw); go_simp; try with_reducible rfl
      try simp only [Act.put]
      try simp only [List.setIfInBounds_toArray, List.set_cons_zero, List.set_cons_succ]
      refine reg_take 8 ?_ ?_ ?_ (by kernel_rfl) (by kernel_rfl) (by kernel_rfl) (fun _ _ _ h => h) ?_ ?_ (by assumption) ?_
      rotate_left 2
      · simp only [List.getElem?_toArray, List.getElem?_cons_succ, List.getElem?_cons_zero]; exact rfl
      · rfl
      · intro w hSw; (try dsimp only at hSw); go_simp; try with_reducible rfl
      try simp only [Act.put]
      try simp only [List.setIfInBounds_toArray, List.set_cons_zero, List.set_cons_succ]
      refine reg_take 10 ?_ ?_ ?_ (by kernel_rfl) (by kernel_rfl) (by kernel_rfl) (fun _ _ _ h => h) ?_ ?_ (by assumption) ?_
      rotate_left 2
      · simp only [List.getElem?_toArray, List.getElem?_cons_succ, List.getElem?_cons_zero]; exact rfl
      · rfl
      · intro w hSw; (try dsimp only at hSw); go_simp; try with_reducible rfl
      try simp only [Act.put]
      try simp only [List.setIfInBounds_toArray, List.set_cons_zero, List.set_cons_succ]
      refine reg_take 11 ?_ ?_ ?_ (by kernel_rfl) (by kernel_rfl) (by kernel_rfl) (fun _ _ _ h => h) ?_ ?_ (by assumption) ?_
      rotate_left 2
      · simp only [List.getElem?_toArray, List.getElem?_cons_succ, List.getElem?_cons_zero]; exact rfl
      · rfl
      · intro w hSw; (try dsimp only at hSw); go_simp; try with_reducible rfl
      try simp only [Act.put]
      try simp only [List.setIfInBounds_toArray, List.set_cons_zero, List.set_cons_succ]
      refine reg_grab (fun WWu au hWW hAA => ?_)
      have HWu := Lib.hid hWW; have HAu := Lib.hid hAA; clear hWW hAA hHeld
      have stu_6t : ∀ (w' : World) (m2 : Bool) (o2 : Option Addr) (n2 : Nat) (c2 : Nat) (m3 : Bool) (o3 : Option Addr) (n3 : Nat) (c3 : Nat) (m4 : Bool) (o4 : Option Addr) (n4 : Nat) (c4 : Nat) (m5 : Bool) (o5 : Option Addr) (n5 : Nat) (c5 : Nat) (m6 : Bool) (o6 : Option Addr) (n6 : Nat) (c6 : Nat) (m7 : Bool) (o7 : Option Addr) (n7 : Nat) (c7 : Nat), Below w.heap.size w w' → Box w' (g) [.int .i64 a0, .int .i64 a1, .int .i64 b0, .int .i64 b1, .int .i64 v0, .int .i64 v1] → Box w' (w.heap.size) [.bool false, .slice none 0 0] → Box w' (w2.heap.size) [.bool m1, .slice o1 n1 c1] → RNum w' (.agg #[.bool m1, .slice o1 n1 c1]) (6) (0 + (a0 * b1 - a1 * b0) + (b0 * v1 - b1 * v0)) → Box w' (wr.heap.size) [.int .i64 v0, .int .i64 v1] → Box w' (wr.heap.size + 1) [.int .i64 a0, .int .i64 a1] → Below w5.heap.size w5 w' → RNum w' (.agg #[.bool m2, .slice o2 n2 c2]) (1) (v0) → RNum w' (.agg #[.bool m3, .slice o3 n3 c3]) (1) (v1) → RNum w' (.agg #[.bool m4, .slice o4 n4 c4]) (1) (a0) → RNum w' (.agg #[.bool m5, .slice o5 n5 c5]) (1) (a1) → RNum w' (.agg #[.bool m6, .slice o6 n6 c6]) (3) (v0 * a1 - v1 * a0) → RNum w' (.agg #[.bool m7, .slice o7 n7 c7]) (7) (0 + (a0 * b1 - a1 * b0) + (b0 * v1 - b1 * v0) + (v0 * a1 - v1 * a0)) → WWu 1 #[true, true, true, true, true, true, true, true, true, true, true, true, true, true, true, false] (((((((au.put (some 23) (.agg #[.bool m1, .slice o1 n1 c1])).put (some 26) (.agg #[.bool m2, .slice o2 n2 c2])).put (some 29) (.agg #[.bool m3, .slice o3 n3 c3])).put (some 32) (.agg #[.bool m4, .slice o4 n4 c4])).put (some 35) (.agg #[.bool m5, .slice o5 n5 c5])).put (some 36) (.agg #[.bool m6, .slice o6 n6 c6])).put (some 37) (.agg #[.bool m7, .slice o7 n7 c7])) w' := by
        intro w6 m2 o2 n2 c2 m3 o3 n3 c3 m4 o4 n4 c4 m5 o5 n5 c5 m6 o6 n6 c6 m7 o7 n7 c7 hB_0 pl_0 pr_0 po_0 f1_0 pp_0 pq_0 hWu_0 f2_0 f3_0 f4_0 f5_0 f6_0 f7_0
        rw [HWu.out, HAu.out]
        try simp only [Act.put]
        try simp only [List.setIfInBounds_toArray, List.set_cons_zero, List.set_cons_succ]
        clear hWu_0
        obtain ⟨sf1a, sf1b, sf1c, sf1d⟩ := po_0.open2
        obtain ⟨sg1a, sg1b⟩ := Box.put2 po_0 (.bool m7)
        refine reg_call 15 ?_ (by kernel_rfl) ?_ (fun K hK => ?_)
        rotate_left 1
        · simp only [List.getElem?_toArray, List.getElem?_cons_succ, List.getElem?_cons_zero]; exact rfl
        go_simp
        have hB_1 := below_setAll hB_0 (g := w2.heap.size) (by omega) [.bool m7, .slice o7 n7 c7]
        have pl_1 := pl_0.farAll (g' := w2.heap.size) (by omega) [.bool m7, .slice o7 n7 c7]
        have pr_1 := pr_0.farAll (g' := w2.heap.size) (by omega) [.bool m7, .slice o7 n7 c7]
        have f1_1 := f1_0.setAll po_0 (noWord2 _ _ _ _) [.bool m7, .slice o7 n7 c7] rfl
        have pp_1 := pp_0.farAll (g' := w2.heap.size) (by omega) [.bool m7, .slice o7 n7 c7]
        have pq_1 := pq_0.farAll (g' := w2.heap.size) (by omega) [.bool m7, .slice o7 n7 c7]
        have f2_1 := f2_0.setAll po_0 (noWord2 _ _ _ _) [.bool m7, .slice o7 n7 c7] rfl
        have f3_1 := f3_0.setAll po_0 (noWord2 _ _ _ _) [.bool m7, .slice o7 n7 c7] rfl
        have f4_1 := f4_0.setAll po_0 (noWord2 _ _ _ _) [.bool m7, .slice o7 n7 c7] rfl
        have f5_1 := f5_0.setAll po_0 (noWord2 _ _ _ _) [.bool m7, .slice o7 n7 c7] rfl
        have f6_1 := f6_0.setAll po_0 (noWord2 _ _ _ _) [.bool m7, .slice o7 n7 c7] rfl
        have f7_1 := f7_0.setAll po_0 (noWord2 _ _ _ _) [.bool m7, .slice o7 n7 c7] rfl
        have po_1 := po_0.setAll [.bool m7, .slice o7 n7 c7] rfl
        simp only [setAll, Nat.zero_add] at hB_1 pl_1 pr_1 po_1 f1_1 pp_1 pq_1 f2_1 f3_1 f4_1 f5_1 f6_1 f7_1
        clear sf1a sf1b sf1c sf1d sg1a sg1b
        clear hB_0 pl_0 pr_0 f1_0 pp_0 pq_0 f2_0 f3_0 f4_0 f5_0 f6_0 f7_0 po_0
        refine hK.out _ _ ⟨pp_1.c0, pp_1.c1, pq_1.c0, pq_1.c1⟩ (fun hHeld => ?_)
        clear hK K
        try simp only [Act.put]
        try simp only [List.setIfInBounds_toArray, List.set_cons_zero, List.set_cons_succ]
        generalize (World.setCell (World.setCell w6 ⟨w2.heap.size, 0, none⟩ (.bool m7)) ⟨w2.heap.size, 1, none⟩ (.slice o7 n7 c7)) = w7 at *
        refine wpAnyH_done (by kernel_rfl) ?_ _
        refine NoPanic.normal ?_
        go_wp2
        exact ⟨⟨3, _, by omega, by go_num, fun h => absurd h (by omega), fun h => absurd h (by omega), fun h => absurd h (by omega), fun _ => rfl, hB_1, pl_1, pr_1, po_1.lt, hwg, hlg, _, _, _, _, po_1, f7_1⟩, by simp [intOf]⟩
      simp only [HAu.out, Act.put, List.setIfInBounds_toArray, List.set_cons_zero, List.set_cons_succ] at stu_6t
      have stu_5t : ∀ (w' : World) (m2 : Bool) (o2 : Option Addr) (n2 : Nat) (c2 : Nat) (m3 : Bool) (o3 : Option Addr) (n3 : Nat) (c3 : Nat) (m4 : Bool) (o4 : Option Addr) (n4 : Nat) (c4 : Nat) (m5 : Bool) (o5 : Option Addr) (n5 : Nat) (c5 : Nat) (m6 : Bool) (o6 : Option Addr) (n6 : Nat) (c6 : Nat), Below w.heap.size w w' → Box w' (g) [.int .i64 a0, .int .i64 a1, .int .i64 b0, .int .i64 b1, .int .i64 v0, .int .i64 v1] → Box w' (w.heap.size) [.bool false, .slice none 0 0] → Box w' (w2.heap.size) [.bool m1, .slice o1 n1 c1] → RNum w' (.agg #[.bool m1, .slice o1 n1 c1]) (6) (0 + (a0 * b1 - a1 * b0) + (b0 * v1 - b1 * v0)) → Box w' (wr.heap.size) [.int .i64 v0, .int .i64 v1] → Box w' (wr.heap.size + 1) [.int .i64 a0, .int .i64 a1] → Below w5.heap.size w5 w' → RNum w' (.agg #[.bool m2, .slice o2 n2 c2]) (1) (v0) → RNum w' (.agg #[.bool m3, .slice o3 n3 c3]) (1) (v1) → RNum w' (.agg #[.bool m4, .slice o4 n4 c4]) (1) (a0) → RNum w' (.agg #[.bool m5, .slice o5 n5 c5]) (1) (a1) → RNum w' (.agg #[.bool m6, .slice o6 n6 c6]) (3) (v0 * a1 - v1 * a0) → WWu 2 #[true, true, true, true, true, true, true, true, true, true, true, true, true, true, false, false] ((((((au.put (some 23) (.agg #[.bool m1, .slice o1 n1 c1])).put (some 26) (.agg #[.bool m2, .slice o2 n2 c2])).put (some 29) (.agg #[.bool m3, .slice o3 n3 c3])).put (some 32) (.agg #[.bool m4, .slice o4 n4 c4])).put (some 35) (.agg #[.bool m5, .slice o5 n5 c5])).put (some 36) (.agg #[.bool m6, .slice o6 n6 c6])) w' := by
        intro w8 m2 o2 n2 c2 m3 o3 n3 c3 m4 o4 n4 c4 m5 o5 n5 c5 m6 o6 n6 c6 hB_0 pl_0 pr_0 po_0 f1_0 pp_0 pq_0 hWu_0 f2_0 f3_0 f4_0 f5_0 f6_0
        rw [HWu.out, HAu.out]
        try simp only [Act.put]
        try simp only [List.setIfInBounds_toArray, List.set_cons_zero, List.set_cons_succ]
        refine reg_all1 14 ?_ (by kernel_rfl) ?_ (fun K hK => ?_)
        rotate_left 1
        · simp only [List.getElem?_toArray, List.getElem?_cons_succ, List.getElem?_cons_zero]; exact rfl
        · go_simp
          refine (nAdd_any _ _ 6 3 _ _ _ (by omega) (by omega) f1_0.num f6_0.num).mono ?_
          rintro e w9 ⟨m7, o7, n7, c7, rfl, f7_0, hb9⟩
          have hB_1 := hB_0.trans (hb9.mono hB_0.size)
          have pl_1 := pl_0.below hb9
          have pr_1 := pr_0.below hb9
          have po_1 := po_0.below hb9
          have f1_1 := f1_0.below hb9
          have pp_1 := pp_0.below hb9
          have pq_1 := pq_0.below hb9
          have hWu_1 := hWu_0.trans (hb9.mono hWu_0.size)
          have f2_1 := f2_0.below hb9
          have f3_1 := f3_0.below hb9
          have f4_1 := f4_0.below hb9
          have f5_1 := f5_0.below hb9
          have f6_1 := f6_0.below hb9
          clear hb9 hB_0 pl_0 pr_0 po_0 f1_0 pp_0 pq_0 hWu_0 f2_0 f3_0 f4_0 f5_0 f6_0
          go_wp2_with fail
          refine hK.out _ _ ⟨pp_1.c0, pp_1.c1, pq_1.c0, pq_1.c1⟩ (fun hHeld => ?_)
          clear hK K
          try simp only [Act.put]
          try simp only [List.setIfInBounds_toArray, List.set_cons_zero, List.set_cons_succ]
          rw [← HWu.out]
          exact stu_6t _ m2 o2 n2 c2 m3 o3 n3 c3 m4 o4 n4 c4 m5 o5 n5 c5 m6 o6 n6 c6 m7 o7 n7 c7 hB_1 pl_1 pr_1 po_1 f1_1 pp_1 pq_1 hWu_1 f2_1 f3_1 f4_1 f5_1 f6_1 f7_0
      try simp only [HAu.out, Act.put, List.setIfInBounds_toArray, List.set_cons_zero, List.set_cons_succ] at stu_5t
      have stu_5f : ∀ (w' : World) (m2 : Bool) (o2 : Option Addr) (n2 : Nat) (c2 : Nat) (m3 : Bool) (o3 : Option Addr) (n3 : Nat) (c3 : Nat) (m4 : Bool) (o4 : Option Addr) (n4 : Nat) (c4 : Nat) (m5 : Bool) (o5 : Option Addr) (n5 : Nat) (c5 : Nat) (m6 : Bool) (o6 : Option Addr) (n6 : Nat) (c6 : Nat), Below w.heap.size w w' → Box w' (g) [.int .i64 a0, .int .i64 a1, .int .i64 b0, .int .i64 b1, .int .i64 v0, .int .i64 v1] → Box w' (w.heap.size) [.bool false, .slice none 0 0] → Box w' (w2.heap.size) [.bool m1, .slice o1 n1 c1] → RNum w' (.agg #[.bool m1, .slice o1 n1 c1]) (6) (0 + (a0 * b1 - a1 * b0) + (b0 * v1 - b1 * v0)) → Box w' (wr.heap.size) [.int .i64 v0, .int .i64 v1] → Box w' (wr.heap.size + 1) [.int .i64 a0, .int .i64 a1] → Below w5.heap.size w5 w' → RNum w' (.agg #[.bool m2, .slice o2 n2 c2]) (1) (v0) → RNum w' (.agg #[.bool m3, .slice o3 n3 c3]) (1) (v1) → RNum w' (.agg #[.bool m4, .slice o4 n4 c4]) (1) (a0) → RNum w' (.agg #[.bool m5, .slice o5 n5 c5]) (1) (a1) → RNum w' (.agg #[.bool m6, .slice o6 n6 c6]) (3) (v0 * a1 - v1 * a0) → WWu 3 #[false, true, true, true, true, true, true, true, true, true, true, true, true, true, false, false] (((((au.put (some 26) (.agg #[.bool m2, .slice o2 n2 c2])).put (some 29) (.agg #[.bool m3, .slice o3 n3 c3])).put (some 32) (.agg #[.bool m4, .slice o4 n4 c4])).put (some 35) (.agg #[.bool m5, .slice o5 n5 c5])).put (some 36) (.agg #[.bool m6, .slice o6 n6 c6])) w' := by
        intro w10 m2 o2 n2 c2 m3 o3 n3 c3 m4 o4 n4 c4 m5 o5 n5 c5 m6 o6 n6 c6 hB_0 pl_0 pr_0 po_0 f1_0 pp_0 pq_0 hWu_0 f2_0 f3_0 f4_0 f5_0 f6_0
        rw [HWu.out, HAu.out]
        try simp only [Act.put]
        try simp only [List.setIfInBounds_toArray, List.set_cons_zero, List.set_cons_succ]
        refine reg_all1 0 ?_ (by kernel_rfl) ?_ (fun K hK => ?_)
        rotate_left 1
        · simp only [List.getElem?_toArray, List.getElem?_cons_zero]; exact rfl
        · obtain ⟨poe0, poe1, poe2, poe3⟩ := po_0.open2
          go_simp
          clear poe0 poe1 poe2 poe3
          refine hK.out _ _ ⟨pp_0.c0, pp_0.c1, pq_0.c0, pq_0.c1⟩ (fun hHeld => ?_)
          clear hK K
          try simp only [Act.put]
          try simp only [List.setIfInBounds_toArray, List.set_cons_zero]
          rw [← HWu.out]
          exact stu_5t _ m2 o2 n2 c2 m3 o3 n3 c3 m4 o4 n4 c4 m5 o5 n5 c5 m6 o6 n6 c6 hB_0 pl_0 pr_0 po_0 f1_0 pp_0 pq_0 hWu_0 f2_0 f3_0 f4_0 f5_0 f6_0
      try simp only [HAu.out, Act.put, List.setIfInBounds_toArray, List.set_cons_zero, List.set_cons_succ] at stu_5f
      have stu_4t : ∀ (w' : World) (m2 : Bool) (o2 : Option Addr) (n2 : Nat) (c2 : Nat) (m3 : Bool) (o3 : Option Addr) (n3 : Nat) (c3 : Nat) (m4 : Bool) (o4 : Option Addr) (n4 : Nat) (c4 : Nat) (m5 : Bool) (o5 : Option Addr) (n5 : Nat) (c5 : Nat), Below w.heap.size w w' → Box w' (g) [.int .i64 a0, .int .i64 a1, .int .i64 b0, .int .i64 b1, .int .i64 v0, .int .i64 v1] → Box w' (w.heap.size) [.bool false, .slice none 0 0] → Box w' (w2.heap.size) [.bool m1, .slice o1 n1 c1] → RNum w' (.agg #[.bool m1, .slice o1 n1 c1]) (6) (0 + (a0 * b1 - a1 * b0) + (b0 * v1 - b1 * v0)) → Box w' (wr.heap.size) [.int .i64 v0, .int .i64 v1] → Box w' (wr.heap.size + 1) [.int .i64 a0, .int .i64 a1] → Below w5.heap.size w5 w' → RNum w' (.agg #[.bool m2, .slice o2 n2 c2]) (1) (v0) → RNum w' (.agg #[.bool m3, .slice o3 n3 c3]) (1) (v1) → RNum w' (.agg #[.bool m4, .slice o4 n4 c4]) (1) (a0) → RNum w' (.agg #[.bool m5, .slice o5 n5 c5]) (1) (a1) → WWu 3 #[true, true, true, true, true, true, true, true, true, true, true, true, true, false, false, false] (((((au.put (some 23) (.agg #[.bool m1, .slice o1 n1 c1])).put (some 26) (.agg #[.bool m2, .slice o2 n2 c2])).put (some 29) (.agg #[.bool m3, .slice o3 n3 c3])).put (some 32) (.agg #[.bool m4, .slice o4 n4 c4])).put (some 35) (.agg #[.bool m5, .slice o5 n5 c5])) w' := by
        intro w11 m2 o2 n2 c2 m3 o3 n3 c3 m4 o4 n4 c4 m5 o5 n5 c5 hB_0 pl_0 pr_0 po_0 f1_0 pp_0 pq_0 hWu_0 f2_0 f3_0 f4_0 f5_0
        rw [HWu.out, HAu.out]
        try simp only [Act.put]
        try simp only [List.setIfInBounds_toArray, List.set_cons_zero, List.set_cons_succ]
        refine reg_all1 13 ?_ (by kernel_rfl) ?_ (fun K hK => ?_)
        rotate_left 1
        · simp only [List.getElem?_toArray, List.getElem?_cons_succ, List.getElem?_cons_zero]; exact rfl
        · go_simp
          refine (det_any _ _ _ _ 1 1 1 1 _ _ _ _ _ (by omega) (by omega) (by omega) (by omega) f2_0.num f3_0.num f4_0.num f5_0.num).mono ?_
          rintro e w12 ⟨m6, o6, n6, c6, rfl, f6_0, hb12⟩
          have hB_1 := hB_0.trans (hb12.mono hB_0.size)
          have pl_1 := pl_0.below hb12
          have pr_1 := pr_0.below hb12
          have po_1 := po_0.below hb12
          have f1_1 := f1_0.below hb12
          have pp_1 := pp_0.below hb12
          have pq_1 := pq_0.below hb12
          have hWu_1 := hWu_0.trans (hb12.mono hWu_0.size)
          have f2_1 := f2_0.below hb12
          have f3_1 := f3_0.below hb12
          have f4_1 := f4_0.below hb12
          have f5_1 := f5_0.below hb12
          clear hb12 hB_0 pl_0 pr_0 po_0 f1_0 pp_0 pq_0 hWu_0 f2_0 f3_0 f4_0 f5_0
          go_wp2_with fail
          refine hK.out _ _ ⟨pp_1.c0, pp_1.c1, pq_1.c0, pq_1.c1⟩ (fun hHeld => ?_)
          clear hK K
          try simp only [Act.put]
          try simp only [List.setIfInBounds_toArray, List.set_cons_zero, List.set_cons_succ]
          rw [← HWu.out]
          exact stu_5t _ m2 o2 n2 c2 m3 o3 n3 c3 m4 o4 n4 c4 m5 o5 n5 c5 m6 o6 n6 c6 hB_1 pl_1 pr_1 po_1 f1_1 pp_1 pq_1 hWu_1 f2_1 f3_1 f4_1 f5_1 f6_0
      try simp only [HAu.out, Act.put, List.setIfInBounds_toArray, List.set_cons_zero, List.set_cons_succ] at stu_4t
      have stu_4f : ∀ (w' : World) (m2 : Bool) (o2 : Option Addr) (n2 : Nat) (c2 : Nat) (m3 : Bool) (o3 : Option Addr) (n3 : Nat) (c3 : Nat) (m4 : Bool) (o4 : Option Addr) (n4 : Nat) (c4 : Nat) (m5 : Bool) (o5 : Option Addr) (n5 : Nat) (c5 : Nat), Below w.heap.size w w' → Box w' (g) [.int .i64 a0, .int .i64 a1, .int .i64 b0, .int .i64 b1, .int .i64 v0, .int .i64 v1] → Box w' (w.heap.size) [.bool false, .slice none 0 0] → Box w' (w2.heap.size) [.bool m1, .slice o1 n1 c1] → RNum w' (.agg #[.bool m1, .slice o1 n1 c1]) (6) (0 + (a0 * b1 - a1 * b0) + (b0 * v1 - b1 * v0)) → Box w' (wr.heap.size) [.int .i64 v0, .int .i64 v1] → Box w' (wr.heap.size + 1) [.int .i64 a0, .int .i64 a1] → Below w5.heap.size w5 w' → RNum w' (.agg #[.bool m2, .slice o2 n2 c2]) (1) (v0) → RNum w' (.agg #[.bool m3, .slice o3 n3 c3]) (1) (v1) → RNum w' (.agg #[.bool m4, .slice o4 n4 c4]) (1) (a0) → RNum w' (.agg #[.bool m5, .slice o5 n5 c5]) (1) (a1) → WWu 4 #[false, true, true, true, true, true, true, true, true, true, true, true, true, false, false, false] ((((au.put (some 26) (.agg #[.bool m2, .slice o2 n2 c2])).put (some 29) (.agg #[.bool m3, .slice o3 n3 c3])).put (some 32) (.agg #[.bool m4, .slice o4 n4 c4])).put (some 35) (.agg #[.bool m5, .slice o5 n5 c5])) w' := by
        intro w13 m2 o2 n2 c2 m3 o3 n3 c3 m4 o4 n4 c4 m5 o5 n5 c5 hB_0 pl_0 pr_0 po_0 f1_0 pp_0 pq_0 hWu_0 f2_0 f3_0 f4_0 f5_0
        rw [HWu.out, HAu.out]
        try simp only [Act.put]
        try simp only [List.setIfInBounds_toArray, List.set_cons_zero, List.set_cons_succ]
        refine reg_all2 0 13 ?_ ?_ (by kernel_rfl) ?_ ?_ (fun K hK => ?_) (fun K hK => ?_)
        rotate_left 2
        · simp only [List.getElem?_toArray, List.getElem?_cons_zero]; exact rfl
        · simp only [List.getElem?_toArray, List.getElem?_cons_succ, List.getElem?_cons_zero]; exact rfl
        · obtain ⟨poe0, poe1, poe2, poe3⟩ := po_0.open2
          go_simp
          clear poe0 poe1 poe2 poe3
          refine hK.out _ _ ⟨pp_0.c0, pp_0.c1, pq_0.c0, pq_0.c1⟩ (fun hHeld => ?_)
          clear hK K
          try simp only [Act.put]
          try simp only [List.setIfInBounds_toArray, List.set_cons_zero]
          rw [← HWu.out]
          exact stu_4t _ m2 o2 n2 c2 m3 o3 n3 c3 m4 o4 n4 c4 m5 o5 n5 c5 hB_0 pl_0 pr_0 po_0 f1_0 pp_0 pq_0 hWu_0 f2_0 f3_0 f4_0 f5_0
        · go_simp
          refine (det_any _ _ _ _ 1 1 1 1 _ _ _ _ _ (by omega) (by omega) (by omega) (by omega) f2_0.num f3_0.num f4_0.num f5_0.num).mono ?_
          rintro e w14 ⟨m6, o6, n6, c6, rfl, f6_0, hb14⟩
          have hB_1 := hB_0.trans (hb14.mono hB_0.size)
          have pl_1 := pl_0.below hb14
          have pr_1 := pr_0.below hb14
          have po_1 := po_0.below hb14
          have f1_1 := f1_0.below hb14
          have pp_1 := pp_0.below hb14
          have pq_1 := pq_0.below hb14
          have hWu_1 := hWu_0.trans (hb14.mono hWu_0.size)
          have f2_1 := f2_0.below hb14
          have f3_1 := f3_0.below hb14
          have f4_1 := f4_0.below hb14
          have f5_1 := f5_0.below hb14
          clear hb14 hB_0 pl_0 pr_0 po_0 f1_0 pp_0 pq_0 hWu_0 f2_0 f3_0 f4_0 f5_0
          go_wp2_with fail
          refine hK.out _ _ ⟨pp_1.c0, pp_1.c1, pq_1.c0, pq_1.c1⟩ (fun hHeld => ?_)
          clear hK K
          try simp only [Act.put]
          try simp only [List.setIfInBounds_toArray, List.set_cons_zero, List.set_cons_succ]
          rw [← HWu.out]
          exact stu_5f _ m2 o2 n2 c2 m3 o3 n3 c3 m4 o4 n4 c4 m5 o5 n5 c5 m6 o6 n6 c6 hB_1 pl_1 pr_1 po_1 f1_1 pp_1 pq_1 hWu_1 f2_1 f3_1 f4_1 f5_1 f6_0
      try simp only [HAu.out, Act.put, List.setIfInBounds_toArray, List.set_cons_zero, List.set_cons_succ] at stu_4f
      have stu_3t : ∀ (w' : World) (m2 : Bool) (o2 : Option Addr) (n2 : Nat) (c2 : Nat) (m3 : Bool) (o3 : Option Addr) (n3 : Nat) (c3 : Nat) (m4 : Bool) (o4 : Option Addr) (n4 : Nat) (c4 : Nat), Below w.heap.size w w' → Box w' (g) [.int .i64 a0, .int .i64 a1, .int .i64 b0, .int .i64 b1, .int .i64 v0, .int .i64 v1] → Box w' (w.heap.size) [.bool false, .slice none 0 0] → Box w' (w2.heap.size) [.bool m1, .slice o1 n1 c1] → RNum w' (.agg #[.bool m1, .slice o1 n1 c1]) (6) (0 + (a0 * b1 - a1 * b0) + (b0 * v1 - b1 * v0)) → Box w' (wr.heap.size) [.int .i64 v0, .int .i64 v1] → Box w' (wr.heap.size + 1) [.int .i64 a0, .int .i64 a1] → Below w5.heap.size w5 w' → RNum w' (.agg #[.bool m2, .slice o2 n2 c2]) (1) (v0) → RNum w' (.agg #[.bool m3, .slice o3 n3 c3]) (1) (v1) → RNum w' (.agg #[.bool m4, .slice o4 n4 c4]) (1) (a0) → WWu 4 #[true, true, true, true, true, true, true, true, true, true, true, true, false, false, false, false] ((((au.put (some 23) (.agg #[.bool m1, .slice o1 n1 c1])).put (some 26) (.agg #[.bool m2, .slice o2 n2 c2])).put (some 29) (.agg #[.bool m3, .slice o3 n3 c3])).put (some 32) (.agg #[.bool m4, .slice o4 n4 c4])) w' := by
        intro w15 m2 o2 n2 c2 m3 o3 n3 c3 m4 o4 n4 c4 hB_0 pl_0 pr_0 po_0 f1_0 pp_0 pq_0 hWu_0 f2_0 f3_0 f4_0
        rw [HWu.out, HAu.out]
        try simp only [Act.put]
        try simp only [List.setIfInBounds_toArray, List.set_cons_zero, List.set_cons_succ]
        refine reg_all1 12 ?_ (by kernel_rfl) ?_ (fun K hK => ?_)
        rotate_left 1
        · simp only [List.getElem?_toArray, List.getElem?_cons_succ, List.getElem?_cons_zero]; exact rfl
        · go_simp
          refine (nOf_any a1 (by have := HA1.out; unfold InP at this; omega) (by have := HA1.out; unfold InP at this; omega) _).mono ?_
          rintro e w16 ⟨m5, o5, n5, c5, rfl, f5_0, hb16⟩
          have hB_1 := hB_0.trans (hb16.mono hB_0.size)
          have pl_1 := pl_0.below hb16
          have pr_1 := pr_0.below hb16
          have po_1 := po_0.below hb16
          have f1_1 := f1_0.below hb16
          have pp_1 := pp_0.below hb16
          have pq_1 := pq_0.below hb16
          have hWu_1 := hWu_0.trans (hb16.mono hWu_0.size)
          have f2_1 := f2_0.below hb16
          have f3_1 := f3_0.below hb16
          have f4_1 := f4_0.below hb16
          clear hb16 hB_0 pl_0 pr_0 po_0 f1_0 pp_0 pq_0 hWu_0 f2_0 f3_0 f4_0
          go_wp2_with fail
          refine hK.out _ _ ⟨pp_1.c0, pp_1.c1, pq_1.c0, pq_1.c1⟩ (fun hHeld => ?_)
          clear hK K
          try simp only [Act.put]
          try simp only [List.setIfInBounds_toArray, List.set_cons_zero, List.set_cons_succ]
          rw [← HWu.out]
          exact stu_4t _ m2 o2 n2 c2 m3 o3 n3 c3 m4 o4 n4 c4 m5 o5 n5 c5 hB_1 pl_1 pr_1 po_1 f1_1 pp_1 pq_1 hWu_1 f2_1 f3_1 f4_1 f5_0
      try simp only [HAu.out, Act.put, List.setIfInBounds_toArray, List.set_cons_zero, List.set_cons_succ] at stu_3t
      have stu_3f : ∀ (w' : World) (m2 : Bool) (o2 : Option Addr) (n2 : Nat) (c2 : Nat) (m3 : Bool) (o3 : Option Addr) (n3 : Nat) (c3 : Nat) (m4 : Bool) (o4 : Option Addr) (n4 : Nat) (c4 : Nat), Below w.heap.size w w' → Box w' (g) [.int .i64 a0, .int .i64 a1, .int .i64 b0, .int .i64 b1, .int .i64 v0, .int .i64 v1] → Box w' (w.heap.size) [.bool false, .slice none 0 0] → Box w' (w2.heap.size) [.bool m1, .slice o1 n1 c1] → RNum w' (.agg #[.bool m1, .slice o1 n1 c1]) (6) (0 + (a0 * b1 - a1 * b0) + (b0 * v1 - b1 * v0)) → Box w' (wr.heap.size) [.int .i64 v0, .int .i64 v1] → Box w' (wr.heap.size + 1) [.int .i64 a0, .int .i64 a1] → Below w5.heap.size w5 w' → RNum w' (.agg #[.bool m2, .slice o2 n2 c2]) (1) (v0) → RNum w' (.agg #[.bool m3, .slice o3 n3 c3]) (1) (v1) → RNum w' (.agg #[.bool m4, .slice o4 n4 c4]) (1) (a0) → WWu 5 #[false, true, true, true, true, true, true, true, true, true, true, true, false, false, false, false] (((au.put (some 26) (.agg #[.bool m2, .slice o2 n2 c2])).put (some 29) (.agg #[.bool m3, .slice o3 n3 c3])).put (some 32) (.agg #[.bool m4, .slice o4 n4 c4])) w' := by
        intro w17 m2 o2 n2 c2 m3 o3 n3 c3 m4 o4 n4 c4 hB_0 pl_0 pr_0 po_0 f1_0 pp_0 pq_0 hWu_0 f2_0 f3_0 f4_0
        rw [HWu.out, HAu.out]
        try simp only [Act.put]
        try simp only [List.setIfInBounds_toArray, List.set_cons_zero, List.set_cons_succ]
        refine reg_all2 0 12 ?_ ?_ (by kernel_rfl) ?_ ?_ (fun K hK => ?_) (fun K hK => ?_)
        rotate_left 2
        · simp only [List.getElem?_toArray, List.getElem?_cons_zero]; exact rfl
        · simp only [List.getElem?_toArray, List.getElem?_cons_succ, List.getElem?_cons_zero]; exact rfl
        · obtain ⟨poe0, poe1, poe2, poe3⟩ := po_0.open2
          go_simp
          clear poe0 poe1 poe2 poe3
          refine hK.out _ _ ⟨pp_0.c0, pp_0.c1, pq_0.c0, pq_0.c1⟩ (fun hHeld => ?_)
          clear hK K
          try simp only [Act.put]
          try simp only [List.setIfInBounds_toArray, List.set_cons_zero]
          rw [← HWu.out]
          exact stu_3t _ m2 o2 n2 c2 m3 o3 n3 c3 m4 o4 n4 c4 hB_0 pl_0 pr_0 po_0 f1_0 pp_0 pq_0 hWu_0 f2_0 f3_0 f4_0
        · go_simp
          refine (nOf_any a1 (by have := HA1.out; unfold InP at this; omega) (by have := HA1.out; unfold InP at this; omega) _).mono ?_
          rintro e w18 ⟨m5, o5, n5, c5, rfl, f5_0, hb18⟩
          have hB_1 := hB_0.trans (hb18.mono hB_0.size)
          have pl_1 := pl_0.below hb18
          have pr_1 := pr_0.below hb18
          have po_1 := po_0.below hb18
          have f1_1 := f1_0.below hb18
          have pp_1 := pp_0.below hb18
          have pq_1 := pq_0.below hb18
          have hWu_1 := hWu_0.trans (hb18.mono hWu_0.size)
          have f2_1 := f2_0.below hb18
          have f3_1 := f3_0.below hb18
          have f4_1 := f4_0.below hb18
          clear hb18 hB_0 pl_0 pr_0 po_0 f1_0 pp_0 pq_0 hWu_0 f2_0 f3_0 f4_0
          go_wp2_with fail
          refine hK.out _ _ ⟨pp_1.c0, pp_1.c1, pq_1.c0, pq_1.c1⟩ (fun hHeld => ?_)
          clear hK K
          try simp only [Act.put]
          try simp only [List.setIfInBounds_toArray, List.set_cons_zero, List.set_cons_succ]
          rw [← HWu.out]
          exact stu_4f _ m2 o2 n2 c2 m3 o3 n3 c3 m4 o4 n4 c4 m5 o5 n5 c5 hB_1 pl_1 pr_1 po_1 f1_1 pp_1 pq_1 hWu_1 f2_1 f3_1 f4_1 f5_0
      try simp only [HAu.out, Act.put, List.setIfInBounds_toArray, List.set_cons_zero, List.set_cons_succ] at stu_3f
      have stu_2t : ∀ (w' : World) (m2 : Bool) (o2 : Option Addr) (n2 : Nat) (c2 : Nat) (m3 : Bool) (o3 : Option Addr) (n3 : Nat) (c3 : Nat), Below w.heap.size w w' → Box w' (g) [.int .i64 a0, .int .i64 a1, .int .i64 b0, .int .i64 b1, .int .i64 v0, .int .i64 v1] → Box w' (w.heap.size) [.bool false, .slice none 0 0] → Box w' (w2.heap.size) [.bool m1, .slice o1 n1 c1] → RNum w' (.agg #[.bool m1, .slice o1 n1 c1]) (6) (0 + (a0 * b1 - a1 * b0) + (b0 * v1 - b1 * v0)) → Box w' (wr.heap.size) [.int .i64 v0, .int .i64 v1] → Box w' (wr.heap.size + 1) [.int .i64 a0, .int .i64 a1] → Below w5.heap.size w5 w' → RNum w' (.agg #[.bool m2, .slice o2 n2 c2]) (1) (v0) → RNum w' (.agg #[.bool m3, .slice o3 n3 c3]) (1) (v1) → WWu 5 #[true, true, true, true, true, true, true, true, true, false, true, true, false, false, false, false] (((au.put (some 23) (.agg #[.bool m1, .slice o1 n1 c1])).put (some 26) (.agg #[.bool m2, .slice o2 n2 c2])).put (some 29) (.agg #[.bool m3, .slice o3 n3 c3])) w' := by
        intro w19 m2 o2 n2 c2 m3 o3 n3 c3 hB_0 pl_0 pr_0 po_0 f1_0 pp_0 pq_0 hWu_0 f2_0 f3_0
        rw [HWu.out, HAu.out]
        try simp only [Act.put]
        try simp only [List.setIfInBounds_toArray, List.set_cons_zero, List.set_cons_succ]
        refine reg_all1 9 ?_ (by kernel_rfl) ?_ (fun K hK => ?_)
        rotate_left 1
        · simp only [List.getElem?_toArray, List.getElem?_cons_succ, List.getElem?_cons_zero]; exact rfl
        · go_simp
          refine (nOf_any a0 (by have := HA0.out; unfold InP at this; omega) (by have := HA0.out; unfold InP at this; omega) _).mono ?_
          rintro e w20 ⟨m4, o4, n4, c4, rfl, f4_0, hb20⟩
          have hB_1 := hB_0.trans (hb20.mono hB_0.size)
          have pl_1 := pl_0.below hb20
          have pr_1 := pr_0.below hb20
          have po_1 := po_0.below hb20
          have f1_1 := f1_0.below hb20
          have pp_1 := pp_0.below hb20
          have pq_1 := pq_0.below hb20
          have hWu_1 := hWu_0.trans (hb20.mono hWu_0.size)
          have f2_1 := f2_0.below hb20
          have f3_1 := f3_0.below hb20
          clear hb20 hB_0 pl_0 pr_0 po_0 f1_0 pp_0 pq_0 hWu_0 f2_0 f3_0
          go_wp2_with fail
          refine hK.out _ _ ⟨pp_1.c0, pp_1.c1, pq_1.c0, pq_1.c1⟩ (fun hHeld => ?_)
          clear hK K
          try simp only [Act.put]
          try simp only [List.setIfInBounds_toArray, List.set_cons_zero, List.set_cons_succ]
          rw [← HWu.out]
          exact stu_3t _ m2 o2 n2 c2 m3 o3 n3 c3 m4 o4 n4 c4 hB_1 pl_1 pr_1 po_1 f1_1 pp_1 pq_1 hWu_1 f2_1 f3_1 f4_0
      try simp only [HAu.out, Act.put, List.setIfInBounds_toArray, List.set_cons_zero, List.set_cons_succ] at stu_2t
      have stu_2f : ∀ (w' : World) (m2 : Bool) (o2 : Option Addr) (n2 : Nat) (c2 : Nat) (m3 : Bool) (o3 : Option Addr) (n3 : Nat) (c3 : Nat), Below w.heap.size w w' → Box w' (g) [.int .i64 a0, .int .i64 a1, .int .i64 b0, .int .i64 b1, .int .i64 v0, .int .i64 v1] → Box w' (w.heap.size) [.bool false, .slice none 0 0] → Box w' (w2.heap.size) [.bool m1, .slice o1 n1 c1] → RNum w' (.agg #[.bool m1, .slice o1 n1 c1]) (6) (0 + (a0 * b1 - a1 * b0) + (b0 * v1 - b1 * v0)) → Box w' (wr.heap.size) [.int .i64 v0, .int .i64 v1] → Box w' (wr.heap.size + 1) [.int .i64 a0, .int .i64 a1] → Below w5.heap.size w5 w' → RNum w' (.agg #[.bool m2, .slice o2 n2 c2]) (1) (v0) → RNum w' (.agg #[.bool m3, .slice o3 n3 c3]) (1) (v1) → WWu 6 #[false, true, true, true, true, true, true, true, true, false, true, true, false, false, false, false] ((au.put (some 26) (.agg #[.bool m2, .slice o2 n2 c2])).put (some 29) (.agg #[.bool m3, .slice o3 n3 c3])) w' := by
        intro w21 m2 o2 n2 c2 m3 o3 n3 c3 hB_0 pl_0 pr_0 po_0 f1_0 pp_0 pq_0 hWu_0 f2_0 f3_0
        rw [HWu.out, HAu.out]
        try simp only [Act.put]
        try simp only [List.setIfInBounds_toArray, List.set_cons_zero, List.set_cons_succ]
        refine reg_all2 0 9 ?_ ?_ (by kernel_rfl) ?_ ?_ (fun K hK => ?_) (fun K hK => ?_)
        rotate_left 2
        · simp only [List.getElem?_toArray, List.getElem?_cons_zero]; exact rfl
        · simp only [List.getElem?_toArray, List.getElem?_cons_succ, List.getElem?_cons_zero]; exact rfl
        · obtain ⟨poe0, poe1, poe2, poe3⟩ := po_0.open2
          go_simp
          clear poe0 poe1 poe2 poe3
          refine hK.out _ _ ⟨pp_0.c0, pp_0.c1, pq_0.c0, pq_0.c1⟩ (fun hHeld => ?_)
          clear hK K
          try simp only [Act.put]
          try simp only [List.setIfInBounds_toArray, List.set_cons_zero]
          rw [← HWu.out]
          exact stu_2t _ m2 o2 n2 c2 m3 o3 n3 c3 hB_0 pl_0 pr_0 po_0 f1_0 pp_0 pq_0 hWu_0 f2_0 f3_0
        · go_simp
          refine (nOf_any a0 (by have := HA0.out; unfold InP at this; omega) (by have := HA0.out; unfold InP at this; omega) _).mono ?_
          rintro e w22 ⟨m4, o4, n4, c4, rfl, f4_0, hb22⟩
          have hB_1 := hB_0.trans (hb22.mono hB_0.size)
          have pl_1 := pl_0.below hb22
          have pr_1 := pr_0.below hb22
          have po_1 := po_0.below hb22
          have f1_1 := f1_0.below hb22
          have pp_1 := pp_0.below hb22
          have pq_1 := pq_0.below hb22
          have hWu_1 := hWu_0.trans (hb22.mono hWu_0.size)
          have f2_1 := f2_0.below hb22
          have f3_1 := f3_0.below hb22
          clear hb22 hB_0 pl_0 pr_0 po_0 f1_0 pp_0 pq_0 hWu_0 f2_0 f3_0
          go_wp2_with fail
          refine hK.out _ _ ⟨pp_1.c0, pp_1.c1, pq_1.c0, pq_1.c1⟩ (fun hHeld => ?_)
          clear hK K
          try simp only [Act.put]
          try simp only [List.setIfInBounds_toArray, List.set_cons_zero, List.set_cons_succ]
          rw [← HWu.out]
          exact stu_3f _ m2 o2 n2 c2 m3 o3 n3 c3 m4 o4 n4 c4 hB_1 pl_1 pr_1 po_1 f1_1 pp_1 pq_1 hWu_1 f2_1 f3_1 f4_0
      try simp only [HAu.out, Act.put, List.setIfInBounds_toArray, List.set_cons_zero, List.set_cons_succ] at stu_2f
      have stu_1t : ∀ (w' : World) (m2 : Bool) (o2 : Option Addr) (n2 : Nat) (c2 : Nat), Below w.heap.size w w' → Box w' (g) [.int .i64 a0, .int .i64 a1, .int .i64 b0, .int .i64 b1, .int .i64 v0, .int .i64 v1] → Box w' (w.heap.size) [.bool false, .slice none 0 0] → Box w' (w2.heap.size) [.bool m1, .slice o1 n1 c1] → RNum w' (.agg #[.bool m1, .slice o1 n1 c1]) (6) (0 + (a0 * b1 - a1 * b0) + (b0 * v1 - b1 * v0)) → Box w' (wr.heap.size) [.int .i64 v0, .int .i64 v1] → Box w' (wr.heap.size + 1) [.int .i64 a0, .int .i64 a1] → Below w5.heap.size w5 w' → RNum w' (.agg #[.bool m2, .slice o2 n2 c2]) (1) (v0) → WWu 6 #[true, true, true, true, true, true, false, true, true, false, true, true, false, false, false, false] ((au.put (some 23) (.agg #[.bool m1, .slice o1 n1 c1])).put (some 26) (.agg #[.bool m2, .slice o2 n2 c2])) w' := by
        intro w23 m2 o2 n2 c2 hB_0 pl_0 pr_0 po_0 f1_0 pp_0 pq_0 hWu_0 f2_0
        rw [HWu.out, HAu.out]
        try simp only [Act.put]
        try simp only [List.setIfInBounds_toArray, List.set_cons_zero, List.set_cons_succ]
        refine reg_all1 6 ?_ (by kernel_rfl) ?_ (fun K hK => ?_)
        rotate_left 1
        · simp only [List.getElem?_toArray, List.getElem?_cons_succ, List.getElem?_cons_zero]; exact rfl
        · go_simp
          refine (nOf_any v1 (by have := HV1.out; unfold InP at this; omega) (by have := HV1.out; unfold InP at this; omega) _).mono ?_
          rintro e w24 ⟨m3, o3, n3, c3, rfl, f3_0, hb24⟩
          have hB_1 := hB_0.trans (hb24.mono hB_0.size)
          have pl_1 := pl_0.below hb24
          have pr_1 := pr_0.below hb24
          have po_1 := po_0.below hb24
          have f1_1 := f1_0.below hb24
          have pp_1 := pp_0.below hb24
          have pq_1 := pq_0.below hb24
          have hWu_1 := hWu_0.trans (hb24.mono hWu_0.size)
          have f2_1 := f2_0.below hb24
          clear hb24 hB_0 pl_0 pr_0 po_0 f1_0 pp_0 pq_0 hWu_0 f2_0
          go_wp2_with fail
          refine hK.out _ _ ⟨pp_1.c0, pp_1.c1, pq_1.c0, pq_1.c1⟩ (fun hHeld => ?_)
          clear hK K
          try simp only [Act.put]
          try simp only [List.setIfInBounds_toArray, List.set_cons_zero, List.set_cons_succ]
          rw [← HWu.out]
          exact stu_2t _ m2 o2 n2 c2 m3 o3 n3 c3 hB_1 pl_1 pr_1 po_1 f1_1 pp_1 pq_1 hWu_1 f2_1 f3_0
      try simp only [HAu.out, Act.put, List.setIfInBounds_toArray, List.set_cons_zero, List.set_cons_succ] at stu_1t
      have stu_1f : ∀ (w' : World) (m2 : Bool) (o2 : Option Addr) (n2 : Nat) (c2 : Nat), Below w.heap.size w w' → Box w' (g) [.int .i64 a0, .int .i64 a1, .int .i64 b0, .int .i64 b1, .int .i64 v0, .int .i64 v1] → Box w' (w.heap.size) [.bool false, .slice none 0 0] → Box w' (w2.heap.size) [.bool m1, .slice o1 n1 c1] → RNum w' (.agg #[.bool m1, .slice o1 n1 c1]) (6) (0 + (a0 * b1 - a1 * b0) + (b0 * v1 - b1 * v0)) → Box w' (wr.heap.size) [.int .i64 v0, .int .i64 v1] → Box w' (wr.heap.size + 1) [.int .i64 a0, .int .i64 a1] → Below w5.heap.size w5 w' → RNum w' (.agg #[.bool m2, .slice o2 n2 c2]) (1) (v0) → WWu 7 #[false, true, true, true, true, true, false, true, true, false, true, true, false, false, false, false] (au.put (some 26) (.agg #[.bool m2, .slice o2 n2 c2])) w' := by
        intro w25 m2 o2 n2 c2 hB_0 pl_0 pr_0 po_0 f1_0 pp_0 pq_0 hWu_0 f2_0
        rw [HWu.out, HAu.out]
        try simp only [Act.put]
        try simp only [List.setIfInBounds_toArray, List.set_cons_zero, List.set_cons_succ]
        refine reg_all2 0 6 ?_ ?_ (by kernel_rfl) ?_ ?_ (fun K hK => ?_) (fun K hK => ?_)
        rotate_left 2
        · simp only [List.getElem?_toArray, List.getElem?_cons_zero]; exact rfl
        · simp only [List.getElem?_toArray, List.getElem?_cons_succ, List.getElem?_cons_zero]; exact rfl
        · obtain ⟨poe0, poe1, poe2, poe3⟩ := po_0.open2
          go_simp
          clear poe0 poe1 poe2 poe3
          refine hK.out _ _ ⟨pp_0.c0, pp_0.c1, pq_0.c0, pq_0.c1⟩ (fun hHeld => ?_)
          clear hK K
          try simp only [Act.put]
          try simp only [List.setIfInBounds_toArray, List.set_cons_zero]
          rw [← HWu.out]
          exact stu_1t _ m2 o2 n2 c2 hB_0 pl_0 pr_0 po_0 f1_0 pp_0 pq_0 hWu_0 f2_0
        · go_simp
          refine (nOf_any v1 (by have := HV1.out; unfold InP at this; omega) (by have := HV1.out; unfold InP at this; omega) _).mono ?_
          rintro e w26 ⟨m3, o3, n3, c3, rfl, f3_0, hb26⟩
          have hB_1 := hB_0.trans (hb26.mono hB_0.size)
          have pl_1 := pl_0.below hb26
          have pr_1 := pr_0.below hb26
          have po_1 := po_0.below hb26
          have f1_1 := f1_0.below hb26
          have pp_1 := pp_0.below hb26
          have pq_1 := pq_0.below hb26
          have hWu_1 := hWu_0.trans (hb26.mono hWu_0.size)
          have f2_1 := f2_0.below hb26
          clear hb26 hB_0 pl_0 pr_0 po_0 f1_0 pp_0 pq_0 hWu_0 f2_0
          go_wp2_with fail
          refine hK.out _ _ ⟨pp_1.c0, pp_1.c1, pq_1.c0, pq_1.c1⟩ (fun hHeld => ?_)
          clear hK K
          try simp only [Act.put]
          try simp only [List.setIfInBounds_toArray, List.set_cons_zero, List.set_cons_succ]
          rw [← HWu.out]
          exact stu_2f _ m2 o2 n2 c2 m3 o3 n3 c3 hB_1 pl_1 pr_1 po_1 f1_1 pp_1 pq_1 hWu_1 f2_1 f3_0
      try simp only [HAu.out, Act.put, List.setIfInBounds_toArray, List.set_cons_zero, List.set_cons_succ] at stu_1f
      have stu_0t : ∀ (w' : World), Below w.heap.size w w' → Box w' (g) [.int .i64 a0, .int .i64 a1, .int .i64 b0, .int .i64 b1, .int .i64 v0, .int .i64 v1] → Box w' (w.heap.size) [.bool false, .slice none 0 0] → Box w' (w2.heap.size) [.bool m1, .slice o1 n1 c1] → RNum w' (.agg #[.bool m1, .slice o1 n1 c1]) (6) (0 + (a0 * b1 - a1 * b0) + (b0 * v1 - b1 * v0)) → Box w' (wr.heap.size) [.int .i64 v0, .int .i64 v1] → Box w' (wr.heap.size + 1) [.int .i64 a0, .int .i64 a1] → Below w5.heap.size w5 w' → WWu 7 #[true, true, true, false, true, true, false, true, true, false, true, true, false, false, false, false] (au.put (some 23) (.agg #[.bool m1, .slice o1 n1 c1])) w' := by
        intro w27 hB_0 pl_0 pr_0 po_0 f1_0 pp_0 pq_0 hWu_0
        rw [HWu.out, HAu.out]
        try simp only [Act.put]
        try simp only [List.setIfInBounds_toArray, List.set_cons_zero, List.set_cons_succ]
        refine reg_all1 3 ?_ (by kernel_rfl) ?_ (fun K hK => ?_)
        rotate_left 1
        · simp only [List.getElem?_toArray, List.getElem?_cons_succ, List.getElem?_cons_zero]; exact rfl
        · go_simp
          refine (nOf_any v0 (by have := HV0.out; unfold InP at this; omega) (by have := HV0.out; unfold InP at this; omega) _).mono ?_
          rintro e w28 ⟨m2, o2, n2, c2, rfl, f2_0, hb28⟩
          have hB_1 := hB_0.trans (hb28.mono hB_0.size)
          have pl_1 := pl_0.below hb28
          have pr_1 := pr_0.below hb28
          have po_1 := po_0.below hb28
          have f1_1 := f1_0.below hb28
          have pp_1 := pp_0.below hb28
          have pq_1 := pq_0.below hb28
          have hWu_1 := hWu_0.trans (hb28.mono hWu_0.size)
          clear hb28 hB_0 pl_0 pr_0 po_0 f1_0 pp_0 pq_0 hWu_0
          go_wp2_with fail
          refine hK.out _ _ ⟨pp_1.c0, pp_1.c1, pq_1.c0, pq_1.c1⟩ (fun hHeld => ?_)
          clear hK K
          try simp only [Act.put]
          try simp only [List.setIfInBounds_toArray, List.set_cons_zero, List.set_cons_succ]
          rw [← HWu.out]
          exact stu_1t _ m2 o2 n2 c2 hB_1 pl_1 pr_1 po_1 f1_1 pp_1 pq_1 hWu_1 f2_0
      try simp only [HAu.out, Act.put, List.setIfInBounds_toArray, List.set_cons_zero, List.set_cons_succ] at stu_0t
      have stu_0f : ∀ (w' : World), Below w.heap.size w w' → Box w' (g) [.int .i64 a0, .int .i64 a1, .int .i64 b0, .int .i64 b1, .int .i64 v0, .int .i64 v1] → Box w' (w.heap.size) [.bool false, .slice none 0 0] → Box w' (w2.heap.size) [.bool m1, .slice o1 n1 c1] → RNum w' (.agg #[.bool m1, .slice o1 n1 c1]) (6) (0 + (a0 * b1 - a1 * b0) + (b0 * v1 - b1 * v0)) → Box w' (wr.heap.size) [.int .i64 v0, .int .i64 v1] → Box w' (wr.heap.size + 1) [.int .i64 a0, .int .i64 a1] → Below w5.heap.size w5 w' → WWu 8 #[false, true, true, false, true, true, false, true, true, false, true, true, false, false, false, false] au w' := by
        intro w29 hB_0 pl_0 pr_0 po_0 f1_0 pp_0 pq_0 hWu_0
        rw [HWu.out, HAu.out]
        try simp only [Act.put]
        try simp only [List.setIfInBounds_toArray, List.set_cons_zero, List.set_cons_succ]
        refine reg_all2 0 3 ?_ ?_ (by kernel_rfl) ?_ ?_ (fun K hK => ?_) (fun K hK => ?_)
        rotate_left 2
        · simp only [List.getElem?_toArray, List.getElem?_cons_zero]; exact rfl
        · simp only [List.getElem?_toArray, List.getElem?_cons_succ, List.getElem?_cons_zero]; exact rfl
        · obtain ⟨poe0, poe1, poe2, poe3⟩ := po_0.open2
          go_simp
          clear poe0 poe1 poe2 poe3
          refine hK.out _ _ ⟨pp_0.c0, pp_0.c1, pq_0.c0, pq_0.c1⟩ (fun hHeld => ?_)
          clear hK K
          try simp only [Act.put]
          try simp only [List.setIfInBounds_toArray, List.set_cons_zero]
          rw [← HWu.out]
          exact stu_0t _ hB_0 pl_0 pr_0 po_0 f1_0 pp_0 pq_0 hWu_0
        · go_simp
          refine (nOf_any v0 (by have := HV0.out; unfold InP at this; omega) (by have := HV0.out; unfold InP at this; omega) _).mono ?_
          rintro e w30 ⟨m2, o2, n2, c2, rfl, f2_0, hb30⟩
          have hB_1 := hB_0.trans (hb30.mono hB_0.size)
          have pl_1 := pl_0.below hb30
          have pr_1 := pr_0.below hb30
          have po_1 := po_0.below hb30
          have f1_1 := f1_0.below hb30
          have pp_1 := pp_0.below hb30
          have pq_1 := pq_0.below hb30
          have hWu_1 := hWu_0.trans (hb30.mono hWu_0.size)
          clear hb30 hB_0 pl_0 pr_0 po_0 f1_0 pp_0 pq_0 hWu_0
          go_wp2_with fail
          refine hK.out _ _ ⟨pp_1.c0, pp_1.c1, pq_1.c0, pq_1.c1⟩ (fun hHeld => ?_)
          clear hK K
          try simp only [Act.put]
          try simp only [List.setIfInBounds_toArray, List.set_cons_zero, List.set_cons_succ]
          rw [← HWu.out]
          exact stu_1f _ m2 o2 n2 c2 hB_1 pl_1 pr_1 po_1 f1_1 pp_1 pq_1 hWu_1 f2_0
      exact stu_0f _ hB_3 pl_3 pr_3 po_3 f1_3 pp_2 pq_1 hWu_1
    · obtain rfl := x3 rfl
      clear x0 x1 x2 x3 hj
      obtain ⟨pre0, pre1, pre2, pre3⟩ := pr_0.open2
      obtain ⟨poe0, poe1, poe2, poe3⟩ := po_0.open2
      obtain ⟨sf1a, sf1b, sf1c, sf1d⟩ := pr_0.open2
      obtain ⟨sg1a, sg1b⟩ := Box.put2 pr_0 (.bool m1)
      go_wp2
      clear pre0 pre1 pre2 pre3 poe0 poe1 poe2 poe3 sf1a sf1b sf1c sf1d sg1a sg1b
      have hB_1 := below_setAll hB_0 (g := w.heap.size) (by omega) [.bool m1, .slice o1 n1 c1]
      have pl_1 := pl_0.farAll (g' := w.heap.size) (by omega) [.bool m1, .slice o1 n1 c1]
      have po_1 := po_0.farAll (g' := w.heap.size) (by omega) [.bool m1, .slice o1 n1 c1]
      have f1_1 := f1_0.setAll pr_0 (noWord2 _ _ _ _) [.bool m1, .slice o1 n1 c1] rfl
      have pr_1 := pr_0.setAll [.bool m1, .slice o1 n1 c1] rfl
      simp only [setAll, Nat.zero_add] at hB_1 pl_1 pr_1 po_1 f1_1
      clear hB_0 pl_0 po_0 f1_0 pr_0
      generalize (World.setCell (World.setCell wr ⟨w.heap.size, 0, none⟩ (.bool m1)) ⟨w.heap.size, 1, none⟩ (.slice o1 n1 c1)) = w4 at *
      obtain ⟨pre0, pre1, pre2, pre3⟩ := pr_1.open2
      exact bodyPost_ret (v := .agg #[.bool m1, .slice o1 n1 c1]) (by simp [results, Try.results11, go_sem, pre0, pre1]) rfl ⟨_, _, _, _, rfl, f1_1.of (by rw [crs_shoe]; omega), hB_1⟩
end Go.Proofs.Ytjciefoademlnaa
/- The calls of wide: below, less, across, size, Of, Sign. -/
namespace Go.Proofs.Ytjciefoademlnaa
open Go.RowKit Go.MagM
/-- A call's answer is a number of 128 bits. -/
def AnsW (w w' : World) (e : Ending) (z : Int) : Prop := e = .returned (.agg #[.int .u64 ((wh z : Nat) : Int), .int .u64 ((wl z : Nat) : Int)]) ∧ Below w.heap.size w w'
set_option maxHeartbeats 4000000 in
theorem below_walk (ah al : Nat) (b : Bool) (w : World) (hb : (bits .and .u64 (ah : Int) 9223372036854775808 != 0) = b) :
    Calls Try.prog 49 #[.agg #[.int .u64 ((ah : Nat) : Int), .int .u64 ((al : Nat) : Int)]] w fun e w' => e = .returned (.bool b) ∧ Below w.heap.size w w' := by
  have hB_0 := Below.refl w.heap.size w
  obtain ⟨w1, hw1, pa_0, hb1, hs1⟩ := new_box w (w.heap.size) rfl [.int .u64 ((ah : Nat) : Int), .int .u64 ((al : Nat) : Int)] 53
  have hb1' : Below w.heap.size w w1 := hb1.mono (by omega)
  clear hb1
  have hB_1 := hB_0.trans (hb1'.mono hB_0.size)
  clear hb1' hB_0
  go_enter Try.func49, Try.ntmps49
  obtain ⟨pae0, pae1, pae2, pae3⟩ := pa_0.open2
  go_wp2
  go_ret
  exact ⟨rfl, hB_1⟩
set_option maxHeartbeats 4000000 in
theorem less_walk (ah al : Nat) (bh bl : Nat) (H L k : Nat) (w : World) (h1 : (al + B - bl - 0) % B = L) (h2 : bor al bl 0 = k) (h3 : (ah + B - bh - k) % B = H) (hk : k ≤ 1) :
    Calls Try.prog 55 #[.agg #[.int .u64 ((ah : Nat) : Int), .int .u64 ((al : Nat) : Int)], .agg #[.int .u64 ((bh : Nat) : Int), .int .u64 ((bl : Nat) : Int)]] w fun e w' => e = .returned (.agg #[.int .u64 ((H : Nat) : Int), .int .u64 ((L : Nat) : Int)]) ∧ Below w.heap.size w w' := by
  have hB_0 := Below.refl w.heap.size w
  have hsub1 := fun w => sub64_run al bl 0 (by omega) w
  have hsub2 := fun w => sub64_run ah bh k (by omega) w
  simp only [h1, h2] at hsub1
  simp only [h3] at hsub2
  have hs1 : ∀ w, (callFunc 65 #[.int .u64 al, .int .u64 bl, .int .u64 0]).run Try.prog w = .ok (.value (.tuple #[.int .u64 L, .int .u64 k])) w := hsub1
  clear hsub1 h1 h2 h3
  obtain ⟨w1, hw1, pa_0, hb1, hs1⟩ := new_box w (w.heap.size) rfl [.int .u64 ((ah : Nat) : Int), .int .u64 ((al : Nat) : Int)] 53
  have hb1' : Below w.heap.size w w1 := hb1.mono (by omega)
  clear hb1
  have hB_1 := hB_0.trans (hb1'.mono hB_0.size)
  clear hb1' hB_0
  obtain ⟨w2, hw2, pb_0, hb2, hs2⟩ := new_box w1 (w.heap.size + 1) hs1 [.int .u64 ((bh : Nat) : Int), .int .u64 ((bl : Nat) : Int)] 53
  have hb2' : Below w1.heap.size w1 w2 := hb2.mono (by omega)
  clear hb2
  have hB_2 := hB_1.trans (hb2'.mono hB_1.size)
  have pa_1 := pa_0.below hb2'
  clear hb2' hB_1 pa_0
  obtain ⟨w3, hw3, pr_0, hb3, hs3⟩ := new_box w2 (w.heap.size + 1 + 1) hs2 [.int .u64 0, .int .u64 0] 53
  have hb3' : Below w2.heap.size w2 w3 := hb3.mono (by omega)
  clear hb3
  have hB_3 := hB_2.trans (hb3'.mono hB_2.size)
  have pa_2 := pa_1.below hb3'
  have pb_1 := pb_0.below hb3'
  clear hb3' hB_2 pa_1 pb_0
  go_enter Try.func55, Try.ntmps55
  obtain ⟨pae0, pae1, pae2, pae3⟩ := pa_2.open2
  obtain ⟨pbe0, pbe1, pbe2, pbe3⟩ := pb_1.open2
  obtain ⟨pre0, pre1, pre2, pre3⟩ := pr_0.open2
  obtain ⟨sf1a, sf1b, sf1c, sf1d⟩ := pr_0.open2
  obtain ⟨sg1a, sg1b⟩ := Box.put2 pr_0 (.int .u64 ((H : Nat) : Int))
  go_wp2
  clear pae0 pae1 pae2 pae3 pbe0 pbe1 pbe2 pbe3 pre0 pre1 pre2 pre3 sf1a sf1b sf1c sf1d sg1a sg1b
  have hB_4 := below_setAll hB_3 (g := w.heap.size + 1 + 1) (by omega) [.int .u64 ((H : Nat) : Int), .int .u64 ((L : Nat) : Int)]
  have pa_3 := pa_2.farAll (g' := w.heap.size + 1 + 1) (by omega) [.int .u64 ((H : Nat) : Int), .int .u64 ((L : Nat) : Int)]
  have pb_2 := pb_1.farAll (g' := w.heap.size + 1 + 1) (by omega) [.int .u64 ((H : Nat) : Int), .int .u64 ((L : Nat) : Int)]
  have pr_1 := pr_0.setAll [.int .u64 ((H : Nat) : Int), .int .u64 ((L : Nat) : Int)] rfl
  simp only [setAll, Nat.zero_add] at hB_4 pa_3 pb_2 pr_1
  clear hB_3 pa_2 pb_1 pr_0
  generalize (World.setCell (World.setCell w3 ⟨w.heap.size + 1 + 1, 0, none⟩ (.int .u64 ((H : Nat) : Int))) ⟨w.heap.size + 1 + 1, 1, none⟩ (.int .u64 ((L : Nat) : Int))) = w4 at *
  go_wp2
  obtain ⟨pre0, pre1, pre2, pre3⟩ := pr_1.open2
  exact bodyPost_ret (v := .agg #[.int .u64 ((H : Nat) : Int), .int .u64 ((L : Nat) : Int)]) (by simp [results, Try.results55, go_sem, pre0, pre1]) rfl ⟨rfl, hB_4⟩
theorem high_and (h : Nat) (hB : h < B) : h &&& 9223372036854775808 = if 9223372036854775808 ≤ h then 9223372036854775808 else 0 := by
  have e : (9223372036854775808 : Nat) = 2 ^ 63 := by decide
  unfold B at hB
  apply Nat.eq_of_testBit_eq
  intro i
  rw [Nat.testBit_and]
  split
  · rename_i c
    rw [e, Nat.testBit_two_pow]
    by_cases hi : 63 = i
    · subst hi
      have : h / 2 ^ 63 % 2 = 1 := by omega
      simp [Nat.testBit_eq_decide_div_mod_eq, this]
    · simp [hi]
  · rename_i c
    rw [e, Nat.testBit_two_pow, Nat.zero_testBit]
    by_cases hi : 63 = i
    · subst hi
      rw [Nat.testBit_lt_two_pow (by omega)]; rfl
    · simp [hi]
theorem below_bit {z : Int} (hz : InW z) : (bits .and .u64 ((wh z : Nat) : Int) 9223372036854775808 != 0) = decide (z < 0) := by
  have h2 : bits .and .u64 ((wh z : Nat) : Int) 9223372036854775808 = ((wh z &&& 9223372036854775808 : Nat) : Int) := bits_and_u64_nat (wh z) 9223372036854775808 (by have := wh_lt z; unfold B at this; omega) (by omega)
  rw [h2, high_and _ (wh_lt z)]
  have h3 := w_neg hz
  by_cases c : z < 0
  · rw [if_pos (h3.2 c)]; simp [c]
  · rw [if_neg (mt h3.1 c)]; simp [c]
theorem wbelow_any (z : Int) (hz : InW z) (w : World) : Calls Try.prog 49 #[.agg #[.int .u64 ((wh (z) : Nat) : Int), .int .u64 ((wl (z) : Nat) : Int)]] w fun e w' => e = .returned (.bool (decide (z < 0))) ∧ Below w.heap.size w w' :=
  below_walk _ _ _ w (below_bit hz)
theorem less_any (x y : Int) (w : World) : Calls Try.prog 55 #[.agg #[.int .u64 ((wh (x) : Nat) : Int), .int .u64 ((wl (x) : Nat) : Int)], .agg #[.int .u64 ((wh (y) : Nat) : Int), .int .u64 ((wl (y) : Nat) : Int)]] w fun e w' => AnsW w w' e (x - y) := by
  obtain ⟨h1, h2⟩ := w_sub x y
  exact less_walk _ _ _ _ _ _ _ w h2 rfl h1 (bor_le _ _ _)
theorem less_zero (y : Int) (w : World) : Calls Try.prog 55 #[.agg #[.int .u64 0, .int .u64 0], .agg #[.int .u64 ((wh (y) : Nat) : Int), .int .u64 ((wl (y) : Nat) : Int)]] w fun e w' => AnsW w w' e (-y) := by
  have h := less_any 0 y w
  rw [Int.zero_sub] at h
  exact h
set_option maxHeartbeats 4000000 in
theorem across_any (z : Int) (w : World) :
    Calls Try.prog 60 #[.agg #[.int .u64 ((wh (z) : Nat) : Int), .int .u64 ((wl (z) : Nat) : Int)]] w fun e w' => AnsW w w' e (-z) := by
  have hB_0 := Below.refl w.heap.size w
  obtain ⟨w1, hw1, pa_0, hb1, hs1⟩ := new_box w (w.heap.size) rfl [.int .u64 ((wh (z) : Nat) : Int), .int .u64 ((wl (z) : Nat) : Int)] 53
  have hb1' : Below w.heap.size w w1 := hb1.mono (by omega)
  clear hb1
  have hB_1 := hB_0.trans (hb1'.mono hB_0.size)
  clear hb1' hB_0
  obtain ⟨w2, hw2, pr_0, hb2, hs2⟩ := new_box w1 (w.heap.size + 1) hs1 [.int .u64 0, .int .u64 0] 53
  have hb2' : Below w1.heap.size w1 w2 := hb2.mono (by omega)
  clear hb2
  have hB_2 := hB_1.trans (hb2'.mono hB_1.size)
  have pa_1 := pa_0.below hb2'
  clear hb2' hB_1 pa_0
  go_enter Try.func60, Try.ntmps60
  obtain ⟨pae0, pae1, pae2, pae3⟩ := pa_1.open2
  obtain ⟨pre0, pre1, pre2, pre3⟩ := pr_0.open2
  go_wp2_with fail
  refine (less_zero z _).mono ?_
  rintro e w3 ⟨rfl, hb3⟩
  clear pae0 pae1 pae2 pae3 pre0 pre1 pre2 pre3
  have hB_3 := hB_2.trans (hb3.mono hB_2.size)
  have pa_2 := pa_1.below hb3
  have pr_1 := pr_0.below hb3
  clear hb3 hB_2 pa_1 pr_0
  obtain ⟨pae0, pae1, pae2, pae3⟩ := pa_2.open2
  obtain ⟨pre0, pre1, pre2, pre3⟩ := pr_1.open2
  obtain ⟨sf1a, sf1b, sf1c, sf1d⟩ := pr_1.open2
  obtain ⟨sg1a, sg1b⟩ := Box.put2 pr_1 (.int .u64 ((wh (-z) : Nat) : Int))
  go_wp2
  clear pae0 pae1 pae2 pae3 pre0 pre1 pre2 pre3 sf1a sf1b sf1c sf1d sg1a sg1b
  have hB_4 := below_setAll hB_3 (g := w.heap.size + 1) (by omega) [.int .u64 ((wh (-z) : Nat) : Int), .int .u64 ((wl (-z) : Nat) : Int)]
  have pa_3 := pa_2.farAll (g' := w.heap.size + 1) (by omega) [.int .u64 ((wh (-z) : Nat) : Int), .int .u64 ((wl (-z) : Nat) : Int)]
  have pr_2 := pr_1.setAll [.int .u64 ((wh (-z) : Nat) : Int), .int .u64 ((wl (-z) : Nat) : Int)] rfl
  simp only [setAll, Nat.zero_add] at hB_4 pa_3 pr_2
  clear hB_3 pa_2 pr_1
  generalize (World.setCell (World.setCell w3 ⟨w.heap.size + 1, 0, none⟩ (.int .u64 ((wh (-z) : Nat) : Int))) ⟨w.heap.size + 1, 1, none⟩ (.int .u64 ((wl (-z) : Nat) : Int))) = w4 at *
  go_wp2
  obtain ⟨pre0, pre1, pre2, pre3⟩ := pr_2.open2
  exact bodyPost_ret (v := .agg #[.int .u64 ((wh (-z) : Nat) : Int), .int .u64 ((wl (-z) : Nat) : Int)]) (by simp [results, Try.results60, go_sem, pre0, pre1]) rfl ⟨rfl, hB_4⟩
set_option maxHeartbeats 4000000 in
theorem size_neg (z : Int) (w : World) (hz : InW z) (h0 : z < 0) :
    Calls Try.prog 47 #[.agg #[.int .u64 ((wh (z) : Nat) : Int), .int .u64 ((wl (z) : Nat) : Int)]] w fun e w' => AnsW w w' e (-z) := by
  have hbel : ∀ w, Calls Try.prog 49 #[.agg #[.int .u64 ((wh (z) : Nat) : Int), .int .u64 ((wl (z) : Nat) : Int)]] w fun e w' => e = .returned (.bool true) ∧ Below w.heap.size w w' := by
    intro w; have := wbelow_any z hz w; simpa only [h0, decide_true] using this
  have hB_0 := Below.refl w.heap.size w
  obtain ⟨w1, hw1, pa_0, hb1, hs1⟩ := new_box w (w.heap.size) rfl [.int .u64 ((wh (z) : Nat) : Int), .int .u64 ((wl (z) : Nat) : Int)] 53
  have hb1' : Below w.heap.size w w1 := hb1.mono (by omega)
  clear hb1
  have hB_1 := hB_0.trans (hb1'.mono hB_0.size)
  clear hb1' hB_0
  obtain ⟨w2, hw2, pr_0, hb2, hs2⟩ := new_box w1 (w.heap.size + 1) hs1 [.int .u64 0, .int .u64 0] 53
  have hb2' : Below w1.heap.size w1 w2 := hb2.mono (by omega)
  clear hb2
  have hB_2 := hB_1.trans (hb2'.mono hB_1.size)
  have pa_1 := pa_0.below hb2'
  clear hb2' hB_1 pa_0
  go_enter Try.func47, Try.ntmps47
  obtain ⟨pae0, pae1, pae2, pae3⟩ := pa_1.open2
  obtain ⟨pre0, pre1, pre2, pre3⟩ := pr_0.open2
  go_wp2_with fail
  refine (hbel _).mono ?_
  rintro e w3 ⟨rfl, hb3⟩
  clear pae0 pae1 pae2 pae3 pre0 pre1 pre2 pre3
  have hB_3 := hB_2.trans (hb3.mono hB_2.size)
  have pa_2 := pa_1.below hb3
  have pr_1 := pr_0.below hb3
  clear hb3 hB_2 pa_1 pr_0
  obtain ⟨pae0, pae1, pae2, pae3⟩ := pa_2.open2
  obtain ⟨pre0, pre1, pre2, pre3⟩ := pr_1.open2
  go_wp2_with fail
  refine (across_any z _).mono ?_
  rintro e w4 ⟨rfl, hb4⟩
  clear pae0 pae1 pae2 pae3 pre0 pre1 pre2 pre3
  have hB_4 := hB_3.trans (hb4.mono hB_3.size)
  have pa_3 := pa_2.below hb4
  have pr_2 := pr_1.below hb4
  clear hb4 hB_3 pa_2 pr_1
  obtain ⟨pae0, pae1, pae2, pae3⟩ := pa_3.open2
  obtain ⟨pre0, pre1, pre2, pre3⟩ := pr_2.open2
  obtain ⟨sf1a, sf1b, sf1c, sf1d⟩ := pr_2.open2
  obtain ⟨sg1a, sg1b⟩ := Box.put2 pr_2 (.int .u64 ((wh (-z) : Nat) : Int))
  go_wp2
  clear pae0 pae1 pae2 pae3 pre0 pre1 pre2 pre3 sf1a sf1b sf1c sf1d sg1a sg1b
  have hB_5 := below_setAll hB_4 (g := w.heap.size + 1) (by omega) [.int .u64 ((wh (-z) : Nat) : Int), .int .u64 ((wl (-z) : Nat) : Int)]
  have pa_4 := pa_3.farAll (g' := w.heap.size + 1) (by omega) [.int .u64 ((wh (-z) : Nat) : Int), .int .u64 ((wl (-z) : Nat) : Int)]
  have pr_3 := pr_2.setAll [.int .u64 ((wh (-z) : Nat) : Int), .int .u64 ((wl (-z) : Nat) : Int)] rfl
  simp only [setAll, Nat.zero_add] at hB_5 pa_4 pr_3
  clear hB_4 pa_3 pr_2
  generalize (World.setCell (World.setCell w4 ⟨w.heap.size + 1, 0, none⟩ (.int .u64 ((wh (-z) : Nat) : Int))) ⟨w.heap.size + 1, 1, none⟩ (.int .u64 ((wl (-z) : Nat) : Int))) = w5 at *
  go_wp2
  obtain ⟨pre0, pre1, pre2, pre3⟩ := pr_3.open2
  exact bodyPost_ret (v := .agg #[.int .u64 ((wh (-z) : Nat) : Int), .int .u64 ((wl (-z) : Nat) : Int)]) (by simp [results, Try.results47, go_sem, pre0, pre1]) rfl ⟨rfl, hB_5⟩
set_option maxHeartbeats 4000000 in
theorem size_pos (z : Int) (w : World) (hz : InW z) (h0 : ¬ z < 0) :
    Calls Try.prog 47 #[.agg #[.int .u64 ((wh (z) : Nat) : Int), .int .u64 ((wl (z) : Nat) : Int)]] w fun e w' => AnsW w w' e (z) := by
  have hbel : ∀ w, Calls Try.prog 49 #[.agg #[.int .u64 ((wh (z) : Nat) : Int), .int .u64 ((wl (z) : Nat) : Int)]] w fun e w' => e = .returned (.bool false) ∧ Below w.heap.size w w' := by
    intro w; have := wbelow_any z hz w; simpa only [h0, decide_false] using this
  have hB_0 := Below.refl w.heap.size w
  obtain ⟨w1, hw1, pa_0, hb1, hs1⟩ := new_box w (w.heap.size) rfl [.int .u64 ((wh (z) : Nat) : Int), .int .u64 ((wl (z) : Nat) : Int)] 53
  have hb1' : Below w.heap.size w w1 := hb1.mono (by omega)
  clear hb1
  have hB_1 := hB_0.trans (hb1'.mono hB_0.size)
  clear hb1' hB_0
  obtain ⟨w2, hw2, pr_0, hb2, hs2⟩ := new_box w1 (w.heap.size + 1) hs1 [.int .u64 0, .int .u64 0] 53
  have hb2' : Below w1.heap.size w1 w2 := hb2.mono (by omega)
  clear hb2
  have hB_2 := hB_1.trans (hb2'.mono hB_1.size)
  have pa_1 := pa_0.below hb2'
  clear hb2' hB_1 pa_0
  go_enter Try.func47, Try.ntmps47
  obtain ⟨pae0, pae1, pae2, pae3⟩ := pa_1.open2
  obtain ⟨pre0, pre1, pre2, pre3⟩ := pr_0.open2
  go_wp2_with fail
  refine (hbel _).mono ?_
  rintro e w3 ⟨rfl, hb3⟩
  clear pae0 pae1 pae2 pae3 pre0 pre1 pre2 pre3
  have hB_3 := hB_2.trans (hb3.mono hB_2.size)
  have pa_2 := pa_1.below hb3
  have pr_1 := pr_0.below hb3
  clear hb3 hB_2 pa_1 pr_0
  obtain ⟨pae0, pae1, pae2, pae3⟩ := pa_2.open2
  obtain ⟨pre0, pre1, pre2, pre3⟩ := pr_1.open2
  obtain ⟨sf1a, sf1b, sf1c, sf1d⟩ := pr_1.open2
  obtain ⟨sg1a, sg1b⟩ := Box.put2 pr_1 (.int .u64 ((wh (z) : Nat) : Int))
  go_wp2
  clear pae0 pae1 pae2 pae3 pre0 pre1 pre2 pre3 sf1a sf1b sf1c sf1d sg1a sg1b
  have hB_4 := below_setAll hB_3 (g := w.heap.size + 1) (by omega) [.int .u64 ((wh (z) : Nat) : Int), .int .u64 ((wl (z) : Nat) : Int)]
  have pa_3 := pa_2.farAll (g' := w.heap.size + 1) (by omega) [.int .u64 ((wh (z) : Nat) : Int), .int .u64 ((wl (z) : Nat) : Int)]
  have pr_2 := pr_1.setAll [.int .u64 ((wh (z) : Nat) : Int), .int .u64 ((wl (z) : Nat) : Int)] rfl
  simp only [setAll, Nat.zero_add] at hB_4 pa_3 pr_2
  clear hB_3 pa_2 pr_1
  generalize (World.setCell (World.setCell w3 ⟨w.heap.size + 1, 0, none⟩ (.int .u64 ((wh (z) : Nat) : Int))) ⟨w.heap.size + 1, 1, none⟩ (.int .u64 ((wl (z) : Nat) : Int))) = w4 at *
  go_wp2
  obtain ⟨pre0, pre1, pre2, pre3⟩ := pr_2.open2
  exact bodyPost_ret (v := .agg #[.int .u64 ((wh (z) : Nat) : Int), .int .u64 ((wl (z) : Nat) : Int)]) (by simp [results, Try.results47, go_sem, pre0, pre1]) rfl ⟨rfl, hB_4⟩
theorem size_any (z : Int) (w : World) (hz : InW z) : Calls Try.prog 47 #[.agg #[.int .u64 ((wh (z) : Nat) : Int), .int .u64 ((wl (z) : Nat) : Int)]] w fun e w' => AnsW w w' e (z.natAbs : Int) := by
  by_cases h0 : z < 0
  · have h := size_neg z w hz h0
    rwa [show -z = (z.natAbs : Int) by omega] at h
  · have h := size_pos z w hz h0
    have e : z = (z.natAbs : Int) := by omega
    rw [← e]; exact h
set_option maxHeartbeats 4000000 in
theorem Of_walk_neg (n : Int) (w : World) (h0 : n < 0) :
    Calls Try.prog 66 #[.int .i64 n] w fun e w' => e = .returned (.agg #[.int .u64 18446744073709551615, .int .u64 (IntKind.u64.wrap n)]) ∧ Below w.heap.size w w' := by
  have hB_0 := Below.refl w.heap.size w
  obtain ⟨w1, hw1, pr_0, hb1, hs1⟩ := new_box w (w.heap.size) rfl [.int .u64 0, .int .u64 0] 53
  have hb1' : Below w.heap.size w w1 := hb1.mono (by omega)
  clear hb1
  have hB_1 := hB_0.trans (hb1'.mono hB_0.size)
  clear hb1' hB_0
  go_enter Try.func66, Try.ntmps66
  obtain ⟨pre0, pre1, pre2, pre3⟩ := pr_0.open2
  obtain ⟨sf1a, sf1b, sf1c, sf1d⟩ := pr_0.open2
  obtain ⟨sg1a, sg1b⟩ := Box.put2 pr_0 (.int .u64 18446744073709551615)
  go_wp2
  clear pre0 pre1 pre2 pre3 sf1a sf1b sf1c sf1d sg1a sg1b
  have hB_2 := below_setAll hB_1 (g := w.heap.size) (by omega) [.int .u64 18446744073709551615, .int .u64 (IntKind.u64.wrap n)]
  have pr_1 := pr_0.setAll [.int .u64 18446744073709551615, .int .u64 (IntKind.u64.wrap n)] rfl
  simp only [setAll, Nat.zero_add] at hB_2 pr_1
  clear hB_1 pr_0
  generalize (World.setCell (World.setCell w1 ⟨w.heap.size, 0, none⟩ (.int .u64 18446744073709551615)) ⟨w.heap.size, 1, none⟩ (.int .u64 (IntKind.u64.wrap n))) = w2 at *
  go_wp2
  obtain ⟨pre0, pre1, pre2, pre3⟩ := pr_1.open2
  exact bodyPost_ret (v := .agg #[.int .u64 18446744073709551615, .int .u64 (IntKind.u64.wrap n)]) (by simp [results, Try.results66, go_sem, pre0, pre1]) rfl ⟨rfl, hB_2⟩
set_option maxHeartbeats 4000000 in
theorem Of_walk_pos (n : Int) (w : World) (h0 : ¬ n < 0) :
    Calls Try.prog 66 #[.int .i64 n] w fun e w' => e = .returned (.agg #[.int .u64 0, .int .u64 (IntKind.u64.wrap n)]) ∧ Below w.heap.size w w' := by
  have hB_0 := Below.refl w.heap.size w
  obtain ⟨w1, hw1, pr_0, hb1, hs1⟩ := new_box w (w.heap.size) rfl [.int .u64 0, .int .u64 0] 53
  have hb1' : Below w.heap.size w w1 := hb1.mono (by omega)
  clear hb1
  have hB_1 := hB_0.trans (hb1'.mono hB_0.size)
  clear hb1' hB_0
  go_enter Try.func66, Try.ntmps66
  obtain ⟨pre0, pre1, pre2, pre3⟩ := pr_0.open2
  obtain ⟨sf1a, sf1b, sf1c, sf1d⟩ := pr_0.open2
  obtain ⟨sg1a, sg1b⟩ := Box.put2 pr_0 (.int .u64 0)
  go_wp2
  clear pre0 pre1 pre2 pre3 sf1a sf1b sf1c sf1d sg1a sg1b
  have hB_2 := below_setAll hB_1 (g := w.heap.size) (by omega) [.int .u64 0, .int .u64 (IntKind.u64.wrap n)]
  have pr_1 := pr_0.setAll [.int .u64 0, .int .u64 (IntKind.u64.wrap n)] rfl
  simp only [setAll, Nat.zero_add] at hB_2 pr_1
  clear hB_1 pr_0
  generalize (World.setCell (World.setCell w1 ⟨w.heap.size, 0, none⟩ (.int .u64 0)) ⟨w.heap.size, 1, none⟩ (.int .u64 (IntKind.u64.wrap n))) = w2 at *
  go_wp2
  obtain ⟨pre0, pre1, pre2, pre3⟩ := pr_1.open2
  exact bodyPost_ret (v := .agg #[.int .u64 0, .int .u64 (IntKind.u64.wrap n)]) (by simp [results, Try.results66, go_sem, pre0, pre1]) rfl ⟨rfl, hB_2⟩
theorem wOf_any (n : Int) (h : -9223372036854775808 ≤ n) (h1 : n < 9223372036854775808) (w : World) : Calls Try.prog 66 #[.int .i64 n] w fun e w' => AnsW w w' e n := by
  by_cases h0 : n < 0
  · obtain ⟨a, b⟩ := w_int_neg h h0
    have := Of_walk_neg n w h0
    unfold AnsW; rw [a, b]; exact this
  · obtain ⟨a, b⟩ := w_int_pos h1 (Int.not_lt.1 h0)
    have := Of_walk_pos n w h0
    unfold AnsW; rw [a, b]; exact this
end Go.Proofs.Ytjciefoademlnaa
