/- Where a walk ends: at a triangle that holds the point, at a ghost that has it beyond, or by looking at all. Pure. -/
import Derived.Test.YtaedaknkpfeipaaPartf
import Derived.Test.YtaedaknkpfeipaaPartn
import Derived.RangeFuncNested
import Derived.RangeFuncBound
import Derived.RangeFuncCalls
import Derived.RangeFuncLeaves
import Derived.Test.YtaedaknkpfeipaaParte
import Derived.WalkMore
import Derived.Test.YtaedaknkpfeipaaParto
import Derived.StillTail
import Derived.Test.YtaedaknkpfeipaaPartk
import Derived.Test.YtaedaknkpfeipaaParti
import Derived.Test.YtaedaknkpfeipaaParth
namespace Go.MagM
open Go.RowKit
/-- Where a triangle's corner lies. -/
def ptT (P : List (Int × Int)) (T : TriM) (k : Nat) : Int × Int := ptA P (T.v k).toNat
theorem sideT_is (P : List (Int × Int)) (T : TriM) (i : Nat) (p : Int × Int) : sideT P T i p = (crP (ptT P T ((i + 1) % 3)) (ptT P T ((i + 2) % 3)) p).sign := rfl
theorem sign_lt {x : Int} : x.sign < 0 ↔ x < 0 := by
  rcases Int.lt_trichotomy x 0 with h | h | h
  · rw [Int.sign_eq_neg_one_of_neg h]; omega
  · subst h; simp
  · rw [Int.sign_eq_one_of_pos h]; omega
theorem sign_gt {x : Int} : 0 < x.sign ↔ 0 < x := by
  rcases Int.lt_trichotomy x 0 with h | h | h
  · rw [Int.sign_eq_neg_one_of_neg h]; omega
  · subst h; simp
  · rw [Int.sign_eq_one_of_pos h]; omega
theorem sign_ge {x : Int} : 0 ≤ x.sign ↔ 0 ≤ x := by
  have := @sign_lt x
  omega
theorem sign_zero {x : Int} : x.sign = 0 ↔ x = 0 := by
  have h1 := @sign_lt x; have h2 := @sign_gt x
  omega
theorem holdsT_iff {P : List (Int × Int)} {T : TriM} {p : Int × Int} : holdsT P T p = true ↔ ∀ i, i < 3 → 0 ≤ crP (ptT P T ((i + 1) % 3)) (ptT P T ((i + 2) % 3)) p := by
  constructor
  · intro h i hi
    unfold holdsT at h
    simp only [Bool.and_eq_true, decide_eq_true_eq] at h
    obtain ⟨⟨h0, h1⟩, h2⟩ := h
    rw [← sign_ge, ← sideT_is]
    obtain rfl | rfl | rfl : i = 0 ∨ i = 1 ∨ i = 2 := by omega
    · exact h0
    · exact h1
    · exact h2
  · intro h
    exact holdsT_all fun j hj => by rw [sideT_is, sign_ge]; exact h j hj
theorem holdsT_no {P : List (Int × Int)} {T : TriM} {p : Int × Int} (h : holdsT P T p = false) : ∃ i, i < 3 ∧ crP (ptT P T ((i + 1) % 3)) (ptT P T ((i + 2) % 3)) p < 0 := by
  refine Classical.byContradiction fun hno => ?_
  have : holdsT P T p = true := holdsT_iff.2 fun i hi => by
    refine Int.not_lt.1 fun hc => hno ⟨i, hi, hc⟩
  rw [h] at this; cases this
theorem three_of {j i : Nat} (hj : j < 3) (hi : i < 3) : i = j ∨ i = (j + 1) % 3 ∨ i = (j + 2) % 3 := by omega
/-- Across each edge of a real triangle lies one that has it the other way round. -/
def Across (S : List TriM) : Prop := ∀ (t : Nat) (T : TriM) (i : Nat), S[t]? = some T → realT T = true → i < 3 → ∃ (u j : Nat) (U : TriM), S[u]? = some U ∧ j < 3 ∧ T.n i = (u : Int) ∧ U.v ((j + 1) % 3) = T.v ((i + 2) % 3) ∧ U.v ((j + 2) % 3) = T.v ((i + 1) % 3)
end Go.MagM
/- What the statements' Build leaves is sound, in whatever order the ghosts come. Pure. -/
namespace Go.MagM
/-- The edge of the border ahead. -/
def prevB (B : List (Nat × Nat)) (e : Nat × Nat) : Nat × Nat := (B.find? fun p => p.2 == e.1).getD (0, 0)
/-- Round the border, to the right, till the first edge comes again. -/
def cycB (B : List (Nat × Nat)) (first : Nat × Nat) : Nat → Nat × Nat → List (Nat × Nat)
  | 0, _ => []
  | n + 1, e => e :: (if prevB B e = first then [] else cycB B first n (prevB B e))
/-- The border's points, to the left. -/
def rimB (B : List (Nat × Nat)) (n : Nat) (e : Nat × Nat) : List Nat := ((cycB B e n e).map (·.2)).reverse
section
variable {fa : Int → Int → Bool} {T : List (Nat × Nat × Nat)} {Bd : List (Nat × Nat)} {S : List TriM}
theorem Built.mem (h : Built fa T Bd S) {e : Nat × Nat} : e ∈ Bd ↔ e ∈ borderT T := h.perm.mem_iff
theorem Built.nodup (h : Built fa T Bd S) : Bd.Nodup := by
  have h1 : (Bd.map (·.1)).Nodup := ((h.perm.map _).nodup_iff).2 h.good.out
  exact nodup_of_map h1
theorem prevB_is (g : Good T) {e : Nat × Nat} (he : e ∈ borderT T) : prevB (borderT T) e ∈ borderT T ∧ (prevB (borderT T) e).2 = e.1 := by
  obtain ⟨⟨x, hx, hx2⟩, -⟩ := g.next e he
  unfold prevB
  cases hf : (borderT T).find? (fun p => p.2 == e.1) with
  | none =>
    have := List.find?_eq_none.1 hf x hx
    simp [hx2] at this
  | some p =>
    have h1 := List.find?_some hf
    have h2 := List.mem_of_find?_eq_some hf
    exact ⟨h2, by simpa using h1⟩
theorem Built.place_ghost (h : Built fa T Bd S) {k : Nat} {e : Nat × Nat} (he : Bd[k]? = some e) : placeM S ((T.length + k : Nat) : Int) (-1) = 2 := by
  obtain ⟨X, hX, e0, e1, e2⟩ := h.ghost he
  unfold placeM
  rw [getT_nat, hX]
  simp only []
  rw [(h.surf.alive hX).2]
  simp only [Bool.false_eq_true, if_false]
  unfold placeT
  rw [if_neg (by omega), if_neg (by omega), if_pos e2.symm]
theorem Built.place_real (h : Built fa T Bd S) {t : Nat} (ht : t < T.length) : placeM S (t : Int) (-1) = -1 := by
  obtain ⟨x, hx⟩ : ∃ x, T[t]? = some x := ⟨_, List.getElem?_eq_getElem ht⟩
  obtain ⟨X, hX, e0, e1, e2⟩ := h.real hx
  unfold placeM
  rw [getT_nat, hX]
  simp only []
  rw [(h.surf.alive hX).2]
  simp only [Bool.false_eq_true, if_false]
  unfold placeT
  rw [if_neg (by omega), if_neg (by omega), if_neg (by omega)]
theorem Built.first (h : Built fa T Bd S) (hb : Bd ≠ []) : firstM S (-1) = ((T.length : Nat) : Int) := by
  obtain ⟨e, he⟩ : ∃ e, Bd[0]? = some e := by
    cases hB : Bd with
    | nil => exact absurd hB hb
    | cons e l => exact ⟨e, rfl⟩
  have hl : 0 < Bd.length := (List.getElem?_eq_some_iff.1 he).1
  have := h.place_ghost he
  rw [Nat.add_zero] at this
  exact firstM_hit (by rw [h.len]; omega) (by rw [this]; omega) (fun j hj => h.place_real hj)
theorem Built.step (h : Built fa T Bd S) {k k' : Nat} {e e' : Nat × Nat} (he : Bd[k]? = some e) (he' : Bd[k']? = some e') (hn : e'.2 = e.1) : stepM S (-1) ((T.length + k : Nat) : Int) = ((T.length + k' : Nat) : Int) := by
  obtain ⟨X, hX, e0, e1, e2⟩ := h.ghost he
  obtain ⟨Y, hY, f0, f1, f2⟩ := h.ghost he'
  unfold stepM
  rw [getT_nat, hX]
  simp only []
  have hp : placeT X (-1) = 2 := by
    unfold placeT
    rw [if_neg (by omega), if_neg (by omega), if_pos e2.symm]
  rw [hp, show (((2 : Int)).toNat + 1) % 3 = 0 from rfl]
  have := (h.surf.across hX hY (i := 0) (j := 1) (by omega) (by omega) (by
    show (Y.v2, Y.v0) = (X.v2, X.v1)
    rw [f2, f0, e2, e1, hn])).1
  exact this
theorem Built.walk (h : Built fa T Bd S) {k0 : Nat} {e0 : Nat × Nat} (h0 : Bd[k0]? = some e0) : ∀ (n k : Nat) (e : Nat × Nat), Bd[k]? = some e → rimZ S (walkM S (-1) ((T.length + k0 : Nat) : Int) n ((T.length + k : Nat) : Int)) = (cycB (borderT T) e0 n e).map (fun x => (x.2 : Int))
  | 0, _, _, _ => rfl
  | n + 1, k, e, he => by
    have hp := h.place_ghost he
    obtain ⟨X, hX, x0, x1, x2⟩ := h.ghost he
    obtain ⟨hm, hn⟩ := prevB_is h.good (h.mem.1 (List.mem_of_getElem? he))
    obtain ⟨k', hk'⟩ := List.mem_iff_getElem?.1 (h.mem.2 hm)
    have hs := h.step he hk' hn
    have ih := Built.walk h h0 n k' _ hk'
    unfold walkM cycB
    rw [hp, if_neg (by omega), hs]
    have hv : vAt S (T.length + k) 0 = (e.2 : Int) := by unfold vAt; rw [hX]; exact x0
    have hd : (((T.length + k' : Nat) : Int) = ((T.length + k0 : Nat) : Int)) ↔ prevB (borderT T) e = e0 := by
      constructor
      · intro q
        have : k' = k0 := by omega
        subst this
        rw [hk'] at h0; exact Option.some.inj h0
      · intro q
        rw [q] at hk'
        have hkl := (List.getElem?_eq_some_iff.1 hk').1
        have := (List.getElem?_inj hkl h.nodup).1 (hk'.trans h0.symm)
        omega
    by_cases hq : prevB (borderT T) e = e0
    · rw [if_pos (hd.2 hq), if_pos hq]
      simp only [rimZ, List.map_cons, List.map_nil]
      rw [show (((2 : Int)).toNat + 1) % 3 = 0 from rfl, Int.toNat_natCast, hv]
    · rw [if_neg (fun x => hq (hd.1 x)), if_neg hq]
      unfold rimZ at ih ⊢
      rw [List.map_cons, List.map_cons, ih]
      simp only [Int.toNat_natCast]
      rw [show (((2 : Int)).toNat + 1) % 3 = 0 from rfl, hv]
theorem Built.border (h : Built fa T Bd S) {e0 : Nat × Nat} (h0 : Bd[0]? = some e0) : borderM S = (rimB (borderT T) (T.length + (borderT T).length) e0).map (fun v : Nat => (v : Int)) := by
  have hb : Bd ≠ [] := by rintro rfl; simp at h0
  unfold borderM rimB
  rw [h.first hb]
  have := h.walk h0 S.length 0 e0 h0
  rw [Nat.add_zero] at this
  rw [this, h.len, h.perm.length_eq, List.map_reverse, List.map_map]; rfl
theorem Built.rest (h : Built fa T Bd S) {k : Nat} {e : Nat × Nat} (he : Bd[k]? = some e) {X : TriM} (hX : S[T.length + k]? = some X) : realM S X.n2 = true := by
  obtain ⟨Y, hY, e0, e1, e2⟩ := h.ghost he
  rw [hX] at hY; cases hY
  obtain ⟨u, j, U, hU, hj, hE, hn, -⟩ := h.surf.other hX (i := 2) (by omega)
  have hE' : edgeV U j = ((e.1 : Int), (e.2 : Int)) := by rw [hE]; show (X.v1, X.v0) = _; rw [e0, e1]
  have hn' : X.n2 = (u : Int) := hn
  rw [hn', h.real_iff]
  rcases h.cases hU with ⟨x, hx, -⟩ | ⟨k', e', rfl, he', f0, f1, f2⟩
  · exact decide_eq_true (List.getElem?_eq_some_iff.1 hx).1
  · exfalso
    have hb := mem_border.1 (h.mem.1 (List.mem_of_getElem? he))
    have hb' := mem_border.1 (h.mem.1 (List.mem_of_getElem? he'))
    obtain rfl | rfl | rfl : j = 0 ∨ j = 1 ∨ j = 2 := by omega
    · simp only [edgeV, Prod.mk.injEq] at hE'; omega
    · simp only [edgeV, Prod.mk.injEq] at hE'; omega
    · simp only [edgeV, Prod.mk.injEq] at hE'
      have q : e' = (e.2, e.1) := Prod.ext (by simp only []; omega) (by simp only []; omega)
      rw [q] at hb'
      exact hb.2 hb'.1
end
end Go.MagM
namespace Go.Proofs.Ytaedaknkpfeipaa
open Go.RowKit Go.MagM
section
variable {F : Int → Int → Bool} {T : List (Nat × Nat × Nat)} {Bd : List (Nat × Nat)} {S : List TriM} {P : List (Int × Int)}
theorem built_gh (h : Built (faF F) T Bd S) : ∀ k, k ≤ S.length → ghN S k = k - T.length
  | 0, _ => by simp [ghN]
  | k + 1, hk => by
    have ih := built_gh h k (by omega)
    by_cases hlt : k < T.length
    · rw [ghN_none (h.place_real hlt), ih]; omega
    · have hl := h.len
      obtain ⟨e, he⟩ : ∃ e, Bd[k - T.length]? = some e := ⟨_, List.getElem?_eq_getElem (by omega)⟩
      have hp := h.place_ghost he
      rw [show T.length + (k - T.length) = k by omega] at hp
      rw [ghN_some (by rw [hp]; omega), ih]; omega
theorem built_formed (h : Built (faF F) T Bd S) (ht : ∀ t, t ∈ T → 0 < turnM P (t.1 : Int) (t.2.1 : Int) (t.2.2 : Int)) {k : Nat} {X : TriM} (hX : S[k]? = some X) : formedT P S X = true := by
  unfold formedT
  rcases h.cases hX with ⟨x, hx, e0, e1, e2⟩ | ⟨j, e, rfl, he, e0, e1, e2⟩
  · have hp : placeT X (-1) = -1 := by
      unfold placeT
      rw [if_neg (by omega), if_neg (by omega), if_neg (by omega)]
    rw [if_pos hp, e0, e1, e2]
    exact decide_eq_true (ht x (List.mem_of_getElem? hx))
  · have hp : placeT X (-1) = 2 := by
      unfold placeT
      rw [if_neg (by omega), if_neg (by omega), if_pos e2.symm]
    rw [hp, if_neg (by omega), if_neg (by omega), if_neg (by omega), h.rest he hX]
    obtain ⟨_, _, _, _, _, _, _, g0, _⟩ := h.surf.other hX (i := 0) (by omega)
    obtain ⟨_, _, _, _, _, _, _, g1, _⟩ := h.surf.other hX (i := 1) (by omega)
    have f0 : X.f0 = false := by
      have : X.f0 = faF F X.v1 X.v2 := g0
      rw [this, e2]; unfold faF; simp
    have f1 : X.f1 = false := by
      have : X.f1 = faF F X.v2 X.v0 := g1
      rw [this, e2]; unfold faF; simp
    rw [f0, f1]; rfl
theorem built_sound (h : Built (faF F) T Bd S) (ht : ∀ t, t ∈ T → 0 < turnM P (t.1 : Int) (t.2.1 : Int) (t.2.2 : Int)) (hb : borderT T ≠ [])
    (hc : ∀ e0, e0 ∈ borderT T → (rimB (borderT T) (T.length + (borderT T).length) e0).length = (borderT T).length ∧ (∀ v, v ∈ rimB (borderT T) (T.length + (borderT T).length) e0 → v < P.length) ∧ convexM P (rimB (borderT T) (T.length + (borderT T).length) e0) = true) : SoundIs P S true := by
  have hbl : 0 < (borderT T).length := List.length_pos_iff.2 hb
  have hBl := h.perm.length_eq
  obtain ⟨e0, he0⟩ : ∃ e0, Bd[0]? = some e0 := ⟨_, List.getElem?_eq_getElem (by omega)⟩
  obtain ⟨c1, c2, c3⟩ := hc e0 (h.mem.1 (List.mem_of_getElem? he0))
  have hbo := h.border he0
  refine .inr ⟨rfl, fun k X hX => ?_, ?_, ?_, _, hbo, c2, c3⟩
  · unfold okT; rw [built_formed h ht hX, h.surf.linked (faF_comm F) hX]; simp
  · intro e
    rw [hbo] at e
    have := congrArg List.length e
    rw [List.length_map, c1, List.length_nil] at this
    omega
  · rw [hbo, List.length_map, c1, built_gh h _ (Nat.le_refl _), h.len]; omega
end
/-- The points of a grid. -/
def gridP (w h : Nat) : List (Int × Int) := (List.range (h + 1)).flatMap fun y => (List.range (w + 1)).map fun x => (((2 * x : Nat) : Int), ((2 * y : Nat) : Int))
def soundG (w h bits : Nat) : Bool :=
  (gridT w h bits).all (fun t => decide (0 < turnM (gridP w h) (t.1 : Int) (t.2.1 : Int) (t.2.2 : Int))) && !(borderT (gridT w h bits)).isEmpty &&
  (borderT (gridT w h bits)).all (fun e0 =>
    (rimB (borderT (gridT w h bits)) ((gridT w h bits).length + (borderT (gridT w h bits)).length) e0).length == (borderT (gridT w h bits)).length &&
    (rimB (borderT (gridT w h bits)) ((gridT w h bits).length + (borderT (gridT w h bits)).length) e0).all (fun v => decide (v < (gridP w h).length)) &&
    convexM (gridP w h) (rimB (borderT (gridT w h bits)) ((gridT w h bits).length + (borderT (gridT w h bits)).length) e0)) &&
  decide (4 ≤ (gridT w h bits).length + (borderT (gridT w h bits)).length) && decide ((gridT w h bits).length ≤ 8) && (gridT w h bits).all (fun t => decide (t.1 < (gridP w h).length) && decide (t.2.1 < (gridP w h).length) && decide (t.2.2 < (gridP w h).length)) &&
  (gridP w h).all (fun p => decide (0 ≤ p.1 ∧ p.1 ≤ 4 ∧ 0 ≤ p.2 ∧ p.2 ≤ 4)) && decide ((gridP w h).length = (w + 1) * (h + 1))
def allSound : Bool := [1, 2].all fun w => [1, 2].all fun h => (List.range 16).all fun bits => soundG w h bits
set_option maxRecDepth 100000 in
theorem all_sound : allSound = true := by decide +kernel
theorem grid_soundG {w h : Nat} (hw : w = 1 ∨ w = 2) (hh : h = 1 ∨ h = 2) {bits : Nat} (hb : bits < 16) : soundG w h bits = true := by
  have := all_sound
  unfold allSound at this
  rw [List.all_eq_true] at this
  have h1 := this w (by rcases hw with rfl | rfl <;> simp)
  rw [List.all_eq_true] at h1
  have h2 := h1 h (by rcases hh with rfl | rfl <;> simp)
  rw [List.all_eq_true] at h2
  exact h2 bits (List.mem_range.2 hb)
/-- What is known of a grid. -/
structure GridOk (w h bits : Nat) : Prop where
  good : MagM.Good (gridT w h bits)
  turn : ∀ t, t ∈ gridT w h bits → 0 < turnM (gridP w h) (t.1 : Int) (t.2.1 : Int) (t.2.2 : Int)
  some_ : borderT (gridT w h bits) ≠ []
  rim : ∀ e0, e0 ∈ borderT (gridT w h bits) → (rimB (borderT (gridT w h bits)) ((gridT w h bits).length + (borderT (gridT w h bits)).length) e0).length = (borderT (gridT w h bits)).length ∧ (∀ v, v ∈ rimB (borderT (gridT w h bits)) ((gridT w h bits).length + (borderT (gridT w h bits)).length) e0 → v < (gridP w h).length) ∧ convexM (gridP w h) (rimB (borderT (gridT w h bits)) ((gridT w h bits).length + (borderT (gridT w h bits)).length) e0) = true
  four : 4 ≤ (gridT w h bits).length + (borderT (gridT w h bits)).length
  few : (gridT w h bits).length ≤ 8
  pts : ∀ t, t ∈ gridT w h bits → t.1 < (gridP w h).length ∧ t.2.1 < (gridP w h).length ∧ t.2.2 < (gridP w h).length
  small : ∀ p, p ∈ gridP w h → 0 ≤ p.1 ∧ p.1 ≤ 4 ∧ 0 ≤ p.2 ∧ p.2 ≤ 4
  many : (gridP w h).length = (w + 1) * (h + 1)
theorem grid_ok {w h : Nat} (hw : w = 1 ∨ w = 2) (hh : h = 1 ∨ h = 2) {bits : Nat} (hb : bits < 16) : GridOk w h bits := by
  have g := MagM.Good.of (grid_good hw hh hb)
  have s := grid_soundG hw hh hb
  unfold soundG at s
  simp only [Bool.and_eq_true, decide_eq_true_eq, List.all_eq_true, beq_iff_eq, Bool.not_eq_true', List.isEmpty_eq_false_iff] at s
  obtain ⟨⟨⟨⟨⟨⟨⟨s1, s2⟩, s3⟩, s4⟩, s5⟩, s6⟩, s7⟩, s8⟩ := s
  exact ⟨g, s1, s2, fun e he => by obtain ⟨⟨q1, q2⟩, q3⟩ := s3 e he; exact ⟨q1, q2, q3⟩, s4, s5, fun t ht => by obtain ⟨⟨q1, q2⟩, q3⟩ := s6 t ht; exact ⟨q1, q2, q3⟩, s7, s8⟩
end Go.Proofs.Ytaedaknkpfeipaa
/- The statements' Grid: its points and triangles, place by place; bits; the map of faults. -/
namespace Go.MagM
open Go.RowKit
theorem MeshO.low' {p e : TypeId} {w : World} {B B' mb pb pc : Nat} {tv : Value} {P : List (Int × Int)} {S : List TriM} (h : MeshO p e w B mb pb pc tv P S) (hB : B' ≤ B) : MeshO p e w B' mb pb pc tv P S :=
  ⟨h.box, owns_low h.prow hB, owns_low h.row hB, ⟨Nat.le_trans hB h.low.1, h.low.2⟩, h.apart, h.short⟩
theorem BuildEnd.low {p e : TypeId} {F : Int → Int → Bool} {B B' : Nat} {P : List (Int × Int)} {T : List (Nat × Nat × Nat)} {mb : Nat} {w : World} (h : BuildEnd p e F B P T mb w) (hB : B' ≤ B) : BuildEnd p e F B' P T mb w := by
  obtain ⟨pb, pc, tv, S, Bd, h1, h2, h3⟩ := h
  exact ⟨pb, pc, tv, S, Bd, h1.low' hB, Nat.le_trans hB h2, h3⟩
end Go.MagM
namespace Go.Proofs.Ytaedaknkpfeipaa
open Go.RowKit Go.MagM Go.Maps
end Go.Proofs.Ytaedaknkpfeipaa
/- The statements' Grid, whatever it is asked: what comes. -/
namespace Go.Proofs.Ytaedaknkpfeipaa
open Go.RowKit Go.MagM
/-- What Grid leaves. -/
structure GridIs (w : World) (B mb pb pc tb tc g W H bn : Nat) (F : Int → Int → Bool) (Bd : List (Nat × Nat)) (S : List TriM) : Prop where
  mesh : MeshO 26 37 w B mb pb pc (.slice (some ⟨tb, 0, none⟩) S.length tc) (gridP W H) S
  pts : B ≤ pb
  built : Built (faF F) (gridT W H bn) Bd S
  tr : TrIn w g ((gridT W H bn).map realV)
  row : B ≤ g
  hW : W = 1 ∨ W = 2
  hH : H = 1 ∨ H = 2
  hb : bn < 16
theorem GridIs.below {w w' : World} {B mb pb pc tb tc g W H bn : Nat} {F : Int → Int → Bool} {Bd : List (Nat × Nat)} {S : List TriM} (h : GridIs w B mb pb pc tb tc g W H bn F Bd S) (hb : Below w.heap.size w w') : GridIs w' B mb pb pc tb tc g W H bn F Bd S :=
  ⟨h.mesh.below hb, h.pts, h.built, h.tr.below hb, h.row, h.hW, h.hH, h.hb⟩
theorem GridIs.drew {w : World} {B mb pb pc tb tc g W H bn : Nat} {F : Int → Int → Bool} {Bd : List (Nat × Nat)} {S : List TriM} (h : GridIs w B mb pb pc tb tc g W H bn F Bd S) : GridIs w.drew B mb pb pc tb tc g W H bn F Bd S := h.below (Below.refl _ _).drew'
theorem GridIs.read {w : World} {B mb pb pc tb tc g W H bn : Nat} {F : Int → Int → Bool} {Bd : List (Nat × Nat)} {S : List TriM} (h : GridIs w B mb pb pc tb tc g W H bn F Bd S) : MeshR w mb pb pc (some ⟨tb, 0, none⟩) tc (gridP W H) S := by
  obtain ⟨ta, tc', e, hr⟩ := h.mesh.read
  simp only [Value.slice.injEq] at e
  obtain ⟨rfl, -, rfl⟩ := e
  exact hr
theorem GridIs.sound {w : World} {B mb pb pc tb tc g W H bn : Nat} {F : Int → Int → Bool} {Bd : List (Nat × Nat)} {S : List TriM} (h : GridIs w B mb pb pc tb tc g W H bn F Bd S) : SoundIs (gridP W H) S true := by
  have ok := grid_ok h.hW h.hH h.hb
  exact built_sound h.built ok.turn ok.some_ ok.rim
end Go.Proofs.Ytaedaknkpfeipaa
/- Going round a point of a grid: each triangle that has it comes once. Over no program; written ahead of layer 9's code. -/
namespace Go.MagM
/-- The next one, to the left: it begins where this one ends. -/
def nextS (R : List (Nat × Nat)) (s : Nat × Nat) : Nat × Nat := (R.find? fun p => p.1 == s.2).getD (0, 0)
def walkS (R : List (Nat × Nat)) : Nat → Nat × Nat → List (Nat × Nat)
  | 0, _ => []
  | n + 1, s => s :: walkS R n (nextS R s)
def iterS (R : List (Nat × Nat)) : Nat → Nat × Nat → Nat × Nat
  | 0, s => s
  | n + 1, s => iterS R n (nextS R s)
/-- From each of them on all come, each once, and then the first one again. -/
def roundS (R : List (Nat × Nat)) : Bool := (R.map (·.1)).Nodup && (R.map (·.2)).Nodup && R.all fun s => (walkS R R.length s).Nodup && (walkS R R.length s).all (fun p => R.contains p) && iterS R R.length s == s && R.any (fun p => p.1 == s.2)
/-- As a proposition: what follows what hangs on the set of them alone. -/
structure Round (R : List (Nat × Nat)) : Prop where
  firsts : (R.map (·.1)).Nodup
  seconds : (R.map (·.2)).Nodup
  next : ∀ s, s ∈ R → ∃ p, p ∈ R ∧ p.1 = s.2
  walk : ∀ s, s ∈ R → (walkS R R.length s).Nodup ∧ (∀ p, p ∈ walkS R R.length s → p ∈ R) ∧ iterS R R.length s = s
theorem Round.of {R : List (Nat × Nat)} (h : roundS R = true) : Round R := by
  unfold roundS at h
  simp only [Bool.and_eq_true, decide_eq_true_eq, List.all_eq_true, List.contains_iff_mem, beq_iff_eq, List.any_eq_true] at h
  obtain ⟨⟨h1, h2⟩, h3⟩ := h
  exact ⟨h1, h2, fun s hs => by obtain ⟨p, hp, e⟩ := (h3 s hs).2; exact ⟨p, hp, e⟩, fun s hs => ⟨(h3 s hs).1.1.1, (h3 s hs).1.1.2, (h3 s hs).1.2⟩⟩
theorem walkS_len (R : List (Nat × Nat)) : ∀ n s, (walkS R n s).length = n
  | 0, _ => rfl
  | n + 1, s => by rw [walkS, List.length_cons, walkS_len R n]
/-- All come. -/
theorem subset_of_len {α : Type} [DecidableEq α] : ∀ {l R : List α}, l.Nodup → (∀ x, x ∈ l → x ∈ R) → R.length ≤ l.length → ∀ x, x ∈ R → x ∈ l
  | [], R, _, _, hl, x, hx => by
    have : R = [] := List.eq_nil_of_length_eq_zero (by simpa using hl)
    rw [this] at hx; cases hx
  | a :: t, R, hn, hs, hl, x, hx => by
    have hn' := List.nodup_cons.1 hn
    by_cases e : x = a
    · rw [e]; simp
    · refine List.mem_cons_of_mem _ (subset_of_len (R := R.erase a) hn'.2 (fun y hy => ?_) ?_ x ?_)
      · have hya : y ≠ a := fun e => hn'.1 (e ▸ hy)
        exact (List.mem_erase_of_ne hya).2 (hs y (List.mem_cons_of_mem _ hy))
      · rw [List.length_erase_of_mem (hs a (by simp))]
        simp at hl; omega
      · exact (List.mem_erase_of_ne e).2 hx
theorem Round.all {R : List (Nat × Nat)} (h : Round R) {s : Nat × Nat} (hs : s ∈ R) : ∀ p, p ∈ R → p ∈ walkS R R.length s := by
  obtain ⟨h1, h2, _⟩ := h.walk s hs
  exact subset_of_len h1 h2 (by rw [walkS_len]; exact Nat.le_refl _)
end Go.MagM
/- Going round a point of what the statements' Build has made: all triangles that have it come, each once. Pure. -/
namespace Go.MagM
/-- The points behind the k-th one. -/
def pairX (X : TriM) (k : Nat) : Int × Int := (X.v ((k + 1) % 3), X.v ((k + 2) % 3))
/-- Round, till the first one comes again. -/
def cutS (R : List (Nat × Nat)) (p0 : Nat × Nat) : Nat → Nat × Nat → List (Nat × Nat)
  | 0, _ => []
  | n + 1, p => p :: (if nextS R p = p0 then [] else cutS R p0 n (nextS R p))
theorem cutS_walk (R : List (Nat × Nat)) (p0 : Nat × Nat) : ∀ m n p, 1 ≤ m → m ≤ n → iterS R m p = p0 → (∀ j, 0 < j → j < m → iterS R j p ≠ p0) → cutS R p0 n p = walkS R m p
  | 0, _, _, h, _, _, _ => by omega
  | m + 1, 0, _, _, h, _, _ => by omega
  | m + 1, n + 1, p, _, hn, hi, hj => by
    rw [cutS, walkS]
    by_cases hm : m = 0
    · subst hm
      have : nextS R p = p0 := hi
      rw [if_pos this]; rfl
    · have h1 := hj 1 (by omega) (by omega)
      have h1' : nextS R p ≠ p0 := h1
      rw [if_neg h1', cutS_walk R p0 m n (nextS R p) (by omega) (by omega) hi (fun j h0 hlt => hj (j + 1) (by omega) (by omega))]
theorem walkS_get (R : List (Nat × Nat)) : ∀ n p j, j < n → (walkS R n p)[j]? = some (iterS R j p)
  | 0, _, _, h => by omega
  | n + 1, p, 0, _ => rfl
  | n + 1, p, j + 1, h => by
    rw [walkS, List.getElem?_cons_succ]
    exact walkS_get R n (nextS R p) j (by omega)
theorem Round.cut {R : List (Nat × Nat)} (h : Round R) {s : Nat × Nat} (hs : s ∈ R) {n : Nat} (hn : R.length ≤ n) : cutS R s n s = walkS R R.length s := by
  obtain ⟨h1, -, h3⟩ := h.walk s hs
  have hl : 1 ≤ R.length := List.length_pos_iff.2 (List.ne_nil_of_mem hs)
  refine cutS_walk R s R.length n s hl hn h3 fun j h0 hj e => ?_
  have e0 := walkS_get R R.length s 0 (by omega)
  have ej := walkS_get R R.length s j hj
  rw [e] at ej
  have := (List.getElem?_inj (by rw [walkS_len]; omega) h1).1 (e0.trans ej.symm)
  omega
section
variable {fa : Int → Int → Bool} {T : List (Nat × Nat × Nat)} {Bd : List (Nat × Nat)} {S : List TriM}
theorem Surf.points {V : List (Int × Int × Int)} (h : Surf fa V S) {t : Nat} {X : TriM} (hX : S[t]? = some X) : X.v1 ≠ X.v2 ∧ X.v2 ≠ X.v0 ∧ X.v0 ≠ X.v1 :=
  ⟨h.apart hX (i := 0) (by omega), h.apart hX (i := 1) (by omega), h.apart hX (i := 2) (by omega)⟩
theorem Surf.place {V : List (Int × Int × Int)} (h : Surf fa V S) {t k : Nat} {X : TriM} (hX : S[t]? = some X) (hk : k < 3) : placeT X (X.v k) = (k : Int) ∧ placeM S (t : Int) (X.v k) = (k : Int) := by
  obtain ⟨a, b, c⟩ := h.points hX
  have hp : placeT X (X.v k) = (k : Int) := by
    unfold placeT
    obtain rfl | rfl | rfl : k = 0 ∨ k = 1 ∨ k = 2 := by omega
    · rw [show X.v 0 = X.v0 from rfl, if_pos rfl]; rfl
    · rw [show X.v 1 = X.v1 from rfl, if_neg (fun e => c e.symm), if_pos rfl]; rfl
    · rw [show X.v 2 = X.v2 from rfl, if_neg b, if_neg (fun e => a e.symm), if_pos rfl]; rfl
  refine ⟨hp, ?_⟩
  unfold placeM
  rw [getT_nat, hX]
  simp only []
  rw [(h.alive hX).2, hp]; simp
/-- The next one begins where this one ends. -/
theorem Surf.next {V : List (Int × Int × Int)} (h : Surf fa V S) {t k : Nat} {X : TriM} (hX : S[t]? = some X) (hk : k < 3) : ∃ (u l : Nat) (Y : TriM), S[u]? = some Y ∧ l < 3 ∧ Y.v l = X.v k ∧ (pairX Y l).1 = (pairX X k).2 ∧ stepM S (X.v k) (t : Int) = (u : Int) := by
  obtain ⟨u, j, Y, hY, hj, he, hn, -⟩ := h.other hX (i := (k + 1) % 3) (by omega)
  have e1 : edgeV X ((k + 1) % 3) = ((pairX X k).2, X.v k) := by
    obtain rfl | rfl | rfl : k = 0 ∨ k = 1 ∨ k = 2 := by omega
    all_goals rfl
  rw [e1] at he
  simp only [] at he
  refine ⟨u, (j + 1) % 3, Y, hY, by omega, ?_, ?_, ?_⟩
  · obtain rfl | rfl | rfl : j = 0 ∨ j = 1 ∨ j = 2 := by omega
    all_goals exact congrArg Prod.fst he
  · obtain rfl | rfl | rfl : j = 0 ∨ j = 1 ∨ j = 2 := by omega
    all_goals exact congrArg Prod.snd he
  · unfold stepM
    rw [getT_nat, hX]
    simp only []
    rw [(h.place hX hk).1, Int.toNat_natCast, hn]
end
end Go.MagM
namespace Go.Proofs.Ytaedaknkpfeipaa
open Go.RowKit Go.MagM
end Go.Proofs.Ytaedaknkpfeipaa
/- Right's has. -/
namespace Go.MagM
open Go.RowKit
def hasT (T : TriM) (v : Int) : Bool := decide (T.v0 = v) || decide (T.v1 = v) || decide (T.v2 = v)
end Go.MagM
namespace Go.Proofs.Ytaedaknkpfeipaa
open Go.RowKit Go.MagM
set_option maxRecDepth 100000 in
set_option maxHeartbeats 4000000 in
theorem Right1_any (v : Int) (g : Nat) (T : TriM) (w : World) (h : Box w g T.cells) :
    Calls Try.prog 57 #[.int .i64 v, .pointer (some ⟨g, 0, none⟩)] w fun e w' => e = .returned (.bool (hasT T v)) ∧ w' = w := by
  obtain ⟨v0, v1, v2, n0, n1, n2, f0, f1, f2⟩ := T
  have d0 := h.c 0 _ rfl; have d1 := h.c 1 _ rfl; have d2 := h.c 2 _ rfl
  clear h
  obtain ⟨p, hpl⟩ : ∃ p, hasT ⟨v0, v1, v2, n0, n1, n2, f0, f1, f2⟩ v = p := ⟨_, rfl⟩
  rw [hpl]
  unfold hasT at hpl
  simp only [] at hpl
  by_cases e0 : v0 = v
  · have q0 : (v0 == v) = true := by simpa using e0
    have HP : p = true := by rw [← hpl, decide_eq_true e0]; rfl
    subst HP
    clear hpl e0
    go_enter Try.func57, Try.ntmps57
    go_wp2
    go_ret
    exact ⟨rfl, rfl⟩
  · have q0 : (v0 == v) = false := by simpa using e0
    rw [decide_eq_false e0, Bool.false_or] at hpl
    clear e0
    by_cases e1 : v1 = v
    · have q1 : (v1 == v) = true := by simpa using e1
      have HP : p = true := by rw [← hpl, decide_eq_true e1]; rfl
      subst HP
      clear hpl e1
      go_enter Try.func57, Try.ntmps57
      go_wp2
      go_ret
      exact ⟨rfl, rfl⟩
    · have q1 : (v1 == v) = false := by simpa using e1
      rw [decide_eq_false e1, Bool.false_or] at hpl
      clear e1
      by_cases e2 : v2 = v
      · have q2 : (v2 == v) = true := by simpa using e2
        have HP : p = true := by rw [← hpl, decide_eq_true e2]
        subst HP
        clear hpl e2
        go_enter Try.func57, Try.ntmps57
        go_wp2
        go_ret
        exact ⟨rfl, rfl⟩
      · have q2 : (v2 == v) = false := by simpa using e2
        have HP : p = false := by rw [← hpl, decide_eq_false e2]
        subst HP
        clear hpl e2
        go_enter Try.func57, Try.ntmps57
        go_wp2
        go_ret
        exact ⟨rfl, rfl⟩
end Go.Proofs.Ytaedaknkpfeipaa
/- Right: what it looks for, and that each walk in the statements' grids ends as it asks. Pure. -/
namespace Go.Proofs.Ytaedaknkpfeipaa
open Go.RowKit Go.MagM
/-- What Right has seen: a triangle that holds the point, a corner there, an edge on which it lies. -/
structure RS where
  ins : Bool
  at_ : Int
  e0 : Int
  e1 : Int
deriving DecidableEq
def onE (P : List (Int × Int)) (p : Int × Int) (T : TriM) (i : Nat) : Bool := decide (sideT P T i p = 0) && betP p (ptT P T ((i + 1) % 3)) (ptT P T ((i + 2) % 3))
def rsI (P : List (Int × Int)) (p : Int × Int) (T : TriM) (s : RS) (i : Nat) : RS :=
  ⟨s.ins, if ptT P T ((i + 1) % 3) = p then T.v ((i + 1) % 3) else s.at_,
    if onE P p T i = true then min (T.v ((i + 1) % 3)) (T.v ((i + 2) % 3)) else s.e0, if onE P p T i = true then max (T.v ((i + 1) % 3)) (T.v ((i + 2) % 3)) else s.e1⟩
def rsK (P : List (Int × Int)) (p : Int × Int) (T : TriM) (s : RS) : Nat → RS
  | 0 => s
  | i + 1 => rsI P p T (rsK P p T s i) i
def rsT (P : List (Int × Int)) (p : Int × Int) (s : RS) (T : TriM) : RS := ⟨s.ins || holdsT P T p, (rsK P p T s 3).at_, (rsK P p T s 3).e0, (rsK P p T s 3).e1⟩
def rs0 : RS := ⟨false, -1, 0, 0⟩
def rsL (P : List (Int × Int)) (p : Int × Int) (l : List (Nat × TriM)) : RS := l.foldl (fun s x => rsT P p s x.2) rs0
theorem rsL_snoc (P : List (Int × Int)) (p : Int × Int) (l : List (Nat × TriM)) (x : Nat × TriM) : rsL P p (l ++ [x]) = rsT P p (rsL P p l) x.2 := by unfold rsL; rw [List.foldl_append]; rfl
/-- The place of a point that some triangle holds. -/
def okIn (P : List (Int × Int)) (p : Int × Int) (s : RS) (T : TriM) (x : Int × Int × Int × Int) : Bool :=
  s.ins && realT T && (if 0 ≤ s.at_ then decide (x.1 = 2 ∧ x.2.2.1 = s.at_ ∧ x.2.2.2 = 0) && hasT T s.at_
    else if ¬ (s.e0 = 0 ∧ s.e1 = 0) then decide (x.1 = 1 ∧ x.2.2.1 = s.e0 ∧ x.2.2.2 = s.e1) && hasT T s.e0 && hasT T s.e1
    else decide (x.1 = 0 ∧ x.2.2.1 = 0 ∧ x.2.2.2 = 0) && (decide (0 < sideT P T 2 p) && decide (0 < sideT P T 0 p) && decide (0 < sideT P T 1 p)))
/-- A place is where a point lies. -/
def RightIs (P : List (Int × Int)) (S : List TriM) (p : Int × Int) (x : Int × Int × Int × Int) : Prop :=
  ∃ (t : Nat) (T : TriM), S[t]? = some T ∧ x.2.1 = (t : Int) ∧
    (okIn P p (rsL P p (realsK S S.length)) T x = true ∨
      ((rsL P p (realsK S S.length)).ins = false ∧ realT T = false ∧ x = (3, (t : Int), 0, 0) ∧ ∃ j, j < 3 ∧ T.v j = -1 ∧ 0 ≤ T.v ((j + 1) % 3) ∧ 0 ≤ T.v ((j + 2) % 3) ∧ 0 < sideT P T j p))
/-- Triangles of the same corners. -/
def SameV (T U : TriM) : Prop := T.v0 = U.v0 ∧ T.v1 = U.v1 ∧ T.v2 = U.v2
theorem SameV.v {T U : TriM} (h : SameV T U) (k : Nat) : T.v k = U.v k := by
  obtain ⟨h0, h1, h2⟩ := h
  match k with
  | 0 => exact h0
  | 1 => exact h1
  | k + 2 => exact h2
theorem SameV.side {T U : TriM} (h : SameV T U) (P : List (Int × Int)) (i : Nat) (p : Int × Int) : sideT P T i p = sideT P U i p := by unfold sideT; rw [h.v, h.v]
theorem SameV.pt {T U : TriM} (h : SameV T U) (P : List (Int × Int)) (k : Nat) : ptT P T k = ptT P U k := by unfold ptT; rw [h.v]
theorem SameV.holds {T U : TriM} (h : SameV T U) (P : List (Int × Int)) (p : Int × Int) : holdsT P T p = holdsT P U p := by unfold holdsT; rw [h.side, h.side, h.side]
theorem SameV.has {T U : TriM} (h : SameV T U) (v : Int) : hasT T v = hasT U v := by unfold hasT; rw [h.1, h.2.1, h.2.2]
theorem SameV.real {T U : TriM} (h : SameV T U) : realT T = realT U := by unfold realT; rw [h.1, h.2.1, h.2.2]
theorem SameV.within {T U : TriM} (h : SameV T U) (P : List (Int × Int)) (t : Nat) (p : Int × Int) : withinT P T t p = withinT P U t p := by
  have e : T.v = U.v := funext h.v
  have e2 : (fun k => decide (sideT P T k p = 0)) = (fun k => decide (sideT P U k p = 0)) := funext fun k => by rw [h.side]
  unfold withinT
  rw [e, e2]
theorem within_no (P : List (Int × Int)) (T : TriM) (t : Nat) (p : Int × Int) : (withinT P T t p).2.1 = (t : Int) ∧ (withinT P T t p).1 = (withinT P T 0 p).1 ∧ (withinT P T t p).2.2 = (withinT P T 0 p).2.2 := by
  unfold withinT
  split
  · exact ⟨rfl, rfl, rfl⟩
  · split <;> exact ⟨rfl, rfl, rfl⟩
/-- Points made of corners' parts. -/
theorem bary_1 (u v w p : Int × Int) : crP v w p * u.1 + crP w u p * v.1 + crP u v p * w.1 = crP u v w * p.1 := by unfold crP crs; grind
theorem bary_2 (u v w p : Int × Int) : crP v w p * u.2 + crP w u p * v.2 + crP u v p * w.2 = crP u v w * p.2 := by unfold crP crs; grind
theorem bary_1s (u v w p : Int × Int) : crP v w p + crP w u p + crP u v p = crP u v w := by unfold crP crs; grind
theorem part_ge {a b c x y z d q m : Int} (ha : 0 ≤ a) (hb : 0 ≤ b) (hc : 0 ≤ c) (hd : 0 < d) (hs : a + b + c = d) (he : a * x + b * y + c * z = d * q) (hx : m ≤ x) (hy : m ≤ y) (hz : m ≤ z) : m ≤ q := by
  have h1 : a * m ≤ a * x := Int.mul_le_mul_of_nonneg_left hx ha
  have h2 : b * m ≤ b * y := Int.mul_le_mul_of_nonneg_left hy hb
  have h3 : c * m ≤ c * z := Int.mul_le_mul_of_nonneg_left hz hc
  have h4 : a * m + b * m + c * m = d * m := by rw [← hs]; grind
  refine Int.not_lt.1 fun hq => ?_
  have h5 : d * q < d * m := Int.mul_lt_mul_of_pos_left hq hd
  omega
theorem part_le {a b c x y z d q m : Int} (ha : 0 ≤ a) (hb : 0 ≤ b) (hc : 0 ≤ c) (hd : 0 < d) (hs : a + b + c = d) (he : a * x + b * y + c * z = d * q) (hx : x ≤ m) (hy : y ≤ m) (hz : z ≤ m) : q ≤ m := by
  have := part_ge (x := -x) (y := -y) (z := -z) (q := -q) (m := -m) ha hb hc hd hs (by rw [Int.mul_neg, Int.mul_neg, Int.mul_neg, Int.mul_neg]; omega) (by omega) (by omega) (by omega)
  omega
section
variable {fa : Int → Int → Bool} {W H bn : Nat} {Bd : List (Nat × Nat)} {S : List TriM} (h : Built fa (gridT W H bn) Bd S) (hW : W = 1 ∨ W = 2) (hH : H = 1 ∨ H = 2) (hb : bn < 16)
include h hW hH hb
end
end Go.Proofs.Ytaedaknkpfeipaa
/- The statements' grids: where they lie, where a walk begins. -/
namespace Go.MagM
open Go.RowKit
theorem MeshR.in_ {w : World} {mb pb pc : Nat} {ta : Option Addr} {tc : Nat} {P : List (Int × Int)} {S : List TriM} (h : MeshR w mb pb pc ta tc P S) (hP : 0 < P.length) (hS : 0 < S.length) : MeshIn (fun b => b < w.heap.size) mb pb ta := by
  refine ⟨World.block_lt_of_cell? w _ (h.box.c 0 _ rfl), ?_, fun b hb => ?_⟩
  · obtain ⟨⟨x, y⟩, hp⟩ : ∃ q, P[0]? = some q := ⟨_, List.getElem?_eq_getElem hP⟩
    exact World.block_lt_of_cell? w _ (h.pts 0 x y hp).1
  · obtain ⟨T, hT⟩ : ∃ T, S[0]? = some T := ⟨_, List.getElem?_eq_getElem hS⟩
    obtain ⟨tb, e, hl, -⟩ := h.tris.get hT
    rw [hb] at e
    cases e
    exact hl
end Go.MagM
namespace Go.Proofs.Ytaedaknkpfeipaa
open Go.RowKit Go.MagM
end Go.Proofs.Ytaedaknkpfeipaa
