/- The statements' Build: join, by half-edges. -/
import Derived.Test.YtaedaknkpfeipaaPartm
import Derived.WideKeyArr
import Derived.DataShut
import Derived.Test.YtaedaknkpfeipaaPartn
import Derived.StillTailTactics
import Derived.BigQuiet
import Derived.Deep.QuietTactic
import Derived.Test.YtaedaknkpfeipaaParte
import Derived.StillTail
import Derived.Test.YtaedaknkpfeipaaPartk
namespace Go.MagM
open Go.RowKit
def key2 (a b : Int) : Value := .agg #[.int .i64 a, .int .i64 b]
/-- An entry of the map of open edges. -/
def encO (x : (Int × Int) × Nat × Nat) : Value × Value := (key2 x.1.1 x.1.2, .agg #[.int .i64 (x.2.1 : Int), .int .i64 (x.2.2 : Int)])
section
variable {P : Program}
/-- A map that tells which edges are faults. -/
def FaultMap (P : Program) (k : TypeId) (w : World) (fb : Nat) (F : Int → Int → Bool) : Prop :=
  ∃ m, MapB P k w fb m ∧ (∀ e, e ∈ m → ∃ a b, e = (key2 a b, .int .i64 1) ∧ F a b = true) ∧ (∀ a b, F a b = true → (key2 a b, .int .i64 1) ∈ m)
theorem FaultMap.same {k : TypeId} {w w' : World} {fb : Nat} {F : Int → Int → Bool} (h : FaultMap P k w fb F) (e : w'.heap[fb]? = w.heap[fb]?) : FaultMap P k w' fb F := by
  obtain ⟨m, h1, h2, h3⟩ := h
  exact ⟨m, h1.block e, h2, h3⟩
theorem FaultMap.lt {k : TypeId} {w : World} {fb : Nat} {F : Int → Int → Bool} (h : FaultMap P k w fb F) : fb < w.heap.size := by
  obtain ⟨m, h1, -⟩ := h; exact h1.lt
/-- But for a mesh and one block more w' is as w was. -/
structure Keep3 (w w' : World) (mb : Nat) (tv : Value) (ob : Nat) : Prop where
  os : w'.os = w.os
  tape : w'.tape = w.tape
  output : w'.output = w.output
  size : w.heap.size ≤ w'.heap.size
  keep : ∀ k, k < w.heap.size → k ≠ mb → tv.ownBlock ≠ some k → k ≠ ob → w'.heap[k]? = w.heap[k]?
theorem Keep3.refl (w : World) (mb : Nat) (tv : Value) (ob : Nat) : Keep3 w w mb tv ob := ⟨rfl, rfl, rfl, Nat.le_refl _, fun _ _ _ _ _ => rfl⟩
theorem Keep3.trans {a b c : World} {mb : Nat} {tv : Value} {ob : Nat} (h : Keep3 a b mb tv ob) (k : Keep3 b c mb tv ob) : Keep3 a c mb tv ob :=
  ⟨k.os.trans h.os, k.tape.trans h.tape, k.output.trans h.output, Nat.le_trans h.size k.size, fun i hi h1 h2 h3 => (k.keep i (Nat.lt_of_lt_of_le hi h.size) h1 h2 h3).trans (h.keep i hi h1 h2 h3)⟩
theorem Keep3.of_below {w w' : World} {mb : Nat} {tv : Value} {ob : Nat} (h : Below w.heap.size w w') : Keep3 w w' mb tv ob := ⟨h.os, h.tape, h.output, h.size, fun k hk _ _ _ => h.block k hk⟩
theorem Keep3.below {w w' : World} {mb B ob : Nat} {tv : Value} (h : Keep3 w w' mb tv ob) (hB : B ≤ w.heap.size) (hm : B ≤ mb) (ho : B ≤ ob) (ht : ∀ k, tv.ownBlock = some k → B ≤ k) : Below B w w' :=
  ⟨h.os, h.tape, h.output, h.size, fun k hk => h.keep k (by omega) (by omega) (fun e => by have := ht k e; omega) (by omega)⟩
/-- A mesh stays where another block is turned. -/
theorem MeshO.turned {p e : TypeId} {w w' : World} {lo mb pb pc : Nat} {tv : Value} {P : List (Int × Int)} {S : List TriM} {ob : Nat} (h : MeshO p e w lo mb pb pc tv P S) (ht : Turned w w' ob) (h1 : mb ≠ ob) (h2 : pb ≠ ob) (h3 : tv.ownBlock ≠ some ob) : MeshO p e w' lo mb pb pc tv P S :=
  ⟨h.box.same (ht.block mb h1), owns_turned h.prow ht (fun e => h2 (by simpa [Value.ownBlock] using e)), owns_turned h.row ht h3, by rw [ht.size]; exact h.low, h.apart, h.short⟩
end
end Go.MagM
namespace Go.Proofs.Ytaedaknkpfeipaa
open Go.RowKit Go.MagM Go.Maps
end Go.Proofs.Ytaedaknkpfeipaa
/- The statements' Build: join. -/
namespace Go.MagM
open Go.RowKit
theorem Distinct.sub {H K : List HalfE} (h : Distinct K) (hs : ∀ x, x ∈ H → x ∈ K) : Distinct H :=
  ⟨fun t i u j e h1 h2 => h.edge t i u j e (hs _ h1) (hs _ h2), fun t i e e' h1 h2 => h.place t i e e' (hs _ h1) (hs _ h2), fun t i a b h1 => h.apart t i a b (hs _ h1)⟩
theorem MeshO.drewN {p e : TypeId} {w : World} {lo mb pb pc : Nat} {tv : Value} {P : List (Int × Int)} {S : List TriM} (h : MeshO p e w lo mb pb pc tv P S) (q : Nat) : MeshO p e (w.drewN q) lo mb pb pc tv P S :=
  ⟨h.box.drewN q, h.prow, h.row, h.low, h.apart, h.short⟩
/-- The points of a triangle to come, by place. -/
def at3 (v0 v1 v2 : Int) : Nat → Int
  | 0 => v0
  | 1 => v1
  | _ => v2
/-- Its first i half-edges, and those that were there. -/
def halfI (H : List HalfE) (t : Nat) (v0 v1 v2 : Int) : Nat → List HalfE
  | 0 => H
  | i + 1 => (t, i, (at3 v0 v1 v2 ((i + 1) % 3), at3 v0 v1 v2 ((i + 2) % 3))) :: halfI H t v0 v1 v2 i
/-- An edge is a fault, between points. -/
def faF (F : Int → Int → Bool) (a b : Int) : Bool := decide (0 ≤ a) && decide (0 ≤ b) && F (if b < a then b else a) (if a < b then b else a)
theorem faF_comm (F : Int → Int → Bool) (a b : Int) : faF F a b = faF F b a := by
  unfold faF
  have e1 : (if b < a then b else a) = (if a < b then a else b) := by split <;> split <;> omega
  have e2 : (if a < b then b else a) = (if b < a then a else b) := by split <;> split <;> omega
  rw [e1, e2, Bool.and_comm (decide (0 ≤ a))]
/-- What join leaves. -/
def JoinEnd (p e k : TypeId) (P0 : Program) (F : Int → Int → Bool) (w : World) (lo mb pb pc : Nat) (tv : Value) (ob : Nat) (P : List (Int × Int)) (S : List TriM) (H' : List HalfE) (w' : World) : Prop :=
  ∃ (S' : List TriM) (op' : List ((Int × Int) × Nat × Nat)), MeshO p e w' lo mb pb pc tv P S' ∧ MapB P0 k w' ob (op'.map encO) ∧ Joined (faF F) H' S' op' ∧ S'.length = S.length ∧ (∀ t', rdV S' t' = rdV S t') ∧ Keep3 w w' mb tv ob
end Go.MagM
namespace Go.Proofs.Ytaedaknkpfeipaa
open Go.RowKit Go.MagM
end Go.Proofs.Ytaedaknkpfeipaa
/- What the statements' Build has made so far: triangles one behind the other, in the slots that New left free first. Pure. -/
namespace Go.MagM
/-- All half-edges of these triangles, the last one first. -/
def hRev : List (Int × Int × Int) → List HalfE
  | [] => []
  | v :: r => halfI (hRev r) r.length v.1 v.2.1 v.2.2 3
theorem hRev_mem {x : HalfE} : ∀ {R : List (Int × Int × Int)}, x ∈ hRev R ↔ ∃ v, R.reverse[x.1]? = some v ∧ x ∈ halfV x.1 v
  | [] => by simp [hRev]
  | v :: r => by
    have ih := hRev_mem (x := x) (R := r)
    have e : x ∈ hRev (v :: r) ↔ x ∈ halfV r.length v ∨ x ∈ hRev r := by
      show x ∈ (_, _, _) :: (_, _, _) :: (_, _, _) :: hRev r ↔ x ∈ [_, _, _] ∨ _
      simp only [List.mem_cons, List.not_mem_nil, or_false]
      constructor
      · rintro (h | h | h | h)
        · exact .inl (.inr (.inr h))
        · exact .inl (.inr (.inl h))
        · exact .inl (.inl h)
        · exact .inr h
      · rintro ((h | h | h) | h)
        · exact .inr (.inr (.inl h))
        · exact .inr (.inl h)
        · exact .inl h
        · exact .inr (.inr (.inr h))
    have hv : ∀ {t : Nat} {u : Int × Int × Int}, x ∈ halfV t u → x.1 = t := by
      intro t u h
      simp only [halfV, List.mem_cons, List.not_mem_nil, or_false] at h
      rcases h with rfl | rfl | rfl <;> rfl
    rw [e, ih]
    constructor
    · rintro (h | ⟨u, h1, h2⟩)
      · have := hv h
        refine ⟨v, ?_, by rw [this]; exact h⟩
        rw [this, List.reverse_cons, List.getElem?_append_right (by simp)]; simp
      · refine ⟨u, ?_, h2⟩
        have hl := (List.getElem?_eq_some_iff.1 h1).1
        rw [List.reverse_cons, List.getElem?_append_left hl]; exact h1
    · rintro ⟨u, h1, h2⟩
      rw [List.reverse_cons] at h1
      rcases Nat.lt_or_ge x.1 r.reverse.length with hl | hl
      · rw [List.getElem?_append_left hl] at h1
        exact .inr ⟨u, h1, h2⟩
      · rw [List.getElem?_append_right hl] at h1
        have hx : x.1 - r.reverse.length = 0 := by
          have := (List.getElem?_eq_some_iff.1 h1).1; simp at this ⊢; omega
        rw [hx] at h1
        simp at h1; subst h1
        have : x.1 = r.length := by simp at hl hx; omega
        rw [this] at h2; exact .inl h2
/-- These triangles lie in the slots, from the first one on; of New's four slots the others are gone. -/
structure BuiltS (S : List TriM) (R : List (Int × Int × Int)) : Prop where
  len : S.length = max 4 R.length
  v : ∀ t x, R.reverse[t]? = some x → rdV S t = some x
  gone : ∀ t, R.length ≤ t → t < 4 → rdV S t = some (-2, -2, -2)
  live : ∀ x, x ∈ R → 0 ≤ x.1
theorem BuiltS.same {S S' : List TriM} {R : List (Int × Int × Int)} (h : BuiltS S R) (hl : S'.length = S.length) (hv : ∀ t, rdV S' t = rdV S t) : BuiltS S' R :=
  ⟨hl.trans h.len, fun t x hx => (hv t).trans (h.v t x hx), fun t h1 h2 => (hv t).trans (h.gone t h1 h2), h.live⟩
theorem gone_of {S : List TriM} {t : Nat} (h : rdV S t = some (-2, -2, -2)) : ∃ T, S[t]? = some T ∧ goneB T = true := by
  obtain ⟨T, h1, h2, h3, h4⟩ := rdV_some h
  exact ⟨T, h1, by unfold goneB; exact decide_eq_true ⟨h2, h3, h4⟩⟩
theorem BuiltS.live_at {S : List TriM} {R : List (Int × Int × Int)} (h : BuiltS S R) {t : Nat} (ht : t < R.length) : ∃ T, S[t]? = some T ∧ goneB T = false := by
  obtain ⟨x, hx⟩ : ∃ x, R.reverse[t]? = some x := ⟨_, List.getElem?_eq_getElem (by simpa using ht)⟩
  have h0 := h.live x (List.mem_reverse.1 (List.mem_of_getElem? hx))
  obtain ⟨a, b, c⟩ := x
  exact live_of (h.v t _ hx) h0
theorem BuiltS.free {S : List TriM} {R : List (Int × Int × Int)} (h : BuiltS S R) : freeK S = if R.length < 4 then some R.length else none := by
  unfold freeK
  have hl := h.len
  split
  · rename_i hlt
    have e : R.length < S.length := by omega
    obtain ⟨T, hT, hg⟩ := gone_of (h.gone R.length (Nat.le_refl _) hlt)
    rw [List.findIdx?_eq_some_iff_getElem]
    refine ⟨e, ?_, fun j hj => ?_⟩
    · have := (List.getElem?_eq_some_iff.1 hT).2
      rw [this]; exact hg
    · obtain ⟨U, hU, hgU⟩ := h.live_at hj
      have := (List.getElem?_eq_some_iff.1 hU).2
      rw [this, hgU]; exact Bool.noConfusion
  · rename_i hge
    rw [List.findIdx?_eq_none_iff]
    intro T hT
    obtain ⟨j, hj⟩ := List.mem_iff_getElem?.1 hT
    have hjl := (List.getElem?_eq_some_iff.1 hj).1
    obtain ⟨U, hU, hgU⟩ := h.live_at (t := j) (by omega)
    rw [hj] at hU; cases hU; exact hgU
theorem BuiltS.slot {S : List TriM} {R : List (Int × Int × Int)} (h : BuiltS S R) : makeK S = R.length := by
  unfold makeK
  rw [h.free]
  have := h.len
  by_cases hlt : R.length < 4
  · rw [if_pos hlt]
  · rw [if_neg hlt]; simp only []; omega
theorem BuiltS.make_at {S : List TriM} {R : List (Int × Int × Int)} (h : BuiltS S R) (a b c : Int) (t : Nat) : (makeM S a b c)[t]? = if t = R.length then some (newT a b c) else S[t]? := by
  unfold makeM
  rw [h.free]
  have := h.len
  by_cases hlt : R.length < 4
  · rw [if_pos hlt]
    simp only []
    rw [List.getElem?_set]
    by_cases e : R.length = t
    · rw [if_pos e, if_pos e.symm, if_pos (by omega)]
    · rw [if_neg e, if_neg (fun x => e x.symm)]
  · rw [if_neg hlt]
    simp only []
    by_cases e : t = R.length
    · rw [if_pos e, List.getElem?_append_right (by omega), show t - S.length = 0 by omega]; rfl
    · rw [if_neg e]
      rcases Nat.lt_or_ge t S.length with g | g
      · rw [List.getElem?_append_left g]
      · rw [List.getElem?_append_right g, List.getElem?_eq_none g, List.getElem?_eq_none (by simp; omega)]
theorem BuiltS.make_len {S : List TriM} {R : List (Int × Int × Int)} (h : BuiltS S R) (a b c : Int) : (makeM S a b c).length = max 4 (R.length + 1) := by
  unfold makeM
  rw [h.free]
  have := h.len
  by_cases hlt : R.length < 4
  · rw [if_pos hlt]; simp only [List.length_set]; omega
  · rw [if_neg hlt]; simp only [List.length_append, List.length_cons, List.length_nil]; omega
theorem BuiltS.make {S : List TriM} {R : List (Int × Int × Int)} (h : BuiltS S R) (a b c : Int) (h0 : 0 ≤ a) : BuiltS (makeM S a b c) ((a, b, c) :: R) := by
  have hat : ∀ t, rdV (makeM S a b c) t = if t = R.length then some (a, b, c) else rdV S t := fun t => by
    unfold rdV; rw [h.make_at]; split <;> rfl
  refine ⟨by rw [h.make_len]; rfl, fun t x hx => ?_, fun t h1 h2 => ?_, fun x hx => ?_⟩
  · rw [hat]
    rw [List.reverse_cons] at hx
    rcases Nat.lt_or_ge t R.reverse.length with g | g
    · rw [List.getElem?_append_left g] at hx
      rw [if_neg (by simp at g; omega)]; exact h.v t x hx
    · rw [List.getElem?_append_right g] at hx
      have e : t - R.reverse.length = 0 := by have := (List.getElem?_eq_some_iff.1 hx).1; simp at this ⊢; omega
      rw [e] at hx
      simp at hx; subst hx
      rw [if_pos (by simp at g e; omega)]
  · rw [List.length_cons] at h1
    rw [hat, if_neg (by omega)]; exact h.gone t (by omega) h2
  · rcases List.mem_cons.1 hx with rfl | hx
    · exact h0
    · exact h.live x hx
/-- A triangle more: what was joined stays joined. -/
theorem BuiltS.joined {S : List TriM} {R : List (Int × Int × Int)} (h : BuiltS S R) (a b c : Int) {fa : Int → Int → Bool} {op : List ((Int × Int) × Nat × Nat)} (hJ : Joined fa (hRev R) S op) : Joined fa (hRev R) (makeM S a b c) op := by
  refine hJ.other (by rw [h.make_len, h.len]; omega) fun t i e he => ?_
  obtain ⟨u, hu, -⟩ := hRev_mem.1 he
  have := (List.getElem?_eq_some_iff.1 hu).1
  simp only [List.length_reverse] at this
  rw [h.make_at, if_neg (by omega)]
end Go.MagM
/- The statements' Build. -/
namespace Go.MagM
open Go.RowKit
/-- Triples of ints in a row. -/
def TrIn (w : World) (b : Nat) (V : List (Int × Int × Int)) : Prop :=
  ∀ k x y z, V[k]? = some (x, y, z) → w.cell? ⟨b, k * 3, none⟩ = some (.int .i64 x) ∧ w.cell? ⟨b, k * 3 + 1, none⟩ = some (.int .i64 y) ∧ w.cell? ⟨b, k * 3 + 2, none⟩ = some (.int .i64 z)
theorem TrIn.below {w w' : World} {b : Nat} {V : List (Int × Int × Int)} (h : TrIn w b V) (hb : Below w.heap.size w w') : TrIn w' b V := fun k x y z hk => by
  obtain ⟨h1, h2, h3⟩ := h k x y z hk
  exact ⟨(hb.cell (World.block_lt_of_cell? w _ h1)).trans h1, (hb.cell (World.block_lt_of_cell? w _ h2)).trans h2, (hb.cell (World.block_lt_of_cell? w _ h3)).trans h3⟩
/-- Three cells at o. -/
structure Ats3 (w : World) (b o : Nat) (v0 v1 v2 : Value) : Prop where
  c0 : w.cell? ⟨b, o, none⟩ = some v0
  c1 : w.cell? ⟨b, o + 1, none⟩ = some v1
  c2 : w.cell? ⟨b, o + 2, none⟩ = some v2
theorem Ats3.below {w w' : World} {b o : Nat} {v0 v1 v2 : Value} (h : Ats3 w b o v0 v1 v2) (hb : Below w.heap.size w w') : Ats3 w' b o v0 v1 v2 := by
  have hlt := World.block_lt_of_cell? w _ h.c0
  exact ⟨(hb.cell (p := ⟨b, o, none⟩) hlt).trans h.c0, (hb.cell (p := ⟨b, o + 1, none⟩) hlt).trans h.c1, (hb.cell (p := ⟨b, o + 2, none⟩) hlt).trans h.c2⟩
theorem Ats3.drew {w : World} {b o : Nat} {v0 v1 v2 : Value} (h : Ats3 w b o v0 v1 v2) : Ats3 w.drew b o v0 v1 v2 := ⟨h.c0, h.c1, h.c2⟩
/-- Points that lie as cells. -/
structure PtsC (w : World) (sb : Nat) (P : List (Int × Int)) : Prop where
  c : ∀ j u, (ptsCells P)[j]? = some u → w.cell? ⟨sb, 0 + j, none⟩ = some u
theorem PtsC.below {w w' : World} {sb : Nat} {P : List (Int × Int)} (h : PtsC w sb P) (hb : Below w.heap.size w w') : PtsC w' sb P := ⟨fun j u hj => (hb.cell (World.block_lt_of_cell? w _ (h.c j u hj))).trans (h.c j u hj)⟩
theorem PtsC.drew {w : World} {sb : Nat} {P : List (Int × Int)} (h : PtsC w sb P) : PtsC w.drew sb P := ⟨h.c⟩
theorem owns_low {w : World} {base base' : Nat} {e : TypeId} {size : Nat} {v : Value} {n : Nat} {xs : List Value} (h : w.ownsRow base e size v n xs) (hb : base' ≤ base) : w.ownsRow base' e size v n xs := by
  refine ⟨h.1, ?_⟩
  rcases h.2 with hn | ⟨g, cap, cur, h1, h2, h3⟩
  · exact .inl hn
  · exact .inr ⟨g, cap, cur, h1, Nat.le_trans hb h2, h3⟩
/-- A mesh and its points lie at B or above. -/
structure MeshUp (p e : TypeId) (w : World) (B mb pb pc : Nat) (tv : Value) (P : List (Int × Int)) (S : List TriM) : Prop where
  mesh : MeshO p e w B mb pb pc tv P S
  pts : B ≤ pb
theorem MeshUp.below {p e : TypeId} {w w' : World} {B mb pb pc : Nat} {tv : Value} {P : List (Int × Int)} {S : List TriM} (h : MeshUp p e w B mb pb pc tv P S) (hb : Below w.heap.size w w') : MeshUp p e w' B mb pb pc tv P S := ⟨h.mesh.below hb, h.pts⟩
theorem MeshUp.drew {p e : TypeId} {w : World} {B mb pb pc : Nat} {tv : Value} {P : List (Int × Int)} {S : List TriM} (h : MeshUp p e w B mb pb pc tv P S) : MeshUp p e w.drew B mb pb pc tv P S := ⟨h.mesh.drew, h.pts⟩
theorem Ats3.farFrom {b o : Nat} {v0 v1 v2 : Value} {g' : Nat} (hne : b ≠ g') : ∀ (xs : List Value) (i : Nat) {w : World}, Ats3 w b o v0 v1 v2 → Ats3 (setAll w g' i xs) b o v0 v1 v2
  | [], _, _, h => h
  | x :: xs, i, w, h => by
    have e : ∀ j, (w.setCell ⟨g', i, none⟩ x).cell? ⟨b, j, none⟩ = w.cell? ⟨b, j, none⟩ := fun j => World.cell?_setCell_other _ _ _ _ (by intro k; injection k with h1; first | exact hne h1 | exact hne h1.symm)
    exact Ats3.farFrom hne xs (i + 1) ⟨(e _).trans h.c0, (e _).trans h.c1, (e _).trans h.c2⟩
theorem Ats3.farAll {w : World} {b o : Nat} {v0 v1 v2 : Value} (h : Ats3 w b o v0 v1 v2) {g' : Nat} (hne : b ≠ g') (xs : List Value) : Ats3 (setAll w g' 0 xs) b o v0 v1 v2 := Ats3.farFrom hne xs 0 h
theorem PtsC.farAll {w : World} {sb : Nat} {P : List (Int × Int)} (h : PtsC w sb P) {g' : Nat} (hne : sb ≠ g') (xs : List Value) : PtsC (setAll w g' 0 xs) sb P :=
  ⟨fun j u hj => (World.cell?_of_block (a := ⟨sb, 0 + j, none⟩) ((turned_setAll (w := w) xs 0 (Turned.refl w g')).block sb hne)).trans (h.c j u hj)⟩
def isRef : Value → Bool
  | .pointer _ => true
  | .map _ => true
  | _ => false
/-- A pointer, a map: such a value lies in no mesh. -/
theorem MeshO.apart_of {p e : TypeId} {w : World} {lo mb pb pc : Nat} {tv : Value} {P : List (Int × Int)} {S : List TriM} (h : MeshO p e w lo mb pb pc tv P S) (hP : 0 < P.length) (hS : 0 < S.length) {g : Nat} {q : Value} (hg : w.cell? ⟨g, 0, none⟩ = some q) (hq : isRef q = true) : g ≠ mb ∧ g ≠ pb ∧ tv.ownBlock ≠ some g := by
  refine ⟨?_, ?_, ?_⟩
  · rintro rfl
    have := h.box.c0; rw [hg] at this; cases this; exact absurd hq (by simp [isRef])
  · rintro rfl
    obtain ⟨x, y, hx⟩ : ∃ x y, P[0]? = some (x, y) := ⟨P[0].1, P[0].2, List.getElem?_eq_getElem hP⟩
    have := (h.pts 0 x y hx).1
    simp only [Nat.zero_mul] at this
    rw [hg] at this; cases this; exact absurd hq (by simp [isRef])
  · intro e1
    obtain ⟨t, ht⟩ : ∃ t, S[0]? = some t := ⟨_, List.getElem?_eq_getElem hS⟩
    obtain ⟨tb, c, rfl⟩ := h.slot ht
    simp only [Value.ownBlock, Option.some.injEq] at e1
    subst e1
    have := (owns_box h.row).c 0 (.int .i64 t.v0) (by have := triCells_get S 0 0 t ht (by omega); rw [show (0 : Nat) * 9 + 0 = 0 from rfl] at this; rw [this]; rfl)
    rw [hg] at this; cases this; exact absurd hq (by simp [isRef])
theorem MeshUp.setAll {p e : TypeId} {w : World} {B mb pb pc : Nat} {tv : Value} {P : List (Int × Int)} {S : List TriM} (h : MeshUp p e w B mb pb pc tv P S) {g : Nat} {q : Option Addr} {vs : List Value} (hb : Box w g (.pointer q :: vs)) (hne : 0 < P.length ∧ 0 < S.length) (xs : List Value) (_ : (Value.pointer q :: vs).length = xs.length) : MeshUp p e (Go.MagM.setAll w g 0 xs) B mb pb pc tv P S := by
  obtain ⟨h1, h2, h3⟩ := h.mesh.apart_of hne.1 hne.2 hb.c0 rfl
  exact ⟨h.mesh.turned (turned_setAll xs 0 (Turned.refl w g)) (fun e => h1 e.symm) (fun e => h2 e.symm) h3, h.pts⟩
theorem MeshUp.mut {p e : TypeId} {w w' : World} {B mb pb pc : Nat} {tv tv' : Value} {P : List (Int × Int)} {S : List TriM} (h : MeshUp p e w B mb pb pc tv P S) (hm : Mut w w' mb tv tv') (hB : B ≤ w.heap.size) : Below B w w' := hm.below hB h.mesh.low.1 (fun k hk => (h.mesh.row.lt k hk).1)
theorem Box.mut {w w' : World} {mb : Nat} {tv tv' : Value} {g : Nat} {vs : List Value} (h : Box w g vs) (hm : Mut w w' mb tv tv') (hl : g < w.heap.size) (h1 : g ≠ mb) (h2 : tv.ownBlock ≠ some g) : Box w' g vs := h.same (hm.keep g hl h1 h2).1
/-- What Build leaves. -/
def BuildEnd (p e : TypeId) (F : Int → Int → Bool) (B : Nat) (P : List (Int × Int)) (T : List (Nat × Nat × Nat)) (mb : Nat) (w' : World) : Prop :=
  ∃ (pb pc : Nat) (tv : Value) (S : List TriM) (Bd : List (Nat × Nat)), MeshO p e w' B mb pb pc tv P S ∧ B ≤ pb ∧ Bd.Perm (borderT T) ∧ BuiltS S ((Bd.map ghostV).reverse ++ (T.map realV).reverse) ∧ Joined (faF F) (hRev ((Bd.map ghostV).reverse ++ (T.map realV).reverse)) S []
end Go.MagM
namespace Go.Proofs.Ytaedaknkpfeipaa
open Go.RowKit Go.MagM
end Go.Proofs.Ytaedaknkpfeipaa
/- What the statements' Build keeps while it joins one triangle behind the other. -/
namespace Go.MagM
open Go.RowKit
theorem distinct_list {W : List (Int × Int × Int)} (hn : (W.flatMap edgesV).Nodup) (ha : ∀ e, e ∈ W.flatMap edgesV → e.1 ≠ e.2) : Distinct (hRev W.reverse) := by
  have e1 : ((W.zipIdx.map fun p => (p.2, p.1)).flatMap fun p : Nat × (Int × Int × Int) => edgesV p.2) = W.flatMap edgesV := by
    rw [List.flatMap_map]
    show (W.zipIdx.flatMap fun p => edgesV p.1) = _
    rw [← List.flatMap_map (f := Prod.fst) (g := edgesV), List.zipIdx_map_fst]
  refine (distinct_of (L := W.zipIdx.map fun p => (p.2, p.1)) ?_ (by rw [e1]; exact hn) (by rw [e1]; exact ha)).sub fun x hx => ?_
  · rw [List.map_map]
    show (W.zipIdx.map Prod.snd).Nodup
    rw [List.zipIdx_map_snd]; exact List.nodup_range'
  · obtain ⟨v, h1, h2⟩ := hRev_mem.1 hx
    rw [List.reverse_reverse] at h1
    unfold halfEs
    rw [List.mem_flatMap]
    refine ⟨(x.1, v), List.mem_map.2 ⟨(v, x.1), ?_, rfl⟩, h2⟩
    rw [List.mem_zipIdx_iff_getElem?]; exact h1
/-- A map lies in no mesh. -/
theorem MeshO.apart_map {P0 : Program} {k p e : TypeId} {w : World} {lo mb pb pc : Nat} {tv : Value} {P : List (Int × Int)} {S : List TriM} (h : MeshO p e w lo mb pb pc tv P S) (hP : 0 < P.length) (hS : 0 < S.length) {ob : Nat} {m : List (Value × Value)} (hm : MapB P0 k w ob m) : ob ≠ mb ∧ ob ≠ pb ∧ tv.ownBlock ≠ some ob := by
  have hno : ∀ j, w.cell? ⟨ob, j, none⟩ = none := fun j => by
    obtain ⟨es, clock, h1, -⟩ := hm.at_
    simp [World.cell?, h1]
  refine ⟨?_, ?_, ?_⟩
  · rintro rfl
    have := h.box.c0; rw [hno] at this; cases this
  · rintro rfl
    obtain ⟨x, y, hx⟩ : ∃ x y, P[0]? = some (x, y) := ⟨P[0].1, P[0].2, List.getElem?_eq_getElem hP⟩
    have := (h.pts 0 x y hx).1
    rw [hno] at this; cases this
  · intro e1
    obtain ⟨t, ht⟩ : ∃ t, S[0]? = some t := ⟨_, List.getElem?_eq_getElem hS⟩
    obtain ⟨tb, c, rfl⟩ := h.slot ht
    simp only [Value.ownBlock, Option.some.injEq] at e1
    subst e1
    have := (owns_box h.row).c 0 (.int .i64 t.v0) (by have := triCells_get S 0 0 t ht (by omega); rw [show (0 : Nat) * 9 + 0 = 0 from rfl] at this; rw [this]; rfl)
    rw [hno] at this; cases this
theorem MapB.ne_box {P0 : Program} {k : TypeId} {w : World} {ob g : Nat} {m : List (Value × Value)} {v : Value} {vs : List Value} (hm : MapB P0 k w ob m) (hb : Box w g (v :: vs)) : g ≠ ob := by
  rintro rfl
  obtain ⟨es, clock, h1, -⟩ := hm.at_
  have := hb.c0
  simp [World.cell?, h1] at this
/-- Build's state: so many triangles are made and joined. -/
structure BI (P0 : Program) (p e k : TypeId) (fa : Int → Int → Bool) (w : World) (B mb pb pc ob Bo Bm Bf fb : Nat) (P : List (Int × Int)) (R : List (Int × Int × Int)) (tv : Value) (S : List TriM) (op : List ((Int × Int) × Nat × Nat)) : Prop where
  up : MeshUp p e w B mb pb pc tv P S
  map : MapB P0 k w ob (op.map encO)
  built : BuiltS S R
  joined : Joined fa (hRev R) S op
  bo : Box w Bo [.map (some ob)]
  bm : Box w Bm [.pointer (some ⟨mb, 0, none⟩)]
  bf : Box w Bf [.map (some fb)]
  big : B ≤ ob
section
variable {P0 : Program} {p e k : TypeId} {fa : Int → Int → Bool} {w : World} {B mb pb pc ob Bo Bm Bf fb : Nat} {P : List (Int × Int)} {R : List (Int × Int × Int)} {tv : Value} {S : List TriM} {op : List ((Int × Int) × Nat × Nat)}
theorem BI.pos (h : BI P0 p e k fa w B mb pb pc ob Bo Bm Bf fb P R tv S op) : 0 < S.length := by have := h.built.len; omega
theorem BI.below {w' : World} (h : BI P0 p e k fa w B mb pb pc ob Bo Bm Bf fb P R tv S op) (hb : Below w.heap.size w w') : BI P0 p e k fa w' B mb pb pc ob Bo Bm Bf fb P R tv S op :=
  ⟨h.up.below hb, h.map.below hb, h.built, h.joined, h.bo.below hb, h.bm.below hb, h.bf.below hb, h.big⟩
theorem BI.drew (h : BI P0 p e k fa w B mb pb pc ob Bo Bm Bf fb P R tv S op) : BI P0 p e k fa w.drew B mb pb pc ob Bo Bm Bf fb P R tv S op :=
  ⟨h.up.drew, h.map.drew, h.built, h.joined, h.bo.drew, h.bm.drew, h.bf.drew, h.big⟩
/-- A triangle more is made: what join asks for. -/
theorem BI.made (h : BI P0 p e k fa w B mb pb pc ob Bo Bm Bf fb P R tv S op) (hP : 0 < P.length) {w5 : World} {tv1 : Value} {x y z : Int} (hx : 0 ≤ x) (hm : MeshO p e w5 B mb pb pc tv1 P (makeM S x y z)) (mu : Mut w w5 mb tv tv1) :
    MapB P0 k w5 ob (op.map encO) ∧ Box w5 Bo [.map (some ob)] ∧ Box w5 Bm [.pointer (some ⟨mb, 0, none⟩)] ∧ Box w5 Bf [.map (some fb)] ∧
    (Bo ≠ mb ∧ tv1.ownBlock ≠ some Bo ∧ Bo ≠ ob) ∧ (Bm ≠ mb ∧ tv1.ownBlock ≠ some Bm ∧ Bm ≠ ob) ∧ (Bf ≠ mb ∧ tv1.ownBlock ≠ some Bf ∧ Bf ≠ ob) ∧ (ob ≠ mb ∧ ob ≠ pb ∧ tv1.ownBlock ≠ some ob) ∧
    BuiltS (makeM S x y z) ((x, y, z) :: R) ∧ Joined fa (hRev R) (makeM S x y z) op := by
  have hS := h.pos
  have hS1 : 0 < (makeM S x y z).length := by rw [h.built.make_len]; omega
  obtain ⟨o1, o2, o3⟩ := h.up.mesh.apart_map hP hS h.map
  obtain ⟨a1, a2, a3⟩ := h.up.mesh.apart_of hP hS h.bo.c0 rfl
  obtain ⟨b1, b2, b3⟩ := h.up.mesh.apart_of hP hS h.bm.c0 rfl
  obtain ⟨c1, c2, c3⟩ := h.up.mesh.apart_of hP hS h.bf.c0 rfl
  have hm5 := h.map.block (mu.keep ob h.map.lt o1 o3).1
  have xo := Box.mut h.bo mu h.bo.lt a1 a3
  have xm := Box.mut h.bm mu h.bm.lt b1 b3
  have xf := Box.mut h.bf mu h.bf.lt c1 c3
  obtain ⟨a4, a5, a6⟩ := hm.apart_of hP hS1 xo.c0 rfl
  obtain ⟨b4, b5, b6⟩ := hm.apart_of hP hS1 xm.c0 rfl
  obtain ⟨c4, c5, c6⟩ := hm.apart_of hP hS1 xf.c0 rfl
  exact ⟨hm5, xo, xm, xf, ⟨a4, a6, hm5.ne_box xo⟩, ⟨b4, b6, hm5.ne_box xm⟩, ⟨c4, c6, hm5.ne_box xf⟩, hm.apart_map hP hS1 hm5, h.built.make x y z hx, h.built.joined x y z h.joined⟩
/-- .. and joined. -/
theorem BI.next {F : Int → Int → Bool} (h : BI P0 p e k (faF F) w B mb pb pc ob Bo Bm Bf fb P R tv S op) (hP : 0 < P.length) {w5 w6 : World} {tv1 : Value} {x y z : Int} (hx : 0 ≤ x) (hm : MeshO p e w5 B mb pb pc tv1 P (makeM S x y z)) (mu : Mut w w5 mb tv tv1)
    (hj : JoinEnd p e k P0 F w5 B mb pb pc tv1 ob P (makeM S x y z) (halfI (hRev R) R.length x y z 3) w6) (hB : B ≤ w.heap.size) :
    (∃ S' op', BI P0 p e k (faF F) w6 B mb pb pc ob Bo Bm Bf fb P ((x, y, z) :: R) tv1 S' op') ∧ Below B w w6 := by
  obtain ⟨-, xo, xm, xf, so, sm, sf, sob, hb, -⟩ := h.made hP hx hm mu
  obtain ⟨S', op', m6, map6, j6, l6, v6, k6⟩ := hj
  have hlow := mu.size
  have keep : ∀ {g : Nat} {vs : List Value}, Box w5 g vs → g < w5.heap.size → (g ≠ mb ∧ tv1.ownBlock ≠ some g ∧ g ≠ ob) → Box w6 g vs := fun hg hl hs => hg.same (k6.keep _ hl hs.1 hs.2.1 hs.2.2)
  refine ⟨⟨S', op', ⟨m6, h.up.pts⟩, map6, hb.same l6 v6, j6, keep xo xo.lt so, keep xm xm.lt sm, keep xf xf.lt sf, h.big⟩, ?_⟩
  have b1 : Below B w w5 := h.up.mut mu hB
  exact b1.trans (k6.below (by omega) hm.low.1 h.big (fun g hg => (hm.row.lt g hg).1))
end
end Go.MagM
/- What waits when all triangles have come: the border. Pure. -/
namespace Go.MagM
open Go.RowKit
def unE (e : Int × Int) : Nat × Nat := (e.1.toNat, e.2.toNat)
theorem nodup_of_map {α β : Type} {f : α → β} {l : List α} (h : (l.map f).Nodup) : l.Nodup := List.Pairwise.of_map f (fun _ _ hne e => hne (e ▸ rfl)) h
theorem perm_cast {A B : List (Nat × Nat)} (h : (A.map castE).Perm (B.map castE)) : A.Perm B := by
  have := h.map unE
  rw [List.map_map, List.map_map] at this
  have e : ∀ L : List (Nat × Nat), L.map (unE ∘ castE) = L := fun L => by
    conv => rhs; rw [← List.map_id L]
    rfl
  rwa [e, e] at this
theorem perm_eraseIdx {α : Type} : ∀ (l : List α) (i : Nat) (x : α), l[i]? = some x → l.Perm (x :: l.eraseIdx i)
  | [], _, _, h => by simp at h
  | y :: t, 0, x, h => by simp at h; subst h; exact List.Perm.refl _
  | y :: t, i + 1, x, h => by
    have := perm_eraseIdx t i x (by simpa using h)
    rw [List.eraseIdx_cons_succ]
    exact (this.cons y).trans (List.Perm.swap x y _)
/-- What has come of the open edges, and what is left. -/
structure LeftO (op : List ((Int × Int) × Nat × Nat)) (E : List (Nat × Nat)) (rest : List (Value × Value)) : Prop where
  at_ : ∃ rop : List ((Int × Int) × Nat × Nat), rest = rop.map encO ∧ (E.map castE ++ rop.map (·.1)).Perm (op.map (·.1)) ∧ ∀ x, x ∈ rop → x ∈ op
theorem LeftO.start (op : List ((Int × Int) × Nat × Nat)) : LeftO op [] (op.map encO) := ⟨op, rfl, List.Perm.refl _, fun _ h => h⟩
theorem LeftO.next {op : List ((Int × Int) × Nat × Nat)} {E : List (Nat × Nat)} {rest : List (Value × Value)} (h : LeftO op E rest) {T : List (Nat × Nat × Nat)} (hm : ∀ e, e ∈ op.map (·.1) → ∃ x, x ∈ borderT T ∧ e = castE x) {i : Nat} {x v : Value} (hx : rest[i]? = some (x, v)) :
    ∃ a b : Nat, (a, b) ∈ borderT T ∧ x = .agg #[.int .i64 (a : Int), .int .i64 (b : Int)] ∧ LeftO op (E ++ [(a, b)]) (rest.eraseIdx i) ∧ E.length < op.length := by
  obtain ⟨rop, rfl, hp, hs⟩ := h.at_
  rw [List.getElem?_map] at hx
  obtain ⟨y, hy, hy2⟩ : ∃ y, rop[i]? = some y ∧ encO y = (x, v) := by
    cases h : rop[i]? with
    | none => rw [h] at hx; cases hx
    | some y => rw [h] at hx; exact ⟨y, rfl, by simpa using hx⟩
  obtain ⟨⟨a, b⟩, hab, he⟩ := hm y.1 (List.mem_map.2 ⟨y, hs y (List.mem_of_getElem? hy), rfl⟩)
  obtain ⟨⟨p, q⟩, r⟩ := y
  simp only [castE, Prod.mk.injEq] at he
  obtain ⟨rfl, rfl⟩ := he
  have hi := (List.getElem?_eq_some_iff.1 hy).1
  have hperm : rop.Perm (((((a : Int), (b : Int)), r)) :: rop.eraseIdx i) := perm_eraseIdx rop i _ hy
  refine ⟨a, b, hab, ?_, ⟨rop.eraseIdx i, ?_, ?_, fun z hz => hs z ((List.eraseIdx_sublist _ _).subset hz)⟩, ?_⟩
  · have := congrArg Prod.fst hy2
    exact this.symm
  · rw [ChangeMaps.map_eraseIdx]
  · refine List.Perm.trans ?_ hp
    rw [List.map_append, List.append_assoc]
    refine List.Perm.append_left _ ?_
    have := (hperm.map (·.1)).symm
    simpa [castE] using this
  · have := hp.length_eq
    rw [List.length_append, List.length_map, List.length_map, List.length_map] at this
    omega
theorem LeftO.done {op : List ((Int × Int) × Nat × Nat)} {E : List (Nat × Nat)} (h : LeftO op E []) {T : List (Nat × Nat × Nat)} (hp : (op.map (·.1)).Perm ((borderT T).map castE)) : E.Perm (borderT T) := by
  obtain ⟨rop, h0, h1, -⟩ := h.at_
  have : rop = [] := by cases rop with
    | nil => rfl
    | cons a t => cases h0
  subst this
  refine perm_cast (List.Perm.trans ?_ hp)
  simpa using h1
end Go.MagM
/- Closed surfaces of triangles: each edge once, across it the other half. What mesh's calls answer of them. Pure. -/
namespace Go.MagM
/-- The triangles V lie in the slots, one by one; all their edges are joined. -/
structure Surf (fa : Int → Int → Bool) (V : List (Int × Int × Int)) (S : List TriM) : Prop where
  len : S.length = V.length
  v : ∀ t : Nat, rdV S t = V[t]?
  live : ∀ x, x ∈ V → 0 ≤ x.1
  distinct : Distinct (hRev V.reverse)
  joined : Joined fa (hRev V.reverse) S []
section
variable {fa : Int → Int → Bool} {V : List (Int × Int × Int)} {S : List TriM}
theorem Surf.get (h : Surf fa V S) {t : Nat} {T : TriM} (hT : S[t]? = some T) : V[t]? = some (T.v0, T.v1, T.v2) := by
  rw [← h.v t]; unfold rdV; rw [hT]; rfl
theorem Surf.at_ (h : Surf fa V S) {t : Nat} {x : Int × Int × Int} (hx : V[t]? = some x) : ∃ T, S[t]? = some T ∧ T.v0 = x.1 ∧ T.v1 = x.2.1 ∧ T.v2 = x.2.2 := by
  have := h.v t
  rw [hx] at this
  obtain ⟨a, b, c⟩ := x
  unfold rdV at this
  cases hs : S[t]? with
  | none => rw [hs] at this; cases this
  | some T =>
    rw [hs] at this
    simp only [Option.map_some, Option.some.injEq, Prod.mk.injEq] at this
    exact ⟨T, rfl, this.1, this.2.1, this.2.2⟩
theorem Surf.alive (h : Surf fa V S) {t : Nat} {T : TriM} (hT : S[t]? = some T) : 0 ≤ T.v0 ∧ goneB T = false := by
  have h0 := h.live _ (List.mem_of_getElem? (h.get hT))
  simp only [] at h0
  exact ⟨h0, by unfold goneB; exact decide_eq_false (by omega)⟩
theorem Surf.half (h : Surf fa V S) {t i : Nat} {T : TriM} (hT : S[t]? = some T) (hi : i < 3) : (t, i, edgeV T i) ∈ hRev V.reverse := by
  refine hRev_mem.2 ⟨(T.v0, T.v1, T.v2), by rw [List.reverse_reverse]; exact h.get hT, ?_⟩
  obtain rfl | rfl | rfl : i = 0 ∨ i = 1 ∨ i = 2 := by omega
  all_goals simp [halfV, edgeV]
theorem Surf.of_half (h : Surf fa V S) {t i : Nat} {e : Int × Int} (hm : (t, i, e) ∈ hRev V.reverse) : ∃ T, S[t]? = some T ∧ i < 3 ∧ edgeV T i = e := by
  obtain ⟨v, h1, h2⟩ := hRev_mem.1 hm
  rw [List.reverse_reverse] at h1
  obtain ⟨T, hT, e0, e1, e2⟩ := h.at_ h1
  obtain ⟨x, y, z⟩ := v
  simp only [] at e0 e1 e2
  subst e0; subst e1; subst e2
  simp only [halfV, List.mem_cons, List.not_mem_nil, or_false, Prod.mk.injEq] at h2
  rcases h2 with ⟨-, rfl, rfl⟩ | ⟨-, rfl, rfl⟩ | ⟨-, rfl, rfl⟩
  · exact ⟨T, hT, by omega, rfl⟩
  · exact ⟨T, hT, by omega, rfl⟩
  · exact ⟨T, hT, by omega, rfl⟩
/-- No edge is there twice. -/
theorem Surf.once (h : Surf fa V S) {t u i j : Nat} {T U : TriM} (hT : S[t]? = some T) (hU : S[u]? = some U) (hi : i < 3) (hj : j < 3) (he : edgeV T i = edgeV U j) : t = u ∧ i = j := by
  have h1 := h.half hT hi
  have h2 := h.half hU hj
  rw [he] at h1
  exact h.distinct.edge _ _ _ _ _ h1 h2
theorem Surf.apart (h : Surf fa V S) {t i : Nat} {T : TriM} (hT : S[t]? = some T) (hi : i < 3) : (edgeV T i).1 ≠ (edgeV T i).2 :=
  h.distinct.apart t i _ _ (h.half hT hi)
theorem Surf.across (h : Surf fa V S) {t u i j : Nat} {T U : TriM} (hT : S[t]? = some T) (hU : S[u]? = some U) (hi : i < 3) (hj : j < 3) (he : edgeV U j = ((edgeV T i).2, (edgeV T i).1)) : T.n i = (u : Int) ∧ T.f i = fa (edgeV T i).1 (edgeV T i).2 := by
  have h2 := h.half hU hj
  rw [he] at h2
  have := h.joined.across t i _ _ u j (h.half hT hi) h2
  unfold rdN at this
  rw [hT] at this
  simp only [Option.map_some, Option.some.injEq, Prod.mk.injEq] at this
  exact this
/-- Each edge has its other half. -/
theorem Surf.other (h : Surf fa V S) {t i : Nat} {T : TriM} (hT : S[t]? = some T) (hi : i < 3) : ∃ (u j : Nat) (U : TriM), S[u]? = some U ∧ j < 3 ∧ edgeV U j = ((edgeV T i).2, (edgeV T i).1) ∧ T.n i = (u : Int) ∧ T.f i = fa (edgeV T i).1 (edgeV T i).2 ∧ U.n j = (t : Int) ∧ U.f j = fa (edgeV T i).2 (edgeV T i).1 := by
  have hm := h.half hT hi
  have hw := h.joined.wait (edgeV T i).1 (edgeV T i).2 t i
  obtain ⟨u, j, hu⟩ : ∃ u j, (u, j, ((edgeV T i).2, (edgeV T i).1)) ∈ hRev V.reverse := by
    refine Classical.byContradiction fun hno => ?_
    have hno' : ∀ u j, (u, j, ((edgeV T i).2, (edgeV T i).1)) ∉ hRev V.reverse := fun u j hu => hno ⟨u, j, hu⟩
    have := hw.2 ⟨hm, hno'⟩
    cases this
  obtain ⟨U, hU, hj, he⟩ := h.of_half hu
  have a1 := h.across hT hU hi hj he
  have a2 := h.across hU hT hj hi (by rw [he])
  rw [he] at a2
  exact ⟨u, j, U, hU, hj, he, a1.1, a1.2, a2.1, a2.2⟩
theorem edgeT_at {T : TriM} {i : Nat} (hi : i < 3) (h : ∀ j k : Nat, j < 3 → k < 3 → edgeV T j = edgeV T k → j = k) : edgeT T (edgeV T i).1 (edgeV T i).2 = (i : Int) :=
  edgeT_hit hi rfl fun j hj e => by have := h j i (by omega) hi e; omega
theorem Surf.edge_at (h : Surf fa V S) {t i : Nat} {T : TriM} (hT : S[t]? = some T) (hi : i < 3) : edgeT T (edgeV T i).1 (edgeV T i).2 = (i : Int) :=
  edgeT_at hi fun _ _ hj hk e => (h.once hT hT hj hk e).2
theorem Surf.linkI (h : Surf fa V S) (hfa : ∀ a b, fa a b = fa b a) {t i : Nat} {T : TriM} (hT : S[t]? = some T) (hi : i < 3) : linkI S t T i = true := by
  obtain ⟨u, j, U, hU, hj, he, h1, h2, h3, h4⟩ := h.other hT hi
  have hg := (h.alive hU).2
  have ha := h.edge_at hU hj
  rw [he] at ha
  simp only [] at ha
  unfold Go.MagM.linkI
  rw [h1, getT_nat, hU]
  simp only []
  rw [hg, ha]
  have e1 : ((j : Int) != -1) = true := by simp
  have e2 : ((j : Int)).toNat = j := rfl
  rw [e1, e2, h3, h4, h2, hfa]
  simp
theorem Surf.linked (h : Surf fa V S) (hfa : ∀ a b, fa a b = fa b a) {t : Nat} {T : TriM} (hT : S[t]? = some T) : linkedT S t T = true :=
  linkedT_yes fun _ hi => h.linkI hfa hT hi
/-- What Find answers. -/
theorem Surf.edgeM_yes (h : Surf fa V S) {t i : Nat} {T : TriM} (hT : S[t]? = some T) (hi : i < 3) : edgeM S (t : Int) (edgeV T i).1 (edgeV T i).2 = (i : Int) := by
  unfold edgeM
  rw [getT_nat, hT]
  simp only []
  rw [(h.alive hT).2, h.edge_at hT hi]; simp
theorem Surf.edgeM_cases (h : Surf fa V S) {t : Nat} (ht : t < S.length) (a b : Int) : edgeM S (t : Int) a b = -1 ∨ ∃ (i : Nat) (T : TriM), S[t]? = some T ∧ i < 3 ∧ edgeV T i = (a, b) ∧ edgeM S (t : Int) a b = (i : Int) := by
  obtain ⟨T, hT⟩ : ∃ T, S[t]? = some T := ⟨_, List.getElem?_eq_getElem ht⟩
  unfold edgeM
  rw [getT_nat, hT]
  simp only []
  rw [(h.alive hT).2]
  rcases edgeT_cases T a b with e | ⟨j, hj, e1, e2⟩
  · left; simpa using e
  · right; exact ⟨j, T, rfl, hj, e2, by simpa using e1⟩
theorem Surf.find (h : Surf fa V S) {t i : Nat} {T : TriM} (hT : S[t]? = some T) (hi : i < 3) {a b : Int} (he : edgeV T i = (a, b)) : findM S a b = some (t, (i : Int)) := by
  have ht := (List.getElem?_eq_some_iff.1 hT).1
  have e := h.edgeM_yes hT hi
  rw [he] at e
  simp only [] at e
  rw [findM_hit ht (by rw [e]; omega) (fun j hj => ?_), e]
  rcases h.edgeM_cases (t := j) (by omega) a b with e' | ⟨k, U, hU, hk, e1, -⟩
  · exact e'
  · have := (h.once hU hT hk hi (by rw [e1, he])).1; omega
end
/-- Triangles of a mesh, and ghosts behind its border. -/
def allV (T : List (Nat × Nat × Nat)) (Bd : List (Nat × Nat)) : List (Int × Int × Int) := T.map realV ++ Bd.map ghostV
/-- What the statements' Build leaves. -/
structure Built (fa : Int → Int → Bool) (T : List (Nat × Nat × Nat)) (Bd : List (Nat × Nat)) (S : List TriM) : Prop where
  good : Good T
  perm : Bd.Perm (borderT T)
  surf : Surf fa (allV T Bd) S
theorem all_distinct {T : List (Nat × Nat × Nat)} (g : Good T) {Bd : List (Nat × Nat)} (hp : Bd.Perm (borderT T)) : Distinct (hRev (allV T Bd).reverse) :=
  distinct_list (all_nodup g hp) (all_apart g hp)
theorem Built.of {fa : Int → Int → Bool} {T : List (Nat × Nat × Nat)} {Bd : List (Nat × Nat)} {S : List TriM} (g : Good T) (h4 : 4 ≤ T.length + (borderT T).length) (hp : Bd.Perm (borderT T))
    (hb : BuiltS S ((Bd.map ghostV).reverse ++ (T.map realV).reverse)) (hj : Joined fa (hRev ((Bd.map ghostV).reverse ++ (T.map realV).reverse)) S []) : Built fa T Bd S := by
  have hr : (Bd.map ghostV).reverse ++ (T.map realV).reverse = (allV T Bd).reverse := by unfold allV; rw [List.reverse_append]
  rw [hr] at hb hj
  have hl : S.length = (allV T Bd).length := by
    have := hb.len
    rw [List.length_reverse] at this
    rw [this]
    have : (allV T Bd).length = T.length + (borderT T).length := by unfold allV; simp [hp.length_eq]
    omega
  refine ⟨g, hp, ⟨hl, fun t => ?_, fun x hx => hb.live x (List.mem_reverse.2 hx), all_distinct g hp, hj⟩⟩
  cases hx : (allV T Bd)[t]? with
  | some x => exact hb.v t x (by rw [List.reverse_reverse]; exact hx)
  | none =>
    unfold rdV
    rw [List.getElem?_eq_none (by rw [hl]; exact List.getElem?_eq_none_iff.1 hx)]; rfl
section
variable {fa : Int → Int → Bool} {T : List (Nat × Nat × Nat)} {Bd : List (Nat × Nat)} {S : List TriM}
theorem Built.len (h : Built fa T Bd S) : S.length = T.length + Bd.length := by
  rw [h.surf.len]; unfold allV; simp
theorem Built.real (h : Built fa T Bd S) {t : Nat} {x : Nat × Nat × Nat} (hx : T[t]? = some x) : ∃ X, S[t]? = some X ∧ X.v0 = (x.1 : Int) ∧ X.v1 = (x.2.1 : Int) ∧ X.v2 = (x.2.2 : Int) := by
  refine h.surf.at_ (x := realV x) ?_
  unfold allV
  have hl := (List.getElem?_eq_some_iff.1 hx).1
  rw [List.getElem?_append_left (by simpa using hl), List.getElem?_map, hx]; rfl
theorem Built.ghost (h : Built fa T Bd S) {k : Nat} {e : Nat × Nat} (he : Bd[k]? = some e) : ∃ X, S[T.length + k]? = some X ∧ X.v0 = (e.2 : Int) ∧ X.v1 = (e.1 : Int) ∧ X.v2 = -1 := by
  refine h.surf.at_ (x := ghostV e) ?_
  unfold allV
  rw [List.getElem?_append_right (by simp), List.length_map, Nat.add_sub_cancel_left, List.getElem?_map, he]; rfl
/-- Each slot has a real triangle, or a ghost. -/
theorem Built.cases (h : Built fa T Bd S) {t : Nat} {X : TriM} (hX : S[t]? = some X) : (∃ x, T[t]? = some x ∧ X.v0 = (x.1 : Int) ∧ X.v1 = (x.2.1 : Int) ∧ X.v2 = (x.2.2 : Int)) ∨ (∃ k e, t = T.length + k ∧ Bd[k]? = some e ∧ X.v0 = (e.2 : Int) ∧ X.v1 = (e.1 : Int) ∧ X.v2 = -1) := by
  have ht := (List.getElem?_eq_some_iff.1 hX).1
  rw [h.len] at ht
  by_cases hlt : t < T.length
  · obtain ⟨x, hx⟩ : ∃ x, T[t]? = some x := ⟨_, List.getElem?_eq_getElem hlt⟩
    obtain ⟨Y, hY, h1⟩ := h.real hx
    rw [hX] at hY; cases hY
    exact .inl ⟨x, hx, h1⟩
  · obtain ⟨e, he⟩ : ∃ e, Bd[t - T.length]? = some e := ⟨_, List.getElem?_eq_getElem (by omega)⟩
    obtain ⟨Y, hY, h1⟩ := h.ghost he
    rw [show T.length + (t - T.length) = t by omega, hX] at hY; cases hY
    exact .inr ⟨t - T.length, e, by omega, he, h1⟩
theorem Built.real_iff (h : Built fa T Bd S) (t : Nat) : realM S (t : Int) = decide (t < T.length) := by
  unfold realM
  rw [getT_nat]
  by_cases ht : t < S.length
  · obtain ⟨X, hX⟩ : ∃ X, S[t]? = some X := ⟨_, List.getElem?_eq_getElem ht⟩
    rw [hX]
    simp only []
    unfold realT
    rcases h.cases hX with ⟨x, hx, e0, e1, e2⟩ | ⟨k, e, rfl, he, e0, e1, e2⟩
    · have := (List.getElem?_eq_some_iff.1 hx).1
      rw [decide_eq_true this, decide_eq_true (by omega)]
    · rw [decide_eq_false (by omega), decide_eq_false (by omega)]
  · rw [List.getElem?_eq_none (by omega)]
    have := h.len
    simp only []
    rw [decide_eq_false (by omega)]
end
end Go.MagM
