/- The statements' Build: join, by half-edges. -/
import Derived.Test.YtnabdopnlinklaaPartm
import Derived.WideKeyArr
import Derived.DataShut
import Derived.Test.YtnabdopnlinklaaPartn
import Derived.StillTailTactics
import Derived.Test.YtnabdopnlinklaaParto
import Derived.BigQuiet
import Derived.Deep.QuietTactic
import Derived.Test.YtnabdopnlinklaaParti
import Derived.Test.YtnabdopnlinklaaPartk
import Derived.Test.YtnabdopnlinklaaParth
import Derived.Test.YtnabdopnlinklaaPartf
import Derived.Test.YtnabdopnlinklaaParte
namespace Go.MagM
open Go.RowKit
def key2 (a b : Int) : Value := .agg #[.int .i64 a, .int .i64 b]
/-- An entry of the map of open edges. -/
def encO (x : (Int × Int) × Nat × Nat) : Value × Value := (key2 x.1.1 x.1.2, .agg #[.int .i64 (x.2.1 : Int), .int .i64 (x.2.2 : Int)])
section
variable {P : Program}
/-- A map that tells which edges are faults. -/
def FaultMap (P : Program) (k : TypeId) (w : World) (fb : Nat) (F : Int → Int → Bool) : Prop :=
  ∃ m, MapB P k w fb m ∧ (∀ e, e ∈ m → ∃ a b, e = (key2 a b, .int .i64 1) ∧ F a b = true) ∧ (∀ a b, F a b = true → (key2 a b, .int .i64 1) ∈ m)
theorem FaultMap.same {k : TypeId} {w w' : World} {fb : Nat} {F : Int → Int → Bool} (h : FaultMap P k w fb F) (e : w'.heap[fb]? = w.heap[fb]?) : FaultMap P k w' fb F := by
  obtain ⟨m, h1, h2, h3⟩ := h
  exact ⟨m, h1.block e, h2, h3⟩
theorem FaultMap.lt {k : TypeId} {w : World} {fb : Nat} {F : Int → Int → Bool} (h : FaultMap P k w fb F) : fb < w.heap.size := by
  obtain ⟨m, h1, -⟩ := h; exact h1.lt
/-- But for a mesh and one block more w' is as w was. -/
structure Keep3 (w w' : World) (mb : Nat) (tv : Value) (ob : Nat) : Prop where
  os : w'.os = w.os
  tape : w'.tape = w.tape
  output : w'.output = w.output
  size : w.heap.size ≤ w'.heap.size
  keep : ∀ k, k < w.heap.size → k ≠ mb → tv.ownBlock ≠ some k → k ≠ ob → w'.heap[k]? = w.heap[k]?
theorem Keep3.refl (w : World) (mb : Nat) (tv : Value) (ob : Nat) : Keep3 w w mb tv ob := ⟨rfl, rfl, rfl, Nat.le_refl _, fun _ _ _ _ _ => rfl⟩
theorem Keep3.trans {a b c : World} {mb : Nat} {tv : Value} {ob : Nat} (h : Keep3 a b mb tv ob) (k : Keep3 b c mb tv ob) : Keep3 a c mb tv ob :=
  ⟨k.os.trans h.os, k.tape.trans h.tape, k.output.trans h.output, Nat.le_trans h.size k.size, fun i hi h1 h2 h3 => (k.keep i (Nat.lt_of_lt_of_le hi h.size) h1 h2 h3).trans (h.keep i hi h1 h2 h3)⟩
theorem Keep3.of_below {w w' : World} {mb : Nat} {tv : Value} {ob : Nat} (h : Below w.heap.size w w') : Keep3 w w' mb tv ob := ⟨h.os, h.tape, h.output, h.size, fun k hk _ _ _ => h.block k hk⟩
theorem Keep3.below {w w' : World} {mb B ob : Nat} {tv : Value} (h : Keep3 w w' mb tv ob) (hB : B ≤ w.heap.size) (hm : B ≤ mb) (ho : B ≤ ob) (ht : ∀ k, tv.ownBlock = some k → B ≤ k) : Below B w w' :=
  ⟨h.os, h.tape, h.output, h.size, fun k hk => h.keep k (by omega) (by omega) (fun e => by have := ht k e; omega) (by omega)⟩
/-- A mesh stays where another block is turned. -/
theorem MeshO.turned {p e : TypeId} {w w' : World} {lo mb pb pc : Nat} {tv : Value} {P : List (Int × Int)} {S : List TriM} {ob : Nat} (h : MeshO p e w lo mb pb pc tv P S) (ht : Turned w w' ob) (h1 : mb ≠ ob) (h2 : pb ≠ ob) (h3 : tv.ownBlock ≠ some ob) : MeshO p e w' lo mb pb pc tv P S :=
  ⟨h.box.same (ht.block mb h1), owns_turned h.prow ht (fun e => h2 (by simpa [Value.ownBlock] using e)), owns_turned h.row ht h3, by rw [ht.size]; exact h.low, h.apart, h.short⟩
end
end Go.MagM
namespace Go.Proofs.Ytnabdopnlinklaa
open Go.RowKit Go.MagM Go.Maps
end Go.Proofs.Ytnabdopnlinklaa
/- The statements' Build: join. -/
namespace Go.MagM
open Go.RowKit
theorem Distinct.sub {H K : List HalfE} (h : Distinct K) (hs : ∀ x, x ∈ H → x ∈ K) : Distinct H :=
  ⟨fun t i u j e h1 h2 => h.edge t i u j e (hs _ h1) (hs _ h2), fun t i e e' h1 h2 => h.place t i e e' (hs _ h1) (hs _ h2), fun t i a b h1 => h.apart t i a b (hs _ h1)⟩
theorem MeshO.drewN {p e : TypeId} {w : World} {lo mb pb pc : Nat} {tv : Value} {P : List (Int × Int)} {S : List TriM} (h : MeshO p e w lo mb pb pc tv P S) (q : Nat) : MeshO p e (w.drewN q) lo mb pb pc tv P S :=
  ⟨h.box.drewN q, h.prow, h.row, h.low, h.apart, h.short⟩
/-- The points of a triangle to come, by place. -/
def at3 (v0 v1 v2 : Int) : Nat → Int
  | 0 => v0
  | 1 => v1
  | _ => v2
/-- Its first i half-edges, and those that were there. -/
def halfI (H : List HalfE) (t : Nat) (v0 v1 v2 : Int) : Nat → List HalfE
  | 0 => H
  | i + 1 => (t, i, (at3 v0 v1 v2 ((i + 1) % 3), at3 v0 v1 v2 ((i + 2) % 3))) :: halfI H t v0 v1 v2 i
/-- An edge is a fault, between points. -/
def faF (F : Int → Int → Bool) (a b : Int) : Bool := decide (0 ≤ a) && decide (0 ≤ b) && F (if b < a then b else a) (if a < b then b else a)
theorem faF_comm (F : Int → Int → Bool) (a b : Int) : faF F a b = faF F b a := by
  unfold faF
  have e1 : (if b < a then b else a) = (if a < b then a else b) := by split <;> split <;> omega
  have e2 : (if a < b then b else a) = (if b < a then a else b) := by split <;> split <;> omega
  rw [e1, e2, Bool.and_comm (decide (0 ≤ a))]
/-- What join leaves. -/
def JoinEnd (p e k : TypeId) (P0 : Program) (F : Int → Int → Bool) (w : World) (lo mb pb pc : Nat) (tv : Value) (ob : Nat) (P : List (Int × Int)) (S : List TriM) (H' : List HalfE) (w' : World) : Prop :=
  ∃ (S' : List TriM) (op' : List ((Int × Int) × Nat × Nat)), MeshO p e w' lo mb pb pc tv P S' ∧ MapB P0 k w' ob (op'.map encO) ∧ Joined (faF F) H' S' op' ∧ S'.length = S.length ∧ (∀ t', rdV S' t' = rdV S t') ∧ Keep3 w w' mb tv ob
end Go.MagM
namespace Go.Proofs.Ytnabdopnlinklaa
open Go.RowKit Go.MagM
end Go.Proofs.Ytnabdopnlinklaa
/- What the statements' Build has made so far: triangles one behind the other, in the slots that New left free first. Pure. -/
namespace Go.MagM
/-- All half-edges of these triangles, the last one first. -/
def hRev : List (Int × Int × Int) → List HalfE
  | [] => []
  | v :: r => halfI (hRev r) r.length v.1 v.2.1 v.2.2 3
theorem hRev_mem {x : HalfE} : ∀ {R : List (Int × Int × Int)}, x ∈ hRev R ↔ ∃ v, R.reverse[x.1]? = some v ∧ x ∈ halfV x.1 v
  | [] => by simp [hRev]
  | v :: r => by
    have ih := hRev_mem (x := x) (R := r)
    have e : x ∈ hRev (v :: r) ↔ x ∈ halfV r.length v ∨ x ∈ hRev r := by
      show x ∈ (_, _, _) :: (_, _, _) :: (_, _, _) :: hRev r ↔ x ∈ [_, _, _] ∨ _
      simp only [List.mem_cons, List.not_mem_nil, or_false]
      constructor
      · rintro (h | h | h | h)
        · exact .inl (.inr (.inr h))
        · exact .inl (.inr (.inl h))
        · exact .inl (.inl h)
        · exact .inr h
      · rintro ((h | h | h) | h)
        · exact .inr (.inr (.inl h))
        · exact .inr (.inl h)
        · exact .inl h
        · exact .inr (.inr (.inr h))
    have hv : ∀ {t : Nat} {u : Int × Int × Int}, x ∈ halfV t u → x.1 = t := by
      intro t u h
      simp only [halfV, List.mem_cons, List.not_mem_nil, or_false] at h
      rcases h with rfl | rfl | rfl <;> rfl
    rw [e, ih]
    constructor
    · rintro (h | ⟨u, h1, h2⟩)
      · have := hv h
        refine ⟨v, ?_, by rw [this]; exact h⟩
        rw [this, List.reverse_cons, List.getElem?_append_right (by simp)]; simp
      · refine ⟨u, ?_, h2⟩
        have hl := (List.getElem?_eq_some_iff.1 h1).1
        rw [List.reverse_cons, List.getElem?_append_left hl]; exact h1
    · rintro ⟨u, h1, h2⟩
      rw [List.reverse_cons] at h1
      rcases Nat.lt_or_ge x.1 r.reverse.length with hl | hl
      · rw [List.getElem?_append_left hl] at h1
        exact .inr ⟨u, h1, h2⟩
      · rw [List.getElem?_append_right hl] at h1
        have hx : x.1 - r.reverse.length = 0 := by
          have := (List.getElem?_eq_some_iff.1 h1).1; simp at this ⊢; omega
        rw [hx] at h1
        simp at h1; subst h1
        have : x.1 = r.length := by simp at hl hx; omega
        rw [this] at h2; exact .inl h2
/-- These triangles lie in the slots, from the first one on; of New's four slots the others are gone. -/
structure BuiltS (S : List TriM) (R : List (Int × Int × Int)) : Prop where
  len : S.length = max 4 R.length
  v : ∀ t x, R.reverse[t]? = some x → rdV S t = some x
  gone : ∀ t, R.length ≤ t → t < 4 → rdV S t = some (-2, -2, -2)
  live : ∀ x, x ∈ R → 0 ≤ x.1
theorem BuiltS.same {S S' : List TriM} {R : List (Int × Int × Int)} (h : BuiltS S R) (hl : S'.length = S.length) (hv : ∀ t, rdV S' t = rdV S t) : BuiltS S' R :=
  ⟨hl.trans h.len, fun t x hx => (hv t).trans (h.v t x hx), fun t h1 h2 => (hv t).trans (h.gone t h1 h2), h.live⟩
theorem gone_of {S : List TriM} {t : Nat} (h : rdV S t = some (-2, -2, -2)) : ∃ T, S[t]? = some T ∧ goneB T = true := by
  obtain ⟨T, h1, h2, h3, h4⟩ := rdV_some h
  exact ⟨T, h1, by unfold goneB; exact decide_eq_true ⟨h2, h3, h4⟩⟩
theorem BuiltS.live_at {S : List TriM} {R : List (Int × Int × Int)} (h : BuiltS S R) {t : Nat} (ht : t < R.length) : ∃ T, S[t]? = some T ∧ goneB T = false := by
  obtain ⟨x, hx⟩ : ∃ x, R.reverse[t]? = some x := ⟨_, List.getElem?_eq_getElem (by simpa using ht)⟩
  have h0 := h.live x (List.mem_reverse.1 (List.mem_of_getElem? hx))
  obtain ⟨a, b, c⟩ := x
  exact live_of (h.v t _ hx) h0
theorem BuiltS.free {S : List TriM} {R : List (Int × Int × Int)} (h : BuiltS S R) : freeK S = if R.length < 4 then some R.length else none := by
  unfold freeK
  have hl := h.len
  split
  · rename_i hlt
    have e : R.length < S.length := by omega
    obtain ⟨T, hT, hg⟩ := gone_of (h.gone R.length (Nat.le_refl _) hlt)
    rw [List.findIdx?_eq_some_iff_getElem]
    refine ⟨e, ?_, fun j hj => ?_⟩
    · have := (List.getElem?_eq_some_iff.1 hT).2
      rw [this]; exact hg
    · obtain ⟨U, hU, hgU⟩ := h.live_at hj
      have := (List.getElem?_eq_some_iff.1 hU).2
      rw [this, hgU]; exact Bool.noConfusion
  · rename_i hge
    rw [List.findIdx?_eq_none_iff]
    intro T hT
    obtain ⟨j, hj⟩ := List.mem_iff_getElem?.1 hT
    have hjl := (List.getElem?_eq_some_iff.1 hj).1
    obtain ⟨U, hU, hgU⟩ := h.live_at (t := j) (by omega)
    rw [hj] at hU; cases hU; exact hgU
theorem BuiltS.slot {S : List TriM} {R : List (Int × Int × Int)} (h : BuiltS S R) : makeK S = R.length := by
  unfold makeK
  rw [h.free]
  have := h.len
  by_cases hlt : R.length < 4
  · rw [if_pos hlt]
  · rw [if_neg hlt]; simp only []; omega
theorem BuiltS.make_at {S : List TriM} {R : List (Int × Int × Int)} (h : BuiltS S R) (a b c : Int) (t : Nat) : (makeM S a b c)[t]? = if t = R.length then some (newT a b c) else S[t]? := by
  unfold makeM
  rw [h.free]
  have := h.len
  by_cases hlt : R.length < 4
  · rw [if_pos hlt]
    simp only []
    rw [List.getElem?_set]
    by_cases e : R.length = t
    · rw [if_pos e, if_pos e.symm, if_pos (by omega)]
    · rw [if_neg e, if_neg (fun x => e x.symm)]
  · rw [if_neg hlt]
    simp only []
    by_cases e : t = R.length
    · rw [if_pos e, List.getElem?_append_right (by omega), show t - S.length = 0 by omega]; rfl
    · rw [if_neg e]
      rcases Nat.lt_or_ge t S.length with g | g
      · rw [List.getElem?_append_left g]
      · rw [List.getElem?_append_right g, List.getElem?_eq_none g, List.getElem?_eq_none (by simp; omega)]
theorem BuiltS.make_len {S : List TriM} {R : List (Int × Int × Int)} (h : BuiltS S R) (a b c : Int) : (makeM S a b c).length = max 4 (R.length + 1) := by
  unfold makeM
  rw [h.free]
  have := h.len
  by_cases hlt : R.length < 4
  · rw [if_pos hlt]; simp only [List.length_set]; omega
  · rw [if_neg hlt]; simp only [List.length_append, List.length_cons, List.length_nil]; omega
theorem BuiltS.make {S : List TriM} {R : List (Int × Int × Int)} (h : BuiltS S R) (a b c : Int) (h0 : 0 ≤ a) : BuiltS (makeM S a b c) ((a, b, c) :: R) := by
  have hat : ∀ t, rdV (makeM S a b c) t = if t = R.length then some (a, b, c) else rdV S t := fun t => by
    unfold rdV; rw [h.make_at]; split <;> rfl
  refine ⟨by rw [h.make_len]; rfl, fun t x hx => ?_, fun t h1 h2 => ?_, fun x hx => ?_⟩
  · rw [hat]
    rw [List.reverse_cons] at hx
    rcases Nat.lt_or_ge t R.reverse.length with g | g
    · rw [List.getElem?_append_left g] at hx
      rw [if_neg (by simp at g; omega)]; exact h.v t x hx
    · rw [List.getElem?_append_right g] at hx
      have e : t - R.reverse.length = 0 := by have := (List.getElem?_eq_some_iff.1 hx).1; simp at this ⊢; omega
      rw [e] at hx
      simp at hx; subst hx
      rw [if_pos (by simp at g e; omega)]
  · rw [List.length_cons] at h1
    rw [hat, if_neg (by omega)]; exact h.gone t (by omega) h2
  · rcases List.mem_cons.1 hx with rfl | hx
    · exact h0
    · exact h.live x hx
/-- A triangle more: what was joined stays joined. -/
theorem BuiltS.joined {S : List TriM} {R : List (Int × Int × Int)} (h : BuiltS S R) (a b c : Int) {fa : Int → Int → Bool} {op : List ((Int × Int) × Nat × Nat)} (hJ : Joined fa (hRev R) S op) : Joined fa (hRev R) (makeM S a b c) op := by
  refine hJ.other (by rw [h.make_len, h.len]; omega) fun t i e he => ?_
  obtain ⟨u, hu, -⟩ := hRev_mem.1 he
  have := (List.getElem?_eq_some_iff.1 hu).1
  simp only [List.length_reverse] at this
  rw [h.make_at, if_neg (by omega)]
end Go.MagM
/- The statements' Build. -/
namespace Go.MagM
open Go.RowKit
/-- Triples of ints in a row. -/
def TrIn (w : World) (b : Nat) (V : List (Int × Int × Int)) : Prop :=
  ∀ k x y z, V[k]? = some (x, y, z) → w.cell? ⟨b, k * 3, none⟩ = some (.int .i64 x) ∧ w.cell? ⟨b, k * 3 + 1, none⟩ = some (.int .i64 y) ∧ w.cell? ⟨b, k * 3 + 2, none⟩ = some (.int .i64 z)
theorem TrIn.below {w w' : World} {b : Nat} {V : List (Int × Int × Int)} (h : TrIn w b V) (hb : Below w.heap.size w w') : TrIn w' b V := fun k x y z hk => by
  obtain ⟨h1, h2, h3⟩ := h k x y z hk
  exact ⟨(hb.cell (World.block_lt_of_cell? w _ h1)).trans h1, (hb.cell (World.block_lt_of_cell? w _ h2)).trans h2, (hb.cell (World.block_lt_of_cell? w _ h3)).trans h3⟩
/-- Three cells at o. -/
structure Ats3 (w : World) (b o : Nat) (v0 v1 v2 : Value) : Prop where
  c0 : w.cell? ⟨b, o, none⟩ = some v0
  c1 : w.cell? ⟨b, o + 1, none⟩ = some v1
  c2 : w.cell? ⟨b, o + 2, none⟩ = some v2
theorem Ats3.below {w w' : World} {b o : Nat} {v0 v1 v2 : Value} (h : Ats3 w b o v0 v1 v2) (hb : Below w.heap.size w w') : Ats3 w' b o v0 v1 v2 := by
  have hlt := World.block_lt_of_cell? w _ h.c0
  exact ⟨(hb.cell (p := ⟨b, o, none⟩) hlt).trans h.c0, (hb.cell (p := ⟨b, o + 1, none⟩) hlt).trans h.c1, (hb.cell (p := ⟨b, o + 2, none⟩) hlt).trans h.c2⟩
theorem Ats3.drew {w : World} {b o : Nat} {v0 v1 v2 : Value} (h : Ats3 w b o v0 v1 v2) : Ats3 w.drew b o v0 v1 v2 := ⟨h.c0, h.c1, h.c2⟩
/-- Points that lie as cells. -/
structure PtsC (w : World) (sb : Nat) (P : List (Int × Int)) : Prop where
  c : ∀ j u, (ptsCells P)[j]? = some u → w.cell? ⟨sb, 0 + j, none⟩ = some u
theorem PtsC.below {w w' : World} {sb : Nat} {P : List (Int × Int)} (h : PtsC w sb P) (hb : Below w.heap.size w w') : PtsC w' sb P := ⟨fun j u hj => (hb.cell (World.block_lt_of_cell? w _ (h.c j u hj))).trans (h.c j u hj)⟩
theorem PtsC.drew {w : World} {sb : Nat} {P : List (Int × Int)} (h : PtsC w sb P) : PtsC w.drew sb P := ⟨h.c⟩
theorem owns_low {w : World} {base base' : Nat} {e : TypeId} {size : Nat} {v : Value} {n : Nat} {xs : List Value} (h : w.ownsRow base e size v n xs) (hb : base' ≤ base) : w.ownsRow base' e size v n xs := by
  refine ⟨h.1, ?_⟩
  rcases h.2 with hn | ⟨g, cap, cur, h1, h2, h3⟩
  · exact .inl hn
  · exact .inr ⟨g, cap, cur, h1, Nat.le_trans hb h2, h3⟩
/-- A mesh and its points lie at B or above. -/
structure MeshUp (p e : TypeId) (w : World) (B mb pb pc : Nat) (tv : Value) (P : List (Int × Int)) (S : List TriM) : Prop where
  mesh : MeshO p e w B mb pb pc tv P S
  pts : B ≤ pb
theorem MeshUp.below {p e : TypeId} {w w' : World} {B mb pb pc : Nat} {tv : Value} {P : List (Int × Int)} {S : List TriM} (h : MeshUp p e w B mb pb pc tv P S) (hb : Below w.heap.size w w') : MeshUp p e w' B mb pb pc tv P S := ⟨h.mesh.below hb, h.pts⟩
theorem MeshUp.drew {p e : TypeId} {w : World} {B mb pb pc : Nat} {tv : Value} {P : List (Int × Int)} {S : List TriM} (h : MeshUp p e w B mb pb pc tv P S) : MeshUp p e w.drew B mb pb pc tv P S := ⟨h.mesh.drew, h.pts⟩
theorem Ats3.farFrom {b o : Nat} {v0 v1 v2 : Value} {g' : Nat} (hne : b ≠ g') : ∀ (xs : List Value) (i : Nat) {w : World}, Ats3 w b o v0 v1 v2 → Ats3 (setAll w g' i xs) b o v0 v1 v2
  | [], _, _, h => h
  | x :: xs, i, w, h => by
    have e : ∀ j, (w.setCell ⟨g', i, none⟩ x).cell? ⟨b, j, none⟩ = w.cell? ⟨b, j, none⟩ := fun j => World.cell?_setCell_other _ _ _ _ (by intro k; injection k with h1; first | exact hne h1 | exact hne h1.symm)
    exact Ats3.farFrom hne xs (i + 1) ⟨(e _).trans h.c0, (e _).trans h.c1, (e _).trans h.c2⟩
theorem Ats3.farAll {w : World} {b o : Nat} {v0 v1 v2 : Value} (h : Ats3 w b o v0 v1 v2) {g' : Nat} (hne : b ≠ g') (xs : List Value) : Ats3 (setAll w g' 0 xs) b o v0 v1 v2 := Ats3.farFrom hne xs 0 h
theorem PtsC.farAll {w : World} {sb : Nat} {P : List (Int × Int)} (h : PtsC w sb P) {g' : Nat} (hne : sb ≠ g') (xs : List Value) : PtsC (setAll w g' 0 xs) sb P :=
  ⟨fun j u hj => (World.cell?_of_block (a := ⟨sb, 0 + j, none⟩) ((turned_setAll (w := w) xs 0 (Turned.refl w g')).block sb hne)).trans (h.c j u hj)⟩
def isRef : Value → Bool
  | .pointer _ => true
  | .map _ => true
  | _ => false
/-- A pointer, a map: such a value lies in no mesh. -/
theorem MeshO.apart_of {p e : TypeId} {w : World} {lo mb pb pc : Nat} {tv : Value} {P : List (Int × Int)} {S : List TriM} (h : MeshO p e w lo mb pb pc tv P S) (hP : 0 < P.length) (hS : 0 < S.length) {g : Nat} {q : Value} (hg : w.cell? ⟨g, 0, none⟩ = some q) (hq : isRef q = true) : g ≠ mb ∧ g ≠ pb ∧ tv.ownBlock ≠ some g := by
  refine ⟨?_, ?_, ?_⟩
  · rintro rfl
    have := h.box.c0; rw [hg] at this; cases this; exact absurd hq (by simp [isRef])
  · rintro rfl
    obtain ⟨x, y, hx⟩ : ∃ x y, P[0]? = some (x, y) := ⟨P[0].1, P[0].2, List.getElem?_eq_getElem hP⟩
    have := (h.pts 0 x y hx).1
    simp only [Nat.zero_mul] at this
    rw [hg] at this; cases this; exact absurd hq (by simp [isRef])
  · intro e1
    obtain ⟨t, ht⟩ : ∃ t, S[0]? = some t := ⟨_, List.getElem?_eq_getElem hS⟩
    obtain ⟨tb, c, rfl⟩ := h.slot ht
    simp only [Value.ownBlock, Option.some.injEq] at e1
    subst e1
    have := (owns_box h.row).c 0 (.int .i64 t.v0) (by have := triCells_get S 0 0 t ht (by omega); rw [show (0 : Nat) * 9 + 0 = 0 from rfl] at this; rw [this]; rfl)
    rw [hg] at this; cases this; exact absurd hq (by simp [isRef])
theorem MeshUp.setAll {p e : TypeId} {w : World} {B mb pb pc : Nat} {tv : Value} {P : List (Int × Int)} {S : List TriM} (h : MeshUp p e w B mb pb pc tv P S) {g : Nat} {q : Option Addr} {vs : List Value} (hb : Box w g (.pointer q :: vs)) (hne : 0 < P.length ∧ 0 < S.length) (xs : List Value) (_ : (Value.pointer q :: vs).length = xs.length) : MeshUp p e (Go.MagM.setAll w g 0 xs) B mb pb pc tv P S := by
  obtain ⟨h1, h2, h3⟩ := h.mesh.apart_of hne.1 hne.2 hb.c0 rfl
  exact ⟨h.mesh.turned (turned_setAll xs 0 (Turned.refl w g)) (fun e => h1 e.symm) (fun e => h2 e.symm) h3, h.pts⟩
theorem MeshUp.mut {p e : TypeId} {w w' : World} {B mb pb pc : Nat} {tv tv' : Value} {P : List (Int × Int)} {S : List TriM} (h : MeshUp p e w B mb pb pc tv P S) (hm : Mut w w' mb tv tv') (hB : B ≤ w.heap.size) : Below B w w' := hm.below hB h.mesh.low.1 (fun k hk => (h.mesh.row.lt k hk).1)
theorem Box.mut {w w' : World} {mb : Nat} {tv tv' : Value} {g : Nat} {vs : List Value} (h : Box w g vs) (hm : Mut w w' mb tv tv') (hl : g < w.heap.size) (h1 : g ≠ mb) (h2 : tv.ownBlock ≠ some g) : Box w' g vs := h.same (hm.keep g hl h1 h2).1
/-- What Build leaves. -/
def BuildEnd (p e : TypeId) (F : Int → Int → Bool) (B : Nat) (P : List (Int × Int)) (T : List (Nat × Nat × Nat)) (mb : Nat) (w' : World) : Prop :=
  ∃ (pb pc : Nat) (tv : Value) (S : List TriM) (Bd : List (Nat × Nat)), MeshO p e w' B mb pb pc tv P S ∧ B ≤ pb ∧ Bd.Perm (borderT T) ∧ BuiltS S ((Bd.map ghostV).reverse ++ (T.map realV).reverse) ∧ Joined (faF F) (hRev ((Bd.map ghostV).reverse ++ (T.map realV).reverse)) S []
end Go.MagM
namespace Go.Proofs.Ytnabdopnlinklaa
open Go.RowKit Go.MagM
end Go.Proofs.Ytnabdopnlinklaa
/- What the statements' Build keeps while it joins one triangle behind the other. -/
namespace Go.MagM
open Go.RowKit
theorem distinct_list {W : List (Int × Int × Int)} (hn : (W.flatMap edgesV).Nodup) (ha : ∀ e, e ∈ W.flatMap edgesV → e.1 ≠ e.2) : Distinct (hRev W.reverse) := by
  have e1 : ((W.zipIdx.map fun p => (p.2, p.1)).flatMap fun p : Nat × (Int × Int × Int) => edgesV p.2) = W.flatMap edgesV := by
    rw [List.flatMap_map]
    show (W.zipIdx.flatMap fun p => edgesV p.1) = _
    rw [← List.flatMap_map (f := Prod.fst) (g := edgesV), List.zipIdx_map_fst]
  refine (distinct_of (L := W.zipIdx.map fun p => (p.2, p.1)) ?_ (by rw [e1]; exact hn) (by rw [e1]; exact ha)).sub fun x hx => ?_
  · rw [List.map_map]
    show (W.zipIdx.map Prod.snd).Nodup
    rw [List.zipIdx_map_snd]; exact List.nodup_range'
  · obtain ⟨v, h1, h2⟩ := hRev_mem.1 hx
    rw [List.reverse_reverse] at h1
    unfold halfEs
    rw [List.mem_flatMap]
    refine ⟨(x.1, v), List.mem_map.2 ⟨(v, x.1), ?_, rfl⟩, h2⟩
    rw [List.mem_zipIdx_iff_getElem?]; exact h1
/-- A map lies in no mesh. -/
theorem MeshO.apart_map {P0 : Program} {k p e : TypeId} {w : World} {lo mb pb pc : Nat} {tv : Value} {P : List (Int × Int)} {S : List TriM} (h : MeshO p e w lo mb pb pc tv P S) (hP : 0 < P.length) (hS : 0 < S.length) {ob : Nat} {m : List (Value × Value)} (hm : MapB P0 k w ob m) : ob ≠ mb ∧ ob ≠ pb ∧ tv.ownBlock ≠ some ob := by
  have hno : ∀ j, w.cell? ⟨ob, j, none⟩ = none := fun j => by
    obtain ⟨es, clock, h1, -⟩ := hm.at_
    simp [World.cell?, h1]
  refine ⟨?_, ?_, ?_⟩
  · rintro rfl
    have := h.box.c0; rw [hno] at this; cases this
  · rintro rfl
    obtain ⟨x, y, hx⟩ : ∃ x y, P[0]? = some (x, y) := ⟨P[0].1, P[0].2, List.getElem?_eq_getElem hP⟩
    have := (h.pts 0 x y hx).1
    rw [hno] at this; cases this
  · intro e1
    obtain ⟨t, ht⟩ : ∃ t, S[0]? = some t := ⟨_, List.getElem?_eq_getElem hS⟩
    obtain ⟨tb, c, rfl⟩ := h.slot ht
    simp only [Value.ownBlock, Option.some.injEq] at e1
    subst e1
    have := (owns_box h.row).c 0 (.int .i64 t.v0) (by have := triCells_get S 0 0 t ht (by omega); rw [show (0 : Nat) * 9 + 0 = 0 from rfl] at this; rw [this]; rfl)
    rw [hno] at this; cases this
theorem MapB.ne_box {P0 : Program} {k : TypeId} {w : World} {ob g : Nat} {m : List (Value × Value)} {v : Value} {vs : List Value} (hm : MapB P0 k w ob m) (hb : Box w g (v :: vs)) : g ≠ ob := by
  rintro rfl
  obtain ⟨es, clock, h1, -⟩ := hm.at_
  have := hb.c0
  simp [World.cell?, h1] at this
/-- Build's state: so many triangles are made and joined. -/
structure BI (P0 : Program) (p e k : TypeId) (fa : Int → Int → Bool) (w : World) (B mb pb pc ob Bo Bm Bf fb : Nat) (P : List (Int × Int)) (R : List (Int × Int × Int)) (tv : Value) (S : List TriM) (op : List ((Int × Int) × Nat × Nat)) : Prop where
  up : MeshUp p e w B mb pb pc tv P S
  map : MapB P0 k w ob (op.map encO)
  built : BuiltS S R
  joined : Joined fa (hRev R) S op
  bo : Box w Bo [.map (some ob)]
  bm : Box w Bm [.pointer (some ⟨mb, 0, none⟩)]
  bf : Box w Bf [.map (some fb)]
  big : B ≤ ob
section
variable {P0 : Program} {p e k : TypeId} {fa : Int → Int → Bool} {w : World} {B mb pb pc ob Bo Bm Bf fb : Nat} {P : List (Int × Int)} {R : List (Int × Int × Int)} {tv : Value} {S : List TriM} {op : List ((Int × Int) × Nat × Nat)}
theorem BI.pos (h : BI P0 p e k fa w B mb pb pc ob Bo Bm Bf fb P R tv S op) : 0 < S.length := by have := h.built.len; omega
theorem BI.below {w' : World} (h : BI P0 p e k fa w B mb pb pc ob Bo Bm Bf fb P R tv S op) (hb : Below w.heap.size w w') : BI P0 p e k fa w' B mb pb pc ob Bo Bm Bf fb P R tv S op :=
  ⟨h.up.below hb, h.map.below hb, h.built, h.joined, h.bo.below hb, h.bm.below hb, h.bf.below hb, h.big⟩
theorem BI.drew (h : BI P0 p e k fa w B mb pb pc ob Bo Bm Bf fb P R tv S op) : BI P0 p e k fa w.drew B mb pb pc ob Bo Bm Bf fb P R tv S op :=
  ⟨h.up.drew, h.map.drew, h.built, h.joined, h.bo.drew, h.bm.drew, h.bf.drew, h.big⟩
/-- A triangle more is made: what join asks for. -/
theorem BI.made (h : BI P0 p e k fa w B mb pb pc ob Bo Bm Bf fb P R tv S op) (hP : 0 < P.length) {w5 : World} {tv1 : Value} {x y z : Int} (hx : 0 ≤ x) (hm : MeshO p e w5 B mb pb pc tv1 P (makeM S x y z)) (mu : Mut w w5 mb tv tv1) :
    MapB P0 k w5 ob (op.map encO) ∧ Box w5 Bo [.map (some ob)] ∧ Box w5 Bm [.pointer (some ⟨mb, 0, none⟩)] ∧ Box w5 Bf [.map (some fb)] ∧
    (Bo ≠ mb ∧ tv1.ownBlock ≠ some Bo ∧ Bo ≠ ob) ∧ (Bm ≠ mb ∧ tv1.ownBlock ≠ some Bm ∧ Bm ≠ ob) ∧ (Bf ≠ mb ∧ tv1.ownBlock ≠ some Bf ∧ Bf ≠ ob) ∧ (ob ≠ mb ∧ ob ≠ pb ∧ tv1.ownBlock ≠ some ob) ∧
    BuiltS (makeM S x y z) ((x, y, z) :: R) ∧ Joined fa (hRev R) (makeM S x y z) op := by
  have hS := h.pos
  have hS1 : 0 < (makeM S x y z).length := by rw [h.built.make_len]; omega
  obtain ⟨o1, o2, o3⟩ := h.up.mesh.apart_map hP hS h.map
  obtain ⟨a1, a2, a3⟩ := h.up.mesh.apart_of hP hS h.bo.c0 rfl
  obtain ⟨b1, b2, b3⟩ := h.up.mesh.apart_of hP hS h.bm.c0 rfl
  obtain ⟨c1, c2, c3⟩ := h.up.mesh.apart_of hP hS h.bf.c0 rfl
  have hm5 := h.map.block (mu.keep ob h.map.lt o1 o3).1
  have xo := Box.mut h.bo mu h.bo.lt a1 a3
  have xm := Box.mut h.bm mu h.bm.lt b1 b3
  have xf := Box.mut h.bf mu h.bf.lt c1 c3
  obtain ⟨a4, a5, a6⟩ := hm.apart_of hP hS1 xo.c0 rfl
  obtain ⟨b4, b5, b6⟩ := hm.apart_of hP hS1 xm.c0 rfl
  obtain ⟨c4, c5, c6⟩ := hm.apart_of hP hS1 xf.c0 rfl
  exact ⟨hm5, xo, xm, xf, ⟨a4, a6, hm5.ne_box xo⟩, ⟨b4, b6, hm5.ne_box xm⟩, ⟨c4, c6, hm5.ne_box xf⟩, hm.apart_map hP hS1 hm5, h.built.make x y z hx, h.built.joined x y z h.joined⟩
/-- .. and joined. -/
theorem BI.next {F : Int → Int → Bool} (h : BI P0 p e k (faF F) w B mb pb pc ob Bo Bm Bf fb P R tv S op) (hP : 0 < P.length) {w5 w6 : World} {tv1 : Value} {x y z : Int} (hx : 0 ≤ x) (hm : MeshO p e w5 B mb pb pc tv1 P (makeM S x y z)) (mu : Mut w w5 mb tv tv1)
    (hj : JoinEnd p e k P0 F w5 B mb pb pc tv1 ob P (makeM S x y z) (halfI (hRev R) R.length x y z 3) w6) (hB : B ≤ w.heap.size) :
    (∃ S' op', BI P0 p e k (faF F) w6 B mb pb pc ob Bo Bm Bf fb P ((x, y, z) :: R) tv1 S' op') ∧ Below B w w6 := by
  obtain ⟨-, xo, xm, xf, so, sm, sf, sob, hb, -⟩ := h.made hP hx hm mu
  obtain ⟨S', op', m6, map6, j6, l6, v6, k6⟩ := hj
  have hlow := mu.size
  have keep : ∀ {g : Nat} {vs : List Value}, Box w5 g vs → g < w5.heap.size → (g ≠ mb ∧ tv1.ownBlock ≠ some g ∧ g ≠ ob) → Box w6 g vs := fun hg hl hs => hg.same (k6.keep _ hl hs.1 hs.2.1 hs.2.2)
  refine ⟨⟨S', op', ⟨m6, h.up.pts⟩, map6, hb.same l6 v6, j6, keep xo xo.lt so, keep xm xm.lt sm, keep xf xf.lt sf, h.big⟩, ?_⟩
  have b1 : Below B w w5 := h.up.mut mu hB
  exact b1.trans (k6.below (by omega) hm.low.1 h.big (fun g hg => (hm.row.lt g hg).1))
end
end Go.MagM
/- What waits when all triangles have come: the border. Pure. -/
namespace Go.MagM
open Go.RowKit
def unE (e : Int × Int) : Nat × Nat := (e.1.toNat, e.2.toNat)
theorem nodup_of_map {α β : Type} {f : α → β} {l : List α} (h : (l.map f).Nodup) : l.Nodup := List.Pairwise.of_map f (fun _ _ hne e => hne (e ▸ rfl)) h
theorem perm_cast {A B : List (Nat × Nat)} (h : (A.map castE).Perm (B.map castE)) : A.Perm B := by
  have := h.map unE
  rw [List.map_map, List.map_map] at this
  have e : ∀ L : List (Nat × Nat), L.map (unE ∘ castE) = L := fun L => by
    conv => rhs; rw [← List.map_id L]
    rfl
  rwa [e, e] at this
theorem perm_eraseIdx {α : Type} : ∀ (l : List α) (i : Nat) (x : α), l[i]? = some x → l.Perm (x :: l.eraseIdx i)
  | [], _, _, h => by simp at h
  | y :: t, 0, x, h => by simp at h; subst h; exact List.Perm.refl _
  | y :: t, i + 1, x, h => by
    have := perm_eraseIdx t i x (by simpa using h)
    rw [List.eraseIdx_cons_succ]
    exact (this.cons y).trans (List.Perm.swap x y _)
/-- What has come of the open edges, and what is left. -/
structure LeftO (op : List ((Int × Int) × Nat × Nat)) (E : List (Nat × Nat)) (rest : List (Value × Value)) : Prop where
  at_ : ∃ rop : List ((Int × Int) × Nat × Nat), rest = rop.map encO ∧ (E.map castE ++ rop.map (·.1)).Perm (op.map (·.1)) ∧ ∀ x, x ∈ rop → x ∈ op
theorem LeftO.start (op : List ((Int × Int) × Nat × Nat)) : LeftO op [] (op.map encO) := ⟨op, rfl, List.Perm.refl _, fun _ h => h⟩
theorem LeftO.next {op : List ((Int × Int) × Nat × Nat)} {E : List (Nat × Nat)} {rest : List (Value × Value)} (h : LeftO op E rest) {T : List (Nat × Nat × Nat)} (hm : ∀ e, e ∈ op.map (·.1) → ∃ x, x ∈ borderT T ∧ e = castE x) {i : Nat} {x v : Value} (hx : rest[i]? = some (x, v)) :
    ∃ a b : Nat, (a, b) ∈ borderT T ∧ x = .agg #[.int .i64 (a : Int), .int .i64 (b : Int)] ∧ LeftO op (E ++ [(a, b)]) (rest.eraseIdx i) ∧ E.length < op.length := by
  obtain ⟨rop, rfl, hp, hs⟩ := h.at_
  rw [List.getElem?_map] at hx
  obtain ⟨y, hy, hy2⟩ : ∃ y, rop[i]? = some y ∧ encO y = (x, v) := by
    cases h : rop[i]? with
    | none => rw [h] at hx; cases hx
    | some y => rw [h] at hx; exact ⟨y, rfl, by simpa using hx⟩
  obtain ⟨⟨a, b⟩, hab, he⟩ := hm y.1 (List.mem_map.2 ⟨y, hs y (List.mem_of_getElem? hy), rfl⟩)
  obtain ⟨⟨p, q⟩, r⟩ := y
  simp only [castE, Prod.mk.injEq] at he
  obtain ⟨rfl, rfl⟩ := he
  have hi := (List.getElem?_eq_some_iff.1 hy).1
  have hperm : rop.Perm (((((a : Int), (b : Int)), r)) :: rop.eraseIdx i) := perm_eraseIdx rop i _ hy
  refine ⟨a, b, hab, ?_, ⟨rop.eraseIdx i, ?_, ?_, fun z hz => hs z ((List.eraseIdx_sublist _ _).subset hz)⟩, ?_⟩
  · have := congrArg Prod.fst hy2
    exact this.symm
  · rw [ChangeMaps.map_eraseIdx]
  · refine List.Perm.trans ?_ hp
    rw [List.map_append, List.append_assoc]
    refine List.Perm.append_left _ ?_
    have := (hperm.map (·.1)).symm
    simpa [castE] using this
  · have := hp.length_eq
    rw [List.length_append, List.length_map, List.length_map, List.length_map] at this
    omega
theorem LeftO.done {op : List ((Int × Int) × Nat × Nat)} {E : List (Nat × Nat)} (h : LeftO op E []) {T : List (Nat × Nat × Nat)} (hp : (op.map (·.1)).Perm ((borderT T).map castE)) : E.Perm (borderT T) := by
  obtain ⟨rop, h0, h1, -⟩ := h.at_
  have : rop = [] := by cases rop with
    | nil => rfl
    | cons a t => cases h0
  subst this
  refine perm_cast (List.Perm.trans ?_ hp)
  simpa using h1
end Go.MagM
/- The statements' fit (layer 9). -/
namespace Go.Proofs.Ytnabdopnlinklaa
open Go.RowKit Go.MagM
theorem MeshO.sl {p e : TypeId} {w : World} {lo mb pb pc : Nat} {tv : Value} {P : List (Int × Int)} {S : List TriM} (h : MeshO p e w lo mb pb pc tv P S) (h0 : 0 < S.length) : ∃ tb tc, tv = .slice (some ⟨tb, 0, none⟩) S.length tc ∧ MeshR w mb pb pc (some ⟨tb, 0, none⟩) tc P S := by
  obtain ⟨t, ht⟩ : ∃ t, S[0]? = some t := ⟨_, List.getElem?_eq_getElem h0⟩
  obtain ⟨tb, tc, rfl⟩ := h.slot ht
  obtain ⟨ta, tc', e, hr⟩ := h.read
  simp only [Value.slice.injEq] at e
  obtain ⟨rfl, -, rfl⟩ := e
  exact ⟨tb, tc, rfl, hr⟩
set_option maxRecDepth 100000 in
set_option maxHeartbeats 16000000 in
theorem fit9_any (w : World) : Calls Try.prog 6 #[] w fun e w' => e = .returned (.bool true) ∧ Below w.heap.size w w' := by
  obtain ⟨w1, hw1, pp, hb1, hs1⟩ := new_box w _ rfl [.int .i64 0, .int .i64 0, .int .i64 1, .int .i64 0, .int .i64 0, .int .i64 1] 26
  have hP : InPs [(0, 0), (1, 0), (0, 1)] := by
    intro p hp
    simp at hp
    rcases hp with rfl | rfl | rfl <;> (unfold InP; omega)
  have hnew := New_yes (some ⟨w.heap.size, 0, none⟩) w.heap.size 3 3 [(0, 0), (1, 0), (0, 1)] w1 rfl (by omega) (by omega) hP rfl (fun j u hj => by rw [Nat.zero_add]; exact pp.c j u hj) 0 1 2 (by rfl)
  have hnew' : Calls Try.prog 8 #[.slice (some ⟨w.heap.size, 0, none⟩) 3 3, .int .i64 0, .int .i64 1, .int .i64 2] w1 fun e w' => ∃ mb pb pc tv, e = .returned (.tuple #[.pointer (some ⟨mb, 0, none⟩), .bool true]) ∧ MeshO 26 37 w' w1.heap.size mb pb pc tv [(0, 0), (1, 0), (0, 1)] (newM ((0 : Nat) : Int) ((1 : Nat) : Int) ((2 : Nat) : Int)) ∧ w1.heap.size ≤ pb ∧ Below w1.heap.size w1 w' := hnew
  have HN := Lib.hid hnew'; have HP := Lib.hid hP
  have hB1 : Below w.heap.size w w1 := hb1
  have HB1 := Lib.hid hB1
  clear pp hb1 hs1 hnew hnew' hP hB1
  go_enter Try.func6, Try.ntmps6
  go_wp2_with fail
  refine HN.out.mono ?_
  rintro e w2 ⟨mb, pb, pc, tv, rfl, hm, hpb, hb2⟩
  obtain ⟨tb, tc, rfl, hr⟩ := MeshO.sl hm (by show 0 < 4; omega)
  have hB2 := HB1.out.trans (hb2.mono HB1.out.size)
  have hso := Sound_any true w2 hr HP.out (by simp) (newM_sound (a := 0) (b := 1) (c := 2) (P := [(0, 0), (1, 0), (0, 1)]) (by decide) (by decide) (by decide) (by decide))
  have c1 := hr.box.c 1 _ rfl
  have HR := Lib.hid hr; have HB2 := Lib.hid hB2; have HSO := Lib.hid hso
  clear hm hpb hb2 hr hB2 hso
  obtain ⟨S, hS⟩ : ∃ S, newM ((0 : Nat) : Int) ((1 : Nat) : Int) ((2 : Nat) : Int) = S := ⟨_, rfl⟩
  have hr0 : realM S ((0 : Nat) : Int) = true := by rw [← hS]; decide
  have hr1 : ∀ k : Nat, 1 ≤ k → k < 4 → realM S (k : Int) = false := by
    intro k h1 h4
    rw [← hS]
    obtain rfl | rfl | rfl : k = 1 ∨ k = 2 ∨ k = 3 := by omega
    all_goals decide
  have hl : S.length = 4 := by rw [← hS]; rfl
  rw [hS] at HR c1
  rw [hl] at c1
  go_wp2_with fail
  refine HSO.out.mono ?_
  rintro e w3 ⟨rfl, hb3⟩
  have hB3 := HB2.out.trans (hb3.mono HB2.out.size)
  have hr3 := HR.out.below hb3
  have HR3 := Lib.hid hr3; have HB3 := Lib.hid hB3; have HR0 := Lib.hid hr0; have HR1 := Lib.hid hr1
  have c2 := hr3.box.c 1 _ rfl
  rw [hl] at c2
  clear hr3 hB3 hb3 c1 hr0 hr1
  go_wp2
  clear c2
  go_loopw [3, 4, 37] (fun nv _ iv wr => ∃ k : Nat, k ≤ 4 ∧ iv = .int .i64 (k : Int) ∧ nv = .int .i64 ((if k = 0 then 0 else 1 : Nat) : Int) ∧ Below w3.heap.size w3 wr) (fun _ _ iv _ => 4 - (intOf iv).toNat)
  case atStart => exact ⟨0, by omega, rfl, rfl, Below.refl _ _⟩
  case round =>
    obtain ⟨k, hk, rfl, rfl, hbw⟩ := hrel
    by_cases hlt : k < 4
    · have hre := Real_any (k : Int) wr (HR3.out.below hbw)
      have HBW := Lib.hid hbw
      by_cases h0 : k = 0
      · subst h0
        rw [HR0.out] at hre
        have HRE := Lib.hid hre
        clear hre hbw
        go_wp2_with fail
        refine HRE.out.mono ?_
        rintro e w4 ⟨rfl, hd4⟩
        have FIN := Lib.hid (HBW.out.trans (hd4.below.mono HBW.out.size))
        clear hd4
        go_wp2
        exact ⟨⟨1, by omega, by go_num, rfl, FIN.out⟩, by simp [intOf]⟩
      · rw [HR1.out k (by omega) hlt] at hre
        have HRE := Lib.hid hre
        have hn1 : (if k = 0 then 0 else 1 : Nat) = 1 := if_neg h0
        rw [hn1]
        have H0 := Lib.hid h0
        clear hre hbw h0 hn1
        go_wp2_with fail
        refine HRE.out.mono ?_
        rintro e w4 ⟨rfl, hd4⟩
        have FIN := Lib.hid (HBW.out.trans (hd4.below.mono HBW.out.size))
        clear hd4
        go_wp2
        exact ⟨⟨k + 1, by omega, by go_num, by rw [if_neg (by omega)]; rfl, FIN.out⟩, by simp [intOf]; omega⟩
    · obtain rfl : k = 4 := by omega
      have FIN := Lib.hid (HB3.out.trans (hbw.mono HB3.out.size))
      clear hbw
      go_wp2
      go_ret
      exact ⟨rfl, FIN.out⟩
end Go.Proofs.Ytnabdopnlinklaa
/- Closed surfaces of triangles: each edge once, across it the other half. What mesh's calls answer of them. Pure. -/
namespace Go.MagM
/-- The triangles V lie in the slots, one by one; all their edges are joined. -/
structure Surf (fa : Int → Int → Bool) (V : List (Int × Int × Int)) (S : List TriM) : Prop where
  len : S.length = V.length
  v : ∀ t : Nat, rdV S t = V[t]?
  live : ∀ x, x ∈ V → 0 ≤ x.1
  distinct : Distinct (hRev V.reverse)
  joined : Joined fa (hRev V.reverse) S []
section
variable {fa : Int → Int → Bool} {V : List (Int × Int × Int)} {S : List TriM}
theorem Surf.get (h : Surf fa V S) {t : Nat} {T : TriM} (hT : S[t]? = some T) : V[t]? = some (T.v0, T.v1, T.v2) := by
  rw [← h.v t]; unfold rdV; rw [hT]; rfl
theorem Surf.at_ (h : Surf fa V S) {t : Nat} {x : Int × Int × Int} (hx : V[t]? = some x) : ∃ T, S[t]? = some T ∧ T.v0 = x.1 ∧ T.v1 = x.2.1 ∧ T.v2 = x.2.2 := by
  have := h.v t
  rw [hx] at this
  obtain ⟨a, b, c⟩ := x
  unfold rdV at this
  cases hs : S[t]? with
  | none => rw [hs] at this; cases this
  | some T =>
    rw [hs] at this
    simp only [Option.map_some, Option.some.injEq, Prod.mk.injEq] at this
    exact ⟨T, rfl, this.1, this.2.1, this.2.2⟩
theorem Surf.alive (h : Surf fa V S) {t : Nat} {T : TriM} (hT : S[t]? = some T) : 0 ≤ T.v0 ∧ goneB T = false := by
  have h0 := h.live _ (List.mem_of_getElem? (h.get hT))
  simp only [] at h0
  exact ⟨h0, by unfold goneB; exact decide_eq_false (by omega)⟩
theorem Surf.half (h : Surf fa V S) {t i : Nat} {T : TriM} (hT : S[t]? = some T) (hi : i < 3) : (t, i, edgeV T i) ∈ hRev V.reverse := by
  refine hRev_mem.2 ⟨(T.v0, T.v1, T.v2), by rw [List.reverse_reverse]; exact h.get hT, ?_⟩
  obtain rfl | rfl | rfl : i = 0 ∨ i = 1 ∨ i = 2 := by omega
  all_goals simp [halfV, edgeV]
theorem Surf.of_half (h : Surf fa V S) {t i : Nat} {e : Int × Int} (hm : (t, i, e) ∈ hRev V.reverse) : ∃ T, S[t]? = some T ∧ i < 3 ∧ edgeV T i = e := by
  obtain ⟨v, h1, h2⟩ := hRev_mem.1 hm
  rw [List.reverse_reverse] at h1
  obtain ⟨T, hT, e0, e1, e2⟩ := h.at_ h1
  obtain ⟨x, y, z⟩ := v
  simp only [] at e0 e1 e2
  subst e0; subst e1; subst e2
  simp only [halfV, List.mem_cons, List.not_mem_nil, or_false, Prod.mk.injEq] at h2
  rcases h2 with ⟨-, rfl, rfl⟩ | ⟨-, rfl, rfl⟩ | ⟨-, rfl, rfl⟩
  · exact ⟨T, hT, by omega, rfl⟩
  · exact ⟨T, hT, by omega, rfl⟩
  · exact ⟨T, hT, by omega, rfl⟩
/-- No edge is there twice. -/
theorem Surf.once (h : Surf fa V S) {t u i j : Nat} {T U : TriM} (hT : S[t]? = some T) (hU : S[u]? = some U) (hi : i < 3) (hj : j < 3) (he : edgeV T i = edgeV U j) : t = u ∧ i = j := by
  have h1 := h.half hT hi
  have h2 := h.half hU hj
  rw [he] at h1
  exact h.distinct.edge _ _ _ _ _ h1 h2
theorem Surf.apart (h : Surf fa V S) {t i : Nat} {T : TriM} (hT : S[t]? = some T) (hi : i < 3) : (edgeV T i).1 ≠ (edgeV T i).2 :=
  h.distinct.apart t i _ _ (h.half hT hi)
theorem Surf.across (h : Surf fa V S) {t u i j : Nat} {T U : TriM} (hT : S[t]? = some T) (hU : S[u]? = some U) (hi : i < 3) (hj : j < 3) (he : edgeV U j = ((edgeV T i).2, (edgeV T i).1)) : T.n i = (u : Int) ∧ T.f i = fa (edgeV T i).1 (edgeV T i).2 := by
  have h2 := h.half hU hj
  rw [he] at h2
  have := h.joined.across t i _ _ u j (h.half hT hi) h2
  unfold rdN at this
  rw [hT] at this
  simp only [Option.map_some, Option.some.injEq, Prod.mk.injEq] at this
  exact this
/-- Each edge has its other half. -/
theorem Surf.other (h : Surf fa V S) {t i : Nat} {T : TriM} (hT : S[t]? = some T) (hi : i < 3) : ∃ (u j : Nat) (U : TriM), S[u]? = some U ∧ j < 3 ∧ edgeV U j = ((edgeV T i).2, (edgeV T i).1) ∧ T.n i = (u : Int) ∧ T.f i = fa (edgeV T i).1 (edgeV T i).2 ∧ U.n j = (t : Int) ∧ U.f j = fa (edgeV T i).2 (edgeV T i).1 := by
  have hm := h.half hT hi
  have hw := h.joined.wait (edgeV T i).1 (edgeV T i).2 t i
  obtain ⟨u, j, hu⟩ : ∃ u j, (u, j, ((edgeV T i).2, (edgeV T i).1)) ∈ hRev V.reverse := by
    refine Classical.byContradiction fun hno => ?_
    have hno' : ∀ u j, (u, j, ((edgeV T i).2, (edgeV T i).1)) ∉ hRev V.reverse := fun u j hu => hno ⟨u, j, hu⟩
    have := hw.2 ⟨hm, hno'⟩
    cases this
  obtain ⟨U, hU, hj, he⟩ := h.of_half hu
  have a1 := h.across hT hU hi hj he
  have a2 := h.across hU hT hj hi (by rw [he])
  rw [he] at a2
  exact ⟨u, j, U, hU, hj, he, a1.1, a1.2, a2.1, a2.2⟩
theorem edgeT_at {T : TriM} {i : Nat} (hi : i < 3) (h : ∀ j k : Nat, j < 3 → k < 3 → edgeV T j = edgeV T k → j = k) : edgeT T (edgeV T i).1 (edgeV T i).2 = (i : Int) :=
  edgeT_hit hi rfl fun j hj e => by have := h j i (by omega) hi e; omega
theorem Surf.edge_at (h : Surf fa V S) {t i : Nat} {T : TriM} (hT : S[t]? = some T) (hi : i < 3) : edgeT T (edgeV T i).1 (edgeV T i).2 = (i : Int) :=
  edgeT_at hi fun _ _ hj hk e => (h.once hT hT hj hk e).2
theorem Surf.linkI (h : Surf fa V S) (hfa : ∀ a b, fa a b = fa b a) {t i : Nat} {T : TriM} (hT : S[t]? = some T) (hi : i < 3) : linkI S t T i = true := by
  obtain ⟨u, j, U, hU, hj, he, h1, h2, h3, h4⟩ := h.other hT hi
  have hg := (h.alive hU).2
  have ha := h.edge_at hU hj
  rw [he] at ha
  simp only [] at ha
  unfold Go.MagM.linkI
  rw [h1, getT_nat, hU]
  simp only []
  rw [hg, ha]
  have e1 : ((j : Int) != -1) = true := by simp
  have e2 : ((j : Int)).toNat = j := rfl
  rw [e1, e2, h3, h4, h2, hfa]
  simp
theorem Surf.linked (h : Surf fa V S) (hfa : ∀ a b, fa a b = fa b a) {t : Nat} {T : TriM} (hT : S[t]? = some T) : linkedT S t T = true :=
  linkedT_yes fun _ hi => h.linkI hfa hT hi
/-- What Find answers. -/
theorem Surf.edgeM_yes (h : Surf fa V S) {t i : Nat} {T : TriM} (hT : S[t]? = some T) (hi : i < 3) : edgeM S (t : Int) (edgeV T i).1 (edgeV T i).2 = (i : Int) := by
  unfold edgeM
  rw [getT_nat, hT]
  simp only []
  rw [(h.alive hT).2, h.edge_at hT hi]; simp
theorem Surf.edgeM_cases (h : Surf fa V S) {t : Nat} (ht : t < S.length) (a b : Int) : edgeM S (t : Int) a b = -1 ∨ ∃ (i : Nat) (T : TriM), S[t]? = some T ∧ i < 3 ∧ edgeV T i = (a, b) ∧ edgeM S (t : Int) a b = (i : Int) := by
  obtain ⟨T, hT⟩ : ∃ T, S[t]? = some T := ⟨_, List.getElem?_eq_getElem ht⟩
  unfold edgeM
  rw [getT_nat, hT]
  simp only []
  rw [(h.alive hT).2]
  rcases edgeT_cases T a b with e | ⟨j, hj, e1, e2⟩
  · left; simpa using e
  · right; exact ⟨j, T, rfl, hj, e2, by simpa using e1⟩
theorem Surf.find (h : Surf fa V S) {t i : Nat} {T : TriM} (hT : S[t]? = some T) (hi : i < 3) {a b : Int} (he : edgeV T i = (a, b)) : findM S a b = some (t, (i : Int)) := by
  have ht := (List.getElem?_eq_some_iff.1 hT).1
  have e := h.edgeM_yes hT hi
  rw [he] at e
  simp only [] at e
  rw [findM_hit ht (by rw [e]; omega) (fun j hj => ?_), e]
  rcases h.edgeM_cases (t := j) (by omega) a b with e' | ⟨k, U, hU, hk, e1, -⟩
  · exact e'
  · have := (h.once hU hT hk hi (by rw [e1, he])).1; omega
end
/-- Triangles of a mesh, and ghosts behind its border. -/
def allV (T : List (Nat × Nat × Nat)) (Bd : List (Nat × Nat)) : List (Int × Int × Int) := T.map realV ++ Bd.map ghostV
/-- What the statements' Build leaves. -/
structure Built (fa : Int → Int → Bool) (T : List (Nat × Nat × Nat)) (Bd : List (Nat × Nat)) (S : List TriM) : Prop where
  good : Good T
  perm : Bd.Perm (borderT T)
  surf : Surf fa (allV T Bd) S
theorem all_distinct {T : List (Nat × Nat × Nat)} (g : Good T) {Bd : List (Nat × Nat)} (hp : Bd.Perm (borderT T)) : Distinct (hRev (allV T Bd).reverse) :=
  distinct_list (all_nodup g hp) (all_apart g hp)
theorem Built.of {fa : Int → Int → Bool} {T : List (Nat × Nat × Nat)} {Bd : List (Nat × Nat)} {S : List TriM} (g : Good T) (h4 : 4 ≤ T.length + (borderT T).length) (hp : Bd.Perm (borderT T))
    (hb : BuiltS S ((Bd.map ghostV).reverse ++ (T.map realV).reverse)) (hj : Joined fa (hRev ((Bd.map ghostV).reverse ++ (T.map realV).reverse)) S []) : Built fa T Bd S := by
  have hr : (Bd.map ghostV).reverse ++ (T.map realV).reverse = (allV T Bd).reverse := by unfold allV; rw [List.reverse_append]
  rw [hr] at hb hj
  have hl : S.length = (allV T Bd).length := by
    have := hb.len
    rw [List.length_reverse] at this
    rw [this]
    have : (allV T Bd).length = T.length + (borderT T).length := by unfold allV; simp [hp.length_eq]
    omega
  refine ⟨g, hp, ⟨hl, fun t => ?_, fun x hx => hb.live x (List.mem_reverse.2 hx), all_distinct g hp, hj⟩⟩
  cases hx : (allV T Bd)[t]? with
  | some x => exact hb.v t x (by rw [List.reverse_reverse]; exact hx)
  | none =>
    unfold rdV
    rw [List.getElem?_eq_none (by rw [hl]; exact List.getElem?_eq_none_iff.1 hx)]; rfl
section
variable {fa : Int → Int → Bool} {T : List (Nat × Nat × Nat)} {Bd : List (Nat × Nat)} {S : List TriM}
theorem Built.len (h : Built fa T Bd S) : S.length = T.length + Bd.length := by
  rw [h.surf.len]; unfold allV; simp
theorem Built.real (h : Built fa T Bd S) {t : Nat} {x : Nat × Nat × Nat} (hx : T[t]? = some x) : ∃ X, S[t]? = some X ∧ X.v0 = (x.1 : Int) ∧ X.v1 = (x.2.1 : Int) ∧ X.v2 = (x.2.2 : Int) := by
  refine h.surf.at_ (x := realV x) ?_
  unfold allV
  have hl := (List.getElem?_eq_some_iff.1 hx).1
  rw [List.getElem?_append_left (by simpa using hl), List.getElem?_map, hx]; rfl
theorem Built.ghost (h : Built fa T Bd S) {k : Nat} {e : Nat × Nat} (he : Bd[k]? = some e) : ∃ X, S[T.length + k]? = some X ∧ X.v0 = (e.2 : Int) ∧ X.v1 = (e.1 : Int) ∧ X.v2 = -1 := by
  refine h.surf.at_ (x := ghostV e) ?_
  unfold allV
  rw [List.getElem?_append_right (by simp), List.length_map, Nat.add_sub_cancel_left, List.getElem?_map, he]; rfl
/-- Each slot has a real triangle, or a ghost. -/
theorem Built.cases (h : Built fa T Bd S) {t : Nat} {X : TriM} (hX : S[t]? = some X) : (∃ x, T[t]? = some x ∧ X.v0 = (x.1 : Int) ∧ X.v1 = (x.2.1 : Int) ∧ X.v2 = (x.2.2 : Int)) ∨ (∃ k e, t = T.length + k ∧ Bd[k]? = some e ∧ X.v0 = (e.2 : Int) ∧ X.v1 = (e.1 : Int) ∧ X.v2 = -1) := by
  have ht := (List.getElem?_eq_some_iff.1 hX).1
  rw [h.len] at ht
  by_cases hlt : t < T.length
  · obtain ⟨x, hx⟩ : ∃ x, T[t]? = some x := ⟨_, List.getElem?_eq_getElem hlt⟩
    obtain ⟨Y, hY, h1⟩ := h.real hx
    rw [hX] at hY; cases hY
    exact .inl ⟨x, hx, h1⟩
  · obtain ⟨e, he⟩ : ∃ e, Bd[t - T.length]? = some e := ⟨_, List.getElem?_eq_getElem (by omega)⟩
    obtain ⟨Y, hY, h1⟩ := h.ghost he
    rw [show T.length + (t - T.length) = t by omega, hX] at hY; cases hY
    exact .inr ⟨t - T.length, e, by omega, he, h1⟩
theorem Built.real_iff (h : Built fa T Bd S) (t : Nat) : realM S (t : Int) = decide (t < T.length) := by
  unfold realM
  rw [getT_nat]
  by_cases ht : t < S.length
  · obtain ⟨X, hX⟩ : ∃ X, S[t]? = some X := ⟨_, List.getElem?_eq_getElem ht⟩
    rw [hX]
    simp only []
    unfold realT
    rcases h.cases hX with ⟨x, hx, e0, e1, e2⟩ | ⟨k, e, rfl, he, e0, e1, e2⟩
    · have := (List.getElem?_eq_some_iff.1 hx).1
      rw [decide_eq_true this, decide_eq_true (by omega)]
    · rw [decide_eq_false (by omega), decide_eq_false (by omega)]
  · rw [List.getElem?_eq_none (by omega)]
    have := h.len
    simp only []
    rw [decide_eq_false (by omega)]
end
end Go.MagM
/- What the statements' Build leaves is sound, in whatever order the ghosts come. Pure. -/
namespace Go.MagM
/-- The edge of the border ahead. -/
def prevB (B : List (Nat × Nat)) (e : Nat × Nat) : Nat × Nat := (B.find? fun p => p.2 == e.1).getD (0, 0)
/-- Round the border, to the right, till the first edge comes again. -/
def cycB (B : List (Nat × Nat)) (first : Nat × Nat) : Nat → Nat × Nat → List (Nat × Nat)
  | 0, _ => []
  | n + 1, e => e :: (if prevB B e = first then [] else cycB B first n (prevB B e))
/-- The border's points, to the left. -/
def rimB (B : List (Nat × Nat)) (n : Nat) (e : Nat × Nat) : List Nat := ((cycB B e n e).map (·.2)).reverse
section
variable {fa : Int → Int → Bool} {T : List (Nat × Nat × Nat)} {Bd : List (Nat × Nat)} {S : List TriM}
theorem Built.mem (h : Built fa T Bd S) {e : Nat × Nat} : e ∈ Bd ↔ e ∈ borderT T := h.perm.mem_iff
theorem Built.nodup (h : Built fa T Bd S) : Bd.Nodup := by
  have h1 : (Bd.map (·.1)).Nodup := ((h.perm.map _).nodup_iff).2 h.good.out
  exact nodup_of_map h1
theorem prevB_is (g : Good T) {e : Nat × Nat} (he : e ∈ borderT T) : prevB (borderT T) e ∈ borderT T ∧ (prevB (borderT T) e).2 = e.1 := by
  obtain ⟨⟨x, hx, hx2⟩, -⟩ := g.next e he
  unfold prevB
  cases hf : (borderT T).find? (fun p => p.2 == e.1) with
  | none =>
    have := List.find?_eq_none.1 hf x hx
    simp [hx2] at this
  | some p =>
    have h1 := List.find?_some hf
    have h2 := List.mem_of_find?_eq_some hf
    exact ⟨h2, by simpa using h1⟩
theorem Built.place_ghost (h : Built fa T Bd S) {k : Nat} {e : Nat × Nat} (he : Bd[k]? = some e) : placeM S ((T.length + k : Nat) : Int) (-1) = 2 := by
  obtain ⟨X, hX, e0, e1, e2⟩ := h.ghost he
  unfold placeM
  rw [getT_nat, hX]
  simp only []
  rw [(h.surf.alive hX).2]
  simp only [Bool.false_eq_true, if_false]
  unfold placeT
  rw [if_neg (by omega), if_neg (by omega), if_pos e2.symm]
theorem Built.place_real (h : Built fa T Bd S) {t : Nat} (ht : t < T.length) : placeM S (t : Int) (-1) = -1 := by
  obtain ⟨x, hx⟩ : ∃ x, T[t]? = some x := ⟨_, List.getElem?_eq_getElem ht⟩
  obtain ⟨X, hX, e0, e1, e2⟩ := h.real hx
  unfold placeM
  rw [getT_nat, hX]
  simp only []
  rw [(h.surf.alive hX).2]
  simp only [Bool.false_eq_true, if_false]
  unfold placeT
  rw [if_neg (by omega), if_neg (by omega), if_neg (by omega)]
theorem Built.first (h : Built fa T Bd S) (hb : Bd ≠ []) : firstM S (-1) = ((T.length : Nat) : Int) := by
  obtain ⟨e, he⟩ : ∃ e, Bd[0]? = some e := by
    cases hB : Bd with
    | nil => exact absurd hB hb
    | cons e l => exact ⟨e, rfl⟩
  have hl : 0 < Bd.length := (List.getElem?_eq_some_iff.1 he).1
  have := h.place_ghost he
  rw [Nat.add_zero] at this
  exact firstM_hit (by rw [h.len]; omega) (by rw [this]; omega) (fun j hj => h.place_real hj)
theorem Built.step (h : Built fa T Bd S) {k k' : Nat} {e e' : Nat × Nat} (he : Bd[k]? = some e) (he' : Bd[k']? = some e') (hn : e'.2 = e.1) : stepM S (-1) ((T.length + k : Nat) : Int) = ((T.length + k' : Nat) : Int) := by
  obtain ⟨X, hX, e0, e1, e2⟩ := h.ghost he
  obtain ⟨Y, hY, f0, f1, f2⟩ := h.ghost he'
  unfold stepM
  rw [getT_nat, hX]
  simp only []
  have hp : placeT X (-1) = 2 := by
    unfold placeT
    rw [if_neg (by omega), if_neg (by omega), if_pos e2.symm]
  rw [hp, show (((2 : Int)).toNat + 1) % 3 = 0 from rfl]
  have := (h.surf.across hX hY (i := 0) (j := 1) (by omega) (by omega) (by
    show (Y.v2, Y.v0) = (X.v2, X.v1)
    rw [f2, f0, e2, e1, hn])).1
  exact this
theorem Built.walk (h : Built fa T Bd S) {k0 : Nat} {e0 : Nat × Nat} (h0 : Bd[k0]? = some e0) : ∀ (n k : Nat) (e : Nat × Nat), Bd[k]? = some e → rimZ S (walkM S (-1) ((T.length + k0 : Nat) : Int) n ((T.length + k : Nat) : Int)) = (cycB (borderT T) e0 n e).map (fun x => (x.2 : Int))
  | 0, _, _, _ => rfl
  | n + 1, k, e, he => by
    have hp := h.place_ghost he
    obtain ⟨X, hX, x0, x1, x2⟩ := h.ghost he
    obtain ⟨hm, hn⟩ := prevB_is h.good (h.mem.1 (List.mem_of_getElem? he))
    obtain ⟨k', hk'⟩ := List.mem_iff_getElem?.1 (h.mem.2 hm)
    have hs := h.step he hk' hn
    have ih := Built.walk h h0 n k' _ hk'
    unfold walkM cycB
    rw [hp, if_neg (by omega), hs]
    have hv : vAt S (T.length + k) 0 = (e.2 : Int) := by unfold vAt; rw [hX]; exact x0
    have hd : (((T.length + k' : Nat) : Int) = ((T.length + k0 : Nat) : Int)) ↔ prevB (borderT T) e = e0 := by
      constructor
      · intro q
        have : k' = k0 := by omega
        subst this
        rw [hk'] at h0; exact Option.some.inj h0
      · intro q
        rw [q] at hk'
        have hkl := (List.getElem?_eq_some_iff.1 hk').1
        have := (List.getElem?_inj hkl h.nodup).1 (hk'.trans h0.symm)
        omega
    by_cases hq : prevB (borderT T) e = e0
    · rw [if_pos (hd.2 hq), if_pos hq]
      simp only [rimZ, List.map_cons, List.map_nil]
      rw [show (((2 : Int)).toNat + 1) % 3 = 0 from rfl, Int.toNat_natCast, hv]
    · rw [if_neg (fun x => hq (hd.1 x)), if_neg hq]
      unfold rimZ at ih ⊢
      rw [List.map_cons, List.map_cons, ih]
      simp only [Int.toNat_natCast]
      rw [show (((2 : Int)).toNat + 1) % 3 = 0 from rfl, hv]
theorem Built.border (h : Built fa T Bd S) {e0 : Nat × Nat} (h0 : Bd[0]? = some e0) : borderM S = (rimB (borderT T) (T.length + (borderT T).length) e0).map (fun v : Nat => (v : Int)) := by
  have hb : Bd ≠ [] := by rintro rfl; simp at h0
  unfold borderM rimB
  rw [h.first hb]
  have := h.walk h0 S.length 0 e0 h0
  rw [Nat.add_zero] at this
  rw [this, h.len, h.perm.length_eq, List.map_reverse, List.map_map]; rfl
theorem Built.rest (h : Built fa T Bd S) {k : Nat} {e : Nat × Nat} (he : Bd[k]? = some e) {X : TriM} (hX : S[T.length + k]? = some X) : realM S X.n2 = true := by
  obtain ⟨Y, hY, e0, e1, e2⟩ := h.ghost he
  rw [hX] at hY; cases hY
  obtain ⟨u, j, U, hU, hj, hE, hn, -⟩ := h.surf.other hX (i := 2) (by omega)
  have hE' : edgeV U j = ((e.1 : Int), (e.2 : Int)) := by rw [hE]; show (X.v1, X.v0) = _; rw [e0, e1]
  have hn' : X.n2 = (u : Int) := hn
  rw [hn', h.real_iff]
  rcases h.cases hU with ⟨x, hx, -⟩ | ⟨k', e', rfl, he', f0, f1, f2⟩
  · exact decide_eq_true (List.getElem?_eq_some_iff.1 hx).1
  · exfalso
    have hb := mem_border.1 (h.mem.1 (List.mem_of_getElem? he))
    have hb' := mem_border.1 (h.mem.1 (List.mem_of_getElem? he'))
    obtain rfl | rfl | rfl : j = 0 ∨ j = 1 ∨ j = 2 := by omega
    · simp only [edgeV, Prod.mk.injEq] at hE'; omega
    · simp only [edgeV, Prod.mk.injEq] at hE'; omega
    · simp only [edgeV, Prod.mk.injEq] at hE'
      have q : e' = (e.2, e.1) := Prod.ext (by simp only []; omega) (by simp only []; omega)
      rw [q] at hb'
      exact hb.2 hb'.1
end
end Go.MagM
namespace Go.Proofs.Ytnabdopnlinklaa
open Go.RowKit Go.MagM
section
variable {F : Int → Int → Bool} {T : List (Nat × Nat × Nat)} {Bd : List (Nat × Nat)} {S : List TriM} {P : List (Int × Int)}
theorem built_gh (h : Built (faF F) T Bd S) : ∀ k, k ≤ S.length → ghN S k = k - T.length
  | 0, _ => by simp [ghN]
  | k + 1, hk => by
    have ih := built_gh h k (by omega)
    by_cases hlt : k < T.length
    · rw [ghN_none (h.place_real hlt), ih]; omega
    · have hl := h.len
      obtain ⟨e, he⟩ : ∃ e, Bd[k - T.length]? = some e := ⟨_, List.getElem?_eq_getElem (by omega)⟩
      have hp := h.place_ghost he
      rw [show T.length + (k - T.length) = k by omega] at hp
      rw [ghN_some (by rw [hp]; omega), ih]; omega
theorem built_formed (h : Built (faF F) T Bd S) (ht : ∀ t, t ∈ T → 0 < turnM P (t.1 : Int) (t.2.1 : Int) (t.2.2 : Int)) {k : Nat} {X : TriM} (hX : S[k]? = some X) : formedT P S X = true := by
  unfold formedT
  rcases h.cases hX with ⟨x, hx, e0, e1, e2⟩ | ⟨j, e, rfl, he, e0, e1, e2⟩
  · have hp : placeT X (-1) = -1 := by
      unfold placeT
      rw [if_neg (by omega), if_neg (by omega), if_neg (by omega)]
    rw [if_pos hp, e0, e1, e2]
    exact decide_eq_true (ht x (List.mem_of_getElem? hx))
  · have hp : placeT X (-1) = 2 := by
      unfold placeT
      rw [if_neg (by omega), if_neg (by omega), if_pos e2.symm]
    rw [hp, if_neg (by omega), if_neg (by omega), if_neg (by omega), h.rest he hX]
    obtain ⟨_, _, _, _, _, _, _, g0, _⟩ := h.surf.other hX (i := 0) (by omega)
    obtain ⟨_, _, _, _, _, _, _, g1, _⟩ := h.surf.other hX (i := 1) (by omega)
    have f0 : X.f0 = false := by
      have : X.f0 = faF F X.v1 X.v2 := g0
      rw [this, e2]; unfold faF; simp
    have f1 : X.f1 = false := by
      have : X.f1 = faF F X.v2 X.v0 := g1
      rw [this, e2]; unfold faF; simp
    rw [f0, f1]; rfl
theorem built_sound (h : Built (faF F) T Bd S) (ht : ∀ t, t ∈ T → 0 < turnM P (t.1 : Int) (t.2.1 : Int) (t.2.2 : Int)) (hb : borderT T ≠ [])
    (hc : ∀ e0, e0 ∈ borderT T → (rimB (borderT T) (T.length + (borderT T).length) e0).length = (borderT T).length ∧ (∀ v, v ∈ rimB (borderT T) (T.length + (borderT T).length) e0 → v < P.length) ∧ convexM P (rimB (borderT T) (T.length + (borderT T).length) e0) = true) : SoundIs P S true := by
  have hbl : 0 < (borderT T).length := List.length_pos_iff.2 hb
  have hBl := h.perm.length_eq
  obtain ⟨e0, he0⟩ : ∃ e0, Bd[0]? = some e0 := ⟨_, List.getElem?_eq_getElem (by omega)⟩
  obtain ⟨c1, c2, c3⟩ := hc e0 (h.mem.1 (List.mem_of_getElem? he0))
  have hbo := h.border he0
  refine .inr ⟨rfl, fun k X hX => ?_, ?_, ?_, _, hbo, c2, c3⟩
  · unfold okT; rw [built_formed h ht hX, h.surf.linked (faF_comm F) hX]; simp
  · intro e
    rw [hbo] at e
    have := congrArg List.length e
    rw [List.length_map, c1, List.length_nil] at this
    omega
  · rw [hbo, List.length_map, c1, built_gh h _ (Nat.le_refl _), h.len]; omega
end
/-- The points of a grid. -/
def gridP (w h : Nat) : List (Int × Int) := (List.range (h + 1)).flatMap fun y => (List.range (w + 1)).map fun x => (((2 * x : Nat) : Int), ((2 * y : Nat) : Int))
def soundG (w h bits : Nat) : Bool :=
  (gridT w h bits).all (fun t => decide (0 < turnM (gridP w h) (t.1 : Int) (t.2.1 : Int) (t.2.2 : Int))) && !(borderT (gridT w h bits)).isEmpty &&
  (borderT (gridT w h bits)).all (fun e0 =>
    (rimB (borderT (gridT w h bits)) ((gridT w h bits).length + (borderT (gridT w h bits)).length) e0).length == (borderT (gridT w h bits)).length &&
    (rimB (borderT (gridT w h bits)) ((gridT w h bits).length + (borderT (gridT w h bits)).length) e0).all (fun v => decide (v < (gridP w h).length)) &&
    convexM (gridP w h) (rimB (borderT (gridT w h bits)) ((gridT w h bits).length + (borderT (gridT w h bits)).length) e0)) &&
  decide (4 ≤ (gridT w h bits).length + (borderT (gridT w h bits)).length) && decide ((gridT w h bits).length ≤ 8) && (gridT w h bits).all (fun t => decide (t.1 < (gridP w h).length) && decide (t.2.1 < (gridP w h).length) && decide (t.2.2 < (gridP w h).length)) &&
  (gridP w h).all (fun p => decide (0 ≤ p.1 ∧ p.1 ≤ 4 ∧ 0 ≤ p.2 ∧ p.2 ≤ 4)) && decide ((gridP w h).length = (w + 1) * (h + 1))
def allSound : Bool := [1, 2].all fun w => [1, 2].all fun h => (List.range 16).all fun bits => soundG w h bits
set_option maxRecDepth 100000 in
theorem all_sound : allSound = true := by decide +kernel
theorem grid_soundG {w h : Nat} (hw : w = 1 ∨ w = 2) (hh : h = 1 ∨ h = 2) {bits : Nat} (hb : bits < 16) : soundG w h bits = true := by
  have := all_sound
  unfold allSound at this
  rw [List.all_eq_true] at this
  have h1 := this w (by rcases hw with rfl | rfl <;> simp)
  rw [List.all_eq_true] at h1
  have h2 := h1 h (by rcases hh with rfl | rfl <;> simp)
  rw [List.all_eq_true] at h2
  exact h2 bits (List.mem_range.2 hb)
/-- What is known of a grid. -/
structure GridOk (w h bits : Nat) : Prop where
  good : MagM.Good (gridT w h bits)
  turn : ∀ t, t ∈ gridT w h bits → 0 < turnM (gridP w h) (t.1 : Int) (t.2.1 : Int) (t.2.2 : Int)
  some_ : borderT (gridT w h bits) ≠ []
  rim : ∀ e0, e0 ∈ borderT (gridT w h bits) → (rimB (borderT (gridT w h bits)) ((gridT w h bits).length + (borderT (gridT w h bits)).length) e0).length = (borderT (gridT w h bits)).length ∧ (∀ v, v ∈ rimB (borderT (gridT w h bits)) ((gridT w h bits).length + (borderT (gridT w h bits)).length) e0 → v < (gridP w h).length) ∧ convexM (gridP w h) (rimB (borderT (gridT w h bits)) ((gridT w h bits).length + (borderT (gridT w h bits)).length) e0) = true
  four : 4 ≤ (gridT w h bits).length + (borderT (gridT w h bits)).length
  few : (gridT w h bits).length ≤ 8
  pts : ∀ t, t ∈ gridT w h bits → t.1 < (gridP w h).length ∧ t.2.1 < (gridP w h).length ∧ t.2.2 < (gridP w h).length
  small : ∀ p, p ∈ gridP w h → 0 ≤ p.1 ∧ p.1 ≤ 4 ∧ 0 ≤ p.2 ∧ p.2 ≤ 4
  many : (gridP w h).length = (w + 1) * (h + 1)
theorem grid_ok {w h : Nat} (hw : w = 1 ∨ w = 2) (hh : h = 1 ∨ h = 2) {bits : Nat} (hb : bits < 16) : GridOk w h bits := by
  have g := MagM.Good.of (grid_good hw hh hb)
  have s := grid_soundG hw hh hb
  unfold soundG at s
  simp only [Bool.and_eq_true, decide_eq_true_eq, List.all_eq_true, beq_iff_eq, Bool.not_eq_true', List.isEmpty_eq_false_iff] at s
  obtain ⟨⟨⟨⟨⟨⟨⟨s1, s2⟩, s3⟩, s4⟩, s5⟩, s6⟩, s7⟩, s8⟩ := s
  exact ⟨g, s1, s2, fun e he => by obtain ⟨⟨q1, q2⟩, q3⟩ := s3 e he; exact ⟨q1, q2, q3⟩, s4, s5, fun t ht => by obtain ⟨⟨q1, q2⟩, q3⟩ := s6 t ht; exact ⟨q1, q2, q3⟩, s7, s8⟩
end Go.Proofs.Ytnabdopnlinklaa
/- The statements' Grid: its points and triangles, place by place; bits; the map of faults. -/
namespace Go.MagM
open Go.RowKit
theorem MeshO.low' {p e : TypeId} {w : World} {B B' mb pb pc : Nat} {tv : Value} {P : List (Int × Int)} {S : List TriM} (h : MeshO p e w B mb pb pc tv P S) (hB : B' ≤ B) : MeshO p e w B' mb pb pc tv P S :=
  ⟨h.box, owns_low h.prow hB, owns_low h.row hB, ⟨Nat.le_trans hB h.low.1, h.low.2⟩, h.apart, h.short⟩
theorem BuildEnd.low {p e : TypeId} {F : Int → Int → Bool} {B B' : Nat} {P : List (Int × Int)} {T : List (Nat × Nat × Nat)} {mb : Nat} {w : World} (h : BuildEnd p e F B P T mb w) (hB : B' ≤ B) : BuildEnd p e F B' P T mb w := by
  obtain ⟨pb, pc, tv, S, Bd, h1, h2, h3⟩ := h
  exact ⟨pb, pc, tv, S, Bd, h1.low' hB, Nat.le_trans hB h2, h3⟩
end Go.MagM
namespace Go.Proofs.Ytnabdopnlinklaa
open Go.RowKit Go.MagM Go.Maps
end Go.Proofs.Ytnabdopnlinklaa
/- The statements' Grid, whatever it is asked: what comes. -/
namespace Go.Proofs.Ytnabdopnlinklaa
open Go.RowKit Go.MagM
/-- What Grid leaves. -/
structure GridIs (w : World) (B mb pb pc tb tc g W H bn : Nat) (F : Int → Int → Bool) (Bd : List (Nat × Nat)) (S : List TriM) : Prop where
  mesh : MeshO 26 37 w B mb pb pc (.slice (some ⟨tb, 0, none⟩) S.length tc) (gridP W H) S
  pts : B ≤ pb
  built : Built (faF F) (gridT W H bn) Bd S
  tr : TrIn w g ((gridT W H bn).map realV)
  row : B ≤ g
  hW : W = 1 ∨ W = 2
  hH : H = 1 ∨ H = 2
  hb : bn < 16
theorem GridIs.below {w w' : World} {B mb pb pc tb tc g W H bn : Nat} {F : Int → Int → Bool} {Bd : List (Nat × Nat)} {S : List TriM} (h : GridIs w B mb pb pc tb tc g W H bn F Bd S) (hb : Below w.heap.size w w') : GridIs w' B mb pb pc tb tc g W H bn F Bd S :=
  ⟨h.mesh.below hb, h.pts, h.built, h.tr.below hb, h.row, h.hW, h.hH, h.hb⟩
theorem GridIs.drew {w : World} {B mb pb pc tb tc g W H bn : Nat} {F : Int → Int → Bool} {Bd : List (Nat × Nat)} {S : List TriM} (h : GridIs w B mb pb pc tb tc g W H bn F Bd S) : GridIs w.drew B mb pb pc tb tc g W H bn F Bd S := h.below (Below.refl _ _).drew'
theorem GridIs.read {w : World} {B mb pb pc tb tc g W H bn : Nat} {F : Int → Int → Bool} {Bd : List (Nat × Nat)} {S : List TriM} (h : GridIs w B mb pb pc tb tc g W H bn F Bd S) : MeshR w mb pb pc (some ⟨tb, 0, none⟩) tc (gridP W H) S := by
  obtain ⟨ta, tc', e, hr⟩ := h.mesh.read
  simp only [Value.slice.injEq] at e
  obtain ⟨rfl, -, rfl⟩ := e
  exact hr
theorem GridIs.sound {w : World} {B mb pb pc tb tc g W H bn : Nat} {F : Int → Int → Bool} {Bd : List (Nat × Nat)} {S : List TriM} (h : GridIs w B mb pb pc tb tc g W H bn F Bd S) : SoundIs (gridP W H) S true := by
  have ok := grid_ok h.hW h.hH h.hb
  exact built_sound h.built ok.turn ok.some_ ok.rim
end Go.Proofs.Ytnabdopnlinklaa
/- A mesh of which one thing is spoilt isn't sound. Pure but for the writes. -/
namespace Go.MagM
open Go.RowKit
section
variable {fa : Int → Int → Bool} {V : List (Int × Int × Int)} {S : List TriM}
end
end Go.MagM
namespace Go.Proofs.Ytnabdopnlinklaa
open Go.RowKit Go.MagM
section
variable {fa : Int → Int → Bool} {V : List (Int × Int × Int)} {S : List TriM} {P : List (Int × Int)}
end
end Go.Proofs.Ytnabdopnlinklaa
namespace Go.MagM
open Go.RowKit
section
variable {p e : TypeId} {w : World} {lo mb pb pc g c n : Nat} {P : List (Int × Int)} {S : List TriM}
theorem MeshO.put (h : MeshO p e w lo mb pb pc (.slice (some ⟨g, 0, none⟩) n c) P S) (hn : S.length = n) {S' : List TriM} (o : Nat) (x y : Value) (hx : (triCells S)[o]? = some x) (hl : S'.length = S.length) (hs : (triCells S).set o y = triCells S') :
    w.cell? ⟨g, o, none⟩ = some x ∧ w.frozen? ⟨g, o, none⟩ = false ∧ MeshO p e (w.setCell ⟨g, o, none⟩ y) lo mb pb pc (.slice (some ⟨g, 0, none⟩) n c) P S' ∧ Mut w (w.setCell ⟨g, o, none⟩ y) mb (.slice (some ⟨g, 0, none⟩) n c) (.slice (some ⟨g, 0, none⟩) n c) := by
  subst hn
  have hb := owns_box h.row
  obtain ⟨h1, h2⟩ := h.setT (S' := S') o [y] hl hs
  exact ⟨hb.c _ _ hx, hb.f _ _ hx, h1, h2⟩
end
end Go.MagM
/- Maps from ints to 1 (sets of numbers); bytes in a row; slots of which some are gone. -/
namespace Go.MagM
open Go.RowKit Go.Maps
/-- Bytes that come in. -/
def BytesAt (w : World) (ao : Option Addr) (l : List Int) : Prop :=
  ∀ i x, l[i]? = some x → ∃ b o, ao = some ⟨b, o, none⟩ ∧ w.cell? ⟨b, o + i, none⟩ = some (.int .u8 x) ∧ 0 ≤ x ∧ x < 256
theorem BytesAt.below {w w' : World} {ao : Option Addr} {l : List Int} (h : BytesAt w ao l) (hb : Below w.heap.size w w') : BytesAt w' ao l := by
  intro i x hi
  obtain ⟨b, o, h0, h1, h2⟩ := h i x hi
  have hlt := World.block_lt_of_cell? w _ h1
  exact ⟨b, o, h0, (hb.cell (p := ⟨b, o + i, none⟩) hlt).trans h1, h2⟩
/-- Of n slots those of D are gone. -/
structure SlotsD (n : Nat) (S : List TriM) (D : List Nat) : Prop where
  len : S.length = n
  gone : ∀ (t : Nat) (T : TriM), S[t]? = some T → (goneB T = true ↔ t ∈ D)
  lt : ∀ t, t ∈ D → t < n
theorem goneTri_gone : goneB goneTri = true := by decide
theorem SlotsD.drop {n : Nat} {S : List TriM} {D : List Nat} (h : SlotsD n S D) {t : Nat} (ht : t < n) : SlotsD n (S.set t goneTri) (D ++ [t]) := by
  refine ⟨by rw [List.length_set]; exact h.len, fun u T hu => ?_, fun u hu => ?_⟩
  · rw [List.getElem?_set] at hu
    split at hu
    · rename_i e; subst e
      split at hu
      · cases hu; rw [goneTri_gone]; simp
      · cases hu
    · rename_i e
      rw [h.gone u T hu, List.mem_append, List.mem_singleton]
      exact ⟨.inl, fun hx => hx.elim id fun hx => absurd hx.symm e⟩
  · rcases List.mem_append.1 hu with h1 | h1
    · exact h.lt u h1
    · simp at h1; omega
theorem SlotsD.alive {n : Nat} {S : List TriM} {D : List Nat} (h : SlotsD n S D) {t : Nat} {T : TriM} (hT : S[t]? = some T) (ht : t ∉ D) : goneB T = false := by
  cases hg : goneB T with
  | false => rfl
  | true => exact absurd ((h.gone t T hT).1 hg) ht
theorem SlotsD.free_none {n : Nat} {S : List TriM} (h : SlotsD n S []) : freeK S = none := by
  unfold freeK
  rw [List.findIdx?_eq_none_iff]
  intro T hT
  obtain ⟨j, hj⟩ := List.mem_iff_getElem?.1 hT
  exact h.alive hj (by simp)
theorem newT_alive : goneB (newT 0 1 2) = false := by decide
theorem SlotsD.make {n : Nat} {S : List TriM} {D D' : List Nat} (h : SlotsD n S D) {k : Nat} (hD : ∀ x, x ∈ D' ↔ x ∈ D ∧ x ≠ k) : SlotsD n (S.set k (newT 0 1 2)) D' := by
  refine ⟨by rw [List.length_set]; exact h.len, fun u T hu => ?_, fun u hu => h.lt u ((hD u).1 hu).1⟩
  rw [List.getElem?_set] at hu
  split at hu
  · rename_i e; subst e
    split at hu
    · cases hu; rw [newT_alive, hD]; simp
    · cases hu
  · rename_i e
    rw [h.gone u T hu, hD]
    simp only [ne_eq, iff_self_and]
    intro _ e'; exact e e'.symm
end Go.MagM
namespace Go.Proofs.Ytnabdopnlinklaa
open Go.RowKit Go.MagM Go.Maps
end Go.Proofs.Ytnabdopnlinklaa
/- MeshSpoils: a mesh of which one thing is spoilt isn't sound. -/
namespace Go.Proofs.Ytnabdopnlinklaa
open Go.RowKit Go.MagM
theorem and_some (x : Int) (k : Nat) (hk : k < 9223372036854775808) : ∃ y : Int, 0 ≤ y ∧ y ≤ (k : Int) ∧ bits .and .i64 x (k : Int) = y := by
  have h1 : (BitVec.ofInt 64 (k : Int)).toNat = k := by
    rw [BitVec.ofInt_natCast, BitVec.toNat_ofNat]; exact Nat.mod_eq_of_lt (by omega)
  have h2 : (BitVec.ofInt 64 x).toNat &&& k ≤ k := Nat.and_le_right
  refine ⟨(((BitVec.ofInt 64 x).toNat &&& k : Nat) : Int), by omega, by omega, ?_⟩
  show IntKind.i64.wrap ((BitVec.ofInt 64 x &&& BitVec.ofInt 64 (k : Int)).toNat : Int) = _
  rw [BitVec.toNat_and, h1, IntKind.wrap_i64]
  omega
end Go.Proofs.Ytnabdopnlinklaa
/- mesh's All, for a range over it. -/
namespace Go.Proofs.Ytnabdopnlinklaa
open Go.RowKit Go.MagM Go.Shelf
set_option maxRecDepth 100000 in
set_option maxHeartbeats 4000000 in
theorem All_any (p : Option Addr) (w : World) : Calls Try.prog 10 #[.pointer p] w fun e w' => e = .returned (.func (.func 27) #[] #[.pointer (some ⟨w.heap.size, 0, none⟩)]) ∧ w.alloc (.cells #[.pointer p] 28) = w' := by
  go_enter Try.func10, Try.ntmps10
  go_wp2
  go_ret
  exact ⟨rfl, rfl⟩
theorem all_stops (n : Nat) (hn : 1 ≤ n) (Bm : Nat) (Pb : Nat → Prop) {mb pb pc : Nat} {ta : Option Addr} {tc : Nat} {P : List (Int × Int)} {S : List TriM} (w : World) (hlt : ∀ b, Pb b → b < w.heap.size) (hm : MeshR w mb pb pc ta tc P S) (hin : MeshIn Pb mb pb ta) (hBm : w.cell? ⟨Bm, 0, none⟩ = some (.pointer (some ⟨mb, 0, none⟩))) (hPm : Pb Bm) :
    SeqStopsK Fence.wide n Try.prog 27 #[.pointer (some ⟨Bm, 0, none⟩)] (encA (S := S)) (KeepB Pb) (fun xs => xs.map (·.1) = realsK S S.length) (fun pre => pre.map (·.1) <+: realsK S S.length) S.length w := by
  intro l J Jx W hW hJ hJx hY h0
  have hcm : W.cell? ⟨Bm, 0, none⟩ = some (.pointer (some ⟨mb, 0, none⟩)) := (hW.cell (p := ⟨Bm, 0, none⟩) (hlt Bm hPm)).trans hBm
  refine (all1_any n hn l Bm Pb J Jx hY (fun pre W' q h => hJ pre W' (W'.drewN q) none h (grown_drewN W' q none) (fun r e => by cases e)) W (hm.below hW) hin hcm hPm h0).mono ?_
  rintro e W' ⟨he, h⟩
  refine ⟨he, ?_⟩
  rcases h with ⟨ys, h1, h2⟩ | ⟨pre, h1, h2⟩
  · exact .inl ⟨ys, h1, h2⟩
  · exact .inr ⟨pre, h1, h2⟩
end Go.Proofs.Ytnabdopnlinklaa
/- Convex polygons over Rat: what lies within is a mean of three corners. Over no program; written ahead of layer 8's code. -/
namespace Go.Proofs.Ytnabdopnlinklaa
open Go.MagM
/-- Twice the area of a triangle. -/
def crossQ (a b s : Rat × Rat) : Rat := (b.1 - a.1) * (s.2 - a.2) - (b.2 - a.2) * (s.1 - a.1)
theorem crossQ_cyc (a b s : Rat × Rat) : crossQ b s a = crossQ a b s := by unfold crossQ; grind
theorem crossQ_aab (a s : Rat × Rat) : crossQ a a s = 0 := by unfold crossQ; grind
theorem crossQ_aba (a b : Rat × Rat) : crossQ a b a = 0 := by unfold crossQ; grind
theorem crossQ_abb (a b : Rat × Rat) : crossQ a b b = 0 := by unfold crossQ; grind
/-- Corner i, going round. -/
def cor (l : List (Rat × Rat)) (i : Nat) : Rat × Rat := l.getD (i % l.length) (0, 0)
theorem cor_add (l : List (Rat × Rat)) (i : Nat) : cor l (i + l.length) = cor l i := by unfold cor; rw [Nat.add_mod_right]
/-- A convex polygon of three corners or more: each corner lies strictly to the left of each side of which it is no end. -/
def Conv (l : List (Rat × Rat)) : Prop := 3 ≤ l.length ∧ ∀ i k, i < l.length → k < l.length → k ≠ i → k ≠ (i + 1) % l.length → 0 < crossQ (cor l i) (cor l (i + 1)) (cor l k)
end Go.Proofs.Ytnabdopnlinklaa
/- Convex polygons by their triples: any three corners, in their order, turn left. Over no program; written ahead of layer 8's code. -/
namespace Go.Proofs.Ytnabdopnlinklaa
open Go.MagM
/-- Any three of them, in their order, turn left. -/
def Tri (l : List (Rat × Rat)) : Prop := ∀ a b c, List.Sublist [a, b, c] l → 0 < crossQ a b c
theorem Tri.sub {l k : List (Rat × Rat)} (h : Tri l) (hs : List.Sublist k l) : Tri k := fun a b c h1 => h a b c (h1.trans hs)
/-- By places: the same. -/
theorem Tri.at {l : List (Rat × Rat)} (h : Tri l) {i j k : Nat} (hij : i < j) (hjk : j < k) (hk : k < l.length) : 0 < crossQ (cor l i) (cor l j) (cor l k) := by
  apply h
  have e : ∀ m, m < l.length → cor l m = l[m]?.getD (0, 0) := fun m hm => by unfold cor; rw [Nat.mod_eq_of_lt hm, List.getD_eq_getElem?_getD]
  rw [e i (by omega), e j (by omega), e k hk]
  have s1 : List.Sublist [l[i]?.getD (0, 0)] (l.take j) := by
    rw [List.singleton_sublist, List.getElem?_eq_getElem (by omega)]
    exact List.mem_take_iff_getElem.2 ⟨i, by omega, rfl⟩
  have s2 : List.Sublist [l[j]?.getD (0, 0), l[k]?.getD (0, 0)] (l.drop j) := by
    rw [List.drop_eq_getElem_cons (by omega), List.getElem?_eq_getElem (by omega : j < l.length)]
    refine List.Sublist.cons_cons _ ?_
    rw [List.singleton_sublist, List.getElem?_eq_getElem hk]
    exact List.mem_drop_iff_getElem.2 ⟨k - (j + 1), by omega, by simp only [Option.getD_some]; congr 1; omega⟩
  have := s1.append s2
  rwa [List.take_append_drop] at this
theorem tri_of {l : List (Rat × Rat)} (h : ∀ i j k, i < j → j < k → k < l.length → 0 < crossQ (cor l i) (cor l j) (cor l k)) : Tri l := by
  intro a b c hs
  obtain ⟨is, hi, hp⟩ := List.sublist_eq_map_getElem hs
  match is, hi, hp with
  | [i, j, k], hi, hp =>
    simp at hi hp
    obtain ⟨rfl, rfl, rfl⟩ := hi
    have e : ∀ m : Fin l.length, cor l m.1 = l[m.1] := fun m => by unfold cor; rw [Nat.mod_eq_of_lt m.2, List.getD_eq_getElem?_getD, List.getElem?_eq_getElem m.2]; rfl
    have := h i.1 j.1 k.1 hp.1.1 hp.2 k.2
    rwa [e, e, e] at this
  | [], hi, _ => simp at hi
  | [_], hi, _ => simp at hi
  | [_, _], hi, _ => simp at hi
  | _ :: _ :: _ :: _ :: _, hi, _ => simp at hi
/-- Directions that turn left one behind the other, all to the left of one: the last one is to the left of the first one. -/
theorem cross_trans {o e u v w : Rat × Rat} (h1 : 0 ≤ crossQ o e u) (h2 : 0 < crossQ o e v) (h3 : 0 < crossQ o e w) (h4 : 0 < crossQ o u v) (h5 : 0 < crossQ o v w) : 0 < crossQ o u w := by
  have id1 : crossQ o e v * crossQ o u w = crossQ o e u * crossQ o v w + crossQ o e w * crossQ o u v := by unfold crossQ; grind
  have k1 := Rat.mul_nonneg h1 (Rat.le_of_lt h5)
  have k2 := Rat.mul_pos h3 h4
  by_cases h : 0 < crossQ o u w
  · exact h
  · have := Rat.mul_nonneg (Rat.le_of_lt h2) (show 0 ≤ -crossQ o u w by grind)
    grind
theorem cor_lt {l : List (Rat × Rat)} {i : Nat} (h : i + 1 < l.length) : (i + 1) % l.length = i + 1 := Nat.mod_eq_of_lt h
/-- Of a convex polygon any three corners turn left. -/
theorem Conv.tri {l : List (Rat × Rat)} (h : Conv l) : Tri l := by
  obtain ⟨h3, hc⟩ := h
  apply tri_of
  intro i j k hij
  have edge : ∀ m, i < m → m + 1 < l.length → 0 < crossQ (cor l i) (cor l m) (cor l (m + 1)) := fun m hm hl => by
    have := hc m i (by omega) (by omega) (by omega) (by rw [cor_lt hl]; omega)
    rw [crossQ_cyc] at this; exact this
  have first : ∀ m, i + 1 < m → m < l.length → 0 < crossQ (cor l i) (cor l (i + 1)) (cor l m) := fun m hm hl => hc i m (by omega) hl (by omega) (by rw [cor_lt (by omega)]; omega)
  induction k with
  | zero => intro h; omega
  | succ k ih =>
    intro hjk hk
    by_cases e : j = k
    · subst e; exact edge j hij hk
    · by_cases e2 : j = i + 1
      · subst e2; exact first (k + 1) (by omega) hk
      · exact cross_trans (e := cor l (i + 1)) (Rat.le_of_lt (first j (by omega) (by omega))) (first k (by omega) (by omega)) (first (k + 1) (by omega) hk) (ih (by omega) (by omega)) (edge k (by omega) hk)
theorem Tri.conv {l : List (Rat × Rat)} (h : Tri l) (h3 : 3 ≤ l.length) : Conv l := by
  refine ⟨h3, fun i k hi hk h1 h2 => ?_⟩
  by_cases hl : i + 1 < l.length
  · rw [cor_lt hl] at h2
    rcases Nat.lt_or_ge k i with h4 | h4
    · rw [crossQ_cyc]; exact h.at h4 (by omega) hl
    · exact h.at (by omega) (by omega) hk
  · obtain rfl : i = l.length - 1 := by omega
    have e : l.length - 1 + 1 = 0 + l.length := by omega
    rw [e, Nat.zero_add, Nat.mod_self] at h2
    rw [e, cor_add]
    have := h.at (i := 0) (j := k) (k := l.length - 1) (by omega) (by omega) (by omega)
    rw [crossQ_cyc, crossQ_cyc]; exact this
end Go.Proofs.Ytnabdopnlinklaa
/- Convex polygons that hold the same points are the same list, begun elsewhere. Over no program; written ahead of layer 8's code. -/
namespace Go.Proofs.Ytnabdopnlinklaa
open Go.MagM
theorem cor_get {l : List (Rat × Rat)} {i : Nat} (h : i < l.length) : cor l i = l[i] := by unfold cor; rw [Nat.mod_eq_of_lt h, List.getD_eq_getElem?_getD, List.getElem?_eq_getElem h]; rfl
theorem Tri.nodup {l : List (Rat × Rat)} (h : Tri l) (h3 : 3 ≤ l.length) : l.Nodup := by
  unfold List.Nodup
  rw [List.pairwise_iff_getElem]
  intro i j hi hj hij e
  rw [← cor_get hi, ← cor_get hj] at e
  by_cases h1 : j + 1 < l.length
  · have := h.at (i := i) (j := j) (k := j + 1) hij (by omega) h1
    rw [e, crossQ_aab] at this; exact Rat.lt_irrefl this
  · by_cases h2 : i + 1 < j
    · have := h.at (i := i) (j := i + 1) (k := j) (by omega) h2 hj
      rw [e, crossQ_aba] at this; exact Rat.lt_irrefl this
    · have := h.at (i := 0) (j := i) (k := j) (by omega) hij hj
      rw [e, crossQ_abb] at this; exact Rat.lt_irrefl this
/-- Areas, along the corners. -/
def det (a b : Rat × Rat) : Rat := a.1 * b.2 - a.2 * b.1
end Go.Proofs.Ytnabdopnlinklaa
/- Convex polygons that hold the same points: as many corners, the same area. Over no program; written ahead of layer 8's code. -/
namespace Go.Proofs.Ytnabdopnlinklaa
open Go.MagM
theorem cor_mod (l : List (Rat × Rat)) (i : Nat) : cor l (i % l.length) = cor l i := by unfold cor; rw [Nat.mod_mod]
end Go.Proofs.Ytnabdopnlinklaa
/- A convex polygon, cut by a half-plane: places on its border, and that any three of them turn left. Over no program; written ahead of layer 8's code. -/
namespace Go.Proofs.Ytnabdopnlinklaa
open Go.MagM
/-- More than 0 beyond a half-plane. -/
def fvQ (A B C : Rat) (p : Rat × Rat) : Rat := A * p.1 + B * p.2 - C
/-- So far along the way. -/
def wayQ (a b : Rat × Rat) (t : Rat) : Rat × Rat := (a.1 + t * (b.1 - a.1), a.2 + t * (b.2 - a.2))
theorem wayQ_zero (a b : Rat × Rat) : wayQ a b 0 = a := by unfold wayQ; exact Prod.ext (by simp only []; grind) (by simp only []; grind)
theorem fv_way (A B C : Rat) (a b : Rat × Rat) (t : Rat) : fvQ A B C (wayQ a b t) = (1 - t) * fvQ A B C a + t * fvQ A B C b := by unfold fvQ wayQ; grind
theorem cross_way1 (a b y z : Rat × Rat) (t : Rat) : crossQ (wayQ a b t) y z = (1 - t) * crossQ a y z + t * crossQ b y z := by unfold crossQ wayQ; grind
theorem cross_way2 (x a b z : Rat × Rat) (t : Rat) : crossQ x (wayQ a b t) z = (1 - t) * crossQ x a z + t * crossQ x b z := by unfold crossQ wayQ; grind
theorem cross_way3 (x y a b : Rat × Rat) (t : Rat) : crossQ x y (wayQ a b t) = (1 - t) * crossQ x y a + t * crossQ x y b := by unfold crossQ wayQ; grind
theorem mix_nonneg {t u v : Rat} (h0 : 0 ≤ t) (h1 : t < 1) (hu : 0 ≤ u) (hv : 0 ≤ v) : 0 ≤ (1 - t) * u + t * v := by
  have a := Rat.mul_nonneg (show 0 ≤ 1 - t by grind) hu
  have b := Rat.mul_nonneg h0 hv
  grind
theorem mix_pos {t u v : Rat} (h0 : 0 ≤ t) (h1 : t < 1) (hu : 0 < u) (hv : 0 ≤ v) : 0 < (1 - t) * u + t * v := by
  have a := Rat.mul_pos (show 0 < 1 - t by grind) hu
  have b := Rat.mul_nonneg h0 hv
  grind
theorem mix_pos' {t u v : Rat} (h0 : 0 < t) (h1 : t < 1) (hu : 0 ≤ u) (hv : 0 < v) : 0 < (1 - t) * u + t * v := by
  have a := Rat.mul_nonneg (show 0 ≤ 1 - t by grind) hu
  have b := Rat.mul_pos h0 hv
  grind
/-- Corners in their order, the first one again at the end. -/
theorem Tri.wrap {l : List (Rat × Rat)} (h : Tri l) {i j k : Nat} (hij : i < j) (hjk : j < k) (hk : k ≤ l.length) (hn : ¬ (i = 0 ∧ k = l.length)) : 0 < crossQ (cor l i) (cor l j) (cor l k) := by
  rcases Nat.lt_or_ge k l.length with h1 | h1
  · exact h.at hij hjk h1
  · obtain rfl : k = l.length := by omega
    have e : cor l l.length = cor l 0 := by have := cor_add l 0; rwa [Nat.zero_add] at this
    rw [e, crossQ_cyc]
    exact h.at (by omega) hij (by omega)
theorem Tri.wrap0 {l : List (Rat × Rat)} (h : Tri l) {i j k : Nat} (hij : i ≤ j) (hjk : j ≤ k) (hk : k ≤ l.length) : 0 ≤ crossQ (cor l i) (cor l j) (cor l k) := by
  by_cases h1 : i = j
  · subst h1; rw [crossQ_aab]; exact Rat.le_refl
  · by_cases h2 : j = k
    · subst h2; rw [crossQ_abb]; exact Rat.le_refl
    · by_cases h3 : i = 0 ∧ k = l.length
      · obtain ⟨rfl, rfl⟩ := h3
        have e : cor l l.length = cor l 0 := by have := cor_add l 0; rwa [Nat.zero_add] at this
        rw [e, crossQ_aba]; exact Rat.le_refl
      · exact Rat.le_of_lt (h.wrap (by omega) (by omega) hk h3)
/-- A place on the border: the side, and how far along it. -/
def posQ (l : List (Rat × Rat)) (q : Nat × Rat) : Rat × Rat := wayQ (cor l q.1) (cor l (q.1 + 1)) q.2
/-- Where side i is kept: its beginning; where it is crossed. -/
def partT (A B C : Rat) (l : List (Rat × Rat)) (i : Nat) : List (Nat × Rat) :=
  (if fvQ A B C (cor l i) ≤ 0 then [(i, 0)] else []) ++
    (if fvQ A B C (cor l i) * fvQ A B C (cor l (i + 1)) < 0 then [(i, fvQ A B C (cor l i) / (fvQ A B C (cor l i) - fvQ A B C (cor l (i + 1))))] else [])
def cutT (A B C : Rat) (l : List (Rat × Rat)) : List (Nat × Rat) := (List.range l.length).flatMap (partT A B C l)
/-- What is known of a place. -/
structure Place (A B C : Rat) (l : List (Rat × Rat)) (q : Nat × Rat) : Prop where
  lt : q.1 < l.length
  at0 : 0 ≤ q.2
  at1 : q.2 < 1
  keep : q.2 = 0 → fvQ A B C (cor l q.1) ≤ 0
  cross : q.2 ≠ 0 → fvQ A B C (cor l q.1) * fvQ A B C (cor l (q.1 + 1)) < 0 ∧ q.2 = fvQ A B C (cor l q.1) / (fvQ A B C (cor l q.1) - fvQ A B C (cor l (q.1 + 1)))
theorem ratio_in {f g : Rat} (h : f * g < 0) : 0 < f / (f - g) ∧ f / (f - g) < 1 := by
  have hne : f - g ≠ 0 := by
    intro e
    have e2 : f = g := by grind
    subst e2
    by_cases k : 0 ≤ f
    · have := Rat.mul_nonneg k k; grind
    · have := Rat.mul_nonneg (show 0 ≤ -f by grind) (show 0 ≤ -f by grind); grind
  have hr := Rat.div_mul_cancel (a := f) hne
  generalize f / (f - g) = r at *
  by_cases hf : 0 < f
  · have hg : g < 0 := by
      by_cases k : g < 0
      · exact k
      · have := Rat.mul_nonneg (Rat.le_of_lt hf) (show 0 ≤ g by grind); grind
    have hd : 0 < f - g := by grind
    constructor
    · by_cases k : 0 < r
      · exact k
      · have := Rat.mul_nonneg (show 0 ≤ -r by grind) (Rat.le_of_lt hd); grind
    · by_cases k : r < 1
      · exact k
      · have := Rat.mul_nonneg (show 0 ≤ r - 1 by grind) (Rat.le_of_lt hd); grind
  · have hf2 : f < 0 := by
      by_cases k : f < 0
      · exact k
      · have : f = 0 := by grind
        subst this; grind
    have hg : 0 < g := by
      by_cases k : 0 < g
      · exact k
      · have := Rat.mul_nonneg (show 0 ≤ -f by grind) (show 0 ≤ -g by grind); grind
    have hd : 0 < g - f := by grind
    constructor
    · by_cases k : 0 < r
      · exact k
      · have := Rat.mul_nonneg (show 0 ≤ -r by grind) (Rat.le_of_lt hd); grind
    · by_cases k : r < 1
      · exact k
      · have := Rat.mul_nonneg (show 0 ≤ r - 1 by grind) (Rat.le_of_lt hd); grind
theorem mem_part {A B C : Rat} {l : List (Rat × Rat)} {i : Nat} {q : Nat × Rat} (hi : i < l.length) (h : q ∈ partT A B C l i) : q.1 = i ∧ Place A B C l q := by
  unfold partT at h
  rw [List.mem_append] at h
  rcases h with h | h
  · split at h
    · rename_i hk
      simp at h; subst h
      exact ⟨rfl, hi, Rat.le_refl, by simp only []; decide, fun _ => hk, fun h => absurd rfl h⟩
    · simp at h
  · split at h
    · rename_i hk
      simp at h; subst h
      obtain ⟨h1, h2⟩ := ratio_in hk
      exact ⟨rfl, hi, Rat.le_of_lt h1, h2, fun h0 => by simp only [] at h0; grind, fun _ => ⟨hk, rfl⟩⟩
    · simp at h
theorem mem_cutT {A B C : Rat} {l : List (Rat × Rat)} {q : Nat × Rat} (h : q ∈ cutT A B C l) : Place A B C l q := by
  unfold cutT at h
  rw [List.mem_flatMap] at h
  obtain ⟨i, hi, h⟩ := h
  exact (mem_part (List.mem_range.1 hi) h).2
/-- Places come in their order. -/
theorem cutT_sorted (A B C : Rat) (l : List (Rat × Rat)) : (cutT A B C l).Pairwise (fun p q => p.1 < q.1 ∨ (p.1 = q.1 ∧ p.2 = 0 ∧ q.2 ≠ 0)) := by
  unfold cutT
  rw [List.pairwise_flatMap]
  constructor
  · intro i hi
    unfold partT
    split
    · split
      · rename_i h1 h2
        have := (ratio_in h2).1
        simp
        grind
      · simp
    · split <;> simp
  · rw [List.pairwise_iff_getElem]
    intro i j hi hj hij p hp q hq
    simp at hi hj
    have e1 := (mem_part (A := A) (B := B) (C := C) (by simpa using hi) hp).1
    have e2 := (mem_part (A := A) (B := B) (C := C) (by simpa using hj) hq).1
    left
    simp at e1 e2
    omega
end Go.Proofs.Ytnabdopnlinklaa
/- A convex polygon, cut by a half-plane, is one. Over no program; written ahead of layer 8's code. -/
namespace Go.Proofs.Ytnabdopnlinklaa
open Go.MagM
/-- What is left of a polygon. -/
def cutQ (A B C : Rat) (l : List (Rat × Rat)) : List (Rat × Rat) := (cutT A B C l).map (posQ l)
theorem posQ_zero (l : List (Rat × Rat)) (i : Nat) : posQ l (i, 0) = cor l i := wayQ_zero _ _
theorem fv_pos_le {A B C : Rat} {l : List (Rat × Rat)} {q : Nat × Rat} (h : Place A B C l q) : fvQ A B C (posQ l q) ≤ 0 ∧ (q.2 ≠ 0 → fvQ A B C (posQ l q) = 0) := by
  obtain ⟨i, t⟩ := q
  have z : t ≠ 0 → fvQ A B C (posQ l (i, t)) = 0 := fun ht => by
    obtain ⟨h1, h2⟩ := h.cross ht
    simp only [] at h1 h2
    unfold posQ
    rw [fv_way]
    simp only []
    generalize fvQ A B C (cor l i) = f at *
    generalize fvQ A B C (cor l (i + 1)) = g at *
    have hne : f - g ≠ 0 := by
      intro e
      have := (ratio_in h1).1
      rw [e, Rat.div_def, Rat.inv_zero, Rat.mul_zero] at this
      exact Rat.lt_irrefl this
    have hr := Rat.div_mul_cancel (a := f) hne
    rw [← h2] at hr
    grind
  refine ⟨?_, z⟩
  by_cases ht : t = 0
  · subst ht; rw [posQ_zero]; exact h.keep rfl
  · rw [z ht]; exact Rat.le_refl
theorem not_both {A B C : Rat} {l : List (Rat × Rat)} {i : Nat} (h1 : fvQ A B C (cor l i) ≤ 0) (h2 : fvQ A B C (cor l (i + 1)) ≤ 0) : ¬ fvQ A B C (cor l i) * fvQ A B C (cor l (i + 1)) < 0 := by
  intro h
  have := Rat.mul_nonneg (show 0 ≤ -fvQ A B C (cor l i) by grind) (show 0 ≤ -fvQ A B C (cor l (i + 1)) by grind)
  grind
theorem Tri.cut {A B C : Rat} {l : List (Rat × Rat)} (h : Tri l) (h3 : 3 ≤ l.length) : Tri (cutQ A B C l) := by
  intro a b c hs
  obtain ⟨qs, hq, e⟩ := List.sublist_map_iff.1 hs
  match qs, hq, e with
  | [(i, r), (j, s), (k, t)], hq, e =>
    simp at e
    obtain ⟨rfl, rfl, rfl⟩ := e
    have P1 := mem_cutT (hq.subset (by simp : (i, r) ∈ [(i, r), (j, s), (k, t)]))
    have P2 := mem_cutT (hq.subset (by simp : (j, s) ∈ [(i, r), (j, s), (k, t)]))
    have P3 := mem_cutT (hq.subset (by simp : (k, t) ∈ [(i, r), (j, s), (k, t)]))
    have hp := (cutT_sorted A B C l).sublist hq
    simp at hp
    obtain ⟨⟨o1, _⟩, o2⟩ := hp
    obtain ⟨l1, a1, b1, c1, d1⟩ := P1
    obtain ⟨l2, a2, b2, c2, d2⟩ := P2
    obtain ⟨l3, a3, b3, c3, d3⟩ := P3
    simp only [] at l1 a1 b1 c1 d1 l2 a2 b2 c2 d2 l3 a3 b3 c3 d3
    have W := fun (x y z : Nat) (h1 : x ≤ y) (h2 : y ≤ z) (h3 : z ≤ l.length) => h.wrap0 h1 h2 h3
    unfold posQ
    simp only []
    rcases o1 with o1 | ⟨rfl, rfl, hs0⟩
    · rcases o2 with o2 | ⟨rfl, rfl, ht0⟩
      · -- three sides
        rw [cross_way1]
        have rest : ∀ x, x ≤ j → 0 ≤ crossQ (cor l x) (wayQ (cor l j) (cor l (j + 1)) s) (wayQ (cor l k) (cor l (k + 1)) t) := fun x hx => by
          rw [cross_way2]
          refine mix_nonneg a2 b2 ?_ ?_
          · rw [cross_way3]; exact mix_nonneg a3 b3 (W _ _ _ hx (by omega) (by omega)) (W _ _ _ hx (by omega) (by omega))
          · rw [cross_way3]; exact mix_nonneg a3 b3 (W _ _ _ (by omega) (by omega) (by omega)) (W _ _ _ (by omega) (by omega) (by omega))
        refine mix_pos a1 b1 ?_ (rest _ (by omega))
        rw [cross_way2]
        refine mix_pos a2 b2 ?_ ?_
        · rw [cross_way3]
          exact mix_pos a3 b3 (h.at o1 o2 l3) (W _ _ _ (by omega) (by omega) (by omega))
        · rw [cross_way3]; exact mix_nonneg a3 b3 (W _ _ _ (by omega) (by omega) (by omega)) (W _ _ _ (by omega) (by omega) (by omega))
      · -- the last two on one side
        have ht1 : 0 < t := by grind
        obtain ⟨hx, _⟩ := d3 ht0
        rw [wayQ_zero, cross_way3]
        have z : crossQ (wayQ (cor l i) (cor l (i + 1)) r) (cor l j) (cor l j) = 0 := crossQ_abb _ _
        rw [z]
        have main : 0 < crossQ (wayQ (cor l i) (cor l (i + 1)) r) (cor l j) (cor l (j + 1)) := by
          rw [cross_way1]
          by_cases hw : i = 0 ∧ j + 1 = l.length
          · obtain ⟨rfl, hj⟩ := hw
            have hr0 : r ≠ 0 := by
              intro e
              have k1 := c1 e
              have ej : cor l (j + 1) = cor l 0 := by rw [hj]; have := cor_add l 0; rwa [Nat.zero_add] at this
              rw [ej] at hx
              have k2 := c2 rfl
              exact not_both (A := A) (B := B) (C := C) (l := l) (i := j) k2 (by rw [ej]; exact k1) (by rw [ej]; exact hx)
            exact mix_pos' (by grind) b1 (W _ _ _ (by omega) (by omega) (by omega)) (h.wrap (by omega) (by omega) (by omega) (by omega))
          · exact mix_pos a1 b1 (h.wrap o1 (by omega) (by omega) hw) (W _ _ _ (by omega) (by omega) (by omega))
        have := Rat.mul_pos ht1 main
        grind
    · -- the first two on one side
      have hs1 : 0 < s := by grind
      obtain ⟨hx, _⟩ := d2 hs0
      rcases o2 with o2 | ⟨_, e0, _⟩
      · rw [wayQ_zero, cross_way2]
        have z : crossQ (cor l i) (cor l i) (wayQ (cor l k) (cor l (k + 1)) t) = 0 := crossQ_aab _ _
        rw [z]
        have main : 0 < crossQ (cor l i) (cor l (i + 1)) (wayQ (cor l k) (cor l (k + 1)) t) := by
          rw [cross_way3]
          by_cases hk : k = i + 1
          · subst hk
            have ht0 : t ≠ 0 := by
              intro e
              exact not_both (c1 rfl) (c3 e) hx
            rw [crossQ_abb]
            exact mix_pos' (by grind) b3 Rat.le_refl (h.wrap (by omega) (by omega) (by omega) (by omega))
          · exact mix_pos a3 b3 (h.at (by omega) (by omega) l3) (W _ _ _ (by omega) (by omega) (by omega))
        have := Rat.mul_pos hs1 main
        grind
      · exact absurd e0 hs0
  | [], _, e => simp at e
  | [_], _, e => simp at e
  | [_, _], _, e => simp at e
  | _ :: _ :: _ :: _ :: _, _, e => simp at e
end Go.Proofs.Ytnabdopnlinklaa
/- What lies in a convex polygon that is cut: what lies in it, and in the half-plane. Over no program; written ahead of layer 8's code. -/
namespace Go.Proofs.Ytnabdopnlinklaa
open Go.MagM
section
variable {A B C : Rat} {l : List (Rat × Rat)}
/-- One place comes ahead of another one. -/
def ltP (p q : Nat × Rat) : Prop := p.1 < q.1 ∨ (p.1 = q.1 ∧ p.2 = 0 ∧ q.2 ≠ 0)
theorem ltP_asym {p q : Nat × Rat} (h : ltP p q) : ¬ ltP q p := by
  rintro (h2 | ⟨h2, h3, h4⟩) <;> rcases h with h | ⟨h, h5, h6⟩
  · omega
  · omega
  · omega
  · exact h4 h5
theorem ltP_irr {p : Nat × Rat} : ¬ ltP p p := fun h => ltP_asym h h
theorem sorted_at {i j : Nat} (hij : i < j) (hj : j < (cutT A B C l).length) : ltP ((cutT A B C l)[i]'(by omega)) (cutT A B C l)[j] :=
  List.pairwise_iff_getElem.1 (cutT_sorted A B C l) i j (by omega) hj hij
theorem place_at {i : Nat} (hi : i < (cutT A B C l).length) : Place A B C l (cutT A B C l)[i] := mem_cutT (List.getElem_mem _)
theorem mem_keep {i : Nat} (hi : i < l.length) (h : fvQ A B C (cor l i) ≤ 0) : (i, 0) ∈ cutT A B C l := by
  unfold cutT
  rw [List.mem_flatMap]
  refine ⟨i, List.mem_range.2 hi, ?_⟩
  unfold partT
  rw [if_pos h]; simp
theorem mem_cross {i : Nat} (hi : i < l.length) (h : fvQ A B C (cor l i) * fvQ A B C (cor l (i + 1)) < 0) : (i, fvQ A B C (cor l i) / (fvQ A B C (cor l i) - fvQ A B C (cor l (i + 1)))) ∈ cutT A B C l := by
  unfold cutT
  rw [List.mem_flatMap]
  refine ⟨i, List.mem_range.2 hi, ?_⟩
  unfold partT
  rw [if_pos h]; simp
theorem next_of {k : Nat} (hk : k < (cutT A B C l).length) {c : Nat × Rat} (hc : c ∈ cutT A B C l) (h : ltP (cutT A B C l)[k] c) : ∃ h1 : k + 1 < (cutT A B C l).length, c = (cutT A B C l)[k + 1] ∨ ltP (cutT A B C l)[k + 1] c := by
  obtain ⟨m, hm, rfl⟩ := List.mem_iff_getElem.1 hc
  have hkm : k < m := by
    rcases Nat.lt_trichotomy k m with h1 | h1 | h1
    · exact h1
    · subst h1; exact absurd h ltP_irr
    · exact absurd (sorted_at h1 hk) (ltP_asym h)
  refine ⟨by omega, ?_⟩
  by_cases e : k + 1 = m
  · subst e; exact .inl rfl
  · exact .inr (sorted_at (by omega) hm)
theorem prev_of {k : Nat} (hk : k + 1 < (cutT A B C l).length) {c : Nat × Rat} (hc : c ∈ cutT A B C l) (h : ltP c (cutT A B C l)[k + 1]) : c = (cutT A B C l)[k] ∨ ltP c (cutT A B C l)[k] := by
  obtain ⟨m, hm, rfl⟩ := List.mem_iff_getElem.1 hc
  have hkm : m < k + 1 := by
    rcases Nat.lt_trichotomy m (k + 1) with h1 | h1 | h1
    · exact h1
    · subst h1; exact absurd h ltP_irr
    · exact absurd (sorted_at h1 hm) (ltP_asym h)
  by_cases e : m = k
  · subst e; exact .inl rfl
  · exact .inr (sorted_at (by omega) (by omega))
theorem first_of {c : Nat × Rat} (hc : c ∈ cutT A B C l) : ∃ h : 0 < (cutT A B C l).length, c = (cutT A B C l)[0] ∨ ltP (cutT A B C l)[0] c := by
  obtain ⟨m, hm, rfl⟩ := List.mem_iff_getElem.1 hc
  refine ⟨by omega, ?_⟩
  by_cases e : m = 0
  · subst e; exact .inl rfl
  · exact .inr (sorted_at (by omega) hm)
theorem last_of {k : Nat} (hk : k + 1 = (cutT A B C l).length) {c : Nat × Rat} (hc : c ∈ cutT A B C l) : c = (cutT A B C l)[k] ∨ ltP c (cutT A B C l)[k] := by
  obtain ⟨m, hm, rfl⟩ := List.mem_iff_getElem.1 hc
  by_cases e : m = k
  · subst e; exact .inl rfl
  · exact .inr (sorted_at (by omega) (by omega))
/-- The place behind the k-th one, going round. -/
def nxt (A B C : Rat) (l : List (Rat × Rat)) (k : Nat) : Nat × Rat := (cutT A B C l).getD ((k + 1) % (cutT A B C l).length) (0, 0)
theorem nxt_in {k : Nat} (h : k + 1 < (cutT A B C l).length) : nxt A B C l k = (cutT A B C l)[k + 1] := by
  unfold nxt; rw [Nat.mod_eq_of_lt h, List.getD_eq_getElem?_getD, List.getElem?_eq_getElem h]; rfl
theorem nxt_end {k : Nat} (h : k + 1 = (cutT A B C l).length) (h0 : 0 < (cutT A B C l).length) : nxt A B C l k = (cutT A B C l)[0] := by
  unfold nxt; rw [h, Nat.mod_self, List.getD_eq_getElem?_getD, List.getElem?_eq_getElem h0]; rfl
/-- Behind a corner that lies strictly within the half-plane one goes on along its side. -/
theorem next_side (h3 : 3 ≤ l.length) {k : Nat} (hk : k < (cutT A B C l).length) (hf : fvQ A B C (posQ l (cutT A B C l)[k]) < 0) :
    ∃ i t, i < l.length ∧ 0 ≤ t ∧ posQ l (cutT A B C l)[k] = cor l i ∧ posQ l (nxt A B C l k) = wayQ (cor l i) (cor l (i + 1)) t := by
  have P := place_at hk
  obtain ⟨i, r, hq⟩ : ∃ i r, (cutT A B C l)[k] = (i, r) := ⟨_, _, rfl⟩
  rw [hq] at P hf
  have hr : r = 0 := by
    by_cases h : r = 0
    · exact h
    · have := (fv_pos_le P).2 h; rw [this] at hf; exact absurd hf Rat.lt_irrefl
  subst hr
  rw [posQ_zero] at hf
  have hi := P.lt
  simp only [] at hi
  by_cases hx : fvQ A B C (cor l i) * fvQ A B C (cor l (i + 1)) < 0
  · have hc := mem_cross hi hx
    have ht := ratio_in hx
    generalize fvQ A B C (cor l i) / (fvQ A B C (cor l i) - fvQ A B C (cor l (i + 1))) = t at *
    obtain ⟨h1, h2⟩ := next_of hk hc (by rw [hq]; exact .inr ⟨rfl, rfl, by simp only []; grind⟩)
    refine ⟨i, t, hi, by grind, by rw [hq]; exact posQ_zero _ _, ?_⟩
    rw [nxt_in h1]
    rcases h2 with h2 | h2
    · rw [← h2]; rfl
    · exfalso
      have h4 := sorted_at (A := A) (B := B) (C := C) (l := l) (Nat.lt_succ_self k) h1
      rw [hq] at h4
      generalize (cutT A B C l)[k + 1] = z at *
      rcases h4 with h4 | ⟨h4, _, h5⟩ <;> rcases h2 with h2 | ⟨h2, h6, _⟩
      · simp only [] at h2 h4; omega
      · simp only [] at h2 h4; omega
      · simp only [] at h2 h4; omega
      · exact h5 h6
  · have hf1 : fvQ A B C (cor l (i + 1)) ≤ 0 := by
      by_cases h : fvQ A B C (cor l (i + 1)) ≤ 0
      · exact h
      · have := Rat.mul_pos (show 0 < -fvQ A B C (cor l i) by grind) (show 0 < fvQ A B C (cor l (i + 1)) by grind)
        exact absurd (show fvQ A B C (cor l i) * fvQ A B C (cor l (i + 1)) < 0 by grind) hx
    have nocross : ∀ t, (i, t) ∈ cutT A B C l → t = 0 := fun t ht => by
      by_cases h : t = 0
      · exact h
      · exact absurd ((mem_cutT ht).cross h).1 hx
    refine ⟨i, 1, hi, by decide, by rw [hq]; exact posQ_zero _ _, ?_⟩
    have e1 : wayQ (cor l i) (cor l (i + 1)) 1 = cor l (i + 1) := by unfold wayQ; exact Prod.ext (by simp only []; grind) (by simp only []; grind)
    rw [e1]
    by_cases hn : i + 1 < l.length
    · have hc := mem_keep hn hf1
      obtain ⟨h1, h2⟩ := next_of hk hc (by rw [hq]; exact .inl (Nat.lt_succ_self i))
      rw [nxt_in h1]
      rcases h2 with h2 | h2
      · rw [← h2]; exact posQ_zero _ _
      · exfalso
        have h4 := sorted_at (A := A) (B := B) (C := C) (l := l) (Nat.lt_succ_self k) h1
        have hm : (cutT A B C l)[k + 1] ∈ cutT A B C l := List.getElem_mem _
        rw [hq] at h4
        obtain ⟨zi, zt, hz⟩ : ∃ zi zt, (cutT A B C l)[k + 1] = (zi, zt) := ⟨_, _, rfl⟩
        rw [hz] at h2 h4 hm
        rcases h4 with h4 | ⟨h4, _, h5⟩ <;> rcases h2 with h2 | ⟨h2, h6, h7⟩
        · simp only [] at h2 h4; omega
        · exact h7 rfl
        · simp only [] at h4; subst h4; exact h5 (nocross _ hm)
        · exact h7 rfl
    · have e0 : cor l (i + 1) = cor l 0 := by rw [show i + 1 = 0 + l.length by omega]; exact cor_add l 0
      rw [e0] at hf1 ⊢
      have hc := mem_keep (by omega) hf1
      have hlast : k + 1 = (cutT A B C l).length := by
        by_cases h : k + 1 < (cutT A B C l).length
        · exfalso
          have h4 := sorted_at (A := A) (B := B) (C := C) (l := l) (Nat.lt_succ_self k) h
          have P2 := place_at h
          have hm : (cutT A B C l)[k + 1] ∈ cutT A B C l := List.getElem_mem _
          rw [hq] at h4
          obtain ⟨zi, zt, hz⟩ : ∃ zi zt, (cutT A B C l)[k + 1] = (zi, zt) := ⟨_, _, rfl⟩
          rw [hz] at h4 P2 hm
          have := P2.lt
          simp only [] at this
          rcases h4 with h4 | ⟨h4, _, h5⟩
          · simp only [] at h4; omega
          · simp only [] at h4; subst h4; exact h5 (nocross _ hm)
        · omega
      obtain ⟨h1, h2⟩ := first_of hc
      rw [nxt_end hlast h1]
      rcases h2 with h2 | h2
      · rw [← h2]; exact posQ_zero _ _
      · exfalso
        rcases h2 with h2 | ⟨_, _, h2⟩
        · simp only [] at h2; omega
        · exact h2 rfl
/-- One comes to a corner that lies strictly within along the side ahead of it. -/
theorem prev_side (h3 : 3 ≤ l.length) {k : Nat} (hk : k < (cutT A B C l).length) (hf : fvQ A B C (posQ l (nxt A B C l k)) < 0) :
    ∃ i t, i < l.length ∧ t ≤ 1 ∧ posQ l (cutT A B C l)[k] = wayQ (cor l i) (cor l (i + 1)) t ∧ posQ l (nxt A B C l k) = cor l (i + 1) := by
  -- the place behind, and its side
  have hm : nxt A B C l k ∈ cutT A B C l := by
    by_cases h : k + 1 < (cutT A B C l).length
    · rw [nxt_in h]; exact List.getElem_mem _
    · rw [nxt_end (by omega) (by omega)]; exact List.getElem_mem _
  have P := mem_cutT hm
  obtain ⟨j, r, hq⟩ : ∃ j r, nxt A B C l k = (j, r) := ⟨_, _, rfl⟩
  rw [hq] at P hf
  have hr : r = 0 := by
    by_cases h : r = 0
    · exact h
    · have := (fv_pos_le P).2 h; rw [this] at hf; exact absurd hf Rat.lt_irrefl
  subst hr
  rw [posQ_zero] at hf
  have hj := P.lt
  simp only [] at hj
  obtain ⟨i, hi, hij⟩ : ∃ i, i < l.length ∧ cor l (i + 1) = cor l j ∧ (i + 1 = j ∨ (j = 0 ∧ i + 1 = l.length)) := by
    by_cases h0 : j = 0
    · subst h0
      refine ⟨l.length - 1, by omega, ?_, .inr ⟨rfl, by omega⟩⟩
      rw [show l.length - 1 + 1 = 0 + l.length by omega]; exact cor_add l 0
    · exact ⟨j - 1, by omega, by rw [show j - 1 + 1 = j by omega], .inl (by omega)⟩
  obtain ⟨ej, hij⟩ := hij
  -- the place ahead: where side i is crossed, or its beginning
  obtain ⟨t, hc, ht1, hno⟩ : ∃ t, (i, t) ∈ cutT A B C l ∧ t ≤ 1 ∧ (t = 0 → ∀ s, (i, s) ∈ cutT A B C l → s = 0) := by
    by_cases hx : fvQ A B C (cor l i) * fvQ A B C (cor l (i + 1)) < 0
    · have ht := ratio_in hx
      exact ⟨_, mem_cross hi hx, Rat.le_of_lt ht.2, fun h0 => absurd h0 (by intro e; rw [e] at ht; exact Rat.lt_irrefl ht.1)⟩
    · have hf1 : fvQ A B C (cor l i) ≤ 0 := by
        by_cases h : fvQ A B C (cor l i) ≤ 0
        · exact h
        · rw [ej] at hx
          have := Rat.mul_pos (show 0 < fvQ A B C (cor l i) by grind) (show 0 < -fvQ A B C (cor l j) by grind)
          exact absurd (show fvQ A B C (cor l i) * fvQ A B C (cor l j) < 0 by grind) hx
      exact ⟨0, mem_keep hi hf1, by decide, fun _ s hs => by
        by_cases h : s = 0
        · exact h
        · exact absurd ((mem_cutT hs).cross h).1 hx⟩
  have hk2 : (cutT A B C l)[k] ∈ cutT A B C l := List.getElem_mem _
  have key : (cutT A B C l)[k] = (i, t) := by
    by_cases hl : k + 1 < (cutT A B C l).length
    · have h4 := sorted_at (A := A) (B := B) (C := C) (l := l) (Nat.lt_succ_self k) hl
      rw [nxt_in hl] at hq
      rw [hq] at h4
      have hij2 : i + 1 = j := by
        rcases hij with h | ⟨h, _⟩
        · exact h
        · exfalso; subst h
          rcases h4 with h4 | ⟨_, _, h5⟩
          · simp only [] at h4; omega
          · exact h5 rfl
      rcases prev_of hl hc (by rw [hq]; exact .inl (by simp only []; omega)) with h | h
      · exact h.symm
      · exfalso
        obtain ⟨zi, zt, hz⟩ : ∃ zi zt, (cutT A B C l)[k] = (zi, zt) := ⟨_, _, rfl⟩
        rw [hz] at h h4 hk2
        rcases h4 with h4 | ⟨_, _, h5⟩
        · rcases h with h | ⟨h, h6, h7⟩
          · simp only [] at h h4; omega
          · simp only [] at h h6 h7; subst h; exact h7 (hno h6 _ hk2)
        · exact h5 rfl
    · have hl' : k + 1 = (cutT A B C l).length := by omega
      rw [nxt_end hl' (by omega)] at hq
      have hij2 : j = 0 ∧ i + 1 = l.length := by
        rcases hij with h | h
        · exfalso
          obtain ⟨_, h2⟩ := first_of hc
          rw [hq] at h2
          rcases h2 with h2 | h2 | ⟨h2, _, _⟩
          · simp at h2; omega
          · simp only [] at h2; omega
          · simp only [] at h2; omega
        · exact h
      rcases last_of hl' hc with h | h
      · exact h.symm
      · exfalso
        obtain ⟨zi, zt, hz⟩ : ∃ zi zt, (cutT A B C l)[k] = (zi, zt) := ⟨_, _, rfl⟩
        rw [hz] at h hk2
        have := (mem_cutT hk2).lt
        simp only [] at this
        rcases h with h | ⟨h, h6, h7⟩
        · simp only [] at h; omega
        · simp only [] at h h6 h7; subst h; exact h7 (hno h6 _ hk2)
  refine ⟨i, t, hi, ht1, by rw [key]; rfl, ?_⟩
  rw [hq, posQ_zero, ej]
theorem cor_cut {k : Nat} (hk : k < (cutT A B C l).length) : cor (cutQ A B C l) k = posQ l (cutT A B C l)[k] := by
  have : k < (cutQ A B C l).length := by unfold cutQ; rwa [List.length_map]
  rw [cor_get this]; simp [cutQ]
theorem cor_cut' {k : Nat} (hk : k < (cutT A B C l).length) : cor (cutQ A B C l) (k + 1) = posQ l (nxt A B C l k) := by
  have hl : (cutQ A B C l).length = (cutT A B C l).length := by unfold cutQ; rw [List.length_map]
  by_cases h : k + 1 < (cutT A B C l).length
  · rw [cor_cut h, nxt_in h]
  · have e : k + 1 = 0 + (cutQ A B C l).length := by omega
    rw [e, cor_add, cor_cut (by omega), nxt_end (by omega) (by omega)]
end
end Go.Proofs.Ytnabdopnlinklaa
/- A polygon that is cut: three corners or more; the areas of both halves. Over no program; written ahead of layer 8's code. -/
namespace Go.Proofs.Ytnabdopnlinklaa
open Go.MagM
theorem three_mem {α : Type} {L : List α} {a b c : α} (ha : a ∈ L) (hb : b ∈ L) (hc : c ∈ L) (h1 : a ≠ b) (h2 : a ≠ c) (h3 : b ≠ c) : 3 ≤ L.length := by
  obtain ⟨i, hi, rfl⟩ := List.mem_iff_getElem.1 ha
  obtain ⟨j, hj, rfl⟩ := List.mem_iff_getElem.1 hb
  obtain ⟨k, hk, rfl⟩ := List.mem_iff_getElem.1 hc
  have e1 : i ≠ j := fun e => h1 (by subst e; rfl)
  have e2 : i ≠ k := fun e => h2 (by subst e; rfl)
  have e3 : j ≠ k := fun e => h3 (by subst e; rfl)
  omega
theorem mod_next {n i : Nat} (_h3 : 3 ≤ n) (hi : i < n) : ((i + 1 < n ∧ (i + 1) % n = i + 1) ∨ (i + 1 = n ∧ (i + 1) % n = 0)) := by
  by_cases h : i + 1 < n
  · exact .inl ⟨h, Nat.mod_eq_of_lt h⟩
  · have e : i + 1 = n := by omega
    exact .inr ⟨e, by rw [e, Nat.mod_self]⟩
/-- If a corner lies strictly within, three corners or more are left. -/
theorem cut_three {A B C : Rat} {l : List (Rat × Rat)} (h3 : 3 ≤ l.length) {i : Nat} (hi : i < l.length) (hf : fvQ A B C (cor l i) < 0) : 3 ≤ (cutQ A B C l).length := by
  unfold cutQ
  rw [List.length_map]
  have m0 := mem_keep (A := A) (B := B) (C := C) hi (Rat.le_of_lt hf)
  -- behind it
  obtain ⟨p, hp, hp1⟩ : ∃ p, p ∈ cutT A B C l ∧ ((p.1 = i ∧ p.2 ≠ 0) ∨ (p.1 = (i + 1) % l.length ∧ p.2 = 0)) := by
    by_cases hx : fvQ A B C (cor l i) * fvQ A B C (cor l (i + 1)) < 0
    · have := (ratio_in hx).1
      exact ⟨_, mem_cross hi hx, .inl ⟨rfl, by simp only []; grind⟩⟩
    · have hf1 : fvQ A B C (cor l ((i + 1) % l.length)) ≤ 0 := by
        rw [cor_mod]
        by_cases h : fvQ A B C (cor l (i + 1)) ≤ 0
        · exact h
        · have := Rat.mul_pos (show 0 < -fvQ A B C (cor l i) by grind) (show 0 < fvQ A B C (cor l (i + 1)) by grind)
          exact absurd (show fvQ A B C (cor l i) * fvQ A B C (cor l (i + 1)) < 0 by grind) hx
      exact ⟨_, mem_keep (Nat.mod_lt _ (by omega)) hf1, .inr ⟨rfl, rfl⟩⟩
  -- ahead of it
  obtain ⟨j, hj, hji⟩ : ∃ j, j < l.length ∧ (j + 1) % l.length = i := by
    by_cases h0 : i = 0
    · subst h0; exact ⟨l.length - 1, by omega, by rw [show l.length - 1 + 1 = l.length by omega, Nat.mod_self]⟩
    · exact ⟨i - 1, by omega, by rw [show i - 1 + 1 = i by omega, Nat.mod_eq_of_lt hi]⟩
  obtain ⟨q, hq, hq1⟩ : ∃ q, q ∈ cutT A B C l ∧ q.1 = j := by
    have ej : cor l (j + 1) = cor l i := by rw [← cor_mod, hji]
    by_cases hx : fvQ A B C (cor l j) * fvQ A B C (cor l (j + 1)) < 0
    · exact ⟨_, mem_cross hj hx, rfl⟩
    · have hf1 : fvQ A B C (cor l j) ≤ 0 := by
        by_cases h : fvQ A B C (cor l j) ≤ 0
        · exact h
        · rw [ej] at hx
          have := Rat.mul_pos (show 0 < fvQ A B C (cor l j) by grind) (show 0 < -fvQ A B C (cor l i) by grind)
          exact absurd (show fvQ A B C (cor l j) * fvQ A B C (cor l i) < 0 by grind) hx
      exact ⟨_, mem_keep hj hf1, rfl⟩
  have n1 := mod_next h3 hi
  have n2 := mod_next h3 hj
  refine three_mem m0 hp hq (fun e => ?_) (fun e => ?_) (fun e => ?_)
  · subst e
    rcases hp1 with ⟨_, h⟩ | ⟨h, _⟩
    · exact h rfl
    · simp only [] at h; omega
  · subst e; simp only [] at hq1; omega
  · subst e
    rcases hp1 with ⟨h, _⟩ | ⟨h, _⟩ <;> omega
section
variable (A B C : Rat)
end
section
variable {A B C : Rat}
end
end Go.Proofs.Ytnabdopnlinklaa
/- A polygon that is cut, none if there is no area; cut by several half-planes. Over no program; written ahead of layer 8's code. -/
namespace Go.Proofs.Ytnabdopnlinklaa
open Go.MagM
def clipQ (A B C : Rat) (l : List (Rat × Rat)) : List (Rat × Rat) := if ∃ i, i < l.length ∧ fvQ A B C (cor l i) < 0 then cutQ A B C l else []
theorem clipQ_pos {A B C : Rat} {l : List (Rat × Rat)} (h : ∃ i, i < l.length ∧ fvQ A B C (cor l i) < 0) : clipQ A B C l = cutQ A B C l := if_pos h
theorem clipQ_neg {A B C : Rat} {l : List (Rat × Rat)} (h : ¬ ∃ i, i < l.length ∧ fvQ A B C (cor l i) < 0) : clipQ A B C l = [] := if_neg h
theorem clip_conv {A B C : Rat} {l : List (Rat × Rat)} (hl : Conv l) (h : clipQ A B C l ≠ []) : Conv (clipQ A B C l) := by
  by_cases k : ∃ i, i < l.length ∧ fvQ A B C (cor l i) < 0
  · rw [clipQ_pos k]
    obtain ⟨i, hi, hf⟩ := k
    exact (hl.tri.cut hl.1).conv (cut_three hl.1 hi hf)
  · exact absurd (clipQ_neg k) h
def Half0 (h : Rat × Rat × Rat) : Prop := h.1 ≠ 0 ∨ h.2.1 ≠ 0
theorem clip_nil {A B C : Rat} : clipQ A B C [] = [] := clipQ_neg (fun ⟨_, h, _⟩ => by simp at h)
end Go.Proofs.Ytnabdopnlinklaa
/- The cells of points fill a polygon. Over no program; written ahead of layer 8's code. -/
namespace Go.Proofs.Ytnabdopnlinklaa
open Go.MagM
def Conv0 (l : List (Rat × Rat)) : Prop := l = [] ∨ Conv l
end Go.Proofs.Ytnabdopnlinklaa
/- What is left of a polygon that is cut, as a list; how many corners it has; on which lines its sides lie. Over no program. -/
namespace Go.Proofs.Ytnabdopnlinklaa
open Go.MagM
theorem cor_mem {l : List (Rat × Rat)} {i : Nat} (h : 0 < l.length) : cor l i ∈ l := by
  have hi := Nat.mod_lt i h
  rw [← cor_mod, cor_get hi]
  exact List.getElem_mem hi
theorem cut_le {A B C : Rat} {l : List (Rat × Rat)} {p : Rat × Rat} (h : p ∈ cutQ A B C l) : fvQ A B C p ≤ 0 := by
  unfold cutQ at h
  obtain ⟨q, hq, rfl⟩ := List.mem_map.1 h
  exact (fv_pos_le (mem_cutT hq)).1
theorem clip_conv0 {A B C : Rat} {l : List (Rat × Rat)} (hl : Conv0 l) : Conv0 (clipQ A B C l) := by
  rcases hl with rfl | hl
  · rw [clip_nil]; exact .inl rfl
  · by_cases h : clipQ A B C l = []
    · exact .inl h
    · exact .inr (clip_conv hl h)
/-- Each side lies on the line of one of these half-planes. -/
def OnH (h : Rat × Rat × Rat) (p : Rat × Rat) : Prop := fvQ h.1 h.2.1 h.2.2 p = 0
def Lined (S : Rat × Rat × Rat → Prop) (l : List (Rat × Rat)) : Prop := ∀ i, i < l.length → ∃ h, S h ∧ Half0 h ∧ OnH h (cor l i) ∧ OnH h (cor l (i + 1))
theorem on_way {h : Rat × Rat × Rat} {a b : Rat × Rat} {t : Rat} (ha : OnH h a) (hb : OnH h b) : OnH h (wayQ a b t) := by
  unfold OnH at *; rw [fv_way, ha, hb]; grind
theorem Lined.cut {S : Rat × Rat × Rat → Prop} {A B C : Rat} {l : List (Rat × Rat)} (hS : S (A, B, C)) (hAB : A ≠ 0 ∨ B ≠ 0) (hl : Lined S l) (hc : Conv l) : Lined S (cutQ A B C l) := by
  intro k hk
  have hk' : k < (cutT A B C l).length := by unfold cutQ at hk; rwa [List.length_map] at hk
  rw [cor_cut hk', cor_cut' hk']
  by_cases h1 : fvQ A B C (posQ l (cutT A B C l)[k]) < 0
  · obtain ⟨i, t, hi, _, e1, e2⟩ := next_side hc.1 hk' h1
    obtain ⟨h, a, b, c, d⟩ := hl i hi
    exact ⟨h, a, b, by rw [e1]; exact c, by rw [e2]; exact on_way c d⟩
  · by_cases h2 : fvQ A B C (posQ l (nxt A B C l k)) < 0
    · obtain ⟨i, t, hi, _, e1, e2⟩ := prev_side hc.1 hk' h2
      obtain ⟨h, a, b, c, d⟩ := hl i hi
      exact ⟨h, a, b, by rw [e1]; exact on_way c d, by rw [e2]; exact d⟩
    · have m1 := cut_le (A := A) (B := B) (C := C) (l := l) (p := posQ l (cutT A B C l)[k]) (by unfold cutQ; exact List.mem_map_of_mem (List.getElem_mem _))
      have m2 : fvQ A B C (posQ l (nxt A B C l k)) ≤ 0 := by
        rw [← cor_cut' hk']; exact cut_le (cor_mem (by omega))
      exact ⟨(A, B, C), hS, hAB, Rat.le_antisymm m1 (by grind), Rat.le_antisymm m2 (by grind)⟩
theorem Lined.nil (S : Rat × Rat × Rat → Prop) : Lined S [] := fun i hi => by simp at hi
theorem Lined.clip {S : Rat × Rat × Rat → Prop} {A B C : Rat} {l : List (Rat × Rat)} (hS : S (A, B, C)) (hAB : A ≠ 0 ∨ B ≠ 0) (hl : Lined S l) (hc : Conv0 l) : Lined S (clipQ A B C l) := by
  rcases hc with rfl | hc
  · rw [clip_nil]; exact Lined.nil S
  · by_cases k : ∃ i, i < l.length ∧ fvQ A B C (cor l i) < 0
    · rw [clipQ_pos k]; exact hl.cut hS hAB hc
    · rw [clipQ_neg k]; exact Lined.nil S
/-- A corner is where two of the lines meet. -/
theorem two_lines {S : Rat × Rat × Rat → Prop} {l : List (Rat × Rat)} (hl : Lined S l) (hc : Conv l) {i : Nat} (hi : i < l.length) :
    ∃ h k, S h ∧ S k ∧ OnH h (cor l i) ∧ OnH k (cor l i) ∧ h.1 * k.2.1 - k.1 * h.2.1 ≠ 0 := by
  obtain ⟨j, hj, hji⟩ : ∃ j, j < l.length ∧ (j + 1) % l.length = i := by
    by_cases h0 : i = 0
    · subst h0; exact ⟨l.length - 1, by omega, by rw [show l.length - 1 + 1 = l.length by omega, Nat.mod_self]⟩
    · exact ⟨i - 1, by omega, by rw [show i - 1 + 1 = i by omega, Nat.mod_eq_of_lt hi]⟩
  have ej : cor l (j + 1) = cor l i := by rw [← cor_mod, hji]
  obtain ⟨h, h1, h2, h3, h4⟩ := hl j hj
  obtain ⟨k, k1, k2, k3, k4⟩ := hl i hi
  rw [ej] at h4
  refine ⟨h, k, h1, k1, h4, k3, fun hd => ?_⟩
  have hx : 0 < crossQ (cor l i) (cor l (i + 1)) (cor l j) := by
    have n1 := mod_next hc.1 hi
    have n2 := mod_next hc.1 hj
    have := hc.1
    exact hc.2 i j hi hj (by omega) (by omega)
  generalize cor l i = p at *
  generalize cor l (i + 1) = q at *
  generalize cor l j = r at *
  obtain ⟨A, B, C⟩ := h
  obtain ⟨A', B', C'⟩ := k
  unfold OnH fvQ at *
  simp only [] at *
  have hz : crossQ p q r = 0 := by
    unfold crossQ
    -- the ways p - r, q - p are both upright on (A, B) and (A', B')
    have e1 : A * (r.1 - p.1) + B * (r.2 - p.2) = 0 := by grind
    have e2 : A' * (q.1 - p.1) + B' * (q.2 - p.2) = 0 := by grind
    generalize r.1 - p.1 = u at *
    generalize r.2 - p.2 = v at *
    generalize q.1 - p.1 = x at *
    generalize q.2 - p.2 = y at *
    rcases h2 with hA | hB
    · rcases k2 with hA' | hB'
      · have : A * A' * (x * v - y * u) = 0 := by grind
        rcases Rat.mul_eq_zero.1 this with z | z
        · rcases Rat.mul_eq_zero.1 z with z | z
          · exact absurd z hA
          · exact absurd z hA'
        · exact z
      · have : A * B' * (x * v - y * u) = 0 := by grind
        rcases Rat.mul_eq_zero.1 this with z | z
        · rcases Rat.mul_eq_zero.1 z with z | z
          · exact absurd z hA
          · exact absurd z hB'
        · exact z
    · rcases k2 with hA' | hB'
      · have : B * A' * (x * v - y * u) = 0 := by grind
        rcases Rat.mul_eq_zero.1 this with z | z
        · rcases Rat.mul_eq_zero.1 z with z | z
          · exact absurd z hB
          · exact absurd z hA'
        · exact z
      · have : B * B' * (x * v - y * u) = 0 := by grind
        rcases Rat.mul_eq_zero.1 this with z | z
        · rcases Rat.mul_eq_zero.1 z with z | z
          · exact absurd z hB
          · exact absurd z hB'
        · exact z
  rw [hz] at hx
  exact absurd hx (by decide)
end Go.Proofs.Ytnabdopnlinklaa
/- How large the corners' numbers are: each is where two lines of small numbers meet. -/
namespace Go.MagM
/-- A right number of which both parts are small has few words. -/
theorem RF.short {w : World} {v : Value} {L K : Nat} {q : Rat} (h : RF w v L q) (hn : q.num.natAbs < B ^ K) (hd : q.den < B ^ K) : RF w v K q := by
  obtain ⟨m, ao, n, c, bo, k, d, h1, ⟨m', vm, N, h2, h3, h4, h5⟩, h6⟩ := h
  refine ⟨m, ao, n, c, bo, k, d, h1, ⟨m', vm, N, h2, h3.short ?_, h4, h5⟩, h6.short hd⟩
  have : q.num.natAbs = N := by rw [h4]; unfold sgn; cases m' <;> simp
  omega
/-- q times D is N: its parts are no greater. -/
theorem parts_le {q : Rat} {N D : Int} (hD : D ≠ 0) (h : q * (D : Rat) = (N : Rat)) : q.num.natAbs ≤ N.natAbs ∧ q.den ≤ D.natAbs := by
  have e : q = Rat.divInt N D := by
    have h2 : q = (N : Rat) / (D : Rat) := by
      have hD' : (D : Rat) ≠ 0 := fun e => hD (by exact_mod_cast e)
      rw [← h, Rat.div_def, Rat.mul_assoc, Rat.mul_inv_cancel _ hD', Rat.mul_one]
    rw [h2, Rat.divInt_eq_div]
  have k : q.num * D = N * (q.den : Int) := by
    have := (Rat.divInt_eq_divInt_iff (n₁ := q.num) (n₂ := N) (d₁ := (q.den : Int)) (d₂ := D) (by have := q.den_nz; omega) hD).1 (by rw [← e, Rat.num_divInt_den])
    exact this
  have kn := congrArg Int.natAbs k
  rw [Int.natAbs_mul, Int.natAbs_mul, Int.natAbs_natCast] at kn
  have hc := q.reduced
  have d1 : q.den ∣ D.natAbs := hc.symm.dvd_of_dvd_mul_left ⟨N.natAbs, by rw [kn, Nat.mul_comm]⟩
  have d2 : q.num.natAbs ∣ N.natAbs := hc.dvd_of_dvd_mul_right ⟨D.natAbs, kn.symm⟩
  refine ⟨?_, Nat.le_of_dvd (by omega) d1⟩
  by_cases hN : N = 0
  · subst hN
    rw [Int.natAbs_zero, Nat.zero_mul] at kn
    rcases Nat.mul_eq_zero.1 kn with h0 | h0
    · rw [h0]; exact Nat.zero_le _
    · exact absurd (Int.natAbs_eq_zero.1 h0) hD
  · exact Nat.le_of_dvd (by omega) d2
end Go.MagM
namespace Go.Proofs.Ytnabdopnlinklaa
open Go.MagM
/-- Both parts have one word. -/
def Sml (q : Rat) : Prop := q.num.natAbs < B ∧ q.den < B
def SmlH (h : Rat × Rat × Rat) : Prop := Sml h.1 ∧ Sml h.2.1 ∧ Sml h.2.2
theorem num_den (q : Rat) : q * ((q.den : Int) : Rat) = (q.num : Rat) := by
  have h2 : ((q.den : Int) : Rat) ≠ 0 := fun e => q.den_nz (by exact_mod_cast e)
  have h1 : q = (q.num : Rat) / ((q.den : Int) : Rat) := by
    rw [← Rat.divInt_eq_div, Rat.num_divInt_den]
  have h4 := Rat.div_mul_cancel (a := (q.num : Rat)) h2
  rwa [← h1] at h4
/-- The same half-plane, by whole numbers. -/
theorem whole_half {A B' C : Rat} (hA : Sml A) (hB : Sml B') (hC : Sml C) : ∃ a b c d : Int, d ≠ 0 ∧ A * (d : Rat) = (a : Rat) ∧ B' * (d : Rat) = (b : Rat) ∧ C * (d : Rat) = (c : Rat) ∧ a.natAbs < B ^ 3 ∧ b.natAbs < B ^ 3 ∧ c.natAbs < B ^ 3 := by
  have p : ∀ x y z : Nat, x < B → y < B → z < B → x * y * z < B ^ 3 := by
    intro x y z hx hy hz
    have h1 : x * y ≤ B * B := Nat.mul_le_mul (by omega) (by omega)
    have hB0 : 0 < B := by omega
    calc x * y * z ≤ B * B * z := Nat.mul_le_mul_right _ h1
      _ < B * B * B := Nat.mul_lt_mul_of_pos_left hz (Nat.mul_pos hB0 hB0)
      _ = B ^ 3 := by rw [Nat.pow_succ, Nat.pow_succ, Nat.pow_one]
  refine ⟨A.num * (B'.den : Int) * (C.den : Int), B'.num * (A.den : Int) * (C.den : Int), C.num * (A.den : Int) * (B'.den : Int), (A.den : Int) * (B'.den : Int) * (C.den : Int), ?_, ?_, ?_, ?_, ?_, ?_, ?_⟩
  · have h1 := A.den_nz; have h2 := B'.den_nz; have h3 := C.den_nz
    exact Int.mul_ne_zero (Int.mul_ne_zero (by omega) (by omega)) (by omega)
  · have := num_den A
    rw [Rat.intCast_mul, Rat.intCast_mul, Rat.intCast_mul, Rat.intCast_mul, ← this]; grind
  · have := num_den B'
    rw [Rat.intCast_mul, Rat.intCast_mul, Rat.intCast_mul, Rat.intCast_mul, ← this]; grind
  · have := num_den C
    rw [Rat.intCast_mul, Rat.intCast_mul, Rat.intCast_mul, Rat.intCast_mul, ← this]; grind
  · rw [Int.natAbs_mul, Int.natAbs_mul, Int.natAbs_natCast, Int.natAbs_natCast]; exact p _ _ _ hA.1 hB.2 hC.2
  · rw [Int.natAbs_mul, Int.natAbs_mul, Int.natAbs_natCast, Int.natAbs_natCast]; exact p _ _ _ hB.1 hA.2 hC.2
  · rw [Int.natAbs_mul, Int.natAbs_mul, Int.natAbs_natCast, Int.natAbs_natCast]; exact p _ _ _ hC.1 hA.2 hB.2
theorem det_small {a b c d : Int} {M : Nat} (ha : a.natAbs < M) (hb : b.natAbs < M) (hc : c.natAbs < M) (hd : d.natAbs < M) : (a * b - c * d).natAbs ≤ 2 * (M * M) := by
  have h1 : (a * b).natAbs ≤ M * M := by rw [Int.natAbs_mul]; exact Nat.mul_le_mul (by omega) (by omega)
  have h2 : (c * d).natAbs ≤ M * M := by rw [Int.natAbs_mul]; exact Nat.mul_le_mul (by omega) (by omega)
  omega
theorem seven : 2 * (B ^ 3 * B ^ 3) < B ^ 7 := by
  have hB : 2 < B := by unfold B; omega
  have h : 0 < B ^ 6 := Nat.pow_pos (by omega)
  have e : B ^ 7 = B * B ^ 6 := by rw [Nat.pow_succ, Nat.mul_comm]
  rw [← Nat.pow_add, e]
  exact Nat.mul_lt_mul_of_pos_right hB h
theorem meet_small {A B1 C A' B' C' x y : Rat} (h : SmlH (A, B1, C)) (h' : SmlH (A', B', C')) (hd : A * B' - A' * B1 ≠ 0) (e1 : A * x + B1 * y - C = 0) (e2 : A' * x + B' * y - C' = 0) :
    (x.num.natAbs < B ^ 7 ∧ x.den < B ^ 7) ∧ (y.num.natAbs < B ^ 7 ∧ y.den < B ^ 7) := by
  obtain ⟨a, b, c, d, hd0, ha, hb, hc, sa, sb, sc⟩ := whole_half h.1 h.2.1 h.2.2
  obtain ⟨a', b', c', d', hd0', ha', hb', hc', sa', sb', sc'⟩ := whole_half h'.1 h'.2.1 h'.2.2
  simp only [] at ha hb hc ha' hb' hc'
  have hD : a * b' - a' * b ≠ 0 := by
    intro e
    have e3 : ((a * b' - a' * b : Int) : Rat) = ((0 : Int) : Rat) := by rw [e]
    rw [Rat.intCast_sub, Rat.intCast_mul, Rat.intCast_mul, ← ha, ← hb, ← ha', ← hb'] at e3
    have e4 : (d : Rat) * (d' : Rat) * (A * B' - A' * B1) = 0 := by
      have z : ((0 : Int) : Rat) = 0 := rfl
      rw [z] at e3; grind
    have n1 : (d : Rat) ≠ 0 := fun e => hd0 (by exact_mod_cast e)
    have n2 : (d' : Rat) ≠ 0 := fun e => hd0' (by exact_mod_cast e)
    rcases Rat.mul_eq_zero.1 e4 with z | z
    · rcases Rat.mul_eq_zero.1 z with z | z
      · exact n1 z
      · exact n2 z
    · exact hd z
  have kx : x * ((a * b' - a' * b : Int) : Rat) = ((c * b' - c' * b : Int) : Rat) := by
    rw [Rat.intCast_sub, Rat.intCast_mul, Rat.intCast_mul, Rat.intCast_sub, Rat.intCast_mul, Rat.intCast_mul, ← ha, ← hb, ← ha', ← hb', ← hc, ← hc']; grind
  have ky : y * ((a * b' - a' * b : Int) : Rat) = ((a * c' - a' * c : Int) : Rat) := by
    rw [Rat.intCast_sub, Rat.intCast_mul, Rat.intCast_mul, Rat.intCast_sub, Rat.intCast_mul, Rat.intCast_mul, ← ha, ← hb, ← ha', ← hb', ← hc, ← hc']; grind
  have s := seven
  have px := parts_le hD kx
  have py := parts_le hD ky
  have l1 := det_small sa sb' sa' sb
  have l2 := det_small sc sb' sc' sb
  have l3 := det_small sa sc' sa' sc
  omega
/-- A polygon that comes of small half-planes. -/
def Poly (l : List (Rat × Rat)) : Prop := Conv0 l ∧ Lined SmlH l
theorem Poly.small {l : List (Rat × Rat)} (h : Poly l) {i : Nat} {x y : Rat} (hi : l[i]? = some (x, y)) : (x.num.natAbs < B ^ 7 ∧ x.den < B ^ 7) ∧ (y.num.natAbs < B ^ 7 ∧ y.den < B ^ 7) := by
  obtain ⟨hlt, he⟩ := List.getElem?_eq_some_iff.1 hi
  rcases h.1 with rfl | hc
  · simp at hlt
  · obtain ⟨k, k', s, s', e1, e2, hd⟩ := two_lines h.2 hc hlt
    rw [cor_get hlt, he] at e1 e2
    exact meet_small s s' hd e1 e2
theorem Poly.clip {A B C : Rat} {l : List (Rat × Rat)} (h : Poly l) (hAB : A ≠ 0 ∨ B ≠ 0) (hs : SmlH (A, B, C)) : Poly (clipQ A B C l) := ⟨clip_conv0 h.1, h.2.clip hs hAB h.1⟩
theorem Poly.nil : Poly [] := ⟨.inl rfl, Lined.nil _⟩
end Go.Proofs.Ytnabdopnlinklaa
/- Going round a convex polygon its sides begin to rise once. Over no program. -/
namespace Go.Proofs.Ytnabdopnlinklaa
open Go.MagM
/-- A side that doesn't rise, then one that does. -/
def riseQ (l : List (Rat × Rat)) (i : Nat) : Prop := (cor l (i + 1)).2 ≤ (cor l i).2 ∧ (cor l (i + 1)).2 < (cor l (i + 2)).2
instance (l : List (Rat × Rat)) (i : Nat) : Decidable (riseQ l i) := by unfold riseQ; infer_instance
end Go.Proofs.Ytnabdopnlinklaa
/- A slice of Spots as it comes in. Over no program. -/
namespace Go.MagM
open Go.RowKit
/-- The slice at ao reads as points, right or not. -/
def Raws (w : World) (ao : Option Addr) (l : List (Int × Nat × Int × Nat)) : Prop :=
  ∀ i X D X' D', l[i]? = some (X, D, X', D') → ∃ b o m so sn sc tp tn tc m' so' sn' sc' tp' tn' tc', ao = some ⟨b, o, none⟩ ∧ At6 w b (o + i * 6) (.bool m) (.slice so sn sc) (.slice tp tn tc) (.bool m') (.slice so' sn' sc') (.slice tp' tn' tc') ∧
    (∃ L, FD w (.agg #[.bool m, .slice so sn sc, .slice tp tn tc]) L X D) ∧ (∃ L, FD w (.agg #[.bool m', .slice so' sn' sc', .slice tp' tn' tc']) L X' D')
theorem Raws.below {w w' : World} {ao : Option Addr} {l : List (Int × Nat × Int × Nat)} (h : Raws w ao l) (hb : Below w.heap.size w w') : Raws w' ao l := by
  intro i X D X' D' hi
  obtain ⟨b, o, m, so, sn, sc, tp, tn, tc, m', so', sn', sc', tp', tn', tc', h0, h1, ⟨L, h2⟩, ⟨L', h3⟩⟩ := h i X D X' D' hi
  exact ⟨b, o, m, so, sn, sc, tp, tn, tc, m', so', sn', sc', tp', tn', tc', h0, h1.below hb, ⟨L, h2.below hb⟩, ⟨L', h3.below hb⟩⟩
theorem At6.far {w : World} {b o : Nat} {v0 v1 v2 v3 v4 v5 : Value} (h : At6 w b o v0 v1 v2 v3 v4 v5) {g : Nat} (hne : b ≠ g) (i : Nat) (x : Value) : At6 (w.setCell ⟨g, i, none⟩ x) b o v0 v1 v2 v3 v4 v5 := by
  have e : ∀ j, (w.setCell ⟨g, i, none⟩ x).cell? ⟨b, j, none⟩ = w.cell? ⟨b, j, none⟩ := fun j => World.cell?_setCell_other _ _ _ _ (by intro k; injection k with h1; first | exact hne h1 | exact hne h1.symm)
  exact ⟨(e _).trans h.c0, (e _).trans h.c1, (e _).trans h.c2, (e _).trans h.c3, (e _).trans h.c4, (e _).trans h.c5⟩
theorem At6.farFrom {b o : Nat} {v0 v1 v2 v3 v4 v5 : Value} {g' : Nat} (hne : b ≠ g') : ∀ (xs : List Value) (i : Nat) {w : World}, At6 w b o v0 v1 v2 v3 v4 v5 → At6 (Go.MagM.setAll w g' i xs) b o v0 v1 v2 v3 v4 v5
  | [], _, _, h => h
  | x :: xs, i, _, h => At6.farFrom hne xs (i + 1) (h.far hne i x)
theorem At6.farAll {w : World} {b o : Nat} {v0 v1 v2 v3 v4 v5 : Value} (h : At6 w b o v0 v1 v2 v3 v4 v5) {g' : Nat} (hne : b ≠ g') (xs : List Value) : At6 (Go.MagM.setAll w g' 0 xs) b o v0 v1 v2 v3 v4 v5 := At6.farFrom hne xs 0 h
theorem RowN.farFrom {base : Nat} {e : TypeId} {size : Nat} {v : Value} {n : Nat} {xs : List Value} {g' : Nat} (hne : ∀ k, v.ownBlock = some k → k ≠ g') : ∀ (ys : List Value) (i : Nat) {w : World}, RowN w base e size v n xs → RowN (Go.MagM.setAll w g' i ys) base e size v n xs
  | [], _, _, h => h
  | y :: ys, i, w, h => RowN.farFrom hne ys (i + 1) (h.block fun k hk _ => Below.heap_setCell w ⟨g', i, none⟩ y k (by simpa using hne k hk))
end Go.MagM
/- Rows of right Spots, slices of them. Over any program. -/
namespace Go.MagM
open Go.RowKit
/-- Cells that are Spots, six each. -/
def SrR (w : World) (L : Nat) (xs : List Value) (l : List (Rat × Rat)) : Prop :=
  (∀ u ∈ xs, u.oneCell' = true) ∧ (∀ u ∈ xs, NoWord u) ∧ xs.length = l.length * 6 ∧
  ∀ i x y, l[i]? = some (x, y) → ∃ m so sn sc tp tn tc m' so' sn' sc' tp' tn' tc', xs[i * 6]? = some (.bool m) ∧ xs[i * 6 + 1]? = some (.slice so sn sc) ∧ xs[i * 6 + 2]? = some (.slice tp tn tc) ∧
    xs[i * 6 + 3]? = some (.bool m') ∧ xs[i * 6 + 4]? = some (.slice so' sn' sc') ∧ xs[i * 6 + 5]? = some (.slice tp' tn' tc') ∧ RF w (.agg #[.bool m, .slice so sn sc, .slice tp tn tc]) L x ∧ RF w (.agg #[.bool m', .slice so' sn' sc', .slice tp' tn' tc']) L y
theorem SrR.kept {w w' : World} {L : Nat} {xs : List Value} {l : List (Rat × Rat)} (h : SrR w L xs l) (hk : Kept w w') : SrR w' L xs l :=
  ⟨h.1, h.2.1, h.2.2.1, fun i x y hi => by
    obtain ⟨m, so, sn, sc, tp, tn, tc, m', so', sn', sc', tp', tn', tc', h1, h2, h3, h4, h5, h6, h7, h8⟩ := h.2.2.2 i x y hi
    exact ⟨m, so, sn, sc, tp, tn, tc, m', so', sn', sc', tp', tn', tc', h1, h2, h3, h4, h5, h6, h7.kept hk, h8.kept hk⟩⟩
theorem SrR.below {w w' : World} {L : Nat} {xs : List Value} {l : List (Rat × Rat)} (h : SrR w L xs l) (hb : Below w.heap.size w w') : SrR w' L xs l := h.kept (Kept.below hb)
theorem SrR.drew {w : World} {L : Nat} {xs : List Value} {l : List (Rat × Rat)} (h : SrR w L xs l) : SrR w.drew L xs l := h
theorem SrR.nil (w : World) (L : Nat) : SrR w L [] [] := ⟨by simp, by simp, rfl, fun i x y hi => by simp at hi⟩
theorem SrR.one {w : World} {L : Nat} {m : Bool} {so : Option Addr} {sn sc : Nat} {tp : Option Addr} {tn tc : Nat} {m' : Bool} {so' : Option Addr} {sn' sc' : Nat} {tp' : Option Addr} {tn' tc' : Nat} {x y : Rat}
    (hx : RF w (.agg #[.bool m, .slice so sn sc, .slice tp tn tc]) L x) (hy : RF w (.agg #[.bool m', .slice so' sn' sc', .slice tp' tn' tc']) L y) : SrR w L [.bool m, .slice so sn sc, .slice tp tn tc, .bool m', .slice so' sn' sc', .slice tp' tn' tc'] [(x, y)] := by
  refine ⟨?_, noWord6 _ _ _ _ _ _ _ _ _ _ _ _ _ _, rfl, fun i a b hi => ?_⟩
  · intro u hu; simp at hu; rcases hu with rfl | rfl | rfl | rfl | rfl | rfl <;> rfl
  · have hi' := (List.getElem?_eq_some_iff.1 hi).1
    obtain rfl : i = 0 := by simpa using hi'
    simp at hi
    obtain ⟨rfl, rfl⟩ := hi
    exact ⟨_, _, _, _, _, _, _, _, _, _, _, _, _, _, rfl, rfl, rfl, rfl, rfl, rfl, hx, hy⟩
theorem SrR.append {w : World} {L : Nat} {xs ys : List Value} {l k : List (Rat × Rat)} (h : SrR w L xs l) (h' : SrR w L ys k) : SrR w L (xs ++ ys) (l ++ k) := by
  refine ⟨?_, ?_, ?_, fun i x y hi => ?_⟩
  · intro u hu; rw [List.mem_append] at hu; rcases hu with hu | hu
    · exact h.1 u hu
    · exact h'.1 u hu
  · intro u hu; rw [List.mem_append] at hu; rcases hu with hu | hu
    · exact h.2.1 u hu
    · exact h'.2.1 u hu
  · rw [List.length_append, List.length_append, h.2.2.1, h'.2.2.1, Nat.add_mul]
  · by_cases hlt : i < l.length
    · rw [List.getElem?_append_left hlt] at hi
      have hl := h.2.2.1
      obtain ⟨m, so, sn, sc, tp, tn, tc, m', so', sn', sc', tp', tn', tc', h1, h2, h3, h4, h5, h6, h7⟩ := h.2.2.2 i x y hi
      refine ⟨m, so, sn, sc, tp, tn, tc, m', so', sn', sc', tp', tn', tc', ?_, ?_, ?_, ?_, ?_, ?_, h7⟩ <;> rw [List.getElem?_append_left (by omega)] <;> assumption
    · rw [List.getElem?_append_right (by omega)] at hi
      have hl := h.2.2.1
      obtain ⟨m, so, sn, sc, tp, tn, tc, m', so', sn', sc', tp', tn', tc', h1, h2, h3, h4, h5, h6, h7⟩ := h'.2.2.2 _ x y hi
      refine ⟨m, so, sn, sc, tp, tn, tc, m', so', sn', sc', tp', tn', tc', ?_, ?_, ?_, ?_, ?_, ?_, h7⟩
      · rw [List.getElem?_append_right (by omega), show i * 6 - xs.length = (i - l.length) * 6 by omega]; exact h1
      · rw [List.getElem?_append_right (by omega), show i * 6 + 1 - xs.length = (i - l.length) * 6 + 1 by omega]; exact h2
      · rw [List.getElem?_append_right (by omega), show i * 6 + 2 - xs.length = (i - l.length) * 6 + 2 by omega]; exact h3
      · rw [List.getElem?_append_right (by omega), show i * 6 + 3 - xs.length = (i - l.length) * 6 + 3 by omega]; exact h4
      · rw [List.getElem?_append_right (by omega), show i * 6 + 4 - xs.length = (i - l.length) * 6 + 4 by omega]; exact h5
      · rw [List.getElem?_append_right (by omega), show i * 6 + 5 - xs.length = (i - l.length) * 6 + 5 by omega]; exact h6
/-- One of them, where it lies. -/
theorem SrR.at {w : World} {base : Nat} {e : TypeId} {v : Value} {n L : Nat} {xs : List Value} {l : List (Rat × Rat)} (h : SrR w L xs l) (hr : RowN w base e 6 v n xs) {i : Nat} {x y : Rat} (hi : l[i]? = some (x, y)) :
    ∃ g c m so sn sc tp tn tc m' so' sn' sc' tp' tn' tc', v = .slice (some ⟨g, 0, none⟩) n c ∧ At6 w g (i * 6) (.bool m) (.slice so sn sc) (.slice tp tn tc) (.bool m') (.slice so' sn' sc') (.slice tp' tn' tc') ∧
      RF w (.agg #[.bool m, .slice so sn sc, .slice tp tn tc]) L x ∧ RF w (.agg #[.bool m', .slice so' sn' sc', .slice tp' tn' tc']) L y := by
  obtain ⟨m, so, sn, sc, tp, tn, tc, m', so', sn', sc', tp', tn', tc', h1, h2, h3, h4, h5, h6, h7, h8⟩ := h.2.2.2 i x y hi
  have hl := (List.getElem?_eq_some_iff.1 h1).1
  rcases hr.2 with ⟨rfl, rfl⟩ | ⟨g, cap, cur, rfl, _⟩
  · have := hr.1; omega
  · exact ⟨g, cap, m, so, sn, sc, tp, tn, tc, m', so', sn', sc', tp', tn', tc', rfl, ⟨hr.cells rfl _ _ h1, hr.cells rfl _ _ h2, hr.cells rfl _ _ h3, hr.cells rfl _ _ h4, hr.cells rfl _ _ h5, hr.cells rfl _ _ h6⟩, h7, h8⟩
theorem SrR.more {w : World} {L L' : Nat} {xs : List Value} {l : List (Rat × Rat)} (h : SrR w L xs l) (hL : L ≤ L') : SrR w L' xs l :=
  ⟨h.1, h.2.1, h.2.2.1, fun i x y hi => by
    obtain ⟨m, so, sn, sc, tp, tn, tc, m', so', sn', sc', tp', tn', tc', h1, h2, h3, h4, h5, h6, h7, h8⟩ := h.2.2.2 i x y hi
    exact ⟨m, so, sn, sc, tp, tn, tc, m', so', sn', sc', tp', tn', tc', h1, h2, h3, h4, h5, h6, h7.more hL, h8.more hL⟩⟩
/-- The slice at ao holds right points; each coordinate has at most L words. -/
def SpotsR (w : World) (ao : Option Addr) (L : Nat) (l : List (Rat × Rat)) : Prop :=
  ∀ i x y, l[i]? = some (x, y) → ∃ b o m so sn sc tp tn tc m' so' sn' sc' tp' tn' tc', ao = some ⟨b, o, none⟩ ∧ At6 w b (o + i * 6) (.bool m) (.slice so sn sc) (.slice tp tn tc) (.bool m') (.slice so' sn' sc') (.slice tp' tn' tc') ∧
    RF w (.agg #[.bool m, .slice so sn sc, .slice tp tn tc]) L x ∧ RF w (.agg #[.bool m', .slice so' sn' sc', .slice tp' tn' tc']) L y
theorem SpotsR.below {w w' : World} {ao : Option Addr} {L : Nat} {l : List (Rat × Rat)} (h : SpotsR w ao L l) (hb : Below w.heap.size w w') : SpotsR w' ao L l := by
  intro i x y hi
  obtain ⟨b, o, m, so, sn, sc, tp, tn, tc, m', so', sn', sc', tp', tn', tc', h0, h1, h7, h8⟩ := h i x y hi
  exact ⟨b, o, m, so, sn, sc, tp, tn, tc, m', so', sn', sc', tp', tn', tc', h0, h1.below hb, h7.below hb, h8.below hb⟩
theorem SpotsR.drew {w : World} {ao : Option Addr} {L : Nat} {l : List (Rat × Rat)} (h : SpotsR w ao L l) : SpotsR w.drew ao L l := h.below (Below.refl _ _).drew'
theorem SpotsR.nil (w : World) (ao : Option Addr) (L : Nat) : SpotsR w ao L [] := fun i x y hi => by simp at hi
theorem SpotsR.more {w : World} {ao : Option Addr} {L L' : Nat} {l : List (Rat × Rat)} (h : SpotsR w ao L l) (hL : L ≤ L') : SpotsR w ao L' l := by
  intro i x y hi
  obtain ⟨b, o, m, so, sn, sc, tp, tn, tc, m', so', sn', sc', tp', tn', tc', h0, h1, h7, h8⟩ := h i x y hi
  exact ⟨b, o, m, so, sn, sc, tp, tn, tc, m', so', sn', sc', tp', tn', tc', h0, h1, h7.more hL, h8.more hL⟩
/-- Smaller numbers have fewer words. -/
theorem SpotsR.short {w : World} {ao : Option Addr} {L : Nat} {l : List (Rat × Rat)} (h : SpotsR w ao L l) {K : Nat} (hs : ∀ (i : Nat) (x y : Rat), l[i]? = some (x, y) → (x.num.natAbs < B ^ K ∧ x.den < B ^ K) ∧ (y.num.natAbs < B ^ K ∧ y.den < B ^ K)) : SpotsR w ao K l := by
  intro i x y hi
  obtain ⟨b, o, m, so, sn, sc, tp, tn, tc, m', so', sn', sc', tp', tn', tc', h0, h1, h7, h8⟩ := h i x y hi
  obtain ⟨⟨s1, s2⟩, s3, s4⟩ := hs i x y hi
  exact ⟨b, o, m, so, sn, sc, tp, tn, tc, m', so', sn', sc', tp', tn', tc', h0, h1, h7.short s1 s2, h8.short s3 s4⟩
/-- A call's answer is a slice of right points. -/
def AnsL (w w' : World) (e : Ending) (L : Nat) (l : List (Rat × Rat)) : Prop := ∃ ao c, e = .returned (.slice ao l.length c) ∧ SpotsR w' ao L l ∧ (∀ a, ao = some a → w.heap.size ≤ a.block) ∧ Below w.heap.size w w'
theorem AnsL.of {w w' : World} {e : Ending} {L L' : Nat} {l l' : List (Rat × Rat)} (h : AnsL w w' e L l) (hl : l = l') (hs : ∀ ao, SpotsR w' ao L l → SpotsR w' ao L' l) : AnsL w w' e L' l' := by
  subst hl; obtain ⟨ao, c, h1, h2, h3, h4⟩ := h; exact ⟨ao, c, h1, hs ao h2, h3, h4⟩
/-- The same, its length named. -/
def AnsM (w w' : World) (e : Ending) (L n : Nat) (l : List (Rat × Rat)) : Prop := ∃ ao c, e = .returned (.slice ao n c) ∧ SpotsR w' ao L l ∧ (∀ a, ao = some a → w.heap.size ≤ a.block) ∧ Below w.heap.size w w'
theorem AnsL.m {w w' : World} {e : Ending} {L n : Nat} {l : List (Rat × Rat)} (h : AnsL w w' e L l) (hl : l.length = n) : AnsM w w' e L n l := by subst hl; exact h
/-- Three cells hold these values. -/
structure At3 (w : World) (b o : Nat) (v0 v1 v2 : Value) : Prop where
  c0 : w.cell? ⟨b, o, none⟩ = some v0
  c1 : w.cell? ⟨b, o + 1, none⟩ = some v1
  c2 : w.cell? ⟨b, o + 2, none⟩ = some v2
theorem At3.below {w w' : World} {b o : Nat} {v0 v1 v2 : Value} (h : At3 w b o v0 v1 v2) (hb : Below w.heap.size w w') : At3 w' b o v0 v1 v2 := by
  have hlt := World.block_lt_of_cell? w _ h.c0
  exact ⟨(hb.cell (p := ⟨b, o, none⟩) hlt).trans h.c0, (hb.cell (p := ⟨b, o + 1, none⟩) hlt).trans h.c1, (hb.cell (p := ⟨b, o + 2, none⟩) hlt).trans h.c2⟩
theorem At3.drew {w : World} {b o : Nat} {v0 v1 v2 : Value} (h : At3 w b o v0 v1 v2) : At3 w.drew b o v0 v1 v2 := ⟨h.c0, h.c1, h.c2⟩
theorem At3.grown {w w' : World} {b o : Nat} {v0 v1 v2 : Value} {row : Option Nat} (h : At3 w b o v0 v1 v2) (hg : w.grownBy w' row) (hne : row ≠ some b) : At3 w' b o v0 v1 v2 := by
  have hl := World.block_lt_of_cell? w _ h.c0
  have e := hg.block b hl (fun k => hne k.symm)
  exact ⟨(World.cell?_of_block (a := ⟨b, o, none⟩) e).trans h.c0, (World.cell?_of_block (a := ⟨b, o + 1, none⟩) e).trans h.c1, (World.cell?_of_block (a := ⟨b, o + 2, none⟩) e).trans h.c2⟩
theorem At3.farFrom {b o : Nat} {v0 v1 v2 : Value} {g' : Nat} (hne : b ≠ g') : ∀ (xs : List Value) (i : Nat) {w : World}, At3 w b o v0 v1 v2 → At3 (Go.MagM.setAll w g' i xs) b o v0 v1 v2
  | [], _, _, h => h
  | x :: xs, i, w, h => by
    have e : ∀ j, (w.setCell ⟨g', i, none⟩ x).cell? ⟨b, j, none⟩ = w.cell? ⟨b, j, none⟩ := fun j => World.cell?_setCell_other _ _ _ _ (by intro k; injection k with h1; first | exact hne h1 | exact hne h1.symm)
    exact At3.farFrom hne xs (i + 1) ⟨(e _).trans h.c0, (e _).trans h.c1, (e _).trans h.c2⟩
theorem At3.farAll {w : World} {b o : Nat} {v0 v1 v2 : Value} (h : At3 w b o v0 v1 v2) {g' : Nat} (hne : b ≠ g') (xs : List Value) : At3 (Go.MagM.setAll w g' 0 xs) b o v0 v1 v2 := At3.farFrom hne xs 0 h
/-- One of a row's Fracs, where it lies. -/
theorem Fr.at {w : World} {base : Nat} {e : TypeId} {v : Value} {n L : Nat} {xs : List Value} {l : List Rat} (h : Fr w L xs l) (hr : RowN w base e 3 v n xs) {i : Nat} {q : Rat} (hi : l[i]? = some q) :
    ∃ g c m so sn sc tp tn tc, v = .slice (some ⟨g, 0, none⟩) n c ∧ At3 w g (i * 3) (.bool m) (.slice so sn sc) (.slice tp tn tc) ∧ RF w (.agg #[.bool m, .slice so sn sc, .slice tp tn tc]) L q := by
  obtain ⟨m, so, sn, sc, tp, tn, tc, h1, h2, h3, h4⟩ := h i q hi
  have hl := (List.getElem?_eq_some_iff.1 h1).1
  rcases hr.2 with ⟨rfl, rfl⟩ | ⟨g, cap, cur, rfl, _⟩
  · have := hr.1; omega
  · exact ⟨g, cap, m, so, sn, sc, tp, tn, tc, rfl, ⟨hr.cells rfl _ _ h1, hr.cells rfl _ _ h2, hr.cells rfl _ _ h3⟩, h4⟩
section
variable {P : Program}
end
end Go.MagM
/- The statements' own tame, flat, turned; calls on polygons of small half-planes. -/
namespace Go.Proofs.Ytnabdopnlinklaa
open Go.RowKit Go.MagM
theorem Sml.seven {q : Rat} (h : Sml q) : q.num.natAbs < B ^ 7 ∧ q.den < B ^ 7 := by
  have : B ^ 1 ≤ B ^ 7 := Nat.pow_le_pow_right B_pos (by omega)
  rw [Nat.pow_one] at this
  exact ⟨by have := h.1; omega, by have := h.2; omega⟩
end Go.Proofs.Ytnabdopnlinklaa
/- The calls of clip: Cell. -/
namespace Go.Proofs.Ytnabdopnlinklaa
open Go.RowKit Go.MagM
end Go.Proofs.Ytnabdopnlinklaa
namespace Go.MagM
open Go.RowKit
theorem take_at {l : List (Rat × Rat)} {k : Nat} {p : Rat × Rat} (h : l[k]? = some p) : l.take (k + 1) = l.take k ++ [p] := by
  rw [List.take_succ_eq_append_getElem (List.getElem?_eq_some_iff.1 h).1, (List.getElem?_eq_some_iff.1 h).2]
/-- The cells of a slice of right Spots, as a row. -/
theorem SpotsR.cells {w : World} {g o L : Nat} {l : List (Rat × Rat)} (h : SpotsR w (some ⟨g, o, none⟩) L l) : ∀ k, k ≤ l.length → ∃ xs, SrR w L xs (l.take k) ∧ ∀ j u, xs[j]? = some u → w.cell? ⟨g, o + j, none⟩ = some u
  | 0, _ => ⟨[], SrR.nil _ _, fun j u hu => by simp at hu⟩
  | k + 1, hk => by
    obtain ⟨xs, h1, h2⟩ := SpotsR.cells h k (by omega)
    obtain ⟨⟨x, y⟩, hlk⟩ : ∃ p, l[k]? = some p := ⟨_, List.getElem?_eq_getElem (by omega)⟩
    obtain ⟨b, o', m1x, o1x, n1x, c1x, p1x, k1x, d1x, m1y, o1y, n1y, c1y, p1y, k1y, d1y, hao, dd, hx, hy⟩ := h k x y hlk
    simp at hao
    obtain ⟨rfl, rfl⟩ := hao
    refine ⟨xs ++ [.bool m1x, .slice o1x n1x c1x, .slice p1x k1x d1x, .bool m1y, .slice o1y n1y c1y, .slice p1y k1y d1y], by rw [take_at hlk]; exact h1.append (SrR.one hx hy), fun j u hu => ?_⟩
    have hl := h1.2.2.1
    rw [List.length_take, Nat.min_eq_left (by omega)] at hl
    by_cases hj : j < xs.length
    · rw [List.getElem?_append_left hj] at hu; exact h2 j u hu
    · rw [List.getElem?_append_right (by omega)] at hu
      have hj6 := (List.getElem?_eq_some_iff.1 hu).1
      simp at hj6
      obtain ⟨r, hr⟩ : ∃ r, j = xs.length + r := ⟨j - xs.length, by omega⟩
      subst hr
      rw [Nat.add_sub_cancel_left] at hu
      have hr6 : r < 6 := by omega
      rw [hl]
      obtain rfl | rfl | rfl | rfl | rfl | rfl : r = 0 ∨ r = 1 ∨ r = 2 ∨ r = 3 ∨ r = 4 ∨ r = 5 := by omega
      · simp at hu; subst hu; exact dd.c0
      · simp at hu; subst hu; exact dd.c1
      · simp at hu; subst hu; exact dd.c2
      · simp at hu; subst hu; exact dd.c3
      · simp at hu; subst hu; exact dd.c4
      · simp at hu; subst hu; exact dd.c5
/-- The slice at ao holds these points. -/
def PtsAt (w : World) (ao : Option Addr) (l : List (Int × Int)) : Prop :=
  ∀ i x y, l[i]? = some (x, y) → ∃ b o, ao = some ⟨b, o, none⟩ ∧ w.cell? ⟨b, o + i * 2, none⟩ = some (.int .i64 x) ∧ w.cell? ⟨b, o + i * 2 + 1, none⟩ = some (.int .i64 y)
theorem PtsAt.below {w w' : World} {ao : Option Addr} {l : List (Int × Int)} (h : PtsAt w ao l) (hb : Below w.heap.size w w') : PtsAt w' ao l := by
  intro i x y hi
  obtain ⟨b, o, h0, h1, h2⟩ := h i x y hi
  have hlt := World.block_lt_of_cell? w _ h1
  exact ⟨b, o, h0, (hb.cell (p := ⟨b, o + i * 2, none⟩) hlt).trans h1, (hb.cell (p := ⟨b, o + i * 2 + 1, none⟩) hlt).trans h2⟩
end Go.MagM
namespace Go.Proofs.Ytnabdopnlinklaa
open Go.RowKit Go.MagM
end Go.Proofs.Ytnabdopnlinklaa
/- Sums of two and three, and of none. -/
namespace Go.Proofs.Ytnabdopnlinklaa
open Go.RowKit Go.MagM
theorem Nums.drew {w : World} {ao : Option Addr} {l : List (Nat × Int)} (h : Nums w ao l) : Nums w.drew ao l := h
end Go.Proofs.Ytnabdopnlinklaa
