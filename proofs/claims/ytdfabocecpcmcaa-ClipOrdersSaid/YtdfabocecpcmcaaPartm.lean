/- What lies in a convex polygon that is cut: what lies in it, and in the half-plane. Over no program; written ahead of layer 8's code. -/
import Derived.Test.YtdfabocecpcmcaaPartl
import Derived.Test.YtdfabocecpcmcaaPartk
namespace Go.Proofs.Ytdfabocecpcmcaa
open Go.MagM
section
variable {A B C : Rat} {l : List (Rat × Rat)}
/-- One place comes ahead of another one. -/
def ltP (p q : Nat × Rat) : Prop := p.1 < q.1 ∨ (p.1 = q.1 ∧ p.2 = 0 ∧ q.2 ≠ 0)
theorem ltP_asym {p q : Nat × Rat} (h : ltP p q) : ¬ ltP q p := by
  rintro (h2 | ⟨h2, h3, h4⟩) <;> rcases h with h | ⟨h, h5, h6⟩
  · omega
  · omega
  · omega
  · exact h4 h5
theorem ltP_irr {p : Nat × Rat} : ¬ ltP p p := fun h => ltP_asym h h
theorem sorted_at {i j : Nat} (hij : i < j) (hj : j < (cutT A B C l).length) : ltP ((cutT A B C l)[i]'(by omega)) (cutT A B C l)[j] :=
  List.pairwise_iff_getElem.1 (cutT_sorted A B C l) i j (by omega) hj hij
theorem place_at {i : Nat} (hi : i < (cutT A B C l).length) : Place A B C l (cutT A B C l)[i] := mem_cutT (List.getElem_mem _)
theorem mem_keep {i : Nat} (hi : i < l.length) (h : fvQ A B C (cor l i) ≤ 0) : (i, 0) ∈ cutT A B C l := by
  unfold cutT
  rw [List.mem_flatMap]
  refine ⟨i, List.mem_range.2 hi, ?_⟩
  unfold partT
  rw [if_pos h]; simp
theorem mem_cross {i : Nat} (hi : i < l.length) (h : fvQ A B C (cor l i) * fvQ A B C (cor l (i + 1)) < 0) : (i, fvQ A B C (cor l i) / (fvQ A B C (cor l i) - fvQ A B C (cor l (i + 1)))) ∈ cutT A B C l := by
  unfold cutT
  rw [List.mem_flatMap]
  refine ⟨i, List.mem_range.2 hi, ?_⟩
  unfold partT
  rw [if_pos h]; simp
theorem next_of {k : Nat} (hk : k < (cutT A B C l).length) {c : Nat × Rat} (hc : c ∈ cutT A B C l) (h : ltP (cutT A B C l)[k] c) : ∃ h1 : k + 1 < (cutT A B C l).length, c = (cutT A B C l)[k + 1] ∨ ltP (cutT A B C l)[k + 1] c := by
  obtain ⟨m, hm, rfl⟩ := List.mem_iff_getElem.1 hc
  have hkm : k < m := by
    rcases Nat.lt_trichotomy k m with h1 | h1 | h1
    · exact h1
    · subst h1; exact absurd h ltP_irr
    · exact absurd (sorted_at h1 hk) (ltP_asym h)
  refine ⟨by omega, ?_⟩
  by_cases e : k + 1 = m
  · subst e; exact .inl rfl
  · exact .inr (sorted_at (by omega) hm)
theorem prev_of {k : Nat} (hk : k + 1 < (cutT A B C l).length) {c : Nat × Rat} (hc : c ∈ cutT A B C l) (h : ltP c (cutT A B C l)[k + 1]) : c = (cutT A B C l)[k] ∨ ltP c (cutT A B C l)[k] := by
  obtain ⟨m, hm, rfl⟩ := List.mem_iff_getElem.1 hc
  have hkm : m < k + 1 := by
    rcases Nat.lt_trichotomy m (k + 1) with h1 | h1 | h1
    · exact h1
    · subst h1; exact absurd h ltP_irr
    · exact absurd (sorted_at h1 hm) (ltP_asym h)
  by_cases e : m = k
  · subst e; exact .inl rfl
  · exact .inr (sorted_at (by omega) (by omega))
theorem first_of {c : Nat × Rat} (hc : c ∈ cutT A B C l) : ∃ h : 0 < (cutT A B C l).length, c = (cutT A B C l)[0] ∨ ltP (cutT A B C l)[0] c := by
  obtain ⟨m, hm, rfl⟩ := List.mem_iff_getElem.1 hc
  refine ⟨by omega, ?_⟩
  by_cases e : m = 0
  · subst e; exact .inl rfl
  · exact .inr (sorted_at (by omega) hm)
theorem last_of {k : Nat} (hk : k + 1 = (cutT A B C l).length) {c : Nat × Rat} (hc : c ∈ cutT A B C l) : c = (cutT A B C l)[k] ∨ ltP c (cutT A B C l)[k] := by
  obtain ⟨m, hm, rfl⟩ := List.mem_iff_getElem.1 hc
  by_cases e : m = k
  · subst e; exact .inl rfl
  · exact .inr (sorted_at (by omega) (by omega))
/-- The place behind the k-th one, going round. -/
def nxt (A B C : Rat) (l : List (Rat × Rat)) (k : Nat) : Nat × Rat := (cutT A B C l).getD ((k + 1) % (cutT A B C l).length) (0, 0)
theorem nxt_in {k : Nat} (h : k + 1 < (cutT A B C l).length) : nxt A B C l k = (cutT A B C l)[k + 1] := by
  unfold nxt; rw [Nat.mod_eq_of_lt h, List.getD_eq_getElem?_getD, List.getElem?_eq_getElem h]; rfl
theorem nxt_end {k : Nat} (h : k + 1 = (cutT A B C l).length) (h0 : 0 < (cutT A B C l).length) : nxt A B C l k = (cutT A B C l)[0] := by
  unfold nxt; rw [h, Nat.mod_self, List.getD_eq_getElem?_getD, List.getElem?_eq_getElem h0]; rfl
/-- Behind a corner that lies strictly within the half-plane one goes on along its side. -/
theorem next_side (h3 : 3 ≤ l.length) {k : Nat} (hk : k < (cutT A B C l).length) (hf : fvQ A B C (posQ l (cutT A B C l)[k]) < 0) :
    ∃ i t, i < l.length ∧ 0 ≤ t ∧ posQ l (cutT A B C l)[k] = cor l i ∧ posQ l (nxt A B C l k) = wayQ (cor l i) (cor l (i + 1)) t := by
  have P := place_at hk
  obtain ⟨i, r, hq⟩ : ∃ i r, (cutT A B C l)[k] = (i, r) := ⟨_, _, rfl⟩
  rw [hq] at P hf
  have hr : r = 0 := by
    by_cases h : r = 0
    · exact h
    · have := (fv_pos_le P).2 h; rw [this] at hf; exact absurd hf Rat.lt_irrefl
  subst hr
  rw [posQ_zero] at hf
  have hi := P.lt
  simp only [] at hi
  by_cases hx : fvQ A B C (cor l i) * fvQ A B C (cor l (i + 1)) < 0
  · have hc := mem_cross hi hx
    have ht := ratio_in hx
    generalize fvQ A B C (cor l i) / (fvQ A B C (cor l i) - fvQ A B C (cor l (i + 1))) = t at *
    obtain ⟨h1, h2⟩ := next_of hk hc (by rw [hq]; exact .inr ⟨rfl, rfl, by simp only []; grind⟩)
    refine ⟨i, t, hi, by grind, by rw [hq]; exact posQ_zero _ _, ?_⟩
    rw [nxt_in h1]
    rcases h2 with h2 | h2
    · rw [← h2]; rfl
    · exfalso
      have h4 := sorted_at (A := A) (B := B) (C := C) (l := l) (Nat.lt_succ_self k) h1
      rw [hq] at h4
      generalize (cutT A B C l)[k + 1] = z at *
      rcases h4 with h4 | ⟨h4, _, h5⟩ <;> rcases h2 with h2 | ⟨h2, h6, _⟩
      · simp only [] at h2 h4; omega
      · simp only [] at h2 h4; omega
      · simp only [] at h2 h4; omega
      · exact h5 h6
  · have hf1 : fvQ A B C (cor l (i + 1)) ≤ 0 := by
      by_cases h : fvQ A B C (cor l (i + 1)) ≤ 0
      · exact h
      · have := Rat.mul_pos (show 0 < -fvQ A B C (cor l i) by grind) (show 0 < fvQ A B C (cor l (i + 1)) by grind)
        exact absurd (show fvQ A B C (cor l i) * fvQ A B C (cor l (i + 1)) < 0 by grind) hx
    have nocross : ∀ t, (i, t) ∈ cutT A B C l → t = 0 := fun t ht => by
      by_cases h : t = 0
      · exact h
      · exact absurd ((mem_cutT ht).cross h).1 hx
    refine ⟨i, 1, hi, by decide, by rw [hq]; exact posQ_zero _ _, ?_⟩
    have e1 : wayQ (cor l i) (cor l (i + 1)) 1 = cor l (i + 1) := by unfold wayQ; exact Prod.ext (by simp only []; grind) (by simp only []; grind)
    rw [e1]
    by_cases hn : i + 1 < l.length
    · have hc := mem_keep hn hf1
      obtain ⟨h1, h2⟩ := next_of hk hc (by rw [hq]; exact .inl (Nat.lt_succ_self i))
      rw [nxt_in h1]
      rcases h2 with h2 | h2
      · rw [← h2]; exact posQ_zero _ _
      · exfalso
        have h4 := sorted_at (A := A) (B := B) (C := C) (l := l) (Nat.lt_succ_self k) h1
        have hm : (cutT A B C l)[k + 1] ∈ cutT A B C l := List.getElem_mem _
        rw [hq] at h4
        obtain ⟨zi, zt, hz⟩ : ∃ zi zt, (cutT A B C l)[k + 1] = (zi, zt) := ⟨_, _, rfl⟩
        rw [hz] at h2 h4 hm
        rcases h4 with h4 | ⟨h4, _, h5⟩ <;> rcases h2 with h2 | ⟨h2, h6, h7⟩
        · simp only [] at h2 h4; omega
        · exact h7 rfl
        · simp only [] at h4; subst h4; exact h5 (nocross _ hm)
        · exact h7 rfl
    · have e0 : cor l (i + 1) = cor l 0 := by rw [show i + 1 = 0 + l.length by omega]; exact cor_add l 0
      rw [e0] at hf1 ⊢
      have hc := mem_keep (by omega) hf1
      have hlast : k + 1 = (cutT A B C l).length := by
        by_cases h : k + 1 < (cutT A B C l).length
        · exfalso
          have h4 := sorted_at (A := A) (B := B) (C := C) (l := l) (Nat.lt_succ_self k) h
          have P2 := place_at h
          have hm : (cutT A B C l)[k + 1] ∈ cutT A B C l := List.getElem_mem _
          rw [hq] at h4
          obtain ⟨zi, zt, hz⟩ : ∃ zi zt, (cutT A B C l)[k + 1] = (zi, zt) := ⟨_, _, rfl⟩
          rw [hz] at h4 P2 hm
          have := P2.lt
          simp only [] at this
          rcases h4 with h4 | ⟨h4, _, h5⟩
          · simp only [] at h4; omega
          · simp only [] at h4; subst h4; exact h5 (nocross _ hm)
        · omega
      obtain ⟨h1, h2⟩ := first_of hc
      rw [nxt_end hlast h1]
      rcases h2 with h2 | h2
      · rw [← h2]; exact posQ_zero _ _
      · exfalso
        rcases h2 with h2 | ⟨_, _, h2⟩
        · simp only [] at h2; omega
        · exact h2 rfl
/-- One comes to a corner that lies strictly within along the side ahead of it. -/
theorem prev_side (h3 : 3 ≤ l.length) {k : Nat} (hk : k < (cutT A B C l).length) (hf : fvQ A B C (posQ l (nxt A B C l k)) < 0) :
    ∃ i t, i < l.length ∧ t ≤ 1 ∧ posQ l (cutT A B C l)[k] = wayQ (cor l i) (cor l (i + 1)) t ∧ posQ l (nxt A B C l k) = cor l (i + 1) := by
  -- the place behind, and its side
  have hm : nxt A B C l k ∈ cutT A B C l := by
    by_cases h : k + 1 < (cutT A B C l).length
    · rw [nxt_in h]; exact List.getElem_mem _
    · rw [nxt_end (by omega) (by omega)]; exact List.getElem_mem _
  have P := mem_cutT hm
  obtain ⟨j, r, hq⟩ : ∃ j r, nxt A B C l k = (j, r) := ⟨_, _, rfl⟩
  rw [hq] at P hf
  have hr : r = 0 := by
    by_cases h : r = 0
    · exact h
    · have := (fv_pos_le P).2 h; rw [this] at hf; exact absurd hf Rat.lt_irrefl
  subst hr
  rw [posQ_zero] at hf
  have hj := P.lt
  simp only [] at hj
  obtain ⟨i, hi, hij⟩ : ∃ i, i < l.length ∧ cor l (i + 1) = cor l j ∧ (i + 1 = j ∨ (j = 0 ∧ i + 1 = l.length)) := by
    by_cases h0 : j = 0
    · subst h0
      refine ⟨l.length - 1, by omega, ?_, .inr ⟨rfl, by omega⟩⟩
      rw [show l.length - 1 + 1 = 0 + l.length by omega]; exact cor_add l 0
    · exact ⟨j - 1, by omega, by rw [show j - 1 + 1 = j by omega], .inl (by omega)⟩
  obtain ⟨ej, hij⟩ := hij
  -- the place ahead: where side i is crossed, or its beginning
  obtain ⟨t, hc, ht1, hno⟩ : ∃ t, (i, t) ∈ cutT A B C l ∧ t ≤ 1 ∧ (t = 0 → ∀ s, (i, s) ∈ cutT A B C l → s = 0) := by
    by_cases hx : fvQ A B C (cor l i) * fvQ A B C (cor l (i + 1)) < 0
    · have ht := ratio_in hx
      exact ⟨_, mem_cross hi hx, Rat.le_of_lt ht.2, fun h0 => absurd h0 (by intro e; rw [e] at ht; exact Rat.lt_irrefl ht.1)⟩
    · have hf1 : fvQ A B C (cor l i) ≤ 0 := by
        by_cases h : fvQ A B C (cor l i) ≤ 0
        · exact h
        · rw [ej] at hx
          have := Rat.mul_pos (show 0 < fvQ A B C (cor l i) by grind) (show 0 < -fvQ A B C (cor l j) by grind)
          exact absurd (show fvQ A B C (cor l i) * fvQ A B C (cor l j) < 0 by grind) hx
      exact ⟨0, mem_keep hi hf1, by decide, fun _ s hs => by
        by_cases h : s = 0
        · exact h
        · exact absurd ((mem_cutT hs).cross h).1 hx⟩
  have hk2 : (cutT A B C l)[k] ∈ cutT A B C l := List.getElem_mem _
  have key : (cutT A B C l)[k] = (i, t) := by
    by_cases hl : k + 1 < (cutT A B C l).length
    · have h4 := sorted_at (A := A) (B := B) (C := C) (l := l) (Nat.lt_succ_self k) hl
      rw [nxt_in hl] at hq
      rw [hq] at h4
      have hij2 : i + 1 = j := by
        rcases hij with h | ⟨h, _⟩
        · exact h
        · exfalso; subst h
          rcases h4 with h4 | ⟨_, _, h5⟩
          · simp only [] at h4; omega
          · exact h5 rfl
      rcases prev_of hl hc (by rw [hq]; exact .inl (by simp only []; omega)) with h | h
      · exact h.symm
      · exfalso
        obtain ⟨zi, zt, hz⟩ : ∃ zi zt, (cutT A B C l)[k] = (zi, zt) := ⟨_, _, rfl⟩
        rw [hz] at h h4 hk2
        rcases h4 with h4 | ⟨_, _, h5⟩
        · rcases h with h | ⟨h, h6, h7⟩
          · simp only [] at h h4; omega
          · simp only [] at h h6 h7; subst h; exact h7 (hno h6 _ hk2)
        · exact h5 rfl
    · have hl' : k + 1 = (cutT A B C l).length := by omega
      rw [nxt_end hl' (by omega)] at hq
      have hij2 : j = 0 ∧ i + 1 = l.length := by
        rcases hij with h | h
        · exfalso
          obtain ⟨_, h2⟩ := first_of hc
          rw [hq] at h2
          rcases h2 with h2 | h2 | ⟨h2, _, _⟩
          · simp at h2; omega
          · simp only [] at h2; omega
          · simp only [] at h2; omega
        · exact h
      rcases last_of hl' hc with h | h
      · exact h.symm
      · exfalso
        obtain ⟨zi, zt, hz⟩ : ∃ zi zt, (cutT A B C l)[k] = (zi, zt) := ⟨_, _, rfl⟩
        rw [hz] at h hk2
        have := (mem_cutT hk2).lt
        simp only [] at this
        rcases h with h | ⟨h, h6, h7⟩
        · simp only [] at h; omega
        · simp only [] at h h6 h7; subst h; exact h7 (hno h6 _ hk2)
  refine ⟨i, t, hi, ht1, by rw [key]; rfl, ?_⟩
  rw [hq, posQ_zero, ej]
/-- Two points on the border of a half-plane part the others as the half-plane does. -/
theorem jump_side {e e' k s : Rat × Rat} (h1 : fvQ A B C e = 0) (h2 : fvQ A B C e' = 0) (hk : fvQ A B C k < 0) (hp : 0 < crossQ e e' k) (hs : fvQ A B C s ≤ 0) : 0 ≤ crossQ e e' s := by
  have id1 : crossQ e e' s * fvQ A B C k = crossQ e e' k * fvQ A B C s := by unfold crossQ fvQ at *; grind
  have n1 := Rat.mul_nonneg (Rat.le_of_lt hp) (show 0 ≤ -fvQ A B C s by grind)
  by_cases h : 0 ≤ crossQ e e' s
  · exact h
  · have := Rat.mul_pos (show 0 < -crossQ e e' s by grind) (show 0 < -fvQ A B C k by grind)
    grind
theorem cor_cut {k : Nat} (hk : k < (cutT A B C l).length) : cor (cutQ A B C l) k = posQ l (cutT A B C l)[k] := by
  have : k < (cutQ A B C l).length := by unfold cutQ; rwa [List.length_map]
  rw [cor_get this]; simp [cutQ]
theorem cor_cut' {k : Nat} (hk : k < (cutT A B C l).length) : cor (cutQ A B C l) (k + 1) = posQ l (nxt A B C l k) := by
  have hl : (cutQ A B C l).length = (cutT A B C l).length := by unfold cutQ; rw [List.length_map]
  by_cases h : k + 1 < (cutT A B C l).length
  · rw [cor_cut h, nxt_in h]
  · have e : k + 1 = 0 + (cutQ A B C l).length := by omega
    rw [e, cor_add, cor_cut (by omega), nxt_end (by omega) (by omega)]
/-- What lies in the polygon, and in the half-plane, lies in what is cut. -/
theorem in_cut (hc : Conv l) (hr : Conv (cutQ A B C l)) {i0 : Nat} (hi0 : i0 < l.length) (hf0 : fvQ A B C (cor l i0) < 0) {s : Rat × Rat} (hs : InL l s) (hf : fvQ A B C s ≤ 0) : InL (cutQ A B C l) s := by
  have h3 := hc.1
  have hl : (cutQ A B C l).length = (cutT A B C l).length := by unfold cutQ; rw [List.length_map]
  refine ⟨by have := hr.1; omega, fun k hk => ?_⟩
  rw [hl] at hk
  rw [cor_cut hk, cor_cut' hk]
  have hP := mem_cutT (List.getElem_mem hk)
  have hm : nxt A B C l k ∈ cutT A B C l := by
    by_cases h : k + 1 < (cutT A B C l).length
    · rw [nxt_in h]; exact List.getElem_mem _
    · rw [nxt_end (by omega) (by omega)]; exact List.getElem_mem _
  have hP2 := mem_cutT hm
  have f1 := (fv_pos_le hP).1
  have f2 := (fv_pos_le hP2).1
  by_cases n1 : fvQ A B C (posQ l (cutT A B C l)[k]) < 0
  · obtain ⟨i, t, hi, ht, e1, e2⟩ := next_side h3 hk n1
    rw [e1, e2]
    have id1 : crossQ (cor l i) (wayQ (cor l i) (cor l (i + 1)) t) s = t * crossQ (cor l i) (cor l (i + 1)) s := by unfold crossQ wayQ; grind
    rw [id1]
    exact Rat.mul_nonneg ht (hs.2 i hi)
  · by_cases n2 : fvQ A B C (posQ l (nxt A B C l k)) < 0
    · obtain ⟨i, t, hi, ht, e1, e2⟩ := prev_side h3 hk n2
      rw [e1, e2]
      have id1 : crossQ (wayQ (cor l i) (cor l (i + 1)) t) (cor l (i + 1)) s = (1 - t) * crossQ (cor l i) (cor l (i + 1)) s := by unfold crossQ wayQ; grind
      rw [id1]
      exact Rat.mul_nonneg (by grind) (hs.2 i hi)
    · have z1 : fvQ A B C (posQ l (cutT A B C l)[k]) = 0 := by grind
      have z2 : fvQ A B C (posQ l (nxt A B C l k)) = 0 := by grind
      -- a corner strictly within lies strictly to the left
      obtain ⟨m, hm2, em⟩ := List.mem_iff_getElem.1 (mem_keep hi0 (Rat.le_of_lt hf0))
      have ecm : cor (cutQ A B C l) m = cor l i0 := by rw [cor_cut hm2, em, posQ_zero]
      have hpos : 0 < crossQ (posQ l (cutT A B C l)[k]) (posQ l (nxt A B C l k)) (cor l i0) := by
        have := hr.2 k m (by omega) (by omega) (by
          intro e; subst e; rw [em, posQ_zero] at z1; rw [z1] at hf0; exact Rat.lt_irrefl hf0) (by
          intro e
          have : cor (cutQ A B C l) m = cor (cutQ A B C l) (k + 1) := by rw [e, cor_mod]
          rw [ecm, cor_cut' hk] at this
          rw [← this] at z2; rw [z2] at hf0; exact Rat.lt_irrefl hf0)
        rwa [cor_cut hk, cor_cut' hk, ecm] at this
      exact jump_side z1 z2 hf0 hpos hf
/-- What lies in what is cut lies in the polygon, and in the half-plane. -/
theorem cut_in (hc : Conv l) (hr : Conv (cutQ A B C l)) {s : Rat × Rat} (hs : InL (cutQ A B C l) s) : InL l s ∧ fvQ A B C s ≤ 0 := by
  have hl : (cutQ A B C l).length = (cutT A B C l).length := by unfold cutQ; rw [List.length_map]
  refine ⟨⟨by have := hc.1; omega, fun i hi => ?_⟩, ?_⟩
  · have := hull_le hr hs (A := (cor l (i + 1)).2 - (cor l i).2) (B := -((cor l (i + 1)).1 - (cor l i).1)) (C := ((cor l (i + 1)).2 - (cor l i).2) * (cor l i).1 - ((cor l (i + 1)).1 - (cor l i).1) * (cor l i).2) (fun k hk => by
      rw [hl] at hk
      rw [cor_cut hk]
      have P := place_at hk
      have g1 := (corner_in hc P.lt).2 i hi
      have g2 : 0 ≤ crossQ (cor l i) (cor l (i + 1)) (cor l ((cutT A B C l)[k].1 + 1)) := by
        have := (corner_in hc (k := ((cutT A B C l)[k].1 + 1) % l.length) (Nat.mod_lt _ (by have := hc.1; omega))).2 i hi
        rwa [cor_mod] at this
      have g := mix_nonneg P.at0 P.at1 g1 g2
      rw [← cross_way3] at g
      have e : wayQ (cor l (cutT A B C l)[k].1) (cor l ((cutT A B C l)[k].1 + 1)) (cutT A B C l)[k].2 = posQ l (cutT A B C l)[k] := rfl
      rw [e] at g
      unfold crossQ at g
      grind)
    unfold crossQ
    grind
  · have := hull_le hr hs (A := A) (B := B) (C := C) (fun k hk => by
      rw [hl] at hk
      rw [cor_cut hk]
      have := (fv_pos_le (place_at hk)).1
      unfold fvQ at this
      grind)
    unfold fvQ
    grind
end
end Go.Proofs.Ytdfabocecpcmcaa
/- A polygon that is cut: three corners or more; the areas of both halves. Over no program; written ahead of layer 8's code. -/
namespace Go.Proofs.Ytdfabocecpcmcaa
open Go.MagM
theorem three_mem {α : Type} {L : List α} {a b c : α} (ha : a ∈ L) (hb : b ∈ L) (hc : c ∈ L) (h1 : a ≠ b) (h2 : a ≠ c) (h3 : b ≠ c) : 3 ≤ L.length := by
  obtain ⟨i, hi, rfl⟩ := List.mem_iff_getElem.1 ha
  obtain ⟨j, hj, rfl⟩ := List.mem_iff_getElem.1 hb
  obtain ⟨k, hk, rfl⟩ := List.mem_iff_getElem.1 hc
  have e1 : i ≠ j := fun e => h1 (by subst e; rfl)
  have e2 : i ≠ k := fun e => h2 (by subst e; rfl)
  have e3 : j ≠ k := fun e => h3 (by subst e; rfl)
  omega
theorem mod_next {n i : Nat} (_h3 : 3 ≤ n) (hi : i < n) : ((i + 1 < n ∧ (i + 1) % n = i + 1) ∨ (i + 1 = n ∧ (i + 1) % n = 0)) := by
  by_cases h : i + 1 < n
  · exact .inl ⟨h, Nat.mod_eq_of_lt h⟩
  · have e : i + 1 = n := by omega
    exact .inr ⟨e, by rw [e, Nat.mod_self]⟩
/-- If a corner lies strictly within, three corners or more are left. -/
theorem cut_three {A B C : Rat} {l : List (Rat × Rat)} (h3 : 3 ≤ l.length) {i : Nat} (hi : i < l.length) (hf : fvQ A B C (cor l i) < 0) : 3 ≤ (cutQ A B C l).length := by
  unfold cutQ
  rw [List.length_map]
  have m0 := mem_keep (A := A) (B := B) (C := C) hi (Rat.le_of_lt hf)
  -- behind it
  obtain ⟨p, hp, hp1⟩ : ∃ p, p ∈ cutT A B C l ∧ ((p.1 = i ∧ p.2 ≠ 0) ∨ (p.1 = (i + 1) % l.length ∧ p.2 = 0)) := by
    by_cases hx : fvQ A B C (cor l i) * fvQ A B C (cor l (i + 1)) < 0
    · have := (ratio_in hx).1
      exact ⟨_, mem_cross hi hx, .inl ⟨rfl, by simp only []; grind⟩⟩
    · have hf1 : fvQ A B C (cor l ((i + 1) % l.length)) ≤ 0 := by
        rw [cor_mod]
        by_cases h : fvQ A B C (cor l (i + 1)) ≤ 0
        · exact h
        · have := Rat.mul_pos (show 0 < -fvQ A B C (cor l i) by grind) (show 0 < fvQ A B C (cor l (i + 1)) by grind)
          exact absurd (show fvQ A B C (cor l i) * fvQ A B C (cor l (i + 1)) < 0 by grind) hx
      exact ⟨_, mem_keep (Nat.mod_lt _ (by omega)) hf1, .inr ⟨rfl, rfl⟩⟩
  -- ahead of it
  obtain ⟨j, hj, hji⟩ : ∃ j, j < l.length ∧ (j + 1) % l.length = i := by
    by_cases h0 : i = 0
    · subst h0; exact ⟨l.length - 1, by omega, by rw [show l.length - 1 + 1 = l.length by omega, Nat.mod_self]⟩
    · exact ⟨i - 1, by omega, by rw [show i - 1 + 1 = i by omega, Nat.mod_eq_of_lt hi]⟩
  obtain ⟨q, hq, hq1⟩ : ∃ q, q ∈ cutT A B C l ∧ q.1 = j := by
    have ej : cor l (j + 1) = cor l i := by rw [← cor_mod, hji]
    by_cases hx : fvQ A B C (cor l j) * fvQ A B C (cor l (j + 1)) < 0
    · exact ⟨_, mem_cross hj hx, rfl⟩
    · have hf1 : fvQ A B C (cor l j) ≤ 0 := by
        by_cases h : fvQ A B C (cor l j) ≤ 0
        · exact h
        · rw [ej] at hx
          have := Rat.mul_pos (show 0 < fvQ A B C (cor l j) by grind) (show 0 < -fvQ A B C (cor l i) by grind)
          exact absurd (show fvQ A B C (cor l j) * fvQ A B C (cor l i) < 0 by grind) hx
      exact ⟨_, mem_keep hj hf1, rfl⟩
  have n1 := mod_next h3 hi
  have n2 := mod_next h3 hj
  refine three_mem m0 hp hq (fun e => ?_) (fun e => ?_) (fun e => ?_)
  · subst e
    rcases hp1 with ⟨_, h⟩ | ⟨h, _⟩
    · exact h rfl
    · simp only [] at h; omega
  · subst e; simp only [] at hq1; omega
  · subst e
    rcases hp1 with ⟨h, _⟩ | ⟨h, _⟩ <;> omega
/-- The areas seen from o, along a chain. -/
def csum (o : Rat × Rat) : List (Rat × Rat) → Rat
  | a :: b :: t => crossQ o a b + csum o (b :: t)
  | _ => 0
theorem csum_dsum (o : Rat × Rat) : ∀ (a : Rat × Rat) (l : List (Rat × Rat)), csum o (a :: l) = dsum (a :: l) + det ((a :: l).getLast (by simp)) o - det a o
  | a, [] => by simp [csum, dsum]; grind
  | a, b :: t => by
    rw [csum, csum_dsum o b t, dsum, List.getLast_cons (List.cons_ne_nil b t)]
    unfold det crossQ
    grind
theorem area_csum (o a : Rat × Rat) (l : List (Rat × Rat)) : areaQ (a :: l) = csum o (a :: l ++ [a]) := by
  rw [area_dsum]
  have := csum_dsum o a (l ++ [a])
  rw [show a :: l ++ [a] = a :: (l ++ [a]) from rfl, this]
  have e : (a :: (l ++ [a])).getLast (List.cons_ne_nil a _) = a := by
    rw [List.getLast_cons (by simp)]; simp
  rw [e]; grind
section
variable (A B C : Rat)
def crossPt (a b : Rat × Rat) : Rat × Rat := wayQ a b (fvQ A B C a / (fvQ A B C a - fvQ A B C b))
/-- What of a side is kept, its end not with it. -/
def cutAt (a b : Rat × Rat) : List (Rat × Rat) := (if fvQ A B C a ≤ 0 then [a] else []) ++ (if fvQ A B C a * fvQ A B C b < 0 then [crossPt A B C a b] else [])
/-- What of a chain is kept, its end with it. -/
def cutC : List (Rat × Rat) → List (Rat × Rat)
  | a :: b :: t => cutAt A B C a b ++ cutC (b :: t)
  | [z] => if fvQ A B C z ≤ 0 then [z] else []
  | [] => []
/-- What a side gives to the area, seen from o. -/
def sideA (o a b : Rat × Rat) : Rat :=
  if fvQ A B C a ≤ 0 then (if fvQ A B C b ≤ 0 then crossQ o a b else if fvQ A B C a < 0 then crossQ o a (crossPt A B C a b) else 0)
  else if fvQ A B C b < 0 then crossQ o (crossPt A B C a b) b else 0
def sidesA (o : Rat × Rat) : List (Rat × Rat) → Rat
  | a :: b :: t => sideA A B C o a b + sidesA o (b :: t)
  | _ => 0
end
section
variable {A B C : Rat}
theorem crossPt_on {a b : Rat × Rat} (h : fvQ A B C a * fvQ A B C b < 0) : fvQ A B C (crossPt A B C a b) = 0 := by
  unfold crossPt
  rw [fv_way]
  have hne : fvQ A B C a - fvQ A B C b ≠ 0 := by
    intro e
    have := (ratio_in h).1
    rw [e, Rat.div_def, Rat.inv_zero, Rat.mul_zero] at this
    exact Rat.lt_irrefl this
  have hr := Rat.div_mul_cancel (a := fvQ A B C a) hne
  generalize fvQ A B C a / (fvQ A B C a - fvQ A B C b) = t at *
  grind
theorem neg_mul_pos {f g : Rat} (hf : f < 0) (hg : ¬ g ≤ 0) : f * g < 0 := by
  have := Rat.mul_pos (show 0 < -f by grind) (show 0 < g by grind); grind
theorem pos_mul_neg {f g : Rat} (hf : ¬ f ≤ 0) (hg : g < 0) : f * g < 0 := by
  have := Rat.mul_pos (show 0 < f by grind) (show 0 < -g by grind); grind
theorem no_mul {f g : Rat} (h : (f ≤ 0 ∧ g ≤ 0) ∨ (0 ≤ f ∧ 0 ≤ g)) : ¬ f * g < 0 := by
  intro k
  rcases h with ⟨h1, h2⟩ | ⟨h1, h2⟩
  · have := Rat.mul_nonneg (show 0 ≤ -f by grind) (show 0 ≤ -g by grind); grind
  · have := Rat.mul_nonneg h1 h2; grind
/-- The first one that is kept: the chain's first one, or one on the line. -/
theorem cutC_head : ∀ (t : List (Rat × Rat)) (b : Rat × Rat), (fvQ A B C b ≤ 0 → ∃ r, cutC A B C (b :: t) = b :: r) ∧ (¬ fvQ A B C b ≤ 0 → cutC A B C (b :: t) = [] ∨ ∃ h r, cutC A B C (b :: t) = h :: r ∧ fvQ A B C h = 0)
  | [], b => ⟨fun h => ⟨[], by simp [cutC, h]⟩, fun h => .inl (by simp [cutC, h])⟩
  | c :: t, b => by
    refine ⟨fun h => ⟨_, by rw [cutC, cutAt, if_pos h]; rfl⟩, fun h => ?_⟩
    rw [cutC, cutAt, if_neg h]
    by_cases hx : fvQ A B C b * fvQ A B C c < 0
    · rw [if_pos hx]; exact .inr ⟨_, _, rfl, crossPt_on hx⟩
    · rw [if_neg hx]
      simp only [List.nil_append]
      by_cases hc : fvQ A B C c ≤ 0
      · obtain ⟨r, hr⟩ := (cutC_head t c).1 hc
        have hc0 : fvQ A B C c = 0 := by
          by_cases k : fvQ A B C c < 0
          · exact absurd (pos_mul_neg h k) hx
          · grind
        exact .inr ⟨c, r, hr, hc0⟩
      · exact (cutC_head t c).2 hc
theorem on_line {o a b : Rat × Rat} (hAB : A ≠ 0 ∨ B ≠ 0) (ho : fvQ A B C o = 0) (ha : fvQ A B C a = 0) (hb : fvQ A B C b = 0) : crossQ o a b = 0 := by
  have e1 : A * crossQ o a b = 0 := by unfold fvQ at *; unfold crossQ; grind
  have e2 : B * crossQ o a b = 0 := by unfold fvQ at *; unfold crossQ; grind
  rcases hAB with h | h
  · rcases Rat.mul_eq_zero.1 e1 with k | k
    · exact absurd k h
    · exact k
  · rcases Rat.mul_eq_zero.1 e2 with k | k
    · exact absurd k h
    · exact k
/-- What is kept has the area of its sides, seen from the line. -/
theorem csum_cut {o : Rat × Rat} (hAB : A ≠ 0 ∨ B ≠ 0) (ho : fvQ A B C o = 0) : ∀ (t : List (Rat × Rat)) (a : Rat × Rat), csum o (cutC A B C (a :: t)) = sidesA A B C o (a :: t)
  | [], a => by
    rw [cutC, sidesA]
    split <;> rfl
    all_goals (intros; simp_all)
  | b :: t, a => by
    have ih := csum_cut hAB ho t b
    obtain ⟨hh1, hh2⟩ := cutC_head (A := A) (B := B) (C := C) t b
    rw [cutC, sidesA, ← ih, cutAt, sideA]
    by_cases ha : fvQ A B C a ≤ 0
    · rw [if_pos ha, if_pos ha]
      by_cases hb : fvQ A B C b ≤ 0
      · rw [if_pos hb, if_neg (no_mul (.inl ⟨ha, hb⟩))]
        obtain ⟨r, hr⟩ := hh1 hb
        rw [hr]; rfl
      · rw [if_neg hb]
        by_cases ha0 : fvQ A B C a < 0
        · have hx := neg_mul_pos ha0 hb
          rw [if_pos ha0, if_pos hx]
          have hX := crossPt_on hx
          rcases hh2 hb with h | ⟨h, r, hr, hz⟩
          · rw [h]; simp [csum]
          · rw [hr]
            simp only [List.cons_append, List.nil_append, csum]
            rw [on_line hAB ho hX hz]; grind
        · have ha1 : fvQ A B C a = 0 := by grind
          rw [if_neg ha0, if_neg (by rw [ha1, Rat.zero_mul]; exact Rat.lt_irrefl)]
          rcases hh2 hb with h | ⟨h, r, hr, hz⟩
          · rw [h]; simp [csum]; try grind
          · rw [hr]
            simp only [List.cons_append, List.nil_append, csum]
            rw [on_line hAB ho ha1 hz]
    · rw [if_neg ha, if_neg ha]
      by_cases hb : fvQ A B C b < 0
      · have hx := pos_mul_neg ha hb
        rw [if_pos hb, if_pos hx]
        obtain ⟨r, hr⟩ := hh1 (Rat.le_of_lt hb)
        rw [hr]; rfl
      · rw [if_neg hb, if_neg (no_mul (.inr ⟨by grind, by grind⟩))]
        simp only [List.nil_append]
        grind
end
end Go.Proofs.Ytdfabocecpcmcaa
/- The two halves' areas, seen from the line. Over no program; written ahead of layer 8's code. -/
namespace Go.Proofs.Ytdfabocecpcmcaa
open Go.MagM
section
variable {A B C : Rat}
theorem fv_neg (p : Rat × Rat) : fvQ (-A) (-B) (-C) p = -fvQ A B C p := by unfold fvQ; grind
theorem ratio_neg (f g : Rat) : (-f) / (-f - -g) = f / (f - g) := by
  by_cases h : f - g = 0
  · rw [show -f - -g = 0 by grind, h, Rat.div_def, Rat.div_def, Rat.inv_zero]; simp
  · have e1 := Rat.div_mul_cancel (a := f) h
    have e2 := Rat.div_mul_cancel (a := -f) (show -f - -g ≠ 0 by grind)
    generalize f / (f - g) = s at *
    generalize -f / (-f - -g) = t at *
    have e3 : (t - s) * (f - g) = 0 := by grind
    rcases Rat.mul_eq_zero.1 e3 with k | k
    · grind
    · exact absurd k h
theorem crossPt_neg (a b : Rat × Rat) : crossPt (-A) (-B) (-C) a b = crossPt A B C a b := by
  unfold crossPt; rw [fv_neg, fv_neg, ratio_neg]
theorem cross_split (o a b : Rat × Rat) (t : Rat) : crossQ o a (wayQ a b t) + crossQ o (wayQ a b t) b = crossQ o a b := by
  unfold crossQ wayQ; grind
/-- A side's two shares make the side. -/
theorem sideA_add {o a b : Rat × Rat} (hAB : A ≠ 0 ∨ B ≠ 0) (ho : fvQ A B C o = 0) : sideA A B C o a b + sideA (-A) (-B) (-C) o a b = crossQ o a b := by
  unfold sideA
  rw [fv_neg, fv_neg, crossPt_neg]
  have hs : crossQ o a (crossPt A B C a b) + crossQ o (crossPt A B C a b) b = crossQ o a b := cross_split o a b _
  have hl := on_line (a := a) (b := b) hAB ho
  have t1 : (fvQ A B C a < 0 ∨ fvQ A B C a = 0) ∨ 0 < fvQ A B C a := by grind
  have t2 : (fvQ A B C b < 0 ∨ fvQ A B C b = 0) ∨ 0 < fvQ A B C b := by grind
  generalize crossQ o a (crossPt A B C a b) = p at *
  generalize crossQ o (crossPt A B C a b) b = q at *
  generalize crossQ o a b = r at *
  generalize fvQ A B C a = f at *
  generalize fvQ A B C b = g at *
  rcases t1 with (h | h) | h <;> rcases t2 with (k | k) | k
  all_goals (repeat' split) <;> grind
theorem sidesA_add {o : Rat × Rat} (hAB : A ≠ 0 ∨ B ≠ 0) (ho : fvQ A B C o = 0) : ∀ l : List (Rat × Rat), sidesA A B C o l + sidesA (-A) (-B) (-C) o l = csum o l
  | [] => by simp [sidesA, csum, Rat.add_zero]
  | [a] => by simp [sidesA, csum, Rat.add_zero]
  | a :: b :: t => by
    have h1 := sidesA_add hAB ho (b :: t)
    have h2 := sideA_add (a := a) (b := b) hAB ho
    rw [sidesA, sidesA, csum]
    grind
/-- A line has a point. -/
theorem line_pt (hAB : A ≠ 0 ∨ B ≠ 0) : ∃ o, fvQ A B C o = 0 := by
  rcases hAB with h | h
  · refine ⟨(C / A, 0), ?_⟩
    unfold fvQ; simp only []
    have := Rat.div_mul_cancel (a := C) h
    generalize C / A = t at *
    grind
  · refine ⟨(0, C / B), ?_⟩
    unfold fvQ; simp only []
    have := Rat.div_mul_cancel (a := C) h
    generalize C / B = t at *
    grind
/-- What is kept of both halves has the area of the whole, as open chains. -/
theorem csum_halves {o : Rat × Rat} (hAB : A ≠ 0 ∨ B ≠ 0) (ho : fvQ A B C o = 0) (a : Rat × Rat) (t : List (Rat × Rat)) : csum o (cutC A B C (a :: t)) + csum o (cutC (-A) (-B) (-C) (a :: t)) = csum o (a :: t) := by
  rw [csum_cut hAB ho, csum_cut (by grind) (by rw [fv_neg, ho]; grind), sidesA_add hAB ho]
end
end Go.Proofs.Ytdfabocecpcmcaa
/- The areas of the two halves of a polygon make its area. Over no program; written ahead of layer 8's code. -/
namespace Go.Proofs.Ytdfabocecpcmcaa
open Go.MagM
section
variable {A B C : Rat}
theorem part_pos {l : List (Rat × Rat)} (i : Nat) : (partT A B C l i).map (posQ l) = cutAt A B C (cor l i) (cor l (i + 1)) := by
  unfold partT cutAt
  rw [List.map_append]
  congr 1
  · split
    · simp only [List.map_cons, List.map_nil, posQ_zero]
    · rfl
  · split <;> rfl
theorem cutQ_flat (l : List (Rat × Rat)) : cutQ A B C l = (List.range l.length).flatMap (fun i => cutAt A B C (cor l i) (cor l (i + 1))) := by
  unfold cutQ cutT
  rw [List.map_flatMap]
  congr 1
  funext i
  exact part_pos i
theorem cutC_flat : ∀ (t : List (Rat × Rat)) (a z : Rat × Rat), (a :: t).getLast? = some z →
    cutC A B C (a :: t) = (List.range t.length).flatMap (fun i => cutAt A B C ((a :: t).getD i (0, 0)) ((a :: t).getD (i + 1) (0, 0))) ++ (if fvQ A B C z ≤ 0 then [z] else [])
  | [], a, z, h => by
    simp at h; subst h
    simp [cutC]
  | b :: t, a, z, h => by
    have ih := cutC_flat t b z (by rw [← h]; simp [List.getLast?_cons])
    rw [cutC, ih, List.length_cons, List.range_succ_eq_map, List.flatMap_cons, List.flatMap_map, List.append_assoc]
    rfl
/-- The chain that goes round. -/
def ring : List (Rat × Rat) → List (Rat × Rat)
  | [] => []
  | a :: t => a :: t ++ [a]
theorem ring_at {a : Rat × Rat} {t : List (Rat × Rat)} {i : Nat} (h : i ≤ (a :: t).length) : (a :: t ++ [a]).getD i (0, 0) = cor (a :: t) i := by
  rcases Nat.lt_or_ge i (a :: t).length with k | k
  · unfold cor
    rw [Nat.mod_eq_of_lt k, List.getD_eq_getElem?_getD, List.getD_eq_getElem?_getD, List.getElem?_append_left k]
  · have e : i = (a :: t).length := by omega
    subst e
    have e2 : cor (a :: t) (a :: t).length = cor (a :: t) 0 := by have := cor_add (a :: t) 0; rwa [Nat.zero_add] at this
    rw [e2, List.getD_eq_getElem?_getD, List.getElem?_append_right (Nat.le_refl _)]
    simp [cor]
theorem cut_ring (a : Rat × Rat) (t : List (Rat × Rat)) : cutC A B C (a :: t ++ [a]) = cutQ A B C (a :: t) ++ (if fvQ A B C a ≤ 0 then [a] else []) := by
  have e := cutC_flat (A := A) (B := B) (C := C) (t ++ [a]) a a (by simp [List.getLast?_cons])
  rw [show a :: t ++ [a] = a :: (t ++ [a]) from rfl, e, cutQ_flat]
  congr 1
  have el : (t ++ [a]).length = (a :: t).length := by simp
  rw [el, List.flatMap, List.flatMap]
  congr 1
  apply List.map_congr_left
  intro i hi
  have hi := List.mem_range.1 hi
  rw [show a :: (t ++ [a]) = a :: t ++ [a] from rfl, ring_at (Nat.le_of_lt hi), ring_at hi]
/-- The last one that is kept, of a chain that ends beyond: one on the line. -/
theorem cutC_last : ∀ (t : List (Rat × Rat)) (a z : Rat × Rat), (a :: t).getLast? = some z → ¬ fvQ A B C z ≤ 0 → cutC A B C (a :: t) = [] ∨ ∃ r h, cutC A B C (a :: t) = r ++ [h] ∧ fvQ A B C h = 0
  | [], a, z, h, hz => by
    simp at h; subst h
    exact .inl (by simp [cutC, hz])
  | b :: t, a, z, h, hz => by
    have ih := cutC_last t b z (by rw [← h]; simp [List.getLast?_cons]) hz
    rw [cutC]
    rcases ih with ih | ⟨r, k, hr, hk⟩
    · have hb : ¬ fvQ A B C b ≤ 0 := by
        intro k
        obtain ⟨r, hr⟩ := (cutC_head (A := A) (B := B) (C := C) t b).1 k
        rw [hr] at ih; simp at ih
      rw [ih, List.append_nil, cutAt]
      by_cases ha : fvQ A B C a < 0
      · have hx := neg_mul_pos ha hb
        rw [if_pos (Rat.le_of_lt ha), if_pos hx]
        exact .inr ⟨[a], _, rfl, crossPt_on hx⟩
      · rw [if_neg (no_mul (.inr ⟨by grind, by grind⟩)), List.append_nil]
        by_cases h0 : fvQ A B C a ≤ 0
        · rw [if_pos h0]; exact .inr ⟨[], a, rfl, by grind⟩
        · rw [if_neg h0]; exact .inl rfl
    · rw [hr]; exact .inr ⟨cutAt A B C a b ++ r, k, by rw [List.append_assoc], hk⟩
theorem csum_snoc (o : Rat × Rat) : ∀ (r : List (Rat × Rat)) (k h : Rat × Rat), csum o (r ++ [k] ++ [h]) = csum o (r ++ [k]) + crossQ o k h
  | [], k, h => by simp [csum, Rat.add_zero, Rat.zero_add]
  | [a], k, h => by simp [csum, Rat.add_zero]
  | a :: b :: r, k, h => by
    have := csum_snoc o (b :: r) k h
    simp only [List.cons_append, csum] at this ⊢
    rw [this, Rat.add_assoc]
/-- The area of what is cut. -/
theorem area_cut {o : Rat × Rat} (hAB : A ≠ 0 ∨ B ≠ 0) (ho : fvQ A B C o = 0) (a : Rat × Rat) (t : List (Rat × Rat)) : areaQ (cutQ A B C (a :: t)) = sidesA A B C o (a :: t ++ [a]) := by
  rw [show a :: t ++ [a] = a :: (t ++ [a]) from rfl, ← csum_cut hAB ho]
  have e := cut_ring (A := A) (B := B) (C := C) a t
  rw [show a :: t ++ [a] = a :: (t ++ [a]) from rfl] at e
  obtain ⟨h1, h2⟩ := cutC_head (A := A) (B := B) (C := C) (t ++ [a]) a
  by_cases ha : fvQ A B C a ≤ 0
  · rw [if_pos ha] at e
    obtain ⟨r, hr⟩ := h1 ha
    match hq : cutQ A B C (a :: t) with
    | [] => rw [hq, List.nil_append] at e; rw [e]; simp [areaQ, csum]
    | k :: u =>
      rw [hq] at e
      have ek : k = a := by rw [hr] at e; simp at e; exact e.1.symm
      subst ek
      rw [e, area_csum o]
  · rw [if_neg ha, List.append_nil] at e
    rw [e]
    have hl := cutC_last (A := A) (B := B) (C := C) (t ++ [a]) a a (by simp [List.getLast?_cons]) ha
    rw [e] at hl
    have hh := h2 ha
    rw [e] at hh
    rcases hh with hh | ⟨h, r, hh, hf⟩
    · rw [hh]; simp [areaQ, csum]
    · rcases hl with hl | ⟨u, k, hl, hk⟩
      · rw [hl] at hh; simp at hh
      · have : areaQ (cutQ A B C (a :: t)) = csum o (cutQ A B C (a :: t) ++ [h]) := by rw [hh]; exact area_csum o h r
        rw [this]
        rw [hl, csum_snoc, on_line hAB ho hk hf, Rat.add_zero]
/-- The halves have the area of the whole. -/
theorem area_halves (hAB : A ≠ 0 ∨ B ≠ 0) : ∀ l : List (Rat × Rat), areaQ (cutQ A B C l) + areaQ (cutQ (-A) (-B) (-C) l) = areaQ l
  | [] => by
    have e : areaQ [] = 0 := by simp [areaQ]
    have e2 : ∀ A B C, cutQ A B C [] = [] := fun _ _ _ => rfl
    rw [e2, e2, e]; exact Rat.add_zero 0
  | a :: t => by
    obtain ⟨o, ho⟩ := line_pt (C := C) hAB
    rw [area_cut hAB ho, area_cut (o := o) (by grind) (by rw [fv_neg, ho]; grind), sidesA_add hAB ho, area_csum o]
end
end Go.Proofs.Ytdfabocecpcmcaa
/- A polygon that is cut, none if there is no area; cut by several half-planes. Over no program; written ahead of layer 8's code. -/
namespace Go.Proofs.Ytdfabocecpcmcaa
open Go.MagM
def clipQ (A B C : Rat) (l : List (Rat × Rat)) : List (Rat × Rat) := if ∃ i, i < l.length ∧ fvQ A B C (cor l i) < 0 then cutQ A B C l else []
theorem clipQ_pos {A B C : Rat} {l : List (Rat × Rat)} (h : ∃ i, i < l.length ∧ fvQ A B C (cor l i) < 0) : clipQ A B C l = cutQ A B C l := if_pos h
theorem clipQ_neg {A B C : Rat} {l : List (Rat × Rat)} (h : ¬ ∃ i, i < l.length ∧ fvQ A B C (cor l i) < 0) : clipQ A B C l = [] := if_neg h
theorem clip_conv {A B C : Rat} {l : List (Rat × Rat)} (hl : Conv l) (h : clipQ A B C l ≠ []) : Conv (clipQ A B C l) := by
  by_cases k : ∃ i, i < l.length ∧ fvQ A B C (cor l i) < 0
  · rw [clipQ_pos k]
    obtain ⟨i, hi, hf⟩ := k
    exact (hl.tri.cut hl.1).conv (cut_three hl.1 hi hf)
  · exact absurd (clipQ_neg k) h
theorem clip_points {A B C : Rat} {l : List (Rat × Rat)} (hl : Conv l) (h : clipQ A B C l ≠ []) (s : Rat × Rat) : InL (clipQ A B C l) s ↔ InL l s ∧ fvQ A B C s ≤ 0 := by
  have hc := clip_conv hl h
  by_cases k : ∃ i, i < l.length ∧ fvQ A B C (cor l i) < 0
  · rw [clipQ_pos k] at hc ⊢
    obtain ⟨i, hi, hf⟩ := k
    exact ⟨cut_in hl hc, fun ⟨h1, h2⟩ => in_cut hl hc hi hf h1 h2⟩
  · exact absurd (clipQ_neg k) h
/-- Three points that are in no line: there is area left. -/
theorem clip_some {A B C : Rat} {l : List (Rat × Rat)} (hAB : A ≠ 0 ∨ B ≠ 0) (hl : Conv l) {a b c : Rat × Rat} (hx : crossQ a b c ≠ 0) (ha : InL l a ∧ fvQ A B C a ≤ 0) (hb : InL l b ∧ fvQ A B C b ≤ 0) (hc : InL l c ∧ fvQ A B C c ≤ 0) : clipQ A B C l ≠ [] := by
  by_cases k : ∃ i, i < l.length ∧ fvQ A B C (cor l i) < 0
  · rw [clipQ_pos k]
    obtain ⟨i, hi, hf⟩ := k
    intro e
    have := cut_three hl.1 hi hf
    rw [e] at this; simp at this
  · exfalso
    have hz : ∀ s, InL l s → 0 ≤ fvQ A B C s := by
      intro s hs
      have := hull_le hl hs (A := -A) (B := -B) (C := -C) (fun i hi => by
        have : ¬ fvQ A B C (cor l i) < 0 := fun h => k ⟨i, hi, h⟩
        unfold fvQ at this; grind)
      unfold fvQ; grind
    have za := hz a ha.1
    have zb := hz b hb.1
    have zc := hz c hc.1
    exact hx (on_line hAB (o := a) (a := b) (b := c) (Rat.le_antisymm ha.2 za) (Rat.le_antisymm hb.2 zb) (Rat.le_antisymm hc.2 zc))
/-- Each corner beyond, or on the line: no area. -/
theorem area_none {A B C : Rat} {o : Rat × Rat} (hAB : A ≠ 0 ∨ B ≠ 0) (ho : fvQ A B C o = 0) : ∀ l : List (Rat × Rat), (∀ p, p ∈ l → 0 ≤ fvQ A B C p) → sidesA A B C o l = 0
  | [], _ => rfl
  | [a], _ => rfl
  | a :: b :: t, h => by
    have ih := area_none hAB ho (b :: t) (fun p hp => h p (by simp at hp ⊢; exact .inr hp))
    have ha := h a (by simp)
    have hb := h b (by simp)
    have hl := on_line (a := a) (b := b) hAB ho
    rw [sidesA, ih, sideA]
    (repeat' split) <;> grind
theorem area_clip {A B C : Rat} (hAB : A ≠ 0 ∨ B ≠ 0) (l : List (Rat × Rat)) : areaQ (clipQ A B C l) = areaQ (cutQ A B C l) := by
  by_cases k : ∃ i, i < l.length ∧ fvQ A B C (cor l i) < 0
  · rw [clipQ_pos k]
  · rw [clipQ_neg k]
    have e : areaQ [] = 0 := by simp [areaQ]
    rw [e]
    match l, k with
    | [], _ => exact e.symm
    | a :: t, k =>
      obtain ⟨o, ho⟩ := line_pt (C := C) hAB
      rw [area_cut hAB ho, area_none hAB ho]
      intro p hp
      have hp : p ∈ a :: t := by simp at hp ⊢; rcases hp with h | h | h <;> simp [h]
      obtain ⟨i, hi, rfl⟩ := mem_cor hp
      have : ¬ fvQ A B C (cor (a :: t) i) < 0 := fun h => k ⟨i, hi, h⟩
      grind
theorem clip_halves {A B C : Rat} (hAB : A ≠ 0 ∨ B ≠ 0) (l : List (Rat × Rat)) : areaQ (clipQ A B C l) + areaQ (clipQ (-A) (-B) (-C) l) = areaQ l := by
  rw [area_clip hAB, area_clip (by grind), area_halves hAB]
/-- Cut by several. -/
def foldQ (hs : List (Rat × Rat × Rat)) (l : List (Rat × Rat)) : List (Rat × Rat) := hs.foldl (fun l h => clipQ h.1 h.2.1 h.2.2 l) l
def Half0 (h : Rat × Rat × Rat) : Prop := h.1 ≠ 0 ∨ h.2.1 ≠ 0
def InH (h : Rat × Rat × Rat) (s : Rat × Rat) : Prop := fvQ h.1 h.2.1 h.2.2 s ≤ 0
def Reg (hs : List (Rat × Rat × Rat)) (l : List (Rat × Rat)) (s : Rat × Rat) : Prop := InL l s ∧ ∀ h, h ∈ hs → InH h s
theorem clip_nil {A B C : Rat} : clipQ A B C [] = [] := clipQ_neg (fun ⟨_, h, _⟩ => by simp at h)
theorem fold_nil : ∀ hs, foldQ hs [] = []
  | [] => rfl
  | h :: t => by
    have := fold_nil t
    unfold foldQ at this ⊢
    rw [List.foldl_cons, clip_nil]; exact this
theorem fold_reg : ∀ (hs : List (Rat × Rat × Rat)) (l : List (Rat × Rat)), (∀ h, h ∈ hs → Half0 h) → Conv l →
    (foldQ hs l ≠ [] → Conv (foldQ hs l) ∧ ∀ s, InL (foldQ hs l) s ↔ Reg hs l s) ∧
    (∀ a b c, crossQ a b c ≠ 0 → Reg hs l a → Reg hs l b → Reg hs l c → foldQ hs l ≠ [])
  | [], l, _, hl => ⟨fun _ => ⟨hl, fun s => ⟨fun h => ⟨h, fun _ k => by simp at k⟩, fun h => h.1⟩⟩, fun _ _ _ _ _ _ _ e => by
    have : l = [] := e
    subst this; have := hl.1; simp at this⟩
  | h :: t, l, h0, hl => by
    have hh := h0 h (by simp)
    have ht : ∀ k, k ∈ t → Half0 k := fun k hk => h0 k (by simp [hk])
    have ef : foldQ (h :: t) l = foldQ t (clipQ h.1 h.2.1 h.2.2 l) := rfl
    rw [ef]
    by_cases hn : clipQ h.1 h.2.1 h.2.2 l = []
    · refine ⟨fun k => absurd (by rw [hn]; exact fold_nil t) k, fun a b c hx ha hb hc => ?_⟩
      exact absurd hn (clip_some hh hl hx ⟨ha.1, ha.2 h (by simp)⟩ ⟨hb.1, hb.2 h (by simp)⟩ ⟨hc.1, hc.2 h (by simp)⟩)
    · obtain ⟨i1, i2⟩ := fold_reg t _ ht (clip_conv hl hn)
      have er : ∀ s, Reg t (clipQ h.1 h.2.1 h.2.2 l) s ↔ Reg (h :: t) l s := by
        intro s
        unfold Reg
        rw [clip_points hl hn]
        simp only [List.mem_cons, forall_eq_or_imp]
        exact and_assoc
      refine ⟨fun k => ⟨(i1 k).1, fun s => ((i1 k).2 s).trans (er s)⟩, fun a b c hx ha hb hc => i2 a b c hx ((er a).2 ha) ((er b).2 hb) ((er c).2 hc)⟩
end Go.Proofs.Ytdfabocecpcmcaa
/- The cells of points fill a polygon. Over no program; written ahead of layer 8's code. -/
namespace Go.Proofs.Ytdfabocecpcmcaa
open Go.MagM
def Conv0 (l : List (Rat × Rat)) : Prop := l = [] ∨ Conv l
theorem in_nil {s : Rat × Rat} : ¬ InL [] s := fun h => by have := h.1; simp at this
theorem fold_conv {hs : List (Rat × Rat × Rat)} {l : List (Rat × Rat)} (h0 : ∀ h, h ∈ hs → Half0 h) (hl : Conv0 l) : Conv0 (foldQ hs l) := by
  by_cases h : foldQ hs l = []
  · exact .inl h
  · rcases hl with rfl | hl
    · exact absurd (fold_nil hs) h
    · exact .inr ((fold_reg hs l h0 hl).1 h).1
theorem fold_some {hs : List (Rat × Rat × Rat)} {l : List (Rat × Rat)} (h0 : ∀ h, h ∈ hs → Half0 h) (hl : Conv0 l) : foldQ hs l ≠ [] ↔ ∃ a b c, crossQ a b c ≠ 0 ∧ Reg hs l a ∧ Reg hs l b ∧ Reg hs l c := by
  rcases hl with rfl | hl
  · exact ⟨fun h => absurd (fold_nil hs) h, fun ⟨_, _, _, _, h, _⟩ => absurd h.1 in_nil⟩
  · obtain ⟨f1, f2⟩ := fold_reg hs l h0 hl
    refine ⟨fun h => ?_, fun ⟨a, b, c, hx, ha, hb, hc⟩ => f2 a b c hx ha hb hc⟩
    obtain ⟨hc, hr⟩ := f1 h
    have h3 := hc.1
    refine ⟨cor (foldQ hs l) 0, cor (foldQ hs l) 1, cor (foldQ hs l) 2, ?_, (hr _).1 (corner_in hc (by omega)), (hr _).1 (corner_in hc (by omega)), (hr _).1 (corner_in hc (by omega))⟩
    have := hc.tri.at (i := 0) (j := 1) (k := 2) (by omega) (by omega) (by omega)
    intro e; rw [e] at this; exact Rat.lt_irrefl this
/-- The same points: the same polygon, begun elsewhere. -/
theorem fold_same {hs ks : List (Rat × Rat × Rat)} {l m : List (Rat × Rat)} (h0 : ∀ h, h ∈ hs → Half0 h) (k0 : ∀ h, h ∈ ks → Half0 h) (hl : Conv0 l) (hm : Conv0 m) (h : ∀ s, Reg hs l s ↔ Reg ks m s) :
    (∃ u v, foldQ hs l = u ++ v ∧ foldQ ks m = v ++ u) ∧ (foldQ hs l).length = (foldQ ks m).length ∧ areaQ (foldQ hs l) = areaQ (foldQ ks m) := by
  have s1 := fold_some h0 hl
  have s2 := fold_some k0 hm
  have e : foldQ hs l ≠ [] ↔ foldQ ks m ≠ [] := by
    rw [s1, s2]
    simp only [h]
  by_cases hn : foldQ hs l = []
  · have hn2 : foldQ ks m = [] := Decidable.byContradiction fun k => (e.2 k) hn
    rw [hn, hn2]; exact ⟨⟨[], [], rfl, rfl⟩, rfl, rfl⟩
  · have hn2 := e.1 hn
    have c1 : Conv l := hl.resolve_left (fun k => hn (by rw [k]; exact fold_nil hs))
    have c2 : Conv m := hm.resolve_left (fun k => hn2 (by rw [k]; exact fold_nil ks))
    obtain ⟨p1, p2⟩ := (fold_reg hs l h0 c1).1 hn
    obtain ⟨q1, q2⟩ := (fold_reg ks m k0 c2).1 hn2
    exact same_points p1 q1 (fun s => (p2 s).trans ((h s).trans (q2 s).symm))
def dQ (s p : Rat × Rat) : Rat := (s.1 - p.1) * (s.1 - p.1) + (s.2 - p.2) * (s.2 - p.2)
/-- As near to p as to q, or nearer. -/
def nearH (p q : Rat × Rat) : Rat × Rat × Rat := (2 * (q.1 - p.1), 2 * (q.2 - p.2), q.1 * q.1 + q.2 * q.2 - p.1 * p.1 - p.2 * p.2)
theorem near_d (p q s : Rat × Rat) : InH (nearH p q) s ↔ dQ s p ≤ dQ s q := by
  unfold InH nearH fvQ dQ; simp only []
  constructor <;> intro h <;> grind
theorem near_half {p q : Rat × Rat} (h : p ≠ q) : Half0 (nearH p q) := by
  unfold Half0 nearH; simp only []
  by_cases k : p.1 = q.1
  · right; intro e
    exact h (Prod.ext k (by grind))
  · left; intro e; exact k (by grind)
theorem near_neg (p q : Rat × Rat) : nearH q p = (-(nearH p q).1, -(nearH p q).2.1, -(nearH p q).2.2) := by
  unfold nearH; simp only []
  refine Prod.ext ?_ (Prod.ext ?_ ?_) <;> simp only [] <;> grind
theorem near_halves {p q : Rat × Rat} (h : p ≠ q) (hs : List (Rat × Rat × Rat)) (l : List (Rat × Rat)) : areaQ (foldQ (hs ++ [nearH p q]) l) + areaQ (foldQ (hs ++ [nearH q p]) l) = areaQ (foldQ hs l) := by
  unfold foldQ
  rw [List.foldl_append, List.foldl_append, near_neg p q]
  exact clip_halves (near_half h) _
def otherH (ps : List (Rat × Rat)) (p : Rat × Rat) : List (Rat × Rat × Rat) := (ps.filter (fun q => decide (q ≠ p))).map (nearH p)
theorem other_half {ps : List (Rat × Rat)} {p : Rat × Rat} : ∀ h, h ∈ otherH ps p → Half0 h := by
  intro h hh
  unfold otherH at hh
  rw [List.mem_map] at hh
  obtain ⟨q, hq, rfl⟩ := hh
  rw [List.mem_filter] at hq
  exact near_half (fun e => (of_decide_eq_true hq.2) e.symm)
theorem other_in {ps : List (Rat × Rat)} {p s : Rat × Rat} : (∀ h, h ∈ otherH ps p → InH h s) ↔ ∀ q, q ∈ ps → dQ s p ≤ dQ s q := by
  unfold otherH
  constructor
  · intro h q hq
    by_cases e : q = p
    · subst e; exact Rat.le_refl
    · exact (near_d p q s).1 (h _ (List.mem_map.2 ⟨q, List.mem_filter.2 ⟨hq, decide_eq_true e⟩, rfl⟩))
  · intro h k hk
    rw [List.mem_map] at hk
    obtain ⟨q, hq, rfl⟩ := hk
    exact (near_d p q s).2 (h q (List.mem_filter.1 hq).1)
def cellA (ps : List (Rat × Rat)) (l : List (Rat × Rat)) (p : Rat × Rat) : Rat := areaQ (foldQ (otherH ps p) l)
theorem fold_app (hs ks : List (Rat × Rat × Rat)) (l : List (Rat × Rat)) : foldQ (hs ++ ks) l = foldQ ks (foldQ hs l) := by unfold foldQ; rw [List.foldl_append]
def sumQ : List Rat → Rat
  | [] => 0
  | a :: t => a + sumQ t
theorem sum_sub (f g h : Rat × Rat → Rat) : ∀ l : List (Rat × Rat), (∀ p, p ∈ l → f p + g p = h p) → sumQ (l.map f) + sumQ (l.map g) = sumQ (l.map h)
  | [], _ => Rat.add_zero 0
  | a :: t, k => by
    have h1 := sum_sub f g h t (fun p hp => k p (by simp [hp]))
    have h2 := k a (by simp)
    simp only [List.map_cons, sumQ]
    grind
/-- The cells fill what they are cut from. -/
theorem cells_fill : ∀ (ps : List (Rat × Rat)) (l : List (Rat × Rat)), ps ≠ [] → ps.Nodup → Conv0 l → sumQ (ps.map (cellA ps l)) = areaQ l
  | [], _, h, _, _ => absurd rfl h
  | [q], l, _, _, _ => by
    have e : otherH [q] q = [] := by simp [otherH]
    simp only [List.map_cons, List.map_nil, sumQ, cellA, e]
    exact Rat.add_zero _
  | q :: p1 :: t1, l, _, hn, hl => by
    have ht := List.nodup_cons.1 hn
    generalize hts : p1 :: t1 = t at *
    have ne : t ≠ [] := by rw [← hts]; simp
    have i1 := cells_fill t l ne ht.2 hl
    have hK := other_half (ps := q :: t) (p := q)
    have i2 := cells_fill t (foldQ (otherH (q :: t) q) l) ne ht.2 (fold_conv hK hl)
    rw [List.map_cons, sumQ]
    have key : ∀ p, p ∈ t → cellA (q :: t) l p + cellA t (foldQ (otherH (q :: t) q) l) p = cellA t l p := by
      intro p hp
      have hpq : p ≠ q := fun e => ht.1 (e ▸ hp)
      have e1 : cellA (q :: t) l p = areaQ (foldQ (otherH t p ++ [nearH p q]) l) := by
        refine (fold_same (hs := otherH (q :: t) p) (ks := otherH t p ++ [nearH p q]) other_half ?_ hl hl ?_).2.2
        · intro h hh
          rcases List.mem_append.1 hh with hh | hh
          · exact other_half h hh
          · simp at hh; subst hh; exact near_half hpq
        · intro s
          refine and_congr_right fun _ => ?_
          rw [other_in]
          constructor
          · intro h k hk
            rcases List.mem_append.1 hk with hk | hk
            · exact (other_in.2 (fun x hx => h x (List.mem_cons_of_mem q hx))) k hk
            · simp at hk; subst hk; exact (near_d p q s).2 (h q List.mem_cons_self)
          · intro h x hx
            rcases List.mem_cons.1 hx with hx | hx
            · subst hx; exact (near_d p x s).1 (h _ (by simp))
            · exact (other_in.1 (fun k hk => h k (List.mem_append_left _ hk))) x hx
      have e2 : cellA t (foldQ (otherH (q :: t) q) l) p = areaQ (foldQ (otherH t p ++ [nearH q p]) l) := by
        unfold cellA
        rw [← fold_app]
        refine (fold_same ?_ ?_ hl hl ?_).2.2
        · intro h hh
          rcases List.mem_append.1 hh with hh | hh
          · exact other_half h hh
          · exact other_half h hh
        · intro h hh
          rcases List.mem_append.1 hh with hh | hh
          · exact other_half h hh
          · simp at hh; subst hh; exact near_half (Ne.symm hpq)
        · intro s
          refine and_congr_right fun _ => ?_
          constructor
          · intro h k hk
            rcases List.mem_append.1 hk with hk | hk
            · exact h k (List.mem_append_right _ hk)
            · simp at hk; subst hk
              exact (near_d q p s).2 ((other_in.1 (fun k hk => h k (List.mem_append_left _ hk))) p (List.mem_cons_of_mem q hp))
          · intro h k hk
            have a1 := other_in.1 (fun k hk => h k (List.mem_append_left [nearH q p] hk))
            have a2 := (near_d q p s).1 (h (nearH q p) (by simp))
            rcases List.mem_append.1 hk with hk | hk
            · refine (other_in (ps := q :: t) (p := q) (s := s)).2 ?_ k hk
              intro x hx
              rcases List.mem_cons.1 hx with hx | hx
              · subst hx; exact Rat.le_refl
              · exact Rat.le_trans a2 (a1 x hx)
            · exact h k (List.mem_append_left _ hk)
      rw [e1, e2]
      exact near_halves hpq _ _
    have := sum_sub _ _ _ t key
    have eq : cellA (q :: t) l q = areaQ (foldQ (otherH (q :: t) q) l) := rfl
    rw [eq]; grind
end Go.Proofs.Ytdfabocecpcmcaa
/- A convex polygon has area; which half-plane cuts first plays no part; two cells have no area in common. Over no program; written ahead of layer 8's code. -/
namespace Go.Proofs.Ytdfabocecpcmcaa
open Go.MagM
theorem csum_nonneg (a : Rat × Rat) : ∀ (r : List (Rat × Rat)) (c : Rat × Rat), (∀ u v, List.Sublist [u, v] (c :: r) → 0 < crossQ a u v) → 0 ≤ csum a (c :: r ++ [a])
  | [], c, _ => by simp [csum, crossQ_aba, Rat.add_zero]
  | d :: r, c, h => by
    have ih := csum_nonneg a r d (fun u v hs => h u v (List.Sublist.cons c hs))
    have h1 := h c d (List.Sublist.cons_cons c (List.Sublist.cons_cons d (List.nil_sublist r)))
    simp only [List.cons_append, csum] at ih ⊢
    grind
theorem area_pos {l : List (Rat × Rat)} (h : Conv l) : 0 < areaQ l := by
  have h3 := h.1
  have ht := h.tri
  match l, h3, ht with
  | a :: b :: c :: r, _, ht =>
    rw [area_csum a]
    have hp : ∀ u v, List.Sublist [u, v] (b :: c :: r) → 0 < crossQ a u v := fun u v hs => ht a u v (List.Sublist.cons_cons a hs)
    have h1 := hp b c (List.Sublist.cons_cons b (List.Sublist.cons_cons c (List.nil_sublist r)))
    have h2 := csum_nonneg a r c (fun u v hs => hp u v (List.Sublist.cons b hs))
    simp only [List.cons_append, csum, crossQ_aab] at h2 ⊢
    grind
theorem area_nonneg {l : List (Rat × Rat)} (h : Conv0 l) : 0 ≤ areaQ l := by
  rcases h with rfl | h
  · have e : areaQ [] = 0 := by simp [areaQ]
    rw [e]; exact Rat.le_refl
  · exact Rat.le_of_lt (area_pos h)
theorem area_zero {l : List (Rat × Rat)} (h : Conv0 l) : areaQ l = 0 ↔ l = [] := by
  constructor
  · intro e
    rcases h with rfl | h
    · rfl
    · have := area_pos h; rw [e] at this; exact absurd this Rat.lt_irrefl
  · rintro rfl; simp [areaQ]
/-- Which one cuts first plays no part. -/
theorem clip_comm {h k : Rat × Rat × Rat} {l : List (Rat × Rat)} (hh : Half0 h) (hk : Half0 k) (hl : Conv0 l) :
    (∃ u v, foldQ [h, k] l = u ++ v ∧ foldQ [k, h] l = v ++ u) ∧ (foldQ [h, k] l).length = (foldQ [k, h] l).length ∧ areaQ (foldQ [h, k] l) = areaQ (foldQ [k, h] l) := by
  refine fold_same ?_ ?_ hl hl (fun s => and_congr_right fun _ => ?_)
  · intro x hx; simp at hx; rcases hx with rfl | rfl <;> assumption
  · intro x hx; simp at hx; rcases hx with rfl | rfl <;> assumption
  · simp only [List.mem_cons, List.not_mem_nil, or_false, forall_eq_or_imp, forall_eq]
    exact and_comm
/-- Cut twice, nothing more is lost. -/
theorem clip_twice {h : Rat × Rat × Rat} {l : List (Rat × Rat)} (hh : Half0 h) (hl : Conv0 l) :
    (∃ u v, foldQ [h, h] l = u ++ v ∧ foldQ [h] l = v ++ u) ∧ (foldQ [h, h] l).length = (foldQ [h] l).length ∧ areaQ (foldQ [h, h] l) = areaQ (foldQ [h] l) := by
  refine fold_same ?_ ?_ hl hl (fun s => and_congr_right fun _ => ?_)
  · intro x hx; simp at hx; subst hx; assumption
  · intro x hx; simp at hx; subst hx; assumption
  · simp
/-- Two cells have no area in common: their common points lie on one line. -/
theorem cells_apart {ps : List (Rat × Rat)} {p q : Rat × Rat} (hp : p ∈ ps) (hq : q ∈ ps) {l : List (Rat × Rat)} {s : Rat × Rat} (h1 : Reg (otherH ps p) l s) (h2 : Reg (otherH ps q) l s) : fvQ (nearH p q).1 (nearH p q).2.1 (nearH p q).2.2 s = 0 := by
  have a := (near_d p q s).2 (other_in.1 h1.2 q hq)
  have b := (near_d q p s).2 (other_in.1 h2.2 p hp)
  unfold InH at a b
  rw [near_neg p q] at b
  simp only [] at b
  rw [fv_neg] at b
  grind
/-- Each point is in some cell. -/
theorem cell_some {l : List (Rat × Rat)} {s : Rat × Rat} (hs : InL l s) : ∀ ps : List (Rat × Rat), ps ≠ [] → ∃ p, p ∈ ps ∧ Reg (otherH ps p) l s := by
  have key : ∀ ps : List (Rat × Rat), ps ≠ [] → ∃ p, p ∈ ps ∧ ∀ q, q ∈ ps → dQ s p ≤ dQ s q := by
    intro ps
    induction ps with
    | nil => intro h; exact absurd rfl h
    | cons a t ih =>
      intro _
      by_cases ht : t = []
      · subst ht; exact ⟨a, by simp, by simp⟩
      · obtain ⟨p, hp, h⟩ := ih ht
        by_cases k : dQ s p ≤ dQ s a
        · exact ⟨p, by simp [hp], fun q hq => by rcases List.mem_cons.1 hq with rfl | hq; exact k; exact h q hq⟩
        · have k : dQ s a ≤ dQ s p := by grind
          exact ⟨a, by simp, fun q hq => by rcases List.mem_cons.1 hq with rfl | hq; exact Rat.le_refl; exact Rat.le_trans k (h q hq)⟩
  intro ps hn
  obtain ⟨p, hp, h⟩ := key ps hn
  exact ⟨p, hp, hs, other_in.2 h⟩
end Go.Proofs.Ytdfabocecpcmcaa
/- A cell of whole points has area. Over no program; written ahead of layer 8's code. -/
namespace Go.Proofs.Ytdfabocecpcmcaa
open Go.MagM
def ptQ (p : Int × Int) : Rat × Rat := ((p.1 : Rat), (p.2 : Rat))
theorem int_sq (d : Int) : 0 ≤ d * d * 2 + d := by
  by_cases h : 0 ≤ d
  · have := Int.mul_nonneg h h; omega
  · have := Int.mul_nonneg (show 0 ≤ -d by omega) (show 0 ≤ -d - 1 by omega)
    have e : -d * (-d - 1) = d * d + d := by grind
    have e2 : 0 ≤ d * d := by
      have := Int.mul_nonneg (show 0 ≤ -d by omega) (show 0 ≤ -d by omega)
      have e3 : -d * -d = d * d := by grind
      omega
    omega
theorem rat_sq (a b : Int) : 0 ≤ 2 * (((a : Rat) - b) * ((a : Rat) - b)) + ((a : Rat) - b) := by
  have h := int_sq (a - b)
  have e : (2 * (((a : Rat) - b) * ((a : Rat) - b)) + ((a : Rat) - b)) = (((a - b) * (a - b) * 2 + (a - b) : Int) : Rat) := by
    simp only [Rat.intCast_add, Rat.intCast_mul, Rat.intCast_sub]
    grind
  rw [e]
  exact Rat.intCast_nonneg.2 h
theorem sq_nonneg (a : Rat) : 0 ≤ a * a := by
  by_cases h : 0 ≤ a
  · exact Rat.mul_nonneg h h
  · have := Rat.mul_nonneg (show 0 ≤ -a by grind) (show 0 ≤ -a by grind); grind
theorem quarter_x (p q : Int × Int) : dQ ((ptQ p).1 + 1 / 4, (ptQ p).2) (ptQ p) ≤ dQ ((ptQ p).1 + 1 / 4, (ptQ p).2) (ptQ q) := by
  have h1 := rat_sq p.1 q.1
  have h2 := sq_nonneg ((p.2 : Rat) - q.2)
  unfold dQ ptQ; simp only []
  grind
theorem quarter_y (p q : Int × Int) : dQ ((ptQ p).1, (ptQ p).2 + 1 / 4) (ptQ p) ≤ dQ ((ptQ p).1, (ptQ p).2 + 1 / 4) (ptQ q) := by
  have h1 := rat_sq p.2 q.2
  have h2 := sq_nonneg ((p.1 : Rat) - q.1)
  unfold dQ ptQ; simp only []
  grind
theorem own_near (s q : Rat × Rat) : dQ s s ≤ dQ s q := by
  have h1 := sq_nonneg (s.1 - q.1)
  have h2 := sq_nonneg (s.2 - q.2)
  unfold dQ; grind
/-- A whole point that lies well within has a cell with area. -/
theorem cell_ne {ps : List (Int × Int)} {p : Int × Int} {l : List (Rat × Rat)} (hl : Conv0 l) (h0 : InL l (ptQ p)) (h1 : InL l ((ptQ p).1 + 1 / 4, (ptQ p).2)) (h2 : InL l ((ptQ p).1, (ptQ p).2 + 1 / 4)) : foldQ (otherH (ps.map ptQ) (ptQ p)) l ≠ [] := by
  refine (fold_some other_half hl).2 ⟨_, _, _, ?_, ⟨h0, ?_⟩, ⟨h1, ?_⟩, ⟨h2, ?_⟩⟩
  · unfold crossQ; simp only []
    intro e
    grind
  all_goals
    rw [other_in]
    intro q hq
    rw [List.mem_map] at hq
    obtain ⟨q, _, rfl⟩ := hq
  · exact own_near _ _
  · exact quarter_x p q
  · exact quarter_y p q
end Go.Proofs.Ytdfabocecpcmcaa
/- The square, and half-planes by a factor. Over no program; written ahead of layer 8's code. -/
namespace Go.Proofs.Ytdfabocecpcmcaa
open Go.MagM
def boxQ (n : Rat) : List (Rat × Rat) := [(-n, -n), (n, -n), (n, n), (-n, n)]
theorem box_conv {n : Rat} (h : 0 < n) : Conv (boxQ n) := by
  have h2 := Rat.mul_pos h h
  refine ⟨by simp [boxQ], fun i k hi hk h1 h3 => ?_⟩
  simp only [boxQ, List.length_cons, List.length_nil] at hi hk h3
  have ei : i = 0 ∨ i = 1 ∨ i = 2 ∨ i = 3 := by omega
  have ek : k = 0 ∨ k = 1 ∨ k = 2 ∨ k = 3 := by omega
  rcases ei with rfl | rfl | rfl | rfl <;> rcases ek with rfl | rfl | rfl | rfl <;> first | (exfalso; omega) | (simp [cor, boxQ, crossQ]; grind)
theorem box_in {n : Rat} (h : 0 < n) (s : Rat × Rat) : InL (boxQ n) s ↔ (-n ≤ s.1 ∧ s.1 ≤ n) ∧ (-n ≤ s.2 ∧ s.2 ≤ n) := by
  have key : ∀ u : Rat, 0 ≤ n * u → 0 ≤ u := by
    intro u k
    by_cases g : 0 ≤ u
    · exact g
    · have := Rat.mul_pos h (show 0 < -u by grind); grind
  have c0 : crossQ (cor (boxQ n) 0) (cor (boxQ n) 1) s = n * (2 * (s.2 + n)) := by simp [cor, boxQ, crossQ]; grind
  have c1 : crossQ (cor (boxQ n) 1) (cor (boxQ n) 2) s = n * (2 * (n - s.1)) := by simp [cor, boxQ, crossQ]; grind
  have c2 : crossQ (cor (boxQ n) 2) (cor (boxQ n) 3) s = n * (2 * (n - s.2)) := by simp [cor, boxQ, crossQ]; grind
  have c3 : crossQ (cor (boxQ n) 3) (cor (boxQ n) 4) s = n * (2 * (s.1 + n)) := by simp [cor, boxQ, crossQ]; grind
  constructor
  · rintro ⟨_, k⟩
    have k0 := k 0 (by simp [boxQ])
    have k1 := k 1 (by simp [boxQ])
    have k2 := k 2 (by simp [boxQ])
    have k3 := k 3 (by simp [boxQ])
    rw [c0] at k0; rw [c1] at k1; rw [c2] at k2; rw [c3] at k3
    have := key _ k0
    have := key _ k1
    have := key _ k2
    have := key _ k3
    grind
  · rintro ⟨⟨a1, a2⟩, b1, b2⟩
    refine ⟨by simp [boxQ], fun i hi => ?_⟩
    simp only [boxQ, List.length_cons, List.length_nil] at hi
    have ei : i = 0 ∨ i = 1 ∨ i = 2 ∨ i = 3 := by omega
    rcases ei with rfl | rfl | rfl | rfl
    · rw [c0]; exact Rat.mul_nonneg (Rat.le_of_lt h) (by grind)
    · rw [c1]; exact Rat.mul_nonneg (Rat.le_of_lt h) (by grind)
    · rw [c2]; exact Rat.mul_nonneg (Rat.le_of_lt h) (by grind)
    · rw [c3]; exact Rat.mul_nonneg (Rat.le_of_lt h) (by grind)
theorem box_area (n : Rat) : areaQ (boxQ n) = 8 * (n * n) := by
  unfold boxQ
  rw [area_dsum]
  simp only [List.cons_append, List.nil_append, dsum, det]
  grind
/-- Nearer, as the difference of two squared distances. -/
theorem near_eq (p q s : Rat × Rat) : fvQ (nearH p q).1 (nearH p q).2.1 (nearH p q).2.2 s = dQ s p - dQ s q := by
  unfold nearH fvQ dQ; simp only []; grind
/-- By a factor. -/
theorem fv_scale (k A B C : Rat) (s : Rat × Rat) : fvQ (k * A) (k * B) (k * C) s = k * fvQ A B C s := by unfold fvQ; grind
theorem sign_scale {k u : Rat} (hk : 0 < k) : (k * u ≤ 0 ↔ u ≤ 0) ∧ (k * u < 0 ↔ u < 0) := by
  constructor
  · constructor
    · intro h
      by_cases g : u ≤ 0
      · exact g
      · have := Rat.mul_pos hk (show 0 < u by grind); grind
    · intro h
      have := Rat.mul_nonneg (Rat.le_of_lt hk) (show 0 ≤ -u by grind); grind
  · constructor
    · intro h
      by_cases g : u < 0
      · exact g
      · have := Rat.mul_nonneg (Rat.le_of_lt hk) (show 0 ≤ u by grind); grind
    · intro h
      have := Rat.mul_pos hk (show 0 < -u by grind); grind
end Go.Proofs.Ytdfabocecpcmcaa
/- What is left of a polygon that is cut, as a list; how many corners it has; on which lines its sides lie. Over no program. -/
namespace Go.Proofs.Ytdfabocecpcmcaa
open Go.MagM
theorem tri_three {l : List (Rat × Rat)} (h : Tri l) (h3 : 3 ≤ l.length) : 0 < crossQ (cor l 0) (cor l 1) (cor l 2) := h.at (by omega) (by omega) (by omega)
theorem cor_mem {l : List (Rat × Rat)} {i : Nat} (h : 0 < l.length) : cor l i ∈ l := by
  have hi := Nat.mod_lt i h
  rw [← cor_mod, cor_get hi]
  exact List.getElem_mem hi
theorem cut_le {A B C : Rat} {l : List (Rat × Rat)} {p : Rat × Rat} (h : p ∈ cutQ A B C l) : fvQ A B C p ≤ 0 := by
  unfold cutQ at h
  obtain ⟨q, hq, rfl⟩ := List.mem_map.1 h
  exact (fv_pos_le (mem_cutT hq)).1
/-- If no corner lies strictly within, two corners are left at most. -/
theorem cut_few {A B C : Rat} (hAB : A ≠ 0 ∨ B ≠ 0) {l : List (Rat × Rat)} (hl : Conv l) (h : ¬ ∃ i, i < l.length ∧ fvQ A B C (cor l i) < 0) : (cutQ A B C l).length < 3 := by
  by_cases k : (cutQ A B C l).length < 3
  · exact k
  · exfalso
    have ht := tri_three (hl.tri.cut (A := A) (B := B) (C := C) hl.1) (by omega)
    have hz : ∀ p, p ∈ cutQ A B C l → fvQ A B C p = 0 := by
      intro p hp
      have h1 := cut_le hp
      unfold cutQ at hp
      obtain ⟨q, hq, rfl⟩ := List.mem_map.1 hp
      have P := mem_cutT hq
      by_cases h2 : q.2 = 0
      · obtain ⟨i, t⟩ := q
        simp only [] at h2
        subst h2
        rw [posQ_zero] at h1 ⊢
        have : ¬ fvQ A B C (cor l i) < 0 := fun k => h ⟨i, P.lt, k⟩
        grind
      · exact (fv_pos_le P).2 h2
    have g := fun i => hz (cor (cutQ A B C l) i) (cor_mem (by omega))
    rw [on_line hAB (g 0) (g 1) (g 2)] at ht
    exact absurd ht (by decide)
/-- What the program answers: what is kept, none if that is less than three. -/
def clipP (A B C : Rat) (l : List (Rat × Rat)) : List (Rat × Rat) := if (cutQ A B C l).length < 3 then [] else cutQ A B C l
theorem clipP_eq {A B C : Rat} (hAB : A ≠ 0 ∨ B ≠ 0) {l : List (Rat × Rat)} (hl : Conv0 l) : clipP A B C l = clipQ A B C l := by
  rcases hl with rfl | hl
  · rw [clip_nil]; unfold clipP; split
    · rfl
    · unfold cutQ cutT; simp
  · by_cases k : ∃ i, i < l.length ∧ fvQ A B C (cor l i) < 0
    · rw [clipQ_pos k]
      obtain ⟨i, hi, hf⟩ := k
      have := cut_three (A := A) (B := B) (C := C) hl.1 hi hf
      unfold clipP; rw [if_neg (by omega)]
    · rw [clipQ_neg k]
      unfold clipP; rw [if_pos (cut_few hAB hl k)]
theorem clip_conv0 {A B C : Rat} {l : List (Rat × Rat)} (hl : Conv0 l) : Conv0 (clipQ A B C l) := by
  rcases hl with rfl | hl
  · rw [clip_nil]; exact .inl rfl
  · by_cases h : clipQ A B C l = []
    · exact .inl h
    · exact .inr (clip_conv hl h)
/-- How many corners. -/
theorem filter_flat {α β : Type} (p : β → Bool) (f : α → List β) (h : ∀ a, ((f a).filter p).length ≤ 1) : ∀ l : List α, ((l.flatMap f).filter p).length ≤ l.length
  | [] => by simp
  | a :: t => by
    have := filter_flat p f h t
    have := h a
    rw [List.flatMap_cons, List.filter_append, List.length_append, List.length_cons]; omega
theorem filter_both {β : Type} (p : β → Bool) : ∀ l : List β, l.length = (l.filter p).length + (l.filter (fun x => !p x)).length
  | [] => rfl
  | a :: t => by
    have := filter_both p t
    cases h : p a <;> simp [h] <;> omega
theorem cut_len {A B C : Rat} (hAB : A ≠ 0 ∨ B ≠ 0) {l : List (Rat × Rat)} (hl : Tri l) (h3 : 3 ≤ l.length) : (cutQ A B C l).length ≤ l.length + 2 := by
  have h1 : ((cutQ A B C l).filter (fun p => decide (fvQ A B C p ≠ 0))).length ≤ l.length := by
    rw [cutQ_flat]
    have := filter_flat (fun p => decide (fvQ A B C p ≠ 0)) (fun i => cutAt A B C (cor l i) (cor l (i + 1))) (fun i => by
      unfold cutAt
      rw [List.filter_append, List.length_append]
      have a1 : ((if fvQ A B C (cor l i) ≤ 0 then [cor l i] else []).filter (fun p => decide (fvQ A B C p ≠ 0))).length ≤ 1 := by
        split
        · exact List.length_filter_le _ _
        · simp
      have a2 : ((if fvQ A B C (cor l i) * fvQ A B C (cor l (i + 1)) < 0 then [crossPt A B C (cor l i) (cor l (i + 1))] else []).filter (fun p => decide (fvQ A B C p ≠ 0))).length = 0 := by
        split
        · rename_i h; simp [crossPt_on h]
        · simp
      omega) (List.range l.length)
    rwa [List.length_range] at this
  have h2 : ((cutQ A B C l).filter (fun p => !decide (fvQ A B C p ≠ 0))).length ≤ 2 := by
    by_cases k : ((cutQ A B C l).filter (fun p => !decide (fvQ A B C p ≠ 0))).length ≤ 2
    · exact k
    · exfalso
      have ht := tri_three ((hl.cut (A := A) (B := B) (C := C) h3).sub (List.filter_sublist (p := fun p => !decide (fvQ A B C p ≠ 0)))) (by omega)
      have g := fun i => cor_mem (l := (cutQ A B C l).filter (fun p => !decide (fvQ A B C p ≠ 0))) (i := i) (by omega)
      have g2 : ∀ i, fvQ A B C (cor ((cutQ A B C l).filter (fun p => !decide (fvQ A B C p ≠ 0))) i) = 0 := fun i => by
        have := (List.mem_filter.1 (g i)).2
        simpa using this
      rw [on_line hAB (g2 0) (g2 1) (g2 2)] at ht
      exact absurd ht (by decide)
  have := filter_both (fun p => decide (fvQ A B C p ≠ 0)) (cutQ A B C l)
  omega
theorem clip_len {A B C : Rat} (hAB : A ≠ 0 ∨ B ≠ 0) {l : List (Rat × Rat)} (hl : Conv0 l) : (clipQ A B C l).length ≤ l.length + 2 := by
  rcases hl with rfl | hl
  · rw [clip_nil]; simp
  · by_cases k : ∃ i, i < l.length ∧ fvQ A B C (cor l i) < 0
    · rw [clipQ_pos k]; exact cut_len hAB hl.tri hl.1
    · rw [clipQ_neg k]; simp
/-- Each side lies on the line of one of these half-planes. -/
def OnH (h : Rat × Rat × Rat) (p : Rat × Rat) : Prop := fvQ h.1 h.2.1 h.2.2 p = 0
def Lined (S : Rat × Rat × Rat → Prop) (l : List (Rat × Rat)) : Prop := ∀ i, i < l.length → ∃ h, S h ∧ Half0 h ∧ OnH h (cor l i) ∧ OnH h (cor l (i + 1))
theorem on_way {h : Rat × Rat × Rat} {a b : Rat × Rat} {t : Rat} (ha : OnH h a) (hb : OnH h b) : OnH h (wayQ a b t) := by
  unfold OnH at *; rw [fv_way, ha, hb]; grind
theorem Lined.cut {S : Rat × Rat × Rat → Prop} {A B C : Rat} {l : List (Rat × Rat)} (hS : S (A, B, C)) (hAB : A ≠ 0 ∨ B ≠ 0) (hl : Lined S l) (hc : Conv l) : Lined S (cutQ A B C l) := by
  intro k hk
  have hk' : k < (cutT A B C l).length := by unfold cutQ at hk; rwa [List.length_map] at hk
  rw [cor_cut hk', cor_cut' hk']
  by_cases h1 : fvQ A B C (posQ l (cutT A B C l)[k]) < 0
  · obtain ⟨i, t, hi, _, e1, e2⟩ := next_side hc.1 hk' h1
    obtain ⟨h, a, b, c, d⟩ := hl i hi
    exact ⟨h, a, b, by rw [e1]; exact c, by rw [e2]; exact on_way c d⟩
  · by_cases h2 : fvQ A B C (posQ l (nxt A B C l k)) < 0
    · obtain ⟨i, t, hi, _, e1, e2⟩ := prev_side hc.1 hk' h2
      obtain ⟨h, a, b, c, d⟩ := hl i hi
      exact ⟨h, a, b, by rw [e1]; exact on_way c d, by rw [e2]; exact d⟩
    · have m1 := cut_le (A := A) (B := B) (C := C) (l := l) (p := posQ l (cutT A B C l)[k]) (by unfold cutQ; exact List.mem_map_of_mem (List.getElem_mem _))
      have m2 : fvQ A B C (posQ l (nxt A B C l k)) ≤ 0 := by
        rw [← cor_cut' hk']; exact cut_le (cor_mem (by omega))
      exact ⟨(A, B, C), hS, hAB, Rat.le_antisymm m1 (by grind), Rat.le_antisymm m2 (by grind)⟩
theorem Lined.nil (S : Rat × Rat × Rat → Prop) : Lined S [] := fun i hi => by simp at hi
theorem Lined.clip {S : Rat × Rat × Rat → Prop} {A B C : Rat} {l : List (Rat × Rat)} (hS : S (A, B, C)) (hAB : A ≠ 0 ∨ B ≠ 0) (hl : Lined S l) (hc : Conv0 l) : Lined S (clipQ A B C l) := by
  rcases hc with rfl | hc
  · rw [clip_nil]; exact Lined.nil S
  · by_cases k : ∃ i, i < l.length ∧ fvQ A B C (cor l i) < 0
    · rw [clipQ_pos k]; exact hl.cut hS hAB hc
    · rw [clipQ_neg k]; exact Lined.nil S
/-- A corner is where two of the lines meet. -/
theorem two_lines {S : Rat × Rat × Rat → Prop} {l : List (Rat × Rat)} (hl : Lined S l) (hc : Conv l) {i : Nat} (hi : i < l.length) :
    ∃ h k, S h ∧ S k ∧ OnH h (cor l i) ∧ OnH k (cor l i) ∧ h.1 * k.2.1 - k.1 * h.2.1 ≠ 0 := by
  obtain ⟨j, hj, hji⟩ : ∃ j, j < l.length ∧ (j + 1) % l.length = i := by
    by_cases h0 : i = 0
    · subst h0; exact ⟨l.length - 1, by omega, by rw [show l.length - 1 + 1 = l.length by omega, Nat.mod_self]⟩
    · exact ⟨i - 1, by omega, by rw [show i - 1 + 1 = i by omega, Nat.mod_eq_of_lt hi]⟩
  have ej : cor l (j + 1) = cor l i := by rw [← cor_mod, hji]
  obtain ⟨h, h1, h2, h3, h4⟩ := hl j hj
  obtain ⟨k, k1, k2, k3, k4⟩ := hl i hi
  rw [ej] at h4
  refine ⟨h, k, h1, k1, h4, k3, fun hd => ?_⟩
  have hx : 0 < crossQ (cor l i) (cor l (i + 1)) (cor l j) := by
    have n1 := mod_next hc.1 hi
    have n2 := mod_next hc.1 hj
    have := hc.1
    exact hc.2 i j hi hj (by omega) (by omega)
  generalize cor l i = p at *
  generalize cor l (i + 1) = q at *
  generalize cor l j = r at *
  obtain ⟨A, B, C⟩ := h
  obtain ⟨A', B', C'⟩ := k
  unfold OnH fvQ at *
  simp only [] at *
  have hz : crossQ p q r = 0 := by
    unfold crossQ
    -- the ways p - r, q - p are both upright on (A, B) and (A', B')
    have e1 : A * (r.1 - p.1) + B * (r.2 - p.2) = 0 := by grind
    have e2 : A' * (q.1 - p.1) + B' * (q.2 - p.2) = 0 := by grind
    generalize r.1 - p.1 = u at *
    generalize r.2 - p.2 = v at *
    generalize q.1 - p.1 = x at *
    generalize q.2 - p.2 = y at *
    rcases h2 with hA | hB
    · rcases k2 with hA' | hB'
      · have : A * A' * (x * v - y * u) = 0 := by grind
        rcases Rat.mul_eq_zero.1 this with z | z
        · rcases Rat.mul_eq_zero.1 z with z | z
          · exact absurd z hA
          · exact absurd z hA'
        · exact z
      · have : A * B' * (x * v - y * u) = 0 := by grind
        rcases Rat.mul_eq_zero.1 this with z | z
        · rcases Rat.mul_eq_zero.1 z with z | z
          · exact absurd z hA
          · exact absurd z hB'
        · exact z
    · rcases k2 with hA' | hB'
      · have : B * A' * (x * v - y * u) = 0 := by grind
        rcases Rat.mul_eq_zero.1 this with z | z
        · rcases Rat.mul_eq_zero.1 z with z | z
          · exact absurd z hB
          · exact absurd z hA'
        · exact z
      · have : B * B' * (x * v - y * u) = 0 := by grind
        rcases Rat.mul_eq_zero.1 this with z | z
        · rcases Rat.mul_eq_zero.1 z with z | z
          · exact absurd z hB
          · exact absurd z hB'
        · exact z
  rw [hz] at hx
  exact absurd hx (by decide)
end Go.Proofs.Ytdfabocecpcmcaa
/- How large the corners' numbers are: each is where two lines of small numbers meet. -/
namespace Go.MagM
/-- A right number of which both parts are small has few words. -/
theorem RF.short {w : World} {v : Value} {L K : Nat} {q : Rat} (h : RF w v L q) (hn : q.num.natAbs < B ^ K) (hd : q.den < B ^ K) : RF w v K q := by
  obtain ⟨m, ao, n, c, bo, k, d, h1, ⟨m', vm, N, h2, h3, h4, h5⟩, h6⟩ := h
  refine ⟨m, ao, n, c, bo, k, d, h1, ⟨m', vm, N, h2, h3.short ?_, h4, h5⟩, h6.short hd⟩
  have : q.num.natAbs = N := by rw [h4]; unfold sgn; cases m' <;> simp
  omega
/-- q times D is N: its parts are no greater. -/
theorem parts_le {q : Rat} {N D : Int} (hD : D ≠ 0) (h : q * (D : Rat) = (N : Rat)) : q.num.natAbs ≤ N.natAbs ∧ q.den ≤ D.natAbs := by
  have e : q = Rat.divInt N D := by
    have h2 : q = (N : Rat) / (D : Rat) := by
      have hD' : (D : Rat) ≠ 0 := fun e => hD (by exact_mod_cast e)
      rw [← h, Rat.div_def, Rat.mul_assoc, Rat.mul_inv_cancel _ hD', Rat.mul_one]
    rw [h2, Rat.divInt_eq_div]
  have k : q.num * D = N * (q.den : Int) := by
    have := (Rat.divInt_eq_divInt_iff (n₁ := q.num) (n₂ := N) (d₁ := (q.den : Int)) (d₂ := D) (by have := q.den_nz; omega) hD).1 (by rw [← e, Rat.num_divInt_den])
    exact this
  have kn := congrArg Int.natAbs k
  rw [Int.natAbs_mul, Int.natAbs_mul, Int.natAbs_natCast] at kn
  have hc := q.reduced
  have d1 : q.den ∣ D.natAbs := hc.symm.dvd_of_dvd_mul_left ⟨N.natAbs, by rw [kn, Nat.mul_comm]⟩
  have d2 : q.num.natAbs ∣ N.natAbs := hc.dvd_of_dvd_mul_right ⟨D.natAbs, kn.symm⟩
  refine ⟨?_, Nat.le_of_dvd (by omega) d1⟩
  by_cases hN : N = 0
  · subst hN
    rw [Int.natAbs_zero, Nat.zero_mul] at kn
    rcases Nat.mul_eq_zero.1 kn with h0 | h0
    · rw [h0]; exact Nat.zero_le _
    · exact absurd (Int.natAbs_eq_zero.1 h0) hD
  · exact Nat.le_of_dvd (by omega) d2
end Go.MagM
namespace Go.Proofs.Ytdfabocecpcmcaa
open Go.MagM
/-- Both parts have one word. -/
def Sml (q : Rat) : Prop := q.num.natAbs < B ∧ q.den < B
def SmlH (h : Rat × Rat × Rat) : Prop := Sml h.1 ∧ Sml h.2.1 ∧ Sml h.2.2
theorem num_den (q : Rat) : q * ((q.den : Int) : Rat) = (q.num : Rat) := by
  have h2 : ((q.den : Int) : Rat) ≠ 0 := fun e => q.den_nz (by exact_mod_cast e)
  have h1 : q = (q.num : Rat) / ((q.den : Int) : Rat) := by
    rw [← Rat.divInt_eq_div, Rat.num_divInt_den]
  have h4 := Rat.div_mul_cancel (a := (q.num : Rat)) h2
  rwa [← h1] at h4
/-- The same half-plane, by whole numbers. -/
theorem whole_half {A B' C : Rat} (hA : Sml A) (hB : Sml B') (hC : Sml C) : ∃ a b c d : Int, d ≠ 0 ∧ A * (d : Rat) = (a : Rat) ∧ B' * (d : Rat) = (b : Rat) ∧ C * (d : Rat) = (c : Rat) ∧ a.natAbs < B ^ 3 ∧ b.natAbs < B ^ 3 ∧ c.natAbs < B ^ 3 := by
  have p : ∀ x y z : Nat, x < B → y < B → z < B → x * y * z < B ^ 3 := by
    intro x y z hx hy hz
    have h1 : x * y ≤ B * B := Nat.mul_le_mul (by omega) (by omega)
    have hB0 : 0 < B := by omega
    calc x * y * z ≤ B * B * z := Nat.mul_le_mul_right _ h1
      _ < B * B * B := Nat.mul_lt_mul_of_pos_left hz (Nat.mul_pos hB0 hB0)
      _ = B ^ 3 := by rw [Nat.pow_succ, Nat.pow_succ, Nat.pow_one]
  refine ⟨A.num * (B'.den : Int) * (C.den : Int), B'.num * (A.den : Int) * (C.den : Int), C.num * (A.den : Int) * (B'.den : Int), (A.den : Int) * (B'.den : Int) * (C.den : Int), ?_, ?_, ?_, ?_, ?_, ?_, ?_⟩
  · have h1 := A.den_nz; have h2 := B'.den_nz; have h3 := C.den_nz
    exact Int.mul_ne_zero (Int.mul_ne_zero (by omega) (by omega)) (by omega)
  · have := num_den A
    rw [Rat.intCast_mul, Rat.intCast_mul, Rat.intCast_mul, Rat.intCast_mul, ← this]; grind
  · have := num_den B'
    rw [Rat.intCast_mul, Rat.intCast_mul, Rat.intCast_mul, Rat.intCast_mul, ← this]; grind
  · have := num_den C
    rw [Rat.intCast_mul, Rat.intCast_mul, Rat.intCast_mul, Rat.intCast_mul, ← this]; grind
  · rw [Int.natAbs_mul, Int.natAbs_mul, Int.natAbs_natCast, Int.natAbs_natCast]; exact p _ _ _ hA.1 hB.2 hC.2
  · rw [Int.natAbs_mul, Int.natAbs_mul, Int.natAbs_natCast, Int.natAbs_natCast]; exact p _ _ _ hB.1 hA.2 hC.2
  · rw [Int.natAbs_mul, Int.natAbs_mul, Int.natAbs_natCast, Int.natAbs_natCast]; exact p _ _ _ hC.1 hA.2 hB.2
theorem det_small {a b c d : Int} {M : Nat} (ha : a.natAbs < M) (hb : b.natAbs < M) (hc : c.natAbs < M) (hd : d.natAbs < M) : (a * b - c * d).natAbs ≤ 2 * (M * M) := by
  have h1 : (a * b).natAbs ≤ M * M := by rw [Int.natAbs_mul]; exact Nat.mul_le_mul (by omega) (by omega)
  have h2 : (c * d).natAbs ≤ M * M := by rw [Int.natAbs_mul]; exact Nat.mul_le_mul (by omega) (by omega)
  omega
theorem seven : 2 * (B ^ 3 * B ^ 3) < B ^ 7 := by
  have hB : 2 < B := by unfold B; omega
  have h : 0 < B ^ 6 := Nat.pow_pos (by omega)
  have e : B ^ 7 = B * B ^ 6 := by rw [Nat.pow_succ, Nat.mul_comm]
  rw [← Nat.pow_add, e]
  exact Nat.mul_lt_mul_of_pos_right hB h
theorem meet_small {A B1 C A' B' C' x y : Rat} (h : SmlH (A, B1, C)) (h' : SmlH (A', B', C')) (hd : A * B' - A' * B1 ≠ 0) (e1 : A * x + B1 * y - C = 0) (e2 : A' * x + B' * y - C' = 0) :
    (x.num.natAbs < B ^ 7 ∧ x.den < B ^ 7) ∧ (y.num.natAbs < B ^ 7 ∧ y.den < B ^ 7) := by
  obtain ⟨a, b, c, d, hd0, ha, hb, hc, sa, sb, sc⟩ := whole_half h.1 h.2.1 h.2.2
  obtain ⟨a', b', c', d', hd0', ha', hb', hc', sa', sb', sc'⟩ := whole_half h'.1 h'.2.1 h'.2.2
  simp only [] at ha hb hc ha' hb' hc'
  have hD : a * b' - a' * b ≠ 0 := by
    intro e
    have e3 : ((a * b' - a' * b : Int) : Rat) = ((0 : Int) : Rat) := by rw [e]
    rw [Rat.intCast_sub, Rat.intCast_mul, Rat.intCast_mul, ← ha, ← hb, ← ha', ← hb'] at e3
    have e4 : (d : Rat) * (d' : Rat) * (A * B' - A' * B1) = 0 := by
      have z : ((0 : Int) : Rat) = 0 := rfl
      rw [z] at e3; grind
    have n1 : (d : Rat) ≠ 0 := fun e => hd0 (by exact_mod_cast e)
    have n2 : (d' : Rat) ≠ 0 := fun e => hd0' (by exact_mod_cast e)
    rcases Rat.mul_eq_zero.1 e4 with z | z
    · rcases Rat.mul_eq_zero.1 z with z | z
      · exact n1 z
      · exact n2 z
    · exact hd z
  have kx : x * ((a * b' - a' * b : Int) : Rat) = ((c * b' - c' * b : Int) : Rat) := by
    rw [Rat.intCast_sub, Rat.intCast_mul, Rat.intCast_mul, Rat.intCast_sub, Rat.intCast_mul, Rat.intCast_mul, ← ha, ← hb, ← ha', ← hb', ← hc, ← hc']; grind
  have ky : y * ((a * b' - a' * b : Int) : Rat) = ((a * c' - a' * c : Int) : Rat) := by
    rw [Rat.intCast_sub, Rat.intCast_mul, Rat.intCast_mul, Rat.intCast_sub, Rat.intCast_mul, Rat.intCast_mul, ← ha, ← hb, ← ha', ← hb', ← hc, ← hc']; grind
  have s := seven
  have px := parts_le hD kx
  have py := parts_le hD ky
  have l1 := det_small sa sb' sa' sb
  have l2 := det_small sc sb' sc' sb
  have l3 := det_small sa sc' sa' sc
  omega
/-- A polygon that comes of small half-planes. -/
def Poly (l : List (Rat × Rat)) : Prop := Conv0 l ∧ Lined SmlH l
theorem Poly.small {l : List (Rat × Rat)} (h : Poly l) {i : Nat} {x y : Rat} (hi : l[i]? = some (x, y)) : (x.num.natAbs < B ^ 7 ∧ x.den < B ^ 7) ∧ (y.num.natAbs < B ^ 7 ∧ y.den < B ^ 7) := by
  obtain ⟨hlt, he⟩ := List.getElem?_eq_some_iff.1 hi
  rcases h.1 with rfl | hc
  · simp at hlt
  · obtain ⟨k, k', s, s', e1, e2, hd⟩ := two_lines h.2 hc hlt
    rw [cor_get hlt, he] at e1 e2
    exact meet_small s s' hd e1 e2
theorem Poly.clip {A B C : Rat} {l : List (Rat × Rat)} (h : Poly l) (hAB : A ≠ 0 ∨ B ≠ 0) (hs : SmlH (A, B, C)) : Poly (clipQ A B C l) := ⟨clip_conv0 h.1, h.2.clip hs hAB h.1⟩
theorem Poly.nil : Poly [] := ⟨.inl rfl, Lined.nil _⟩
theorem sml_int {z : Int} (h : z.natAbs < B) : Sml ((z : Int) : Rat) := ⟨by rw [Rat.num_intCast]; exact h, by rw [Rat.den_intCast]; unfold B; omega⟩
theorem cor_at {l : List (Rat × Rat)} {i : Nat} (h : i < l.length) : l[i]? = some (cor l i) := by rw [List.getElem?_eq_getElem h, cor_get h]
theorem box_poly {n : Int} (h0 : 0 < n) (h : n.natAbs < B) : Poly (boxQ (n : Rat)) := by
  have hn : (0 : Rat) < (n : Rat) := by exact_mod_cast h0
  have sn := sml_int h
  have sm : Sml (-(n : Rat)) := by
    have := sml_int (z := -n) (by omega)
    rwa [Rat.intCast_neg] at this
  have s0 : Sml 0 := sml_int (z := 0) (by simp; unfold B; omega)
  have s1 : Sml 1 := sml_int (z := 1) (by simp; unfold B; omega)
  have one : (1 : Rat) ≠ 0 := by decide
  refine ⟨.inr (box_conv hn), fun i hi => ?_⟩
  simp [boxQ] at hi
  obtain rfl | rfl | rfl | rfl : i = 0 ∨ i = 1 ∨ i = 2 ∨ i = 3 := by omega
  · exact ⟨(0, 1, -(n : Rat)), ⟨s0, s1, sm⟩, .inr one, by simp [OnH, fvQ, cor, boxQ]; grind, by simp [OnH, fvQ, cor, boxQ]; grind⟩
  · exact ⟨(1, 0, (n : Rat)), ⟨s1, s0, sn⟩, .inl one, by simp [OnH, fvQ, cor, boxQ]; grind, by simp [OnH, fvQ, cor, boxQ]; grind⟩
  · exact ⟨(0, 1, (n : Rat)), ⟨s0, s1, sn⟩, .inr one, by simp [OnH, fvQ, cor, boxQ]; grind, by simp [OnH, fvQ, cor, boxQ]; grind⟩
  · exact ⟨(1, 0, -(n : Rat)), ⟨s1, s0, sm⟩, .inl one, by simp [OnH, fvQ, cor, boxQ]; grind, by simp [OnH, fvQ, cor, boxQ]; grind⟩
end Go.Proofs.Ytdfabocecpcmcaa
/- Going round a convex polygon its sides begin to rise once. Over no program. -/
namespace Go.Proofs.Ytdfabocecpcmcaa
open Go.MagM
/-- A side that doesn't rise, then one that does. -/
def riseQ (l : List (Rat × Rat)) (i : Nat) : Prop := (cor l (i + 1)).2 ≤ (cor l i).2 ∧ (cor l (i + 1)).2 < (cor l (i + 2)).2
instance (l : List (Rat × Rat)) (i : Nat) : Decidable (riseQ l i) := by unfold riseQ; infer_instance
def cntR (l : List (Rat × Rat)) : Nat → Nat
  | 0 => 0
  | k + 1 => cntR l k + if riseQ l k then 1 else 0
theorem rise_low {l : List (Rat × Rat)} (hc : Conv l) {i k : Nat} (hi : i < l.length) (hk : k < l.length) (r : riseQ l i) (h1 : k ≠ i) (h2 : k ≠ (i + 1) % l.length) : (cor l (i + 1)).2 < (cor l k).2 := by
  have h3 := hc.1
  have n1 := mod_next h3 hi
  have hm := Nat.mod_lt (i + 1) (show 0 < l.length by omega)
  have n2 := mod_next h3 hm
  have hp := hc.2 i k hi hk h1 h2
  have e1 : cor l ((i + 1) % l.length) = cor l (i + 1) := cor_mod _ _
  have e2 : cor l ((i + 1) % l.length + 1) = cor l (i + 2) := by
    rw [← cor_mod l ((i + 1) % l.length + 1), ← cor_mod l (i + 2)]
    congr 1
    rw [Nat.mod_add_mod]
  have hq : 0 ≤ crossQ (cor l (i + 1)) (cor l (i + 2)) (cor l k) := by
    have := (corner_in hc hk).2 _ hm
    rwa [e1, e2] at this
  have hD : 0 < crossQ (cor l (i + 1)) (cor l (i + 2)) (cor l i) := by
    have := hc.2 _ i hm hi (by omega) (by omega)
    rwa [e1, e2] at this
  obtain ⟨r1, r2⟩ := r
  generalize cor l i = a at *
  generalize cor l (i + 1) = b at *
  generalize cor l (i + 2) = c at *
  generalize cor l k = p at *
  have e : crossQ b c a * (p.2 - b.2) = crossQ a b p * (c.2 - b.2) + crossQ b c p * (a.2 - b.2) := by unfold crossQ; grind
  have k1 := Rat.mul_pos hp (show 0 < c.2 - b.2 by grind)
  have k2 := Rat.mul_nonneg hq (show 0 ≤ a.2 - b.2 by grind)
  by_cases h : b.2 < p.2
  · exact h
  · have := Rat.mul_nonneg (Rat.le_of_lt hD) (show 0 ≤ b.2 - p.2 by grind)
    grind
theorem rise_once {l : List (Rat × Rat)} (hc : Conv l) {i j : Nat} (hi : i < l.length) (hj : j < l.length) (ri : riseQ l i) (rj : riseQ l j) : i = j := by
  by_cases hne : i = j
  · exact hne
  · exfalso
    have h3 := hc.1
    have n1 := mod_next h3 hi
    have n2 := mod_next h3 hj
    have mi := Nat.mod_lt (i + 1) (show 0 < l.length by omega)
    have mj := Nat.mod_lt (j + 1) (show 0 < l.length by omega)
    have ei : cor l ((i + 1) % l.length) = cor l (i + 1) := cor_mod _ _
    have ej : cor l ((j + 1) % l.length) = cor l (j + 1) := cor_mod _ _
    have ei2 : cor l ((i + 1) % l.length + 1) = cor l (i + 2) := by
      rw [← cor_mod l ((i + 1) % l.length + 1), ← cor_mod l (i + 2)]; congr 1; rw [Nat.mod_add_mod]
    have ej2 : cor l ((j + 1) % l.length + 1) = cor l (j + 2) := by
      rw [← cor_mod l ((j + 1) % l.length + 1), ← cor_mod l (j + 2)]; congr 1; rw [Nat.mod_add_mod]
    by_cases c1 : (j + 1) % l.length = i
    · obtain ⟨r1, r2⟩ := ri
      obtain ⟨s1, s2⟩ := rj
      rw [c1] at ej ej2
      rw [ej] at r1; rw [ej2] at r1
      exact absurd s2 (by grind)
    · by_cases c2 : (i + 1) % l.length = j
      · obtain ⟨r1, r2⟩ := ri
        obtain ⟨s1, s2⟩ := rj
        rw [c2] at ei ei2
        rw [ei] at s1; rw [ei2] at s1
        exact absurd r2 (by grind)
      · have a1 := rise_low hc hi mj ri c1 (by omega)
        have a2 := rise_low hc hj mi rj c2 (by omega)
        rw [ej] at a1; rw [ei] at a2
        grind
theorem cnt_one {l : List (Rat × Rat)} (hc : Conv l) : ∀ k, k ≤ l.length → cntR l k ≤ 1 ∧ (cntR l k = 1 → ∃ i, i < k ∧ riseQ l i)
  | 0, _ => ⟨by simp [cntR], fun h => by simp [cntR] at h⟩
  | k + 1, hk => by
    obtain ⟨h1, h2⟩ := cnt_one hc k (by omega)
    unfold cntR
    by_cases r : riseQ l k
    · rw [if_pos r]
      have : cntR l k = 0 := by
        by_cases z : cntR l k = 1
        · obtain ⟨i, hi, ri⟩ := h2 z
          have := rise_once hc (by omega) (by omega) ri r
          omega
        · omega
      exact ⟨by omega, fun _ => ⟨k, by omega, r⟩⟩
    · rw [if_neg r]
      exact ⟨by omega, fun h => by obtain ⟨i, hi, ri⟩ := h2 (by omega); exact ⟨i, by omega, ri⟩⟩
theorem cnt_le (l : List (Rat × Rat)) : ∀ k, cntR l k ≤ k
  | 0 => Nat.le_refl _
  | k + 1 => by have := cnt_le l k; unfold cntR; split <;> omega
end Go.Proofs.Ytdfabocecpcmcaa
/- The calls of clip: Value, twice, Nearer, crossing. -/
namespace Go.Proofs.Ytdfabocecpcmcaa
open Go.RowKit Go.MagM
/-- A call's answer is a Half: three right Fracs. -/
def AnsH (w w' : World) (e : Ending) (L M N : Nat) (p q r : Rat) : Prop := ∃ m ao n c bo k d m2 ao2 n2 c2 bo2 k2 d2 m3 ao3 n3 c3 bo3 k3 d3, e = .returned (.agg #[.bool m, .slice ao n c, .slice bo k d, .bool m2, .slice ao2 n2 c2, .slice bo2 k2 d2, .bool m3, .slice ao3 n3 c3, .slice bo3 k3 d3]) ∧
  RF w' (.agg #[.bool m, .slice ao n c, .slice bo k d]) L p ∧ RF w' (.agg #[.bool m2, .slice ao2 n2 c2, .slice bo2 k2 d2]) M q ∧ RF w' (.agg #[.bool m3, .slice ao3 n3 c3, .slice bo3 k3 d3]) N r ∧ Below w.heap.size w w'
set_option maxHeartbeats 4000000 in
theorem cValue_any {ham : Bool} {hao : Option Addr} {han hac : Nat} {hap : Option Addr} {hak had : Nat} {hbm : Bool} {hbo : Option Addr} {hbn hbc : Nat} {hbp : Option Addr} {hbk hbd : Nat} {hcm : Bool} {hco : Option Addr} {hcn hcc : Nat} {hcp : Option Addr} {hck hcd : Nat} {sxm : Bool} {sxo : Option Addr} {sxn sxc : Nat} {sxp : Option Addr} {sxk sxd : Nat} {sym : Bool} {syo : Option Addr} {syn syc : Nat} {syp : Option Addr} {syk syd : Nat} (Lh : Nat) (haq hbq hcq : Rat) (Ls : Nat) (sxq syq : Rat) (w : World) (hLh : Lh ≤ 1000000) (hLs : Ls ≤ 1000000) (fha_0 : FQ w (.agg #[.bool ham, .slice hao han hac, .slice hap hak had]) Lh haq) (fhb_0 : FQ w (.agg #[.bool hbm, .slice hbo hbn hbc, .slice hbp hbk hbd]) Lh hbq) (fhc_0 : FQ w (.agg #[.bool hcm, .slice hco hcn hcc, .slice hcp hck hcd]) Lh hcq) (fsx_0 : FQ w (.agg #[.bool sxm, .slice sxo sxn sxc, .slice sxp sxk sxd]) Ls sxq) (fsy_0 : FQ w (.agg #[.bool sym, .slice syo syn syc, .slice syp syk syd]) Ls syq) :
    Calls Try.prog 19 #[.agg #[.bool ham, .slice hao han hac, .slice hap hak had, .bool hbm, .slice hbo hbn hbc, .slice hbp hbk hbd, .bool hcm, .slice hco hcn hcc, .slice hcp hck hcd], .agg #[.bool sxm, .slice sxo sxn sxc, .slice sxp sxk sxd, .bool sym, .slice syo syn syc, .slice syp syk syd]] w fun e w' => AnsF w w' e (((Lh + Ls + 2) + (Lh + Ls + 2) + 2) + Lh + 2) (fvQ haq hbq hcq (sxq, syq)) := by
  have hB_0 := Below.refl w.heap.size w
  have HLh := Lib.hid hLh; have HLs := Lib.hid hLs
  clear hLh hLs
  obtain ⟨w1, hw1, ph_0, hb1, hs1⟩ := new_box w (w.heap.size) rfl [.bool ham, .slice hao han hac, .slice hap hak had, .bool hbm, .slice hbo hbn hbc, .slice hbp hbk hbd, .bool hcm, .slice hco hcn hcc, .slice hcp hck hcd] 30
  have hb1' : Below w.heap.size w w1 := hb1.mono (by omega)
  clear hb1
  have hB_1 := hB_0.trans (hb1'.mono hB_0.size)
  have fha_1 := fha_0.below hb1'
  have fhb_1 := fhb_0.below hb1'
  have fhc_1 := fhc_0.below hb1'
  have fsx_1 := fsx_0.below hb1'
  have fsy_1 := fsy_0.below hb1'
  clear hb1' hB_0 fha_0 fhb_0 fhc_0 fsx_0 fsy_0
  obtain ⟨w2, hw2, ps_0, hb2, hs2⟩ := new_box w1 (w.heap.size + 1) hs1 [.bool sxm, .slice sxo sxn sxc, .slice sxp sxk sxd, .bool sym, .slice syo syn syc, .slice syp syk syd] 42
  have hb2' : Below w1.heap.size w1 w2 := hb2.mono (by omega)
  clear hb2
  have hB_2 := hB_1.trans (hb2'.mono hB_1.size)
  have fha_2 := fha_1.below hb2'
  have fhb_2 := fhb_1.below hb2'
  have fhc_2 := fhc_1.below hb2'
  have fsx_2 := fsx_1.below hb2'
  have fsy_2 := fsy_1.below hb2'
  have ph_1 := ph_0.below hb2'
  clear hb2' hB_1 fha_1 fhb_1 fhc_1 fsx_1 fsy_1 ph_0
  obtain ⟨w3, hw3, pr_0, hb3, hs3⟩ := new_box w2 (w.heap.size + 1 + 1) hs2 [.bool false, .slice none 0 0, .slice none 0 0] 28
  have hb3' : Below w2.heap.size w2 w3 := hb3.mono (by omega)
  clear hb3
  have hB_3 := hB_2.trans (hb3'.mono hB_2.size)
  have fha_3 := fha_2.below hb3'
  have fhb_3 := fhb_2.below hb3'
  have fhc_3 := fhc_2.below hb3'
  have fsx_3 := fsx_2.below hb3'
  have fsy_3 := fsy_2.below hb3'
  have ph_2 := ph_1.below hb3'
  have ps_1 := ps_0.below hb3'
  clear hb3' hB_2 fha_2 fhb_2 fhc_2 fsx_2 fsy_2 ph_1 ps_0
  go_enter Try.func19, Try.ntmps19
  go_wp2
  have hB_4 := hB_3.drew'
  have fha_4 := fha_3.drew
  have fhb_4 := fhb_3.drew
  have fhc_4 := fhc_3.drew
  have fsx_4 := fsx_3.drew
  have fsy_4 := fsy_3.drew
  have ph_3 := ph_2.drew
  have ps_2 := ps_1.drew
  have pr_1 := pr_0.drew
  clear hB_3 fha_3 fhb_3 fhc_3 fsx_3 fsy_3 ph_2 ps_1 pr_0
  go_region_held3 (fun w' => w'.cell? ⟨w.heap.size, 0, none⟩ = some (.bool ham) ∧ w'.cell? ⟨w.heap.size, 1, none⟩ = some (.slice hao han hac) ∧ w'.cell? ⟨w.heap.size, 2, none⟩ = some (.slice hap hak had) ∧ w'.cell? ⟨w.heap.size, 3, none⟩ = some (.bool hbm) ∧ w'.cell? ⟨w.heap.size, 4, none⟩ = some (.slice hbo hbn hbc) ∧ w'.cell? ⟨w.heap.size, 5, none⟩ = some (.slice hbp hbk hbd) ∧ w'.cell? ⟨w.heap.size, 6, none⟩ = some (.bool hcm) ∧ w'.cell? ⟨w.heap.size, 7, none⟩ = some (.slice hco hcn hcc) ∧ w'.cell? ⟨w.heap.size, 8, none⟩ = some (.slice hcp hck hcd) ∧ w'.cell? ⟨w.heap.size + 1, 0, none⟩ = some (.bool sxm) ∧ w'.cell? ⟨w.heap.size + 1, 1, none⟩ = some (.slice sxo sxn sxc) ∧ w'.cell? ⟨w.heap.size + 1, 2, none⟩ = some (.slice sxp sxk sxd) ∧ w'.cell? ⟨w.heap.size + 1, 3, none⟩ = some (.bool sym) ∧ w'.cell? ⟨w.heap.size + 1, 4, none⟩ = some (.slice syo syn syc) ∧ w'.cell? ⟨w.heap.size + 1, 5, none⟩ = some (.slice syp syk syd))
    (first | with_reducible exact ⟨ph_3.c0, ph_3.c1, ph_3.c2, ph_3.c3, ph_3.c4, ph_3.c5, ph_3.c6, ph_3.c7, ph_3.c8, ps_2.c0, ps_2.c1, ps_2.c2, ps_2.c3, ps_2.c4, ps_2.c5⟩ | with_reducible exact ⟨ph_4.c0, ph_4.c1, ph_4.c2, ph_4.c3, ph_4.c4, ph_4.c5, ph_4.c6, ph_4.c7, ph_4.c8, ps_3.c0, ps_3.c1, ps_3.c2, ps_3.c3, ps_3.c4, ps_3.c5⟩ | with_reducible exact ⟨ph_5.c0, ph_5.c1, ph_5.c2, ph_5.c3, ph_5.c4, ph_5.c5, ph_5.c6, ph_5.c7, ph_5.c8, ps_4.c0, ps_4.c1, ps_4.c2, ps_4.c3, ps_4.c4, ps_4.c5⟩ | with_reducible exact ⟨ph_6.c0, ph_6.c1, ph_6.c2, ph_6.c3, ph_6.c4, ph_6.c5, ph_6.c6, ph_6.c7, ph_6.c8, ps_5.c0, ps_5.c1, ps_5.c2, ps_5.c3, ps_5.c4, ps_5.c5⟩ | with_reducible exact ⟨ph_7.c0, ph_7.c1, ph_7.c2, ph_7.c3, ph_7.c4, ph_7.c5, ph_7.c6, ph_7.c7, ph_7.c8, ps_6.c0, ps_6.c1, ps_6.c2, ps_6.c3, ps_6.c4, ps_6.c5⟩ | with_reducible exact ⟨ph_8.c0, ph_8.c1, ph_8.c2, ph_8.c3, ph_8.c4, ph_8.c5, ph_8.c6, ph_8.c7, ph_8.c8, ps_7.c0, ps_7.c1, ps_7.c2, ps_7.c3, ps_7.c4, ps_7.c5⟩ | fail)
    (first
      | (go_at_call 23; (with_reducible refine (qMul _ _ Lh Ls haq sxq _ (by have := HLh.out; have := HLs.out; omega) (by have := HLh.out; have := HLs.out; omega) fha_4 fsx_4).mono ?_); rintro e w4 ⟨m1, o1, n1, c1, p1, k1, d1, rfl, f1_0, hb4⟩; have hB_5 := hB_4.trans (hb4.mono hB_4.size); have fha_5 := fha_4.below hb4; have fhb_5 := fhb_4.below hb4; have fhc_5 := fhc_4.below hb4; have fsx_5 := fsx_4.below hb4; have fsy_5 := fsy_4.below hb4; have ph_4 := ph_3.below hb4; have ps_3 := ps_2.below hb4; have pr_2 := pr_1.below hb4; clear hb4 hB_4 fha_4 fhb_4 fhc_4 fsx_4 fsy_4 ph_3 ps_2 pr_1)
      | (go_at_call 23; (with_reducible refine (qMul _ _ Lh Ls hbq syq _ (by have := HLh.out; have := HLs.out; omega) (by have := HLh.out; have := HLs.out; omega) fhb_5 fsy_5).mono ?_); rintro e w5 ⟨m2, o2, n2, c2, p2, k2, d2, rfl, f2_0, hb5⟩; have hB_6 := hB_5.trans (hb5.mono hB_5.size); have fha_6 := fha_5.below hb5; have fhb_6 := fhb_5.below hb5; have fhc_6 := fhc_5.below hb5; have fsx_6 := fsx_5.below hb5; have fsy_6 := fsy_5.below hb5; have ph_5 := ph_4.below hb5; have ps_4 := ps_3.below hb5; have pr_3 := pr_2.below hb5; have f1_1 := f1_0.below hb5; clear hb5 hB_5 fha_5 fhb_5 fhc_5 fsx_5 fsy_5 ph_4 ps_3 pr_2 f1_0)
      | (go_at_call 16; (with_reducible refine (qAdd _ _ (Lh + Ls + 2) (Lh + Ls + 2) _ _ _ (by have := HLh.out; have := HLs.out; omega) (by have := HLh.out; have := HLs.out; omega) f1_1.q f2_0.q).mono ?_); rintro e w6 ⟨m3, o3, n3, c3, p3, k3, d3, rfl, f3_0, hb6⟩; have hB_7 := hB_6.trans (hb6.mono hB_6.size); have fha_7 := fha_6.below hb6; have fhb_7 := fhb_6.below hb6; have fhc_7 := fhc_6.below hb6; have fsx_7 := fsx_6.below hb6; have fsy_7 := fsy_6.below hb6; have ph_6 := ph_5.below hb6; have ps_5 := ps_4.below hb6; have pr_4 := pr_3.below hb6; have f1_2 := f1_1.below hb6; have f2_1 := f2_0.below hb6; clear hb6 hB_6 fha_6 fhb_6 fhc_6 fsx_6 fsy_6 ph_5 ps_4 pr_3 f1_1 f2_0)
      | (go_at_call 22; (with_reducible refine (qSub _ _ ((Lh + Ls + 2) + (Lh + Ls + 2) + 2) Lh _ hcq _ (by have := HLh.out; have := HLs.out; omega) (by have := HLh.out; have := HLs.out; omega) f3_0.q fhc_7).mono ?_); rintro e w7 ⟨m4, o4, n4, c4, p4, k4, d4, rfl, f4_0, hb7⟩; have hB_8 := hB_7.trans (hb7.mono hB_7.size); have fha_8 := fha_7.below hb7; have fhb_8 := fhb_7.below hb7; have fhc_8 := fhc_7.below hb7; have fsx_8 := fsx_7.below hb7; have fsy_8 := fsy_7.below hb7; have ph_7 := ph_6.below hb7; have ps_6 := ps_5.below hb7; have pr_5 := pr_4.below hb7; have f1_3 := f1_2.below hb7; have f2_2 := f2_1.below hb7; have f3_1 := f3_0.below hb7; clear hb7 hB_7 fha_7 fhb_7 fhc_7 fsx_7 fsy_7 ph_6 ps_5 pr_4 f1_2 f2_1 f3_0; obtain ⟨sf1a, sf1b, sf1c, sf1d, sf1e, sf1f⟩ := pr_5.open3; obtain ⟨sg1a, sg1b, sg1c, sg1d⟩ := Box.put3 pr_5 (.bool m4) (.slice o4 n4 c4); have hB_9 := below_setAll hB_8 (g := w.heap.size + 1 + 1) (by omega) [.bool m4, .slice o4 n4 c4, .slice p4 k4 d4]; have fha_9 := fha_8.setAll pr_5 (noWord3 _ _ _ _ _ _ _) [.bool m4, .slice o4 n4 c4, .slice p4 k4 d4] rfl; have fhb_9 := fhb_8.setAll pr_5 (noWord3 _ _ _ _ _ _ _) [.bool m4, .slice o4 n4 c4, .slice p4 k4 d4] rfl; have fhc_9 := fhc_8.setAll pr_5 (noWord3 _ _ _ _ _ _ _) [.bool m4, .slice o4 n4 c4, .slice p4 k4 d4] rfl; have fsx_9 := fsx_8.setAll pr_5 (noWord3 _ _ _ _ _ _ _) [.bool m4, .slice o4 n4 c4, .slice p4 k4 d4] rfl; have fsy_9 := fsy_8.setAll pr_5 (noWord3 _ _ _ _ _ _ _) [.bool m4, .slice o4 n4 c4, .slice p4 k4 d4] rfl; have ph_8 := ph_7.farAll (g' := w.heap.size + 1 + 1) (by omega) [.bool m4, .slice o4 n4 c4, .slice p4 k4 d4]; have ps_7 := ps_6.farAll (g' := w.heap.size + 1 + 1) (by omega) [.bool m4, .slice o4 n4 c4, .slice p4 k4 d4]; have f1_4 := f1_3.setAll pr_5 (noWord3 _ _ _ _ _ _ _) [.bool m4, .slice o4 n4 c4, .slice p4 k4 d4] rfl; have f2_3 := f2_2.setAll pr_5 (noWord3 _ _ _ _ _ _ _) [.bool m4, .slice o4 n4 c4, .slice p4 k4 d4] rfl; have f3_2 := f3_1.setAll pr_5 (noWord3 _ _ _ _ _ _ _) [.bool m4, .slice o4 n4 c4, .slice p4 k4 d4] rfl; have f4_1 := f4_0.setAll pr_5 (noWord3 _ _ _ _ _ _ _) [.bool m4, .slice o4 n4 c4, .slice p4 k4 d4] rfl; have pr_6 := pr_5.setAll [.bool m4, .slice o4 n4 c4, .slice p4 k4 d4] rfl; simp only [setAll, Nat.zero_add, Nat.reduceAdd] at hB_9 fha_9 fhb_9 fhc_9 fsx_9 fsy_9 ph_8 ps_7 pr_6 f1_4 f2_3 f3_2 f4_1))
  clear hB_8 fha_8 fhb_8 fhc_8 fsx_8 fsy_8 ph_7 ps_6 f1_3 f2_2 f3_1 f4_0 pr_5
  clear sf1a sf1b sf1c sf1d sf1e sf1f sg1a sg1b sg1c sg1d
  generalize (World.setCell (World.setCell (World.setCell w7 ⟨w.heap.size + 1 + 1, 0, none⟩ (.bool m4)) ⟨w.heap.size + 1 + 1, 1, none⟩ (.slice o4 n4 c4)) ⟨w.heap.size + 1 + 1, 2, none⟩ (.slice p4 k4 d4)) = w8 at *
  go_wp2
  obtain ⟨pre0, pre1, pre2, pre3, pre4, pre5⟩ := pr_6.open3
  exact bodyPost_ret (v := .agg #[.bool m4, .slice o4 n4 c4, .slice p4 k4 d4]) (by simp [results, Try.results19, go_sem, pre0, pre1, pre2]) rfl ⟨_, _, _, _, _, _, _, rfl, f4_1, hB_9⟩
set_option maxHeartbeats 4000000 in
theorem cTwice_any {am : Bool} {ao : Option Addr} {an ac : Nat} {ap : Option Addr} {ak ad : Nat} (La : Nat) (aq : Rat) (w : World) (hLa : La ≤ 1000000) (fa_0 : FQ w (.agg #[.bool am, .slice ao an ac, .slice ap ak ad]) La aq) :
    Calls Try.prog 46 #[.agg #[.bool am, .slice ao an ac, .slice ap ak ad]] w fun e w' => AnsF w w' e (La + La + 2) (aq + aq) := by
  have hB_0 := Below.refl w.heap.size w
  have HLa := Lib.hid hLa
  clear hLa
  obtain ⟨w1, hw1, pa_0, hb1, hs1⟩ := new_box w (w.heap.size) rfl [.bool am, .slice ao an ac, .slice ap ak ad] 28
  have hb1' : Below w.heap.size w w1 := hb1.mono (by omega)
  clear hb1
  have hB_1 := hB_0.trans (hb1'.mono hB_0.size)
  have fa_1 := fa_0.below hb1'
  clear hb1' hB_0 fa_0
  obtain ⟨w2, hw2, pr_0, hb2, hs2⟩ := new_box w1 (w.heap.size + 1) hs1 [.bool false, .slice none 0 0, .slice none 0 0] 28
  have hb2' : Below w1.heap.size w1 w2 := hb2.mono (by omega)
  clear hb2
  have hB_2 := hB_1.trans (hb2'.mono hB_1.size)
  have fa_2 := fa_1.below hb2'
  have pa_1 := pa_0.below hb2'
  clear hb2' hB_1 fa_1 pa_0
  go_enter Try.func46, Try.ntmps46
  obtain ⟨pae0, pae1, pae2, pae3, pae4, pae5⟩ := pa_1.open3
  go_wp2_with fail
  refine (qAdd _ _ La La aq aq _ (by have := HLa.out; omega) (by have := HLa.out; omega) fa_2 fa_2).mono ?_
  rintro e w3 ⟨m1, o1, n1, c1, p1, k1, d1, rfl, f1_0, hb3⟩
  clear pae0 pae1 pae2 pae3 pae4 pae5
  have hB_3 := hB_2.trans (hb3.mono hB_2.size)
  have fa_3 := fa_2.below hb3
  have pa_2 := pa_1.below hb3
  have pr_1 := pr_0.below hb3
  clear hb3 hB_2 fa_2 pa_1 pr_0
  obtain ⟨pae0, pae1, pae2, pae3, pae4, pae5⟩ := pa_2.open3
  obtain ⟨sf1a, sf1b, sf1c, sf1d, sf1e, sf1f⟩ := pr_1.open3
  obtain ⟨sg1a, sg1b, sg1c, sg1d⟩ := Box.put3 pr_1 (.bool m1) (.slice o1 n1 c1)
  go_wp2
  clear pae0 pae1 pae2 pae3 pae4 pae5 sf1a sf1b sf1c sf1d sf1e sf1f sg1a sg1b sg1c sg1d
  have hB_4 := below_setAll hB_3 (g := w.heap.size + 1) (by omega) [.bool m1, .slice o1 n1 c1, .slice p1 k1 d1]
  have fa_4 := fa_3.setAll pr_1 (noWord3 _ _ _ _ _ _ _) [.bool m1, .slice o1 n1 c1, .slice p1 k1 d1] rfl
  have pa_3 := pa_2.farAll (g' := w.heap.size + 1) (by omega) [.bool m1, .slice o1 n1 c1, .slice p1 k1 d1]
  have f1_1 := f1_0.setAll pr_1 (noWord3 _ _ _ _ _ _ _) [.bool m1, .slice o1 n1 c1, .slice p1 k1 d1] rfl
  have pr_2 := pr_1.setAll [.bool m1, .slice o1 n1 c1, .slice p1 k1 d1] rfl
  simp only [setAll, Nat.zero_add, Nat.reduceAdd] at hB_4 fa_4 pa_3 pr_2 f1_1
  clear hB_3 fa_3 pa_2 f1_0 pr_1
  generalize (World.setCell (World.setCell (World.setCell w3 ⟨w.heap.size + 1, 0, none⟩ (.bool m1)) ⟨w.heap.size + 1, 1, none⟩ (.slice o1 n1 c1)) ⟨w.heap.size + 1, 2, none⟩ (.slice p1 k1 d1)) = w4 at *
  go_wp2
  obtain ⟨pre0, pre1, pre2, pre3, pre4, pre5⟩ := pr_2.open3
  exact bodyPost_ret (v := .agg #[.bool m1, .slice o1 n1 c1, .slice p1 k1 d1]) (by simp [results, Try.results46, go_sem, pre0, pre1, pre2]) rfl ⟨_, _, _, _, _, _, _, rfl, f1_1, hB_4⟩
theorem in0' : InP 0 := by unfold InP; omega
theorem near_a (p q : Rat) : (q - p) + (q - p) = 2 * (q - p) := by grind
theorem near_c (p0 p1 q0 q1 : Int) : distQ ((0 : Int) : Rat) ((0 : Int) : Rat) q0 q1 - distQ ((0 : Int) : Rat) ((0 : Int) : Rat) p0 p1 = (q0 : Rat) * q0 + (q1 : Rat) * q1 - (p0 : Rat) * p0 - (p1 : Rat) * p1 := by
  have z : ((0 : Int) : Rat) = 0 := rfl
  unfold distQ; rw [z]; grind
set_option maxHeartbeats 8000000 in
theorem cNearer_any (p0 p1 q0 q1 : Int) (hp0 : InP p0) (hp1 : InP p1) (hq0 : InP q0) (hq1 : InP q1) (w : World) :
    Calls Try.prog 25 #[.agg #[.int .i64 p0, .int .i64 p1], .agg #[.int .i64 q0, .int .i64 q1]] w fun e w' => AnsH w w' e ((1 + 1 + 2) + (1 + 1 + 2) + 2) ((1 + 1 + 2) + (1 + 1 + 2) + 2) ((((1 + 1 + 2) + (1 + 1 + 2) + 2) + ((1 + 1 + 2) + (1 + 1 + 2) + 2) + 2) + (((1 + 1 + 2) + (1 + 1 + 2) + 2) + ((1 + 1 + 2) + (1 + 1 + 2) + 2) + 2) + 2) ((nearH ((p0 : Rat), (p1 : Rat)) ((q0 : Rat), (q1 : Rat))).1) ((nearH ((p0 : Rat), (p1 : Rat)) ((q0 : Rat), (q1 : Rat))).2.1) ((nearH ((p0 : Rat), (p1 : Rat)) ((q0 : Rat), (q1 : Rat))).2.2) := by
  have hB_0 := Below.refl w.heap.size w
  have HP0 := Lib.hid hp0; have HP1 := Lib.hid hp1; have HQ0 := Lib.hid hq0; have HQ1 := Lib.hid hq1
  clear hp0 hp1 hq0 hq1
  obtain ⟨w1, hw1, pp_0, hb1, hs1⟩ := new_box w (w.heap.size) rfl [.int .i64 p0, .int .i64 p1] 50
  have hb1' : Below w.heap.size w w1 := hb1.mono (by omega)
  clear hb1
  have hB_1 := hB_0.trans (hb1'.mono hB_0.size)
  clear hb1' hB_0
  obtain ⟨w2, hw2, pq_0, hb2, hs2⟩ := new_box w1 (w.heap.size + 1) hs1 [.int .i64 q0, .int .i64 q1] 50
  have hb2' : Below w1.heap.size w1 w2 := hb2.mono (by omega)
  clear hb2
  have hB_2 := hB_1.trans (hb2'.mono hB_1.size)
  have pp_1 := pp_0.below hb2'
  clear hb2' hB_1 pp_0
  obtain ⟨w3, hw3, pr_0, hb3, hs3⟩ := new_box w2 (w.heap.size + 1 + 1) hs2 [.bool false, .slice none 0 0, .slice none 0 0, .bool false, .slice none 0 0, .slice none 0 0, .bool false, .slice none 0 0, .slice none 0 0] 30
  have hb3' : Below w2.heap.size w2 w3 := hb3.mono (by omega)
  clear hb3
  have hB_3 := hB_2.trans (hb3'.mono hB_2.size)
  have pp_2 := pp_1.below hb3'
  have pq_1 := pq_0.below hb3'
  clear hb3' hB_2 pp_1 pq_0
  go_enter Try.func25, Try.ntmps25
  obtain ⟨ppe0, ppe1, ppe2, ppe3⟩ := pp_2.open2
  obtain ⟨pqe0, pqe1, pqe2, pqe3⟩ := pq_1.open2
  go_wp2
  clear ppe0 ppe1 ppe2 ppe3 pqe0 pqe1 pqe2 pqe3
  have hWi_0 := Below.refl w3.heap.size w3
  have hsi : w.heap.size ≤ w3.heap.size := hB_3.size
  have hlipp := pp_2.lt
  have hlipq := pq_1.lt
  have hlipr := pr_0.lt
  have hB_4 := hB_3.drew'
  have pp_3 := pp_2.drew
  have pq_2 := pq_1.drew
  have pr_1 := pr_0.drew
  have hWi_1 := hWi_0.drew'
  clear hB_3 pp_2 pq_1 pr_0 hWi_0
  obtain ⟨FFi, hFFi⟩ : ∃ F : World → Prop, ∀ w', F w' ↔ (Below w.heap.size w w' ∧ Box w' (w.heap.size) [.int .i64 p0, .int .i64 p1] ∧ Box w' (w.heap.size + 1) [.int .i64 q0, .int .i64 q1] ∧ Box w' (w.heap.size + 1 + 1) [.bool false, .slice none 0 0, .slice none 0 0, .bool false, .slice none 0 0, .slice none 0 0, .bool false, .slice none 0 0, .slice none 0 0] ∧ Below w3.heap.size w3 w') := ⟨_, fun _ => Iff.rfl⟩
  have cFi : ∀ {w' w'' : World}, FFi w' → Below w'.heap.size w' w'' → FFi w'' := by
    intro w' w'' h hb
    obtain ⟨y0, y1, y2, y3, y4⟩ := (hFFi _).1 h
    exact (hFFi _).2 ⟨y0.trans (hb.mono y0.size), y1.below hb, y2.below hb, y3.below hb, y4.trans (hb.mono y4.size)⟩
  have mFi : ∀ {w' : World}, FFi w' → w3.heap.size ≤ w'.heap.size := by
    intro w' h
    obtain ⟨y0, y1, y2, y3, y4⟩ := (hFFi _).1 h
    exact y4.size
  have sFi : ∀ {w' : World}, FFi w' → (w'.cell? ⟨w.heap.size, 0, none⟩ = some (.int .i64 p0) ∧ w'.cell? ⟨w.heap.size, 1, none⟩ = some (.int .i64 p1) ∧ w'.cell? ⟨w.heap.size + 1, 0, none⟩ = some (.int .i64 q0) ∧ w'.cell? ⟨w.heap.size + 1, 1, none⟩ = some (.int .i64 q1)) := by
    intro w' h
    obtain ⟨y0, y1, y2, y3, y4⟩ := (hFFi _).1 h
    exact ⟨y1.c0, y1.c1, y2.c0, y2.c1⟩
  have zF : FFi w3.drew := (hFFi _).2 ⟨hB_4, pp_3, pq_2, pr_1, hWi_1⟩
  clear hB_4 pp_3 pq_2 pr_1 hWi_1
  refine wp_region_noPanic ?_
  refine wp_region_held_drew (S := fun w' => w'.cell? ⟨w.heap.size, 0, none⟩ = some (.int .i64 p0) ∧ w'.cell? ⟨w.heap.size, 1, none⟩ = some (.int .i64 p1) ∧ w'.cell? ⟨w.heap.size + 1, 0, none⟩ = some (.int .i64 q0) ∧ w'.cell? ⟨w.heap.size + 1, 1, none⟩ = some (.int .i64 q1)) (by kernel_rfl) (sFi zF) (fun hHeld => ?_)
  refine reg_take 0 ?_ ?_ ?_ (by kernel_rfl) (by kernel_rfl) (by kernel_rfl) (fun _ _ _ h => h) ?_ ?_ (by assumption) ?_
  rotate_left 2
  · simp only [List.getElem?_toArray, List.getElem?_cons_zero]; exact rfl
  · rfl
  · intro w hSw; (try dsimp only at hSw); go_simp; try with_reducible rfl
  try simp only [Act.put]
  try simp only [List.setIfInBounds_toArray, List.set_cons_zero, List.set_cons_succ]
  refine reg_take 2 ?_ ?_ ?_ (by kernel_rfl) (by kernel_rfl) (by kernel_rfl) (fun _ _ _ h => h) ?_ ?_ (by assumption) ?_
  rotate_left 2
  · simp only [List.getElem?_toArray, List.getElem?_cons_succ, List.getElem?_cons_zero]; exact rfl
  · rfl
  · intro w hSw; (try dsimp only at hSw); go_simp; try with_reducible rfl
  try simp only [Act.put]
  try simp only [List.setIfInBounds_toArray, List.set_cons_zero, List.set_cons_succ]
  refine reg_take 4 ?_ ?_ ?_ (by kernel_rfl) (by kernel_rfl) (by kernel_rfl) (fun _ _ _ h => h) ?_ ?_ (by assumption) ?_
  rotate_left 2
  · simp only [List.getElem?_toArray, List.getElem?_cons_succ, List.getElem?_cons_zero]; exact rfl
  · rfl
  · intro w hSw; (try dsimp only at hSw); go_simp; try with_reducible rfl
  try simp only [Act.put]
  try simp only [List.setIfInBounds_toArray, List.set_cons_zero, List.set_cons_succ]
  refine reg_grab (fun WWi ai hWW hAA => ?_)
  rw [hWW]
  have HAi := Lib.hid hAA; clear hWW hAA hHeld
  obtain ⟨IVi, hIVi⟩ : ∃ IV : Array Bool → Act → World → Prop, ∀ l a w', IV l a w' ↔ ∀ CC : Prop, (∀ (lb1 lb3 lb5 lb6 lb7 lb8 : Bool) (lv1 lv3 lv5 lv6 lv7 lv8 : Value) (m1x : Bool) (o1x : Option Addr) (n1x : Nat) (c1x : Nat) (p1x : Option Addr) (k1x : Nat) (d1x : Nat) (m1y : Bool) (o1y : Option Addr) (n1y : Nat) (c1y : Nat) (p1y : Option Addr) (k1y : Nat) (d1y : Nat) (m2x : Bool) (o2x : Option Addr) (n2x : Nat) (c2x : Nat) (p2x : Option Addr) (k2x : Nat) (d2x : Nat) (m2y : Bool) (o2y : Option Addr) (n2y : Nat) (c2y : Nat) (p2y : Option Addr) (k2y : Nat) (d2y : Nat) (m3x : Bool) (o3x : Option Addr) (n3x : Nat) (c3x : Nat) (p3x : Option Addr) (k3x : Nat) (d3x : Nat) (m3y : Bool) (o3y : Option Addr) (n3y : Nat) (c3y : Nat) (p3y : Option Addr) (k3y : Nat) (d3y : Nat) (gla glb glc : Nat), (l = #[true, lb1, true, lb3, true, lb5, lb6, lb7, lb8, false, false, false]) → (a = ((((((ai.put (some 9) lv1).put (some 11) lv3).put (some 13) lv5).put (some 5) lv6).put (some 6) lv7).put (some 7) lv8)) → (FFi w') → ((lb1 = true → lv1 = .agg #[.bool m1x, .slice o1x n1x c1x, .slice p1x k1x d1x, .bool m1y, .slice o1y n1y c1y, .slice p1y k1y d1y] ∧ RF w' (.agg #[.bool m1x, .slice o1x n1x c1x, .slice p1x k1x d1x]) (1) ((p0 : Rat)) ∧ RF w' (.agg #[.bool m1y, .slice o1y n1y c1y, .slice p1y k1y d1y]) (1) ((p1 : Rat)))) → ((lb3 = true → lv3 = .agg #[.bool m2x, .slice o2x n2x c2x, .slice p2x k2x d2x, .bool m2y, .slice o2y n2y c2y, .slice p2y k2y d2y] ∧ RF w' (.agg #[.bool m2x, .slice o2x n2x c2x, .slice p2x k2x d2x]) (1) ((q0 : Rat)) ∧ RF w' (.agg #[.bool m2y, .slice o2y n2y c2y, .slice p2y k2y d2y]) (1) ((q1 : Rat)))) → ((lb5 = true → lv5 = .agg #[.bool m3x, .slice o3x n3x c3x, .slice p3x k3x d3x, .bool m3y, .slice o3y n3y c3y, .slice p3y k3y d3y] ∧ RF w' (.agg #[.bool m3x, .slice o3x n3x c3x, .slice p3x k3x d3x]) (1) (((0 : Int) : Rat)) ∧ RF w' (.agg #[.bool m3y, .slice o3y n3y c3y, .slice p3y k3y d3y]) (1) (((0 : Int) : Rat)))) → ((lb6 = true → lv6 = .pointer (some ⟨gla, 0, none⟩) ∧ Box w' gla [.bool false, .slice none 0 0, .slice none 0 0, .bool false, .slice none 0 0, .slice none 0 0] ∧ w3.heap.size ≤ gla)) → ((lb7 = true → lv7 = .pointer (some ⟨glb, 0, none⟩) ∧ Box w' glb [.bool false, .slice none 0 0, .slice none 0 0, .bool false, .slice none 0 0, .slice none 0 0] ∧ w3.heap.size ≤ glb)) → ((lb8 = true → lv8 = .pointer (some ⟨glc, 0, none⟩) ∧ Box w' glc [.bool false, .slice none 0 0, .slice none 0 0, .bool false, .slice none 0 0, .slice none 0 0] ∧ w3.heap.size ≤ glc)) → ((lb3 = true → lb1 = true)) → ((lb5 = true → lb3 = true)) → ((lb6 = true → lb7 = true → gla ≠ glb)) → ((lb6 = true → lb8 = true → gla ≠ glc)) → ((lb7 = true → lb8 = true → glb ≠ glc)) → CC) → CC := ⟨_, fun _ _ _ => Iff.rfl⟩
  refine wpAnyH_until IVi ?_ _ _ _ _ ((hIVi _ _ _).2 (fun CC kk => kk false false false false false false (ai.tmps.getD 9 undef) (ai.tmps.getD 11 undef) (ai.tmps.getD 13 undef) (ai.tmps.getD 5 undef) (ai.tmps.getD 6 undef) (ai.tmps.getD 7 undef) false none 0 0 none 0 0 false none 0 0 none 0 0 false none 0 0 none 0 0 false none 0 0 none 0 0 false none 0 0 none 0 0 false none 0 0 none 0 0 0 0 0 rfl (by simp only [put_same]) zF (fun h => by cases h) (fun h => by cases h) (fun h => by cases h) (fun h => by cases h) (fun h => by cases h) (fun h => by cases h) (fun h => by cases h) (fun h => by cases h) (fun h => by cases h) (fun h => by cases h) (fun h => by cases h))) (by kernel_rfl)
  clear zF
  intro ll aa w4 hI
  refine (hIVi _ _ _).1 hI _ ?_
  clear hI
  intro lb1 lb3 lb5 lb6 lb7 lb8 lv1 lv3 lv5 lv6 lv7 lv8 m1x o1x n1x c1x p1x k1x d1x m1y o1y n1y c1y p1y k1y d1y m2x o2x n2x c2x p2x k2x d2x m2y o2y n2y c2y p2y k2y d2y m3x o3x n3x c3x p3x k3x d3x m3y o3y n3y c3y p3y k3y d3y gla glb glc hll haa zF F1 F3 F5 F6 F7 F8 dp3_1 dp5_3 nq6_7 nq6_8 nq7_8
  subst hll haa
  by_cases hL : lb1 = true ∧ lb3 = true ∧ lb5 = true ∧ lb6 = true ∧ lb7 = true ∧ lb8 = true
  · left
    obtain ⟨rfl, rfl, rfl, rfl, rfl, rfl⟩ := hL
    obtain ⟨rfl, f1x_0, f1y_0⟩ := F1 rfl
    clear F1
    obtain ⟨rfl, f2x_0, f2y_0⟩ := F3 rfl
    clear F3
    obtain ⟨rfl, f3x_0, f3y_0⟩ := F5 rfl
    clear F5
    obtain ⟨rfl, la_0, hgla⟩ := F6 rfl
    clear F6
    obtain ⟨rfl, lb_0, hglb⟩ := F7 rfl
    clear F7
    obtain ⟨rfl, lc_0, hglc⟩ := F8 rfl
    clear F8
    have hnlalb := nq6_7 rfl rfl
    have hnlalc := nq6_8 rfl rfl
    have hnlblc := nq7_8 rfl rfl
    clear dp3_1 dp5_3 nq6_7 nq6_8 nq7_8
    show wpAnyH _ _ _ _ _ 3 _ _ _
    rw [HAi.out]
    try simp only [Act.put]
    try simp only [List.setIfInBounds_toArray, List.set_cons_zero, List.set_cons_succ]
    obtain ⟨hB_0, pp_0, pq_0, pr_0, hWi_0⟩ := (hFFi _).1 zF
    clear zF
    clear hWi_0
    obtain ⟨sf1a, sf1b, sf1c, sf1d, sf1e, sf1f, sf1g, sf1h, sf1i, sf1j, sf1k, sf1l⟩ := la_0.open6
    obtain ⟨sg1a, sg1b, sg1c, sg1d, sg1e, sg1f, sg1g, sg1h, sg1i, sg1j⟩ := Box.put6 la_0 (.bool m1x) (.slice o1x n1x c1x) (.slice p1x k1x d1x) (.bool m1y) (.slice o1y n1y c1y)
    refine reg_call 9 ?_ (by kernel_rfl) ?_ (fun K hK => ?_)
    rotate_left 1
    · simp only [List.getElem?_toArray, List.getElem?_cons_succ, List.getElem?_cons_zero]; exact rfl
    go_simp
    have hB_1 := below_setAll hB_0 (g := gla) (by omega) [.bool m1x, .slice o1x n1x c1x, .slice p1x k1x d1x, .bool m1y, .slice o1y n1y c1y, .slice p1y k1y d1y]
    have pp_1 := pp_0.farAll (g' := gla) (by omega) [.bool m1x, .slice o1x n1x c1x, .slice p1x k1x d1x, .bool m1y, .slice o1y n1y c1y, .slice p1y k1y d1y]
    have pq_1 := pq_0.farAll (g' := gla) (by omega) [.bool m1x, .slice o1x n1x c1x, .slice p1x k1x d1x, .bool m1y, .slice o1y n1y c1y, .slice p1y k1y d1y]
    have pr_1 := pr_0.farAll (g' := gla) (by omega) [.bool m1x, .slice o1x n1x c1x, .slice p1x k1x d1x, .bool m1y, .slice o1y n1y c1y, .slice p1y k1y d1y]
    have f1x_1 := f1x_0.setAll la_0 (noWord6 _ _ _ _ _ _ _ _ _ _ _ _ _ _) [.bool m1x, .slice o1x n1x c1x, .slice p1x k1x d1x, .bool m1y, .slice o1y n1y c1y, .slice p1y k1y d1y] rfl
    have f1y_1 := f1y_0.setAll la_0 (noWord6 _ _ _ _ _ _ _ _ _ _ _ _ _ _) [.bool m1x, .slice o1x n1x c1x, .slice p1x k1x d1x, .bool m1y, .slice o1y n1y c1y, .slice p1y k1y d1y] rfl
    have f2x_1 := f2x_0.setAll la_0 (noWord6 _ _ _ _ _ _ _ _ _ _ _ _ _ _) [.bool m1x, .slice o1x n1x c1x, .slice p1x k1x d1x, .bool m1y, .slice o1y n1y c1y, .slice p1y k1y d1y] rfl
    have f2y_1 := f2y_0.setAll la_0 (noWord6 _ _ _ _ _ _ _ _ _ _ _ _ _ _) [.bool m1x, .slice o1x n1x c1x, .slice p1x k1x d1x, .bool m1y, .slice o1y n1y c1y, .slice p1y k1y d1y] rfl
    have f3x_1 := f3x_0.setAll la_0 (noWord6 _ _ _ _ _ _ _ _ _ _ _ _ _ _) [.bool m1x, .slice o1x n1x c1x, .slice p1x k1x d1x, .bool m1y, .slice o1y n1y c1y, .slice p1y k1y d1y] rfl
    have f3y_1 := f3y_0.setAll la_0 (noWord6 _ _ _ _ _ _ _ _ _ _ _ _ _ _) [.bool m1x, .slice o1x n1x c1x, .slice p1x k1x d1x, .bool m1y, .slice o1y n1y c1y, .slice p1y k1y d1y] rfl
    have lb_1 := lb_0.farAll (g' := gla) (by omega) [.bool m1x, .slice o1x n1x c1x, .slice p1x k1x d1x, .bool m1y, .slice o1y n1y c1y, .slice p1y k1y d1y]
    have lc_1 := lc_0.farAll (g' := gla) (by omega) [.bool m1x, .slice o1x n1x c1x, .slice p1x k1x d1x, .bool m1y, .slice o1y n1y c1y, .slice p1y k1y d1y]
    have la_1 := la_0.setAll [.bool m1x, .slice o1x n1x c1x, .slice p1x k1x d1x, .bool m1y, .slice o1y n1y c1y, .slice p1y k1y d1y] rfl
    simp only [setAll, Nat.zero_add, Nat.reduceAdd] at hB_1 pp_1 pq_1 pr_1 f1x_1 f1y_1 f2x_1 f2y_1 f3x_1 f3y_1 la_1 lb_1 lc_1
    clear sf1a sf1b sf1c sf1d sf1e sf1f sf1g sf1h sf1i sf1j sf1k sf1l sg1a sg1b sg1c sg1d sg1e sg1f sg1g sg1h sg1i sg1j
    clear hB_0 pp_0 pq_0 pr_0 f1x_0 f1y_0 f2x_0 f2y_0 f3x_0 f3y_0 lb_0 lc_0 la_0
    refine hK.out _ _ ⟨pp_1.c0, pp_1.c1, pq_1.c0, pq_1.c1⟩ (fun hHeld => ?_)
    clear hK K
    try simp only [Act.put]
    try simp only [List.setIfInBounds_toArray, List.set_cons_zero, List.set_cons_succ]
    generalize (World.setCell (World.setCell (World.setCell (World.setCell (World.setCell (World.setCell w4 ⟨gla, 0, none⟩ (.bool m1x)) ⟨gla, 1, none⟩ (.slice o1x n1x c1x)) ⟨gla, 2, none⟩ (.slice p1x k1x d1x)) ⟨gla, 3, none⟩ (.bool m1y)) ⟨gla, 4, none⟩ (.slice o1y n1y c1y)) ⟨gla, 5, none⟩ (.slice p1y k1y d1y)) = w5 at *
    obtain ⟨sf2a, sf2b, sf2c, sf2d, sf2e, sf2f, sf2g, sf2h, sf2i, sf2j, sf2k, sf2l⟩ := lb_1.open6
    obtain ⟨sg2a, sg2b, sg2c, sg2d, sg2e, sg2f, sg2g, sg2h, sg2i, sg2j⟩ := Box.put6 lb_1 (.bool m2x) (.slice o2x n2x c2x) (.slice p2x k2x d2x) (.bool m2y) (.slice o2y n2y c2y)
    refine reg_call 10 ?_ (by kernel_rfl) ?_ (fun K hK => ?_)
    rotate_left 1
    · simp only [List.getElem?_toArray, List.getElem?_cons_succ, List.getElem?_cons_zero]; exact rfl
    go_simp
    have hB_2 := below_setAll hB_1 (g := glb) (by omega) [.bool m2x, .slice o2x n2x c2x, .slice p2x k2x d2x, .bool m2y, .slice o2y n2y c2y, .slice p2y k2y d2y]
    have pp_2 := pp_1.farAll (g' := glb) (by omega) [.bool m2x, .slice o2x n2x c2x, .slice p2x k2x d2x, .bool m2y, .slice o2y n2y c2y, .slice p2y k2y d2y]
    have pq_2 := pq_1.farAll (g' := glb) (by omega) [.bool m2x, .slice o2x n2x c2x, .slice p2x k2x d2x, .bool m2y, .slice o2y n2y c2y, .slice p2y k2y d2y]
    have pr_2 := pr_1.farAll (g' := glb) (by omega) [.bool m2x, .slice o2x n2x c2x, .slice p2x k2x d2x, .bool m2y, .slice o2y n2y c2y, .slice p2y k2y d2y]
    have f1x_2 := f1x_1.setAll lb_1 (noWord6 _ _ _ _ _ _ _ _ _ _ _ _ _ _) [.bool m2x, .slice o2x n2x c2x, .slice p2x k2x d2x, .bool m2y, .slice o2y n2y c2y, .slice p2y k2y d2y] rfl
    have f1y_2 := f1y_1.setAll lb_1 (noWord6 _ _ _ _ _ _ _ _ _ _ _ _ _ _) [.bool m2x, .slice o2x n2x c2x, .slice p2x k2x d2x, .bool m2y, .slice o2y n2y c2y, .slice p2y k2y d2y] rfl
    have f2x_2 := f2x_1.setAll lb_1 (noWord6 _ _ _ _ _ _ _ _ _ _ _ _ _ _) [.bool m2x, .slice o2x n2x c2x, .slice p2x k2x d2x, .bool m2y, .slice o2y n2y c2y, .slice p2y k2y d2y] rfl
    have f2y_2 := f2y_1.setAll lb_1 (noWord6 _ _ _ _ _ _ _ _ _ _ _ _ _ _) [.bool m2x, .slice o2x n2x c2x, .slice p2x k2x d2x, .bool m2y, .slice o2y n2y c2y, .slice p2y k2y d2y] rfl
    have f3x_2 := f3x_1.setAll lb_1 (noWord6 _ _ _ _ _ _ _ _ _ _ _ _ _ _) [.bool m2x, .slice o2x n2x c2x, .slice p2x k2x d2x, .bool m2y, .slice o2y n2y c2y, .slice p2y k2y d2y] rfl
    have f3y_2 := f3y_1.setAll lb_1 (noWord6 _ _ _ _ _ _ _ _ _ _ _ _ _ _) [.bool m2x, .slice o2x n2x c2x, .slice p2x k2x d2x, .bool m2y, .slice o2y n2y c2y, .slice p2y k2y d2y] rfl
    have la_2 := la_1.farAll (g' := glb) (by omega) [.bool m2x, .slice o2x n2x c2x, .slice p2x k2x d2x, .bool m2y, .slice o2y n2y c2y, .slice p2y k2y d2y]
    have lc_2 := lc_1.farAll (g' := glb) (by omega) [.bool m2x, .slice o2x n2x c2x, .slice p2x k2x d2x, .bool m2y, .slice o2y n2y c2y, .slice p2y k2y d2y]
    have lb_2 := lb_1.setAll [.bool m2x, .slice o2x n2x c2x, .slice p2x k2x d2x, .bool m2y, .slice o2y n2y c2y, .slice p2y k2y d2y] rfl
    simp only [setAll, Nat.zero_add, Nat.reduceAdd] at hB_2 pp_2 pq_2 pr_2 f1x_2 f1y_2 f2x_2 f2y_2 f3x_2 f3y_2 la_2 lb_2 lc_2
    clear sf2a sf2b sf2c sf2d sf2e sf2f sf2g sf2h sf2i sf2j sf2k sf2l sg2a sg2b sg2c sg2d sg2e sg2f sg2g sg2h sg2i sg2j
    clear hB_1 pp_1 pq_1 pr_1 f1x_1 f1y_1 f2x_1 f2y_1 f3x_1 f3y_1 la_1 lc_1 lb_1
    refine hK.out _ _ ⟨pp_2.c0, pp_2.c1, pq_2.c0, pq_2.c1⟩ (fun hHeld => ?_)
    clear hK K
    try simp only [Act.put]
    try simp only [List.setIfInBounds_toArray, List.set_cons_zero, List.set_cons_succ]
    generalize (World.setCell (World.setCell (World.setCell (World.setCell (World.setCell (World.setCell w5 ⟨glb, 0, none⟩ (.bool m2x)) ⟨glb, 1, none⟩ (.slice o2x n2x c2x)) ⟨glb, 2, none⟩ (.slice p2x k2x d2x)) ⟨glb, 3, none⟩ (.bool m2y)) ⟨glb, 4, none⟩ (.slice o2y n2y c2y)) ⟨glb, 5, none⟩ (.slice p2y k2y d2y)) = w6 at *
    obtain ⟨sf3a, sf3b, sf3c, sf3d, sf3e, sf3f, sf3g, sf3h, sf3i, sf3j, sf3k, sf3l⟩ := lc_2.open6
    obtain ⟨sg3a, sg3b, sg3c, sg3d, sg3e, sg3f, sg3g, sg3h, sg3i, sg3j⟩ := Box.put6 lc_2 (.bool m3x) (.slice o3x n3x c3x) (.slice p3x k3x d3x) (.bool m3y) (.slice o3y n3y c3y)
    refine reg_call 11 ?_ (by kernel_rfl) ?_ (fun K hK => ?_)
    rotate_left 1
    · simp only [List.getElem?_toArray, List.getElem?_cons_succ, List.getElem?_cons_zero]; exact rfl
    go_simp
    have hB_3 := below_setAll hB_2 (g := glc) (by omega) [.bool m3x, .slice o3x n3x c3x, .slice p3x k3x d3x, .bool m3y, .slice o3y n3y c3y, .slice p3y k3y d3y]
    have pp_3 := pp_2.farAll (g' := glc) (by omega) [.bool m3x, .slice o3x n3x c3x, .slice p3x k3x d3x, .bool m3y, .slice o3y n3y c3y, .slice p3y k3y d3y]
    have pq_3 := pq_2.farAll (g' := glc) (by omega) [.bool m3x, .slice o3x n3x c3x, .slice p3x k3x d3x, .bool m3y, .slice o3y n3y c3y, .slice p3y k3y d3y]
    have pr_3 := pr_2.farAll (g' := glc) (by omega) [.bool m3x, .slice o3x n3x c3x, .slice p3x k3x d3x, .bool m3y, .slice o3y n3y c3y, .slice p3y k3y d3y]
    have f1x_3 := f1x_2.setAll lc_2 (noWord6 _ _ _ _ _ _ _ _ _ _ _ _ _ _) [.bool m3x, .slice o3x n3x c3x, .slice p3x k3x d3x, .bool m3y, .slice o3y n3y c3y, .slice p3y k3y d3y] rfl
    have f1y_3 := f1y_2.setAll lc_2 (noWord6 _ _ _ _ _ _ _ _ _ _ _ _ _ _) [.bool m3x, .slice o3x n3x c3x, .slice p3x k3x d3x, .bool m3y, .slice o3y n3y c3y, .slice p3y k3y d3y] rfl
    have f2x_3 := f2x_2.setAll lc_2 (noWord6 _ _ _ _ _ _ _ _ _ _ _ _ _ _) [.bool m3x, .slice o3x n3x c3x, .slice p3x k3x d3x, .bool m3y, .slice o3y n3y c3y, .slice p3y k3y d3y] rfl
    have f2y_3 := f2y_2.setAll lc_2 (noWord6 _ _ _ _ _ _ _ _ _ _ _ _ _ _) [.bool m3x, .slice o3x n3x c3x, .slice p3x k3x d3x, .bool m3y, .slice o3y n3y c3y, .slice p3y k3y d3y] rfl
    have f3x_3 := f3x_2.setAll lc_2 (noWord6 _ _ _ _ _ _ _ _ _ _ _ _ _ _) [.bool m3x, .slice o3x n3x c3x, .slice p3x k3x d3x, .bool m3y, .slice o3y n3y c3y, .slice p3y k3y d3y] rfl
    have f3y_3 := f3y_2.setAll lc_2 (noWord6 _ _ _ _ _ _ _ _ _ _ _ _ _ _) [.bool m3x, .slice o3x n3x c3x, .slice p3x k3x d3x, .bool m3y, .slice o3y n3y c3y, .slice p3y k3y d3y] rfl
    have la_3 := la_2.farAll (g' := glc) (by omega) [.bool m3x, .slice o3x n3x c3x, .slice p3x k3x d3x, .bool m3y, .slice o3y n3y c3y, .slice p3y k3y d3y]
    have lb_3 := lb_2.farAll (g' := glc) (by omega) [.bool m3x, .slice o3x n3x c3x, .slice p3x k3x d3x, .bool m3y, .slice o3y n3y c3y, .slice p3y k3y d3y]
    have lc_3 := lc_2.setAll [.bool m3x, .slice o3x n3x c3x, .slice p3x k3x d3x, .bool m3y, .slice o3y n3y c3y, .slice p3y k3y d3y] rfl
    simp only [setAll, Nat.zero_add, Nat.reduceAdd] at hB_3 pp_3 pq_3 pr_3 f1x_3 f1y_3 f2x_3 f2y_3 f3x_3 f3y_3 la_3 lb_3 lc_3
    clear sf3a sf3b sf3c sf3d sf3e sf3f sf3g sf3h sf3i sf3j sf3k sf3l sg3a sg3b sg3c sg3d sg3e sg3f sg3g sg3h sg3i sg3j
    clear hB_2 pp_2 pq_2 pr_2 f1x_2 f1y_2 f2x_2 f2y_2 f3x_2 f3y_2 la_2 lb_2 lc_2
    refine hK.out _ _ ⟨pp_3.c0, pp_3.c1, pq_3.c0, pq_3.c1⟩ (fun hHeld => ?_)
    clear hK K
    try simp only [Act.put]
    try simp only [List.setIfInBounds_toArray, List.set_cons_zero, List.set_cons_succ]
    generalize (World.setCell (World.setCell (World.setCell (World.setCell (World.setCell (World.setCell w6 ⟨glc, 0, none⟩ (.bool m3x)) ⟨glc, 1, none⟩ (.slice o3x n3x c3x)) ⟨glc, 2, none⟩ (.slice p3x k3x d3x)) ⟨glc, 3, none⟩ (.bool m3y)) ⟨glc, 4, none⟩ (.slice o3y n3y c3y)) ⟨glc, 5, none⟩ (.slice p3y k3y d3y)) = w7 at *
    refine wpAnyH_done (by kernel_rfl) ?_ _
    refine NoPanic.normal ?_
    clear pp_3 pq_3
    obtain ⟨lae0, lae1, lae2, lae3, lae4, lae5, lae6, lae7, lae8, lae9, lae10, lae11⟩ := la_3.open6
    obtain ⟨lbe0, lbe1, lbe2, lbe3, lbe4, lbe5, lbe6, lbe7, lbe8, lbe9, lbe10, lbe11⟩ := lb_3.open6
    obtain ⟨lce0, lce1, lce2, lce3, lce4, lce5, lce6, lce7, lce8, lce9, lce10, lce11⟩ := lc_3.open6
    go_wp2
    clear lae0 lae1 lae2 lae3 lae4 lae5 lae6 lae7 lae8 lae9 lae10 lae11 lbe0 lbe1 lbe2 lbe3 lbe4 lbe5 lbe6 lbe7 lbe8 lbe9 lbe10 lbe11 lce0 lce1 lce2 lce3 lce4 lce5 lce6 lce7 lce8 lce9 lce10 lce11
    have hB_4 := hB_3.drew'
    have pr_4 := pr_3.drew
    have f1x_4 := f1x_3.drew
    have f1y_4 := f1y_3.drew
    have f2x_4 := f2x_3.drew
    have f2y_4 := f2y_3.drew
    have f3x_4 := f3x_3.drew
    have f3y_4 := f3y_3.drew
    have la_4 := la_3.drew
    have lb_4 := lb_3.drew
    have lc_4 := lc_3.drew
    clear hB_3 pr_3 f1x_3 f1y_3 f2x_3 f2y_3 f3x_3 f3y_3 la_3 lb_3 lc_3
    go_region_held3 (fun w' => w'.cell? ⟨gla, 0, none⟩ = some (.bool m1x) ∧ w'.cell? ⟨gla, 1, none⟩ = some (.slice o1x n1x c1x) ∧ w'.cell? ⟨gla, 2, none⟩ = some (.slice p1x k1x d1x) ∧ w'.cell? ⟨gla, 3, none⟩ = some (.bool m1y) ∧ w'.cell? ⟨gla, 4, none⟩ = some (.slice o1y n1y c1y) ∧ w'.cell? ⟨gla, 5, none⟩ = some (.slice p1y k1y d1y) ∧ w'.cell? ⟨glb, 0, none⟩ = some (.bool m2x) ∧ w'.cell? ⟨glb, 1, none⟩ = some (.slice o2x n2x c2x) ∧ w'.cell? ⟨glb, 2, none⟩ = some (.slice p2x k2x d2x) ∧ w'.cell? ⟨glb, 3, none⟩ = some (.bool m2y) ∧ w'.cell? ⟨glb, 4, none⟩ = some (.slice o2y n2y c2y) ∧ w'.cell? ⟨glb, 5, none⟩ = some (.slice p2y k2y d2y) ∧ w'.cell? ⟨glc, 0, none⟩ = some (.bool m3x) ∧ w'.cell? ⟨glc, 1, none⟩ = some (.slice o3x n3x c3x) ∧ w'.cell? ⟨glc, 2, none⟩ = some (.slice p3x k3x d3x) ∧ w'.cell? ⟨glc, 3, none⟩ = some (.bool m3y) ∧ w'.cell? ⟨glc, 4, none⟩ = some (.slice o3y n3y c3y) ∧ w'.cell? ⟨glc, 5, none⟩ = some (.slice p3y k3y d3y))
      (first | with_reducible exact ⟨la_4.c0, la_4.c1, la_4.c2, la_4.c3, la_4.c4, la_4.c5, lb_4.c0, lb_4.c1, lb_4.c2, lb_4.c3, lb_4.c4, lb_4.c5, lc_4.c0, lc_4.c1, lc_4.c2, lc_4.c3, lc_4.c4, lc_4.c5⟩ | with_reducible exact ⟨la_5.c0, la_5.c1, la_5.c2, la_5.c3, la_5.c4, la_5.c5, lb_5.c0, lb_5.c1, lb_5.c2, lb_5.c3, lb_5.c4, lb_5.c5, lc_5.c0, lc_5.c1, lc_5.c2, lc_5.c3, lc_5.c4, lc_5.c5⟩ | with_reducible exact ⟨la_6.c0, la_6.c1, la_6.c2, la_6.c3, la_6.c4, la_6.c5, lb_6.c0, lb_6.c1, lb_6.c2, lb_6.c3, lb_6.c4, lb_6.c5, lc_6.c0, lc_6.c1, lc_6.c2, lc_6.c3, lc_6.c4, lc_6.c5⟩ | with_reducible exact ⟨la_7.c0, la_7.c1, la_7.c2, la_7.c3, la_7.c4, la_7.c5, lb_7.c0, lb_7.c1, lb_7.c2, lb_7.c3, lb_7.c4, lb_7.c5, lc_7.c0, lc_7.c1, lc_7.c2, lc_7.c3, lc_7.c4, lc_7.c5⟩ | with_reducible exact ⟨la_8.c0, la_8.c1, la_8.c2, la_8.c3, la_8.c4, la_8.c5, lb_8.c0, lb_8.c1, lb_8.c2, lb_8.c3, lb_8.c4, lb_8.c5, lc_8.c0, lc_8.c1, lc_8.c2, lc_8.c3, lc_8.c4, lc_8.c5⟩ | with_reducible exact ⟨la_9.c0, la_9.c1, la_9.c2, la_9.c3, la_9.c4, la_9.c5, lb_9.c0, lb_9.c1, lb_9.c2, lb_9.c3, lb_9.c4, lb_9.c5, lc_9.c0, lc_9.c1, lc_9.c2, lc_9.c3, lc_9.c4, lc_9.c5⟩ | with_reducible exact ⟨la_10.c0, la_10.c1, la_10.c2, la_10.c3, la_10.c4, la_10.c5, lb_10.c0, lb_10.c1, lb_10.c2, lb_10.c3, lb_10.c4, lb_10.c5, lc_10.c0, lc_10.c1, lc_10.c2, lc_10.c3, lc_10.c4, lc_10.c5⟩ | with_reducible exact ⟨la_11.c0, la_11.c1, la_11.c2, la_11.c3, la_11.c4, la_11.c5, lb_11.c0, lb_11.c1, lb_11.c2, lb_11.c3, lb_11.c4, lb_11.c5, lc_11.c0, lc_11.c1, lc_11.c2, lc_11.c3, lc_11.c4, lc_11.c5⟩ | with_reducible exact ⟨la_12.c0, la_12.c1, la_12.c2, la_12.c3, la_12.c4, la_12.c5, lb_12.c0, lb_12.c1, lb_12.c2, lb_12.c3, lb_12.c4, lb_12.c5, lc_12.c0, lc_12.c1, lc_12.c2, lc_12.c3, lc_12.c4, lc_12.c5⟩ | fail)
      (first
        | (go_at_call 22; (with_reducible refine (qSub _ _ 1 1 _ _ _ (by omega) (by omega) f2x_4.q f1x_4.q).mono ?_); rintro e w8 ⟨m4, o4, n4, c4, p4, k4, d4, rfl, f4_0, hb8⟩; have hB_5 := hB_4.trans (hb8.mono hB_4.size); have pr_5 := pr_4.below hb8; have f1x_5 := f1x_4.below hb8; have f1y_5 := f1y_4.below hb8; have f2x_5 := f2x_4.below hb8; have f2y_5 := f2y_4.below hb8; have f3x_5 := f3x_4.below hb8; have f3y_5 := f3y_4.below hb8; have la_5 := la_4.below hb8; have lb_5 := lb_4.below hb8; have lc_5 := lc_4.below hb8; clear hb8 hB_4 pr_4 f1x_4 f1y_4 f2x_4 f2y_4 f3x_4 f3y_4 la_4 lb_4 lc_4)
        | (go_at_call 46; (with_reducible refine (cTwice_any (1 + 1 + 2) _ _ (by omega) f4_0.q).mono ?_); rintro e w9 ⟨m5, o5, n5, c5, p5, k5, d5, rfl, f5_0, hb9⟩; have hB_6 := hB_5.trans (hb9.mono hB_5.size); have pr_6 := pr_5.below hb9; have f1x_6 := f1x_5.below hb9; have f1y_6 := f1y_5.below hb9; have f2x_6 := f2x_5.below hb9; have f2y_6 := f2y_5.below hb9; have f3x_6 := f3x_5.below hb9; have f3y_6 := f3y_5.below hb9; have la_6 := la_5.below hb9; have lb_6 := lb_5.below hb9; have lc_6 := lc_5.below hb9; have f4_1 := f4_0.below hb9; clear hb9 hB_5 pr_5 f1x_5 f1y_5 f2x_5 f2y_5 f3x_5 f3y_5 la_5 lb_5 lc_5 f4_0)
        | (go_at_call 22; (with_reducible refine (qSub _ _ 1 1 _ _ _ (by omega) (by omega) f2y_6.q f1y_6.q).mono ?_); rintro e w10 ⟨m6, o6, n6, c6, p6, k6, d6, rfl, f6_0, hb10⟩; have hB_7 := hB_6.trans (hb10.mono hB_6.size); have pr_7 := pr_6.below hb10; have f1x_7 := f1x_6.below hb10; have f1y_7 := f1y_6.below hb10; have f2x_7 := f2x_6.below hb10; have f2y_7 := f2y_6.below hb10; have f3x_7 := f3x_6.below hb10; have f3y_7 := f3y_6.below hb10; have la_7 := la_6.below hb10; have lb_7 := lb_6.below hb10; have lc_7 := lc_6.below hb10; have f4_2 := f4_1.below hb10; have f5_1 := f5_0.below hb10; clear hb10 hB_6 pr_6 f1x_6 f1y_6 f2x_6 f2y_6 f3x_6 f3y_6 la_6 lb_6 lc_6 f4_1 f5_0)
        | (go_at_call 46; (with_reducible refine (cTwice_any (1 + 1 + 2) _ _ (by omega) f6_0.q).mono ?_); rintro e w11 ⟨m7, o7, n7, c7, p7, k7, d7, rfl, f7_0, hb11⟩; have hB_8 := hB_7.trans (hb11.mono hB_7.size); have pr_8 := pr_7.below hb11; have f1x_8 := f1x_7.below hb11; have f1y_8 := f1y_7.below hb11; have f2x_8 := f2x_7.below hb11; have f2y_8 := f2y_7.below hb11; have f3x_8 := f3x_7.below hb11; have f3y_8 := f3y_7.below hb11; have la_8 := la_7.below hb11; have lb_8 := lb_7.below hb11; have lc_8 := lc_7.below hb11; have f4_3 := f4_2.below hb11; have f5_2 := f5_1.below hb11; have f6_1 := f6_0.below hb11; clear hb11 hB_7 pr_7 f1x_7 f1y_7 f2x_7 f2y_7 f3x_7 f3y_7 la_7 lb_7 lc_7 f4_2 f5_1 f6_0)
        | (go_at_call 27; (with_reducible refine (sDist2_any 1 _ _ 1 _ _ _ (by omega) (by omega) f3x_8.q f3y_8.q f2x_8.q f2y_8.q).mono ?_); rintro e w12 ⟨m8, o8, n8, c8, p8, k8, d8, rfl, f8_0, hb12⟩; have hB_9 := hB_8.trans (hb12.mono hB_8.size); have pr_9 := pr_8.below hb12; have f1x_9 := f1x_8.below hb12; have f1y_9 := f1y_8.below hb12; have f2x_9 := f2x_8.below hb12; have f2y_9 := f2y_8.below hb12; have f3x_9 := f3x_8.below hb12; have f3y_9 := f3y_8.below hb12; have la_9 := la_8.below hb12; have lb_9 := lb_8.below hb12; have lc_9 := lc_8.below hb12; have f4_4 := f4_3.below hb12; have f5_3 := f5_2.below hb12; have f6_2 := f6_1.below hb12; have f7_1 := f7_0.below hb12; clear hb12 hB_8 pr_8 f1x_8 f1y_8 f2x_8 f2y_8 f3x_8 f3y_8 la_8 lb_8 lc_8 f4_3 f5_2 f6_1 f7_0)
        | (go_at_call 27; (with_reducible refine (sDist2_any 1 _ _ 1 _ _ _ (by omega) (by omega) f3x_9.q f3y_9.q f1x_9.q f1y_9.q).mono ?_); rintro e w13 ⟨m9, o9, n9, c9, p9, k9, d9, rfl, f9_0, hb13⟩; have hB_10 := hB_9.trans (hb13.mono hB_9.size); have pr_10 := pr_9.below hb13; have f1x_10 := f1x_9.below hb13; have f1y_10 := f1y_9.below hb13; have f2x_10 := f2x_9.below hb13; have f2y_10 := f2y_9.below hb13; have f3x_10 := f3x_9.below hb13; have f3y_10 := f3y_9.below hb13; have la_10 := la_9.below hb13; have lb_10 := lb_9.below hb13; have lc_10 := lc_9.below hb13; have f4_5 := f4_4.below hb13; have f5_4 := f5_3.below hb13; have f6_3 := f6_2.below hb13; have f7_2 := f7_1.below hb13; have f8_1 := f8_0.below hb13; clear hb13 hB_9 pr_9 f1x_9 f1y_9 f2x_9 f2y_9 f3x_9 f3y_9 la_9 lb_9 lc_9 f4_4 f5_3 f6_2 f7_1 f8_0)
        | (go_at_call 22; (with_reducible refine (qSub _ _ (((1 + 1 + 2) + (1 + 1 + 2) + 2) + ((1 + 1 + 2) + (1 + 1 + 2) + 2) + 2) (((1 + 1 + 2) + (1 + 1 + 2) + 2) + ((1 + 1 + 2) + (1 + 1 + 2) + 2) + 2) _ _ _ (by omega) (by omega) f8_1.q f9_0.q).mono ?_); rintro e w14 ⟨m10, o10, n10, c10, p10, k10, d10, rfl, f10_0, hb14⟩; have hB_11 := hB_10.trans (hb14.mono hB_10.size); have pr_11 := pr_10.below hb14; have f1x_11 := f1x_10.below hb14; have f1y_11 := f1y_10.below hb14; have f2x_11 := f2x_10.below hb14; have f2y_11 := f2y_10.below hb14; have f3x_11 := f3x_10.below hb14; have f3y_11 := f3y_10.below hb14; have la_11 := la_10.below hb14; have lb_11 := lb_10.below hb14; have lc_11 := lc_10.below hb14; have f4_6 := f4_5.below hb14; have f5_5 := f5_4.below hb14; have f6_4 := f6_3.below hb14; have f7_3 := f7_2.below hb14; have f8_2 := f8_1.below hb14; have f9_1 := f9_0.below hb14; clear hb14 hB_10 pr_10 f1x_10 f1y_10 f2x_10 f2y_10 f3x_10 f3y_10 la_10 lb_10 lc_10 f4_5 f5_4 f6_3 f7_2 f8_1 f9_0; obtain ⟨sf4a, sf4b, sf4c, sf4d, sf4e, sf4f, sf4g, sf4h, sf4i, sf4j, sf4k, sf4l, sf4m, sf4n, sf4o, sf4p, sf4q, sf4r⟩ := pr_11.open9; obtain ⟨sg4a, sg4b, sg4c, sg4d, sg4e, sg4f, sg4g, sg4h, sg4i, sg4j, sg4k, sg4l, sg4m, sg4n, sg4o, sg4p⟩ := Box.put9 pr_11 (.bool m5) (.slice o5 n5 c5) (.slice p5 k5 d5) (.bool m7) (.slice o7 n7 c7) (.slice p7 k7 d7) (.bool m10) (.slice o10 n10 c10); have hB_12 := below_setAll hB_11 (g := w.heap.size + 1 + 1) (by omega) [.bool m5, .slice o5 n5 c5, .slice p5 k5 d5, .bool m7, .slice o7 n7 c7, .slice p7 k7 d7, .bool m10, .slice o10 n10 c10, .slice p10 k10 d10]; have f1x_12 := f1x_11.setAll pr_11 (noWordB _ rfl) [.bool m5, .slice o5 n5 c5, .slice p5 k5 d5, .bool m7, .slice o7 n7 c7, .slice p7 k7 d7, .bool m10, .slice o10 n10 c10, .slice p10 k10 d10] rfl; have f1y_12 := f1y_11.setAll pr_11 (noWordB _ rfl) [.bool m5, .slice o5 n5 c5, .slice p5 k5 d5, .bool m7, .slice o7 n7 c7, .slice p7 k7 d7, .bool m10, .slice o10 n10 c10, .slice p10 k10 d10] rfl; have f2x_12 := f2x_11.setAll pr_11 (noWordB _ rfl) [.bool m5, .slice o5 n5 c5, .slice p5 k5 d5, .bool m7, .slice o7 n7 c7, .slice p7 k7 d7, .bool m10, .slice o10 n10 c10, .slice p10 k10 d10] rfl; have f2y_12 := f2y_11.setAll pr_11 (noWordB _ rfl) [.bool m5, .slice o5 n5 c5, .slice p5 k5 d5, .bool m7, .slice o7 n7 c7, .slice p7 k7 d7, .bool m10, .slice o10 n10 c10, .slice p10 k10 d10] rfl; have f3x_12 := f3x_11.setAll pr_11 (noWordB _ rfl) [.bool m5, .slice o5 n5 c5, .slice p5 k5 d5, .bool m7, .slice o7 n7 c7, .slice p7 k7 d7, .bool m10, .slice o10 n10 c10, .slice p10 k10 d10] rfl; have f3y_12 := f3y_11.setAll pr_11 (noWordB _ rfl) [.bool m5, .slice o5 n5 c5, .slice p5 k5 d5, .bool m7, .slice o7 n7 c7, .slice p7 k7 d7, .bool m10, .slice o10 n10 c10, .slice p10 k10 d10] rfl; have la_12 := la_11.farAll (g' := w.heap.size + 1 + 1) (by omega) [.bool m5, .slice o5 n5 c5, .slice p5 k5 d5, .bool m7, .slice o7 n7 c7, .slice p7 k7 d7, .bool m10, .slice o10 n10 c10, .slice p10 k10 d10]; have lb_12 := lb_11.farAll (g' := w.heap.size + 1 + 1) (by omega) [.bool m5, .slice o5 n5 c5, .slice p5 k5 d5, .bool m7, .slice o7 n7 c7, .slice p7 k7 d7, .bool m10, .slice o10 n10 c10, .slice p10 k10 d10]; have lc_12 := lc_11.farAll (g' := w.heap.size + 1 + 1) (by omega) [.bool m5, .slice o5 n5 c5, .slice p5 k5 d5, .bool m7, .slice o7 n7 c7, .slice p7 k7 d7, .bool m10, .slice o10 n10 c10, .slice p10 k10 d10]; have f4_7 := f4_6.setAll pr_11 (noWordB _ rfl) [.bool m5, .slice o5 n5 c5, .slice p5 k5 d5, .bool m7, .slice o7 n7 c7, .slice p7 k7 d7, .bool m10, .slice o10 n10 c10, .slice p10 k10 d10] rfl; have f5_6 := f5_5.setAll pr_11 (noWordB _ rfl) [.bool m5, .slice o5 n5 c5, .slice p5 k5 d5, .bool m7, .slice o7 n7 c7, .slice p7 k7 d7, .bool m10, .slice o10 n10 c10, .slice p10 k10 d10] rfl; have f6_5 := f6_4.setAll pr_11 (noWordB _ rfl) [.bool m5, .slice o5 n5 c5, .slice p5 k5 d5, .bool m7, .slice o7 n7 c7, .slice p7 k7 d7, .bool m10, .slice o10 n10 c10, .slice p10 k10 d10] rfl; have f7_4 := f7_3.setAll pr_11 (noWordB _ rfl) [.bool m5, .slice o5 n5 c5, .slice p5 k5 d5, .bool m7, .slice o7 n7 c7, .slice p7 k7 d7, .bool m10, .slice o10 n10 c10, .slice p10 k10 d10] rfl; have f8_3 := f8_2.setAll pr_11 (noWordB _ rfl) [.bool m5, .slice o5 n5 c5, .slice p5 k5 d5, .bool m7, .slice o7 n7 c7, .slice p7 k7 d7, .bool m10, .slice o10 n10 c10, .slice p10 k10 d10] rfl; have f9_2 := f9_1.setAll pr_11 (noWordB _ rfl) [.bool m5, .slice o5 n5 c5, .slice p5 k5 d5, .bool m7, .slice o7 n7 c7, .slice p7 k7 d7, .bool m10, .slice o10 n10 c10, .slice p10 k10 d10] rfl; have f10_1 := f10_0.setAll pr_11 (noWordB _ rfl) [.bool m5, .slice o5 n5 c5, .slice p5 k5 d5, .bool m7, .slice o7 n7 c7, .slice p7 k7 d7, .bool m10, .slice o10 n10 c10, .slice p10 k10 d10] rfl; have pr_12 := pr_11.setAll [.bool m5, .slice o5 n5 c5, .slice p5 k5 d5, .bool m7, .slice o7 n7 c7, .slice p7 k7 d7, .bool m10, .slice o10 n10 c10, .slice p10 k10 d10] rfl; simp only [setAll, Nat.zero_add, Nat.reduceAdd] at hB_12 pr_12 f1x_12 f1y_12 f2x_12 f2y_12 f3x_12 f3y_12 la_12 lb_12 lc_12 f4_7 f5_6 f6_5 f7_4 f8_3 f9_2 f10_1))
    clear hB_11 f1x_11 f1y_11 f2x_11 f2y_11 f3x_11 f3y_11 la_11 lb_11 lc_11 f4_6 f5_5 f6_4 f7_3 f8_2 f9_1 f10_0 pr_11
    clear sf4a sf4b sf4c sf4d sf4e sf4f sf4g sf4h sf4i sf4j sf4k sf4l sf4m sf4n sf4o sf4p sf4q sf4r sg4a sg4b sg4c sg4d sg4e sg4f sg4g sg4h sg4i sg4j sg4k sg4l sg4m sg4n sg4o sg4p
    generalize (World.setCell (World.setCell (World.setCell (World.setCell (World.setCell (World.setCell (World.setCell (World.setCell (World.setCell w14 ⟨w.heap.size + 1 + 1, 0, none⟩ (.bool m5)) ⟨w.heap.size + 1 + 1, 1, none⟩ (.slice o5 n5 c5)) ⟨w.heap.size + 1 + 1, 2, none⟩ (.slice p5 k5 d5)) ⟨w.heap.size + 1 + 1, 3, none⟩ (.bool m7)) ⟨w.heap.size + 1 + 1, 4, none⟩ (.slice o7 n7 c7)) ⟨w.heap.size + 1 + 1, 5, none⟩ (.slice p7 k7 d7)) ⟨w.heap.size + 1 + 1, 6, none⟩ (.bool m10)) ⟨w.heap.size + 1 + 1, 7, none⟩ (.slice o10 n10 c10)) ⟨w.heap.size + 1 + 1, 8, none⟩ (.slice p10 k10 d10)) = w15 at *
    go_wp2
    obtain ⟨pre0, pre1, pre2, pre3, pre4, pre5, pre6, pre7, pre8, pre9, pre10, pre11, pre12, pre13, pre14, pre15, pre16, pre17⟩ := pr_12.open9
    exact bodyPost_ret (v := .agg #[.bool m5, .slice o5 n5 c5, .slice p5 k5 d5, .bool m7, .slice o7 n7 c7, .slice p7 k7 d7, .bool m10, .slice o10 n10 c10, .slice p10 k10 d10]) (by simp [results, Try.results25, go_sem, pre0, pre1, pre2, pre3, pre4, pre5, pre6, pre7, pre8]) rfl ⟨_, _, _, _, _, _, _, _, _, _, _, _, _, _, _, _, _, _, _, _, _, rfl, f5_6.of (near_a _ _), f7_4.of (near_a _ _), f10_1.of (near_c _ _ _ _), hB_12⟩
  · right
    refine ⟨?_, fun i hi => ?_⟩
    · clear zF F1 F3 F5 F6 F7 F8 nq6_7 nq6_8 nq7_8
      cases lb1
      · exact ready_of 1 _ rfl rfl (by kernel_rfl)
      cases lb3
      · exact ready_of 3 _ rfl rfl (by kernel_rfl)
      cases lb5
      · exact ready_of 5 _ rfl rfl (by kernel_rfl)
      cases lb6
      · exact ready_of 6 _ rfl rfl (by kernel_rfl)
      cases lb7
      · exact ready_of 7 _ rfl rfl (by kernel_rfl)
      cases lb8
      · exact ready_of 8 _ rfl rfl (by kernel_rfl)
      exact absurd ⟨rfl, rfl, rfl, rfl, rfl, rfl⟩ hL
    have hd : (lb1 = false ∧ i = 1) ∨ (lb3 = false ∧ lb1 = true ∧ i = 3) ∨ (lb5 = false ∧ lb3 = true ∧ i = 5) ∨ (lb6 = false ∧ i = 6) ∨ (lb7 = false ∧ i = 7) ∨ (lb8 = false ∧ i = 8) := by
      have hin := ready_lt hi
      obtain rfl | rfl | rfl | rfl | rfl | rfl | rfl | rfl | rfl | rfl | rfl | rfl : i = 0 ∨ i = 1 ∨ i = 2 ∨ i = 3 ∨ i = 4 ∨ i = 5 ∨ i = 6 ∨ i = 7 ∨ i = 8 ∨ i = 9 ∨ i = 10 ∨ i = 11 := by have hin' : i < 12 := hin; omega
      · exact absurd (ready_off hi) (fun h => Bool.noConfusion (show true = false from h))
      · exact .inl ⟨ready_off hi, rfl⟩
      · exact absurd (ready_off hi) (fun h => Bool.noConfusion (show true = false from h))
      · exact .inr (.inl ⟨ready_off hi, ready_dep (d := 1) hi (by kernel_rfl), rfl⟩)
      · exact absurd (ready_off hi) (fun h => Bool.noConfusion (show true = false from h))
      · exact .inr (.inr (.inl ⟨ready_off hi, ready_dep (d := 3) hi (by kernel_rfl), rfl⟩))
      · exact .inr (.inr (.inr (.inl ⟨ready_off hi, rfl⟩)))
      · exact .inr (.inr (.inr (.inr (.inl ⟨ready_off hi, rfl⟩))))
      · exact .inr (.inr (.inr (.inr (.inr (⟨ready_off hi, rfl⟩)))))
      · have k6 : lb6 = true := ready_dep (d := 6) hi (by kernel_rfl); have k1 : lb1 = true := ready_dep (d := 1) hi (by kernel_rfl); have k5 : lb5 = true := ready_dep (d := 5) hi (by kernel_rfl); have k7 : lb7 = true := ready_dep (d := 7) hi (by kernel_rfl); have k8 : lb8 = true := ready_dep (d := 8) hi (by kernel_rfl)
        have k3 := dp5_3 k5
        exact absurd ⟨k1, k3, k5, k6, k7, k8⟩ hL
      · exact absurd (ready_dep (d := 9) hi (by kernel_rfl)) (fun h => Bool.noConfusion (show false = true from h))
      · exact absurd (ready_dep (d := 10) hi (by kernel_rfl)) (fun h => Bool.noConfusion (show false = true from h))
    clear hi hL
    rcases hd with ⟨rfl, rfl⟩ | ⟨rfl, rfl, rfl⟩ | ⟨rfl, rfl, rfl⟩ | ⟨rfl, rfl⟩ | ⟨rfl, rfl⟩ | ⟨rfl, rfl⟩
    · refine step_of 1 ?_ ?_ (fun K hK => ?_)
      rotate_left 1
      · simp only [List.getElem?_toArray, List.getElem?_cons_succ, List.getElem?_cons_zero]; exact rfl
      rw [HAi.out]
      try simp only [Act.put]
      try simp only [List.setIfInBounds_toArray, List.set_cons_zero, List.set_cons_succ]
      go_simp
      refine (sOf_any p0 p1 HP0.out HP1.out _).mono ?_
      rintro e w16 ⟨m1x, o1x, n1x, c1x, p1x, k1x, d1x, m1y, o1y, n1y, c1y, p1y, k1y, d1y, rfl, f1x_0, f1y_0, hb⟩
      go_wp2_with fail
      refine hK.out _ _ (sFi (cFi zF hb)) ?_
      exact (hIVi _ _ _).2 (fun CC kk => kk true lb3 lb5 lb6 lb7 lb8 (.agg #[.bool m1x, .slice o1x n1x c1x, .slice p1x k1x d1x, .bool m1y, .slice o1y n1y c1y, .slice p1y k1y d1y]) lv3 lv5 lv6 lv7 lv8 m1x o1x n1x c1x p1x k1x d1x m1y o1y n1y c1y p1y k1y d1y m2x o2x n2x c2x p2x k2x d2x m2y o2y n2y c2y p2y k2y d2y m3x o3x n3x c3x p3x k3x d3x m3y o3y n3y c3y p3y k3y d3y gla glb glc rfl (by simp only [HAi.out, Act.put, List.setIfInBounds_toArray, List.set_cons_zero, List.set_cons_succ]) (cFi zF hb) (fun _ => ⟨rfl, f1x_0, f1y_0⟩) (fun h => absurd (dp3_1 h) (by decide)) (fun h => absurd (dp3_1 (dp5_3 h)) (by decide)) (fun h => ⟨(F6 h).1, (F6 h).2.1.below hb, (F6 h).2.2⟩) (fun h => ⟨(F7 h).1, (F7 h).2.1.below hb, (F7 h).2.2⟩) (fun h => ⟨(F8 h).1, (F8 h).2.1.below hb, (F8 h).2.2⟩) (fun _ => rfl) dp5_3 nq6_7 nq6_8 nq7_8)
    · obtain ⟨rfl, f1x_0, f1y_0⟩ := F1 rfl
      clear F1
      refine step_of 3 ?_ ?_ (fun K hK => ?_)
      rotate_left 1
      · simp only [List.getElem?_toArray, List.getElem?_cons_succ, List.getElem?_cons_zero]; exact rfl
      rw [HAi.out]
      try simp only [Act.put]
      try simp only [List.setIfInBounds_toArray, List.set_cons_zero, List.set_cons_succ]
      go_simp
      refine (sOf_any q0 q1 HQ0.out HQ1.out _).mono ?_
      rintro e w17 ⟨m2x, o2x, n2x, c2x, p2x, k2x, d2x, m2y, o2y, n2y, c2y, p2y, k2y, d2y, rfl, f2x_0, f2y_0, hb⟩
      go_wp2_with fail
      refine hK.out _ _ (sFi (cFi zF hb)) ?_
      exact (hIVi _ _ _).2 (fun CC kk => kk true true lb5 lb6 lb7 lb8 _ (.agg #[.bool m2x, .slice o2x n2x c2x, .slice p2x k2x d2x, .bool m2y, .slice o2y n2y c2y, .slice p2y k2y d2y]) lv5 lv6 lv7 lv8 m1x o1x n1x c1x p1x k1x d1x m1y o1y n1y c1y p1y k1y d1y m2x o2x n2x c2x p2x k2x d2x m2y o2y n2y c2y p2y k2y d2y m3x o3x n3x c3x p3x k3x d3x m3y o3y n3y c3y p3y k3y d3y gla glb glc rfl (by simp only [HAi.out, Act.put, List.setIfInBounds_toArray, List.set_cons_zero, List.set_cons_succ]) (cFi zF hb) (fun _ => ⟨rfl, f1x_0.below hb, f1y_0.below hb⟩) (fun _ => ⟨rfl, f2x_0, f2y_0⟩) (fun h => absurd (dp5_3 h) (by decide)) (fun h => ⟨(F6 h).1, (F6 h).2.1.below hb, (F6 h).2.2⟩) (fun h => ⟨(F7 h).1, (F7 h).2.1.below hb, (F7 h).2.2⟩) (fun h => ⟨(F8 h).1, (F8 h).2.1.below hb, (F8 h).2.2⟩) (fun _ => rfl) (fun _ => rfl) nq6_7 nq6_8 nq7_8)
    · obtain rfl := dp3_1 rfl
      obtain ⟨rfl, f1x_0, f1y_0⟩ := F1 rfl
      clear F1
      obtain ⟨rfl, f2x_0, f2y_0⟩ := F3 rfl
      clear F3
      refine step_of 5 ?_ ?_ (fun K hK => ?_)
      rotate_left 1
      · simp only [List.getElem?_toArray, List.getElem?_cons_succ, List.getElem?_cons_zero]; exact rfl
      rw [HAi.out]
      try simp only [Act.put]
      try simp only [List.setIfInBounds_toArray, List.set_cons_zero, List.set_cons_succ]
      go_simp
      refine (sOf_any 0 0 in0' in0' _).mono ?_
      rintro e w18 ⟨m3x, o3x, n3x, c3x, p3x, k3x, d3x, m3y, o3y, n3y, c3y, p3y, k3y, d3y, rfl, f3x_0, f3y_0, hb⟩
      go_wp2_with fail
      refine hK.out _ _ (sFi (cFi zF hb)) ?_
      exact (hIVi _ _ _).2 (fun CC kk => kk true true true lb6 lb7 lb8 _ _ (.agg #[.bool m3x, .slice o3x n3x c3x, .slice p3x k3x d3x, .bool m3y, .slice o3y n3y c3y, .slice p3y k3y d3y]) lv6 lv7 lv8 m1x o1x n1x c1x p1x k1x d1x m1y o1y n1y c1y p1y k1y d1y m2x o2x n2x c2x p2x k2x d2x m2y o2y n2y c2y p2y k2y d2y m3x o3x n3x c3x p3x k3x d3x m3y o3y n3y c3y p3y k3y d3y gla glb glc rfl (by simp only [HAi.out, Act.put, List.setIfInBounds_toArray, List.set_cons_zero, List.set_cons_succ]) (cFi zF hb) (fun _ => ⟨rfl, f1x_0.below hb, f1y_0.below hb⟩) (fun _ => ⟨rfl, f2x_0.below hb, f2y_0.below hb⟩) (fun _ => ⟨rfl, f3x_0, f3y_0⟩) (fun h => ⟨(F6 h).1, (F6 h).2.1.below hb, (F6 h).2.2⟩) (fun h => ⟨(F7 h).1, (F7 h).2.1.below hb, (F7 h).2.2⟩) (fun h => ⟨(F8 h).1, (F8 h).2.1.below hb, (F8 h).2.2⟩) (fun _ => rfl) (fun _ => rfl) nq6_7 nq6_8 nq7_8)
    · refine step_of 6 ?_ ?_ (fun K hK => ?_)
      rotate_left 1
      · simp only [List.getElem?_toArray, List.getElem?_cons_succ, List.getElem?_cons_zero]; exact rfl
      rw [HAi.out]
      try simp only [Act.put]
      try simp only [List.setIfInBounds_toArray, List.set_cons_zero, List.set_cons_succ]
      go_simp
      have hgn := mFi zF
      have hq7 : lb7 = true → glb < w4.heap.size := fun h => (F7 h).2.1.lt
      have hq8 : lb8 = true → glc < w4.heap.size := fun h => (F8 h).2.1.lt
      obtain ⟨wn, hwn, la_0, hb, -⟩ := new_box w4 _ rfl [.bool false, .slice none 0 0, .slice none 0 0, .bool false, .slice none 0 0, .slice none 0 0] 42
      rw [hwn]
      refine hK.out _ _ (sFi (cFi zF hb)) ?_
      exact (hIVi _ _ _).2 (fun CC kk => kk lb1 lb3 lb5 true lb7 lb8 lv1 lv3 lv5 (.pointer (some ⟨w4.heap.size, 0, none⟩)) lv7 lv8 m1x o1x n1x c1x p1x k1x d1x m1y o1y n1y c1y p1y k1y d1y m2x o2x n2x c2x p2x k2x d2x m2y o2y n2y c2y p2y k2y d2y m3x o3x n3x c3x p3x k3x d3x m3y o3y n3y c3y p3y k3y d3y w4.heap.size glb glc rfl (by simp only [HAi.out, Act.put, List.setIfInBounds_toArray, List.set_cons_zero, List.set_cons_succ]) (cFi zF hb) (fun h => ⟨(F1 h).1, (F1 h).2.1.below hb, (F1 h).2.2.below hb⟩) (fun h => ⟨(F3 h).1, (F3 h).2.1.below hb, (F3 h).2.2.below hb⟩) (fun h => ⟨(F5 h).1, (F5 h).2.1.below hb, (F5 h).2.2.below hb⟩) (fun _ => ⟨rfl, la_0, hgn⟩) (fun h => ⟨(F7 h).1, (F7 h).2.1.below hb, (F7 h).2.2⟩) (fun h => ⟨(F8 h).1, (F8 h).2.1.below hb, (F8 h).2.2⟩) dp3_1 dp5_3 (fun _ h => by have := hq7 h; omega) (fun _ h => by have := hq8 h; omega) nq7_8)
    · refine step_of 7 ?_ ?_ (fun K hK => ?_)
      rotate_left 1
      · simp only [List.getElem?_toArray, List.getElem?_cons_succ, List.getElem?_cons_zero]; exact rfl
      rw [HAi.out]
      try simp only [Act.put]
      try simp only [List.setIfInBounds_toArray, List.set_cons_zero, List.set_cons_succ]
      go_simp
      have hgn := mFi zF
      have hq6 : lb6 = true → gla < w4.heap.size := fun h => (F6 h).2.1.lt
      have hq8 : lb8 = true → glc < w4.heap.size := fun h => (F8 h).2.1.lt
      obtain ⟨wn, hwn, lb_0, hb, -⟩ := new_box w4 _ rfl [.bool false, .slice none 0 0, .slice none 0 0, .bool false, .slice none 0 0, .slice none 0 0] 42
      rw [hwn]
      refine hK.out _ _ (sFi (cFi zF hb)) ?_
      exact (hIVi _ _ _).2 (fun CC kk => kk lb1 lb3 lb5 lb6 true lb8 lv1 lv3 lv5 lv6 (.pointer (some ⟨w4.heap.size, 0, none⟩)) lv8 m1x o1x n1x c1x p1x k1x d1x m1y o1y n1y c1y p1y k1y d1y m2x o2x n2x c2x p2x k2x d2x m2y o2y n2y c2y p2y k2y d2y m3x o3x n3x c3x p3x k3x d3x m3y o3y n3y c3y p3y k3y d3y gla w4.heap.size glc rfl (by simp only [HAi.out, Act.put, List.setIfInBounds_toArray, List.set_cons_zero, List.set_cons_succ]) (cFi zF hb) (fun h => ⟨(F1 h).1, (F1 h).2.1.below hb, (F1 h).2.2.below hb⟩) (fun h => ⟨(F3 h).1, (F3 h).2.1.below hb, (F3 h).2.2.below hb⟩) (fun h => ⟨(F5 h).1, (F5 h).2.1.below hb, (F5 h).2.2.below hb⟩) (fun h => ⟨(F6 h).1, (F6 h).2.1.below hb, (F6 h).2.2⟩) (fun _ => ⟨rfl, lb_0, hgn⟩) (fun h => ⟨(F8 h).1, (F8 h).2.1.below hb, (F8 h).2.2⟩) dp3_1 dp5_3 (fun h _ => by have := hq6 h; omega) nq6_8 (fun _ h => by have := hq8 h; omega))
    · refine step_of 8 ?_ ?_ (fun K hK => ?_)
      rotate_left 1
      · simp only [List.getElem?_toArray, List.getElem?_cons_succ, List.getElem?_cons_zero]; exact rfl
      rw [HAi.out]
      try simp only [Act.put]
      try simp only [List.setIfInBounds_toArray, List.set_cons_zero, List.set_cons_succ]
      go_simp
      have hgn := mFi zF
      have hq6 : lb6 = true → gla < w4.heap.size := fun h => (F6 h).2.1.lt
      have hq7 : lb7 = true → glb < w4.heap.size := fun h => (F7 h).2.1.lt
      obtain ⟨wn, hwn, lc_0, hb, -⟩ := new_box w4 _ rfl [.bool false, .slice none 0 0, .slice none 0 0, .bool false, .slice none 0 0, .slice none 0 0] 42
      rw [hwn]
      refine hK.out _ _ (sFi (cFi zF hb)) ?_
      exact (hIVi _ _ _).2 (fun CC kk => kk lb1 lb3 lb5 lb6 lb7 true lv1 lv3 lv5 lv6 lv7 (.pointer (some ⟨w4.heap.size, 0, none⟩)) m1x o1x n1x c1x p1x k1x d1x m1y o1y n1y c1y p1y k1y d1y m2x o2x n2x c2x p2x k2x d2x m2y o2y n2y c2y p2y k2y d2y m3x o3x n3x c3x p3x k3x d3x m3y o3y n3y c3y p3y k3y d3y gla glb w4.heap.size rfl (by simp only [HAi.out, Act.put, List.setIfInBounds_toArray, List.set_cons_zero, List.set_cons_succ]) (cFi zF hb) (fun h => ⟨(F1 h).1, (F1 h).2.1.below hb, (F1 h).2.2.below hb⟩) (fun h => ⟨(F3 h).1, (F3 h).2.1.below hb, (F3 h).2.2.below hb⟩) (fun h => ⟨(F5 h).1, (F5 h).2.1.below hb, (F5 h).2.2.below hb⟩) (fun h => ⟨(F6 h).1, (F6 h).2.1.below hb, (F6 h).2.2⟩) (fun h => ⟨(F7 h).1, (F7 h).2.1.below hb, (F7 h).2.2⟩) (fun _ => ⟨rfl, lc_0, hgn⟩) dp3_1 dp5_3 nq6_7 (fun h _ => by have := hq6 h; omega) (fun h _ => by have := hq7 h; omega))
set_option maxHeartbeats 8000000 in
theorem cCrossing_any {axm : Bool} {axo : Option Addr} {axn axc : Nat} {axp : Option Addr} {axk axd : Nat} {aym : Bool} {ayo : Option Addr} {ayn ayc : Nat} {ayp : Option Addr} {ayk ayd : Nat} {bxm : Bool} {bxo : Option Addr} {bxn bxc : Nat} {bxp : Option Addr} {bxk bxd : Nat} {bym : Bool} {byo : Option Addr} {byn byc : Nat} {byp : Option Addr} {byk byd : Nat} {um : Bool} {uo : Option Addr} {un uc : Nat} {up : Option Addr} {uk ud : Nat} {vm : Bool} {vo : Option Addr} {vn vc : Nat} {vp : Option Addr} {vk vd : Nat} (La : Nat) (axq ayq : Rat) (Lb : Nat) (bxq byq : Rat) (Lu : Nat) (uq : Rat) (Lv : Nat) (vq : Rat) (w : World) (hLa : La ≤ 100000) (hLb : Lb ≤ 100000) (hLu : Lu ≤ 100000) (hLv : Lv ≤ 100000) (fax_0 : FQ w (.agg #[.bool axm, .slice axo axn axc, .slice axp axk axd]) La axq) (fay_0 : FQ w (.agg #[.bool aym, .slice ayo ayn ayc, .slice ayp ayk ayd]) La ayq) (fbx_0 : FQ w (.agg #[.bool bxm, .slice bxo bxn bxc, .slice bxp bxk bxd]) Lb bxq) (fby_0 : FQ w (.agg #[.bool bym, .slice byo byn byc, .slice byp byk byd]) Lb byq) (fu_0 : FQ w (.agg #[.bool um, .slice uo un uc, .slice up uk ud]) Lu uq) (fv_0 : FQ w (.agg #[.bool vm, .slice vo vn vc, .slice vp vk vd]) Lv vq) (hne : uq - vq ≠ 0) :
    Calls Try.prog 32 #[.agg #[.bool axm, .slice axo axn axc, .slice axp axk axd, .bool aym, .slice ayo ayn ayc, .slice ayp ayk ayd], .agg #[.bool bxm, .slice bxo bxn bxc, .slice bxp bxk bxd, .bool bym, .slice byo byn byc, .slice byp byk byd], .agg #[.bool um, .slice uo un uc, .slice up uk ud], .agg #[.bool vm, .slice vo vn vc, .slice vp vk vd]] w fun e w' => AnsS w w' e (La + ((Lu + (Lu + Lv + 2) + 3) + (Lb + La + 2) + 2) + 2) (axq + uq / (uq - vq) * (bxq - axq)) (ayq + uq / (uq - vq) * (byq - ayq)) := by
  have hB_0 := Below.refl w.heap.size w
  have HLa := Lib.hid hLa; have HLb := Lib.hid hLb; have HLu := Lib.hid hLu; have HLv := Lib.hid hLv
  clear hLa hLb hLu hLv
  have HN := Lib.hid hne; clear hne
  obtain ⟨w1, hw1, pa_0, hb1, hs1⟩ := new_box w (w.heap.size) rfl [.bool axm, .slice axo axn axc, .slice axp axk axd, .bool aym, .slice ayo ayn ayc, .slice ayp ayk ayd] 42
  have hb1' : Below w.heap.size w w1 := hb1.mono (by omega)
  clear hb1
  have hB_1 := hB_0.trans (hb1'.mono hB_0.size)
  have fax_1 := fax_0.below hb1'
  have fay_1 := fay_0.below hb1'
  have fbx_1 := fbx_0.below hb1'
  have fby_1 := fby_0.below hb1'
  have fu_1 := fu_0.below hb1'
  have fv_1 := fv_0.below hb1'
  clear hb1' hB_0 fax_0 fay_0 fbx_0 fby_0 fu_0 fv_0
  obtain ⟨w2, hw2, pb_0, hb2, hs2⟩ := new_box w1 (w.heap.size + 1) hs1 [.bool bxm, .slice bxo bxn bxc, .slice bxp bxk bxd, .bool bym, .slice byo byn byc, .slice byp byk byd] 42
  have hb2' : Below w1.heap.size w1 w2 := hb2.mono (by omega)
  clear hb2
  have hB_2 := hB_1.trans (hb2'.mono hB_1.size)
  have fax_2 := fax_1.below hb2'
  have fay_2 := fay_1.below hb2'
  have fbx_2 := fbx_1.below hb2'
  have fby_2 := fby_1.below hb2'
  have fu_2 := fu_1.below hb2'
  have fv_2 := fv_1.below hb2'
  have pa_1 := pa_0.below hb2'
  clear hb2' hB_1 fax_1 fay_1 fbx_1 fby_1 fu_1 fv_1 pa_0
  obtain ⟨w3, hw3, pu_0, hb3, hs3⟩ := new_box w2 (w.heap.size + 1 + 1) hs2 [.bool um, .slice uo un uc, .slice up uk ud] 28
  have hb3' : Below w2.heap.size w2 w3 := hb3.mono (by omega)
  clear hb3
  have hB_3 := hB_2.trans (hb3'.mono hB_2.size)
  have fax_3 := fax_2.below hb3'
  have fay_3 := fay_2.below hb3'
  have fbx_3 := fbx_2.below hb3'
  have fby_3 := fby_2.below hb3'
  have fu_3 := fu_2.below hb3'
  have fv_3 := fv_2.below hb3'
  have pa_2 := pa_1.below hb3'
  have pb_1 := pb_0.below hb3'
  clear hb3' hB_2 fax_2 fay_2 fbx_2 fby_2 fu_2 fv_2 pa_1 pb_0
  obtain ⟨w4, hw4, pv_0, hb4, hs4⟩ := new_box w3 (w.heap.size + 1 + 1 + 1) hs3 [.bool vm, .slice vo vn vc, .slice vp vk vd] 28
  have hb4' : Below w3.heap.size w3 w4 := hb4.mono (by omega)
  clear hb4
  have hB_4 := hB_3.trans (hb4'.mono hB_3.size)
  have fax_4 := fax_3.below hb4'
  have fay_4 := fay_3.below hb4'
  have fbx_4 := fbx_3.below hb4'
  have fby_4 := fby_3.below hb4'
  have fu_4 := fu_3.below hb4'
  have fv_4 := fv_3.below hb4'
  have pa_3 := pa_2.below hb4'
  have pb_2 := pb_1.below hb4'
  have pu_1 := pu_0.below hb4'
  clear hb4' hB_3 fax_3 fay_3 fbx_3 fby_3 fu_3 fv_3 pa_2 pb_1 pu_0
  obtain ⟨w5, hw5, pr_0, hb5, hs5⟩ := new_box w4 (w.heap.size + 1 + 1 + 1 + 1) hs4 [.bool false, .slice none 0 0, .slice none 0 0, .bool false, .slice none 0 0, .slice none 0 0] 42
  have hb5' : Below w4.heap.size w4 w5 := hb5.mono (by omega)
  clear hb5
  have hB_5 := hB_4.trans (hb5'.mono hB_4.size)
  have fax_5 := fax_4.below hb5'
  have fay_5 := fay_4.below hb5'
  have fbx_5 := fbx_4.below hb5'
  have fby_5 := fby_4.below hb5'
  have fu_5 := fu_4.below hb5'
  have fv_5 := fv_4.below hb5'
  have pa_4 := pa_3.below hb5'
  have pb_3 := pb_2.below hb5'
  have pu_2 := pu_1.below hb5'
  have pv_1 := pv_0.below hb5'
  clear hb5' hB_4 fax_4 fay_4 fbx_4 fby_4 fu_4 fv_4 pa_3 pb_2 pu_1 pv_0
  go_enter Try.func32, Try.ntmps32
  obtain ⟨pue0, pue1, pue2, pue3, pue4, pue5⟩ := pu_2.open3
  obtain ⟨pve0, pve1, pve2, pve3, pve4, pve5⟩ := pv_1.open3
  go_wp2
  clear pue0 pue1 pue2 pue3 pue4 pue5 pve0 pve1 pve2 pve3 pve4 pve5
  have hWi_0 := Below.refl w5.heap.size w5
  have hsi : w.heap.size ≤ w5.heap.size := hB_5.size
  have hlipa := pa_4.lt
  have hlipb := pb_3.lt
  have hlipu := pu_2.lt
  have hlipv := pv_1.lt
  have hlipr := pr_0.lt
  have hB_6 := hB_5.drew'
  have fax_6 := fax_5.drew
  have fay_6 := fay_5.drew
  have fbx_6 := fbx_5.drew
  have fby_6 := fby_5.drew
  have fu_6 := fu_5.drew
  have fv_6 := fv_5.drew
  have pa_5 := pa_4.drew
  have pb_4 := pb_3.drew
  have pu_3 := pu_2.drew
  have pv_2 := pv_1.drew
  have pr_1 := pr_0.drew
  have hWi_1 := hWi_0.drew'
  clear hB_5 fax_5 fay_5 fbx_5 fby_5 fu_5 fv_5 pa_4 pb_3 pu_2 pv_1 pr_0 hWi_0
  refine wp_region_noPanic ?_
  refine wp_region_held_drew (S := fun w' => w'.cell? ⟨w.heap.size + 1 + 1, 0, none⟩ = some (.bool um) ∧ w'.cell? ⟨w.heap.size + 1 + 1, 1, none⟩ = some (.slice uo un uc) ∧ w'.cell? ⟨w.heap.size + 1 + 1, 2, none⟩ = some (.slice up uk ud) ∧ w'.cell? ⟨w.heap.size + 1 + 1 + 1, 0, none⟩ = some (.bool vm) ∧ w'.cell? ⟨w.heap.size + 1 + 1 + 1, 1, none⟩ = some (.slice vo vn vc) ∧ w'.cell? ⟨w.heap.size + 1 + 1 + 1, 2, none⟩ = some (.slice vp vk vd)) (by kernel_rfl) (⟨pu_3.c0, pu_3.c1, pu_3.c2, pv_2.c0, pv_2.c1, pv_2.c2⟩) (fun hHeld => ?_)
  refine reg_take 0 ?_ ?_ ?_ (by kernel_rfl) (by kernel_rfl) (by kernel_rfl) (fun _ _ _ h => h) ?_ ?_ (by assumption) ?_
  rotate_left 2
  · simp only [List.getElem?_toArray, List.getElem?_cons_zero]; exact rfl
  · rfl
  · intro w hSw; (try dsimp only at hSw); go_simp; try with_reducible rfl
  try simp only [Act.put]
  try simp only [List.setIfInBounds_toArray, List.set_cons_zero, List.set_cons_succ]
  refine reg_take 1 ?_ ?_ ?_ (by kernel_rfl) (by kernel_rfl) (by kernel_rfl) (fun _ _ _ h => h) ?_ ?_ (by assumption) ?_
  rotate_left 2
  · simp only [List.getElem?_toArray, List.getElem?_cons_succ, List.getElem?_cons_zero]; exact rfl
  · rfl
  · intro w hSw; (try dsimp only at hSw); go_simp; try with_reducible rfl
  try simp only [Act.put]
  try simp only [List.setIfInBounds_toArray, List.set_cons_zero, List.set_cons_succ]
  refine reg_take 2 ?_ ?_ ?_ (by kernel_rfl) (by kernel_rfl) (by kernel_rfl) (fun _ _ _ h => h) ?_ ?_ (by assumption) ?_
  rotate_left 2
  · simp only [List.getElem?_toArray, List.getElem?_cons_succ, List.getElem?_cons_zero]; exact rfl
  · rfl
  · intro w hSw; (try dsimp only at hSw); go_simp; try with_reducible rfl
  try simp only [Act.put]
  try simp only [List.setIfInBounds_toArray, List.set_cons_zero, List.set_cons_succ]
  refine reg_grab (fun WWi ai hWW hAA => ?_)
  have HWi := Lib.hid hWW; have HAi := Lib.hid hAA; clear hWW hAA hHeld
  have sti_2t : ∀ (w' : World) (m1 : Bool) (o1 : Option Addr) (n1 : Nat) (c1 : Nat) (p1 : Option Addr) (k1 : Nat) (d1 : Nat) (m2 : Bool) (o2 : Option Addr) (n2 : Nat) (c2 : Nat) (p2 : Option Addr) (k2 : Nat) (d2 : Nat) (glp : Nat), Below w.heap.size w w' → FQ w' (.agg #[.bool axm, .slice axo axn axc, .slice axp axk axd]) La axq → FQ w' (.agg #[.bool aym, .slice ayo ayn ayc, .slice ayp ayk ayd]) La ayq → FQ w' (.agg #[.bool bxm, .slice bxo bxn bxc, .slice bxp bxk bxd]) Lb bxq → FQ w' (.agg #[.bool bym, .slice byo byn byc, .slice byp byk byd]) Lb byq → FQ w' (.agg #[.bool um, .slice uo un uc, .slice up uk ud]) Lu uq → FQ w' (.agg #[.bool vm, .slice vo vn vc, .slice vp vk vd]) Lv vq → Box w' (w.heap.size) [.bool axm, .slice axo axn axc, .slice axp axk axd, .bool aym, .slice ayo ayn ayc, .slice ayp ayk ayd] → Box w' (w.heap.size + 1) [.bool bxm, .slice bxo bxn bxc, .slice bxp bxk bxd, .bool bym, .slice byo byn byc, .slice byp byk byd] → Box w' (w.heap.size + 1 + 1) [.bool um, .slice uo un uc, .slice up uk ud] → Box w' (w.heap.size + 1 + 1 + 1) [.bool vm, .slice vo vn vc, .slice vp vk vd] → Box w' (w.heap.size + 1 + 1 + 1 + 1) [.bool false, .slice none 0 0, .slice none 0 0, .bool false, .slice none 0 0, .slice none 0 0] → Below w5.heap.size w5 w' → RF w' (.agg #[.bool m1, .slice o1 n1 c1, .slice p1 k1 d1]) (Lu + Lv + 2) (uq - vq) → RF w' (.agg #[.bool m2, .slice o2 n2 c2, .slice p2 k2 d2]) (Lu + (Lu + Lv + 2) + 3) (uq / (uq - vq)) → Box w' glp [.bool false, .slice none 0 0, .slice none 0 0] → w5.heap.size ≤ glp → WWi 2 #[true, true, true, true, true, true, true, true, true, false, false] ((((((ai.put (some 15) (.agg #[.bool m1, .slice o1 n1 c1, .slice p1 k1 d1])).put (some 16) (.tuple #[.agg #[.bool m2, .slice o2 n2 c2, .slice p2 k2 d2], .bool true])).put (some 11) (.tuple #[.agg #[.bool m2, .slice o2 n2 c2, .slice p2 k2 d2], .bool true])).put (some 17) (.agg #[.bool m2, .slice o2 n2 c2, .slice p2 k2 d2])).put (some 18) (.bool true)).put (some 9) (.pointer (some ⟨glp, 0, none⟩))) w' := by
    intro w6 m1 o1 n1 c1 p1 k1 d1 m2 o2 n2 c2 p2 k2 d2 glp hB_0 fax_0 fay_0 fbx_0 fby_0 fu_0 fv_0 pa_0 pb_0 pu_0 pv_0 pr_0 hWi_0 f1_0 f2_0 lp_0 hglp
    rw [HWi.out, HAi.out]
    try simp only [Act.put]
    try simp only [List.setIfInBounds_toArray, List.set_cons_zero, List.set_cons_succ]
    clear hWi_0
    obtain ⟨sf1a, sf1b, sf1c, sf1d, sf1e, sf1f⟩ := lp_0.open3
    obtain ⟨sg1a, sg1b, sg1c, sg1d⟩ := Box.put3 lp_0 (.bool m2) (.slice o2 n2 c2)
    refine reg_call 9 ?_ (by kernel_rfl) ?_ (fun K hK => ?_)
    rotate_left 1
    · simp only [List.getElem?_toArray, List.getElem?_cons_succ, List.getElem?_cons_zero]; exact rfl
    go_simp
    have hB_1 := below_setAll hB_0 (g := glp) (by omega) [.bool m2, .slice o2 n2 c2, .slice p2 k2 d2]
    have fax_1 := fax_0.setAll lp_0 (noWord3 _ _ _ _ _ _ _) [.bool m2, .slice o2 n2 c2, .slice p2 k2 d2] rfl
    have fay_1 := fay_0.setAll lp_0 (noWord3 _ _ _ _ _ _ _) [.bool m2, .slice o2 n2 c2, .slice p2 k2 d2] rfl
    have fbx_1 := fbx_0.setAll lp_0 (noWord3 _ _ _ _ _ _ _) [.bool m2, .slice o2 n2 c2, .slice p2 k2 d2] rfl
    have fby_1 := fby_0.setAll lp_0 (noWord3 _ _ _ _ _ _ _) [.bool m2, .slice o2 n2 c2, .slice p2 k2 d2] rfl
    have fu_1 := fu_0.setAll lp_0 (noWord3 _ _ _ _ _ _ _) [.bool m2, .slice o2 n2 c2, .slice p2 k2 d2] rfl
    have fv_1 := fv_0.setAll lp_0 (noWord3 _ _ _ _ _ _ _) [.bool m2, .slice o2 n2 c2, .slice p2 k2 d2] rfl
    have pa_1 := pa_0.farAll (g' := glp) (by omega) [.bool m2, .slice o2 n2 c2, .slice p2 k2 d2]
    have pb_1 := pb_0.farAll (g' := glp) (by omega) [.bool m2, .slice o2 n2 c2, .slice p2 k2 d2]
    have pu_1 := pu_0.farAll (g' := glp) (by omega) [.bool m2, .slice o2 n2 c2, .slice p2 k2 d2]
    have pv_1 := pv_0.farAll (g' := glp) (by omega) [.bool m2, .slice o2 n2 c2, .slice p2 k2 d2]
    have pr_1 := pr_0.farAll (g' := glp) (by omega) [.bool m2, .slice o2 n2 c2, .slice p2 k2 d2]
    have f1_1 := f1_0.setAll lp_0 (noWord3 _ _ _ _ _ _ _) [.bool m2, .slice o2 n2 c2, .slice p2 k2 d2] rfl
    have f2_1 := f2_0.setAll lp_0 (noWord3 _ _ _ _ _ _ _) [.bool m2, .slice o2 n2 c2, .slice p2 k2 d2] rfl
    have lp_1 := lp_0.setAll [.bool m2, .slice o2 n2 c2, .slice p2 k2 d2] rfl
    simp only [setAll, Nat.zero_add, Nat.reduceAdd] at hB_1 fax_1 fay_1 fbx_1 fby_1 fu_1 fv_1 pa_1 pb_1 pu_1 pv_1 pr_1 f1_1 f2_1 lp_1
    clear sf1a sf1b sf1c sf1d sf1e sf1f sg1a sg1b sg1c sg1d
    clear hB_0 fax_0 fay_0 fbx_0 fby_0 fu_0 fv_0 pa_0 pb_0 pu_0 pv_0 pr_0 f1_0 f2_0 lp_0
    refine hK.out _ _ ⟨pu_1.c0, pu_1.c1, pu_1.c2, pv_1.c0, pv_1.c1, pv_1.c2⟩ (fun hHeld => ?_)
    clear hK K
    try simp only [Act.put]
    try simp only [List.setIfInBounds_toArray, List.set_cons_zero, List.set_cons_succ]
    generalize (World.setCell (World.setCell (World.setCell w6 ⟨glp, 0, none⟩ (.bool m2)) ⟨glp, 1, none⟩ (.slice o2 n2 c2)) ⟨glp, 2, none⟩ (.slice p2 k2 d2)) = w7 at *
    refine reg_take 10 ?_ ?_ ?_ (by kernel_rfl) (by kernel_rfl) (by kernel_rfl) (fun _ _ _ h => h) ?_ ?_ (by assumption) ?_
    rotate_left 2
    · simp only [List.getElem?_toArray, List.getElem?_cons_succ, List.getElem?_cons_zero]; exact rfl
    · rfl
    · intro w hSw; (try dsimp only at hSw); go_simp; try with_reducible rfl
    try simp only [Act.put]
    try simp only [List.setIfInBounds_toArray, List.set_cons_zero, List.set_cons_succ]
    refine wpAnyH_done (by kernel_rfl) ?_ _
    refine NoPanic.normal ?_
    clear pu_1 pv_1 fu_1 fv_1
    obtain ⟨pae0, pae1, pae2, pae3, pae4, pae5, pae6, pae7, pae8, pae9, pae10, pae11⟩ := pa_1.open6
    obtain ⟨pbe0, pbe1, pbe2, pbe3, pbe4, pbe5, pbe6, pbe7, pbe8, pbe9, pbe10, pbe11⟩ := pb_1.open6
    obtain ⟨lpe0, lpe1, lpe2, lpe3, lpe4, lpe5⟩ := lp_1.open3
    go_wp2_with fail
    refine (sAlong_any La axq ayq Lb bxq byq (Lu + (Lu + Lv + 2) + 3) _ _ (by have := HLa.out; have := HLb.out; have := HLu.out; have := HLv.out; omega) (by have := HLa.out; have := HLb.out; have := HLu.out; have := HLv.out; omega) (by have := HLa.out; have := HLb.out; have := HLu.out; have := HLv.out; omega) fax_1 fay_1 fbx_1 fby_1 f2_1.q).mono ?_
    rintro e w8 ⟨m3x, o3x, n3x, c3x, p3x, k3x, d3x, m3y, o3y, n3y, c3y, p3y, k3y, d3y, rfl, f3x_0, f3y_0, hb8⟩
    clear pae0 pae1 pae2 pae3 pae4 pae5 pae6 pae7 pae8 pae9 pae10 pae11 pbe0 pbe1 pbe2 pbe3 pbe4 pbe5 pbe6 pbe7 pbe8 pbe9 pbe10 pbe11 lpe0 lpe1 lpe2 lpe3 lpe4 lpe5
    have hB_2 := hB_1.trans (hb8.mono hB_1.size)
    have fax_2 := fax_1.below hb8
    have fay_2 := fay_1.below hb8
    have fbx_2 := fbx_1.below hb8
    have fby_2 := fby_1.below hb8
    have pa_2 := pa_1.below hb8
    have pb_2 := pb_1.below hb8
    have pr_2 := pr_1.below hb8
    have f1_2 := f1_1.below hb8
    have f2_2 := f2_1.below hb8
    have lp_2 := lp_1.below hb8
    clear hb8 hB_1 fax_1 fay_1 fbx_1 fby_1 pa_1 pb_1 pr_1 f1_1 f2_1 lp_1
    obtain ⟨pae0, pae1, pae2, pae3, pae4, pae5, pae6, pae7, pae8, pae9, pae10, pae11⟩ := pa_2.open6
    obtain ⟨pbe0, pbe1, pbe2, pbe3, pbe4, pbe5, pbe6, pbe7, pbe8, pbe9, pbe10, pbe11⟩ := pb_2.open6
    obtain ⟨lpe0, lpe1, lpe2, lpe3, lpe4, lpe5⟩ := lp_2.open3
    obtain ⟨sf2a, sf2b, sf2c, sf2d, sf2e, sf2f, sf2g, sf2h, sf2i, sf2j, sf2k, sf2l⟩ := pr_2.open6
    obtain ⟨sg2a, sg2b, sg2c, sg2d, sg2e, sg2f, sg2g, sg2h, sg2i, sg2j⟩ := Box.put6 pr_2 (.bool m3x) (.slice o3x n3x c3x) (.slice p3x k3x d3x) (.bool m3y) (.slice o3y n3y c3y)
    go_wp2
    clear pae0 pae1 pae2 pae3 pae4 pae5 pae6 pae7 pae8 pae9 pae10 pae11 pbe0 pbe1 pbe2 pbe3 pbe4 pbe5 pbe6 pbe7 pbe8 pbe9 pbe10 pbe11 lpe0 lpe1 lpe2 lpe3 lpe4 lpe5 sf2a sf2b sf2c sf2d sf2e sf2f sf2g sf2h sf2i sf2j sf2k sf2l sg2a sg2b sg2c sg2d sg2e sg2f sg2g sg2h sg2i sg2j
    have hB_3 := below_setAll hB_2 (g := w.heap.size + 1 + 1 + 1 + 1) (by omega) [.bool m3x, .slice o3x n3x c3x, .slice p3x k3x d3x, .bool m3y, .slice o3y n3y c3y, .slice p3y k3y d3y]
    have fax_3 := fax_2.setAll pr_2 (noWord6 _ _ _ _ _ _ _ _ _ _ _ _ _ _) [.bool m3x, .slice o3x n3x c3x, .slice p3x k3x d3x, .bool m3y, .slice o3y n3y c3y, .slice p3y k3y d3y] rfl
    have fay_3 := fay_2.setAll pr_2 (noWord6 _ _ _ _ _ _ _ _ _ _ _ _ _ _) [.bool m3x, .slice o3x n3x c3x, .slice p3x k3x d3x, .bool m3y, .slice o3y n3y c3y, .slice p3y k3y d3y] rfl
    have fbx_3 := fbx_2.setAll pr_2 (noWord6 _ _ _ _ _ _ _ _ _ _ _ _ _ _) [.bool m3x, .slice o3x n3x c3x, .slice p3x k3x d3x, .bool m3y, .slice o3y n3y c3y, .slice p3y k3y d3y] rfl
    have fby_3 := fby_2.setAll pr_2 (noWord6 _ _ _ _ _ _ _ _ _ _ _ _ _ _) [.bool m3x, .slice o3x n3x c3x, .slice p3x k3x d3x, .bool m3y, .slice o3y n3y c3y, .slice p3y k3y d3y] rfl
    have pa_3 := pa_2.farAll (g' := w.heap.size + 1 + 1 + 1 + 1) (by omega) [.bool m3x, .slice o3x n3x c3x, .slice p3x k3x d3x, .bool m3y, .slice o3y n3y c3y, .slice p3y k3y d3y]
    have pb_3 := pb_2.farAll (g' := w.heap.size + 1 + 1 + 1 + 1) (by omega) [.bool m3x, .slice o3x n3x c3x, .slice p3x k3x d3x, .bool m3y, .slice o3y n3y c3y, .slice p3y k3y d3y]
    have f1_3 := f1_2.setAll pr_2 (noWord6 _ _ _ _ _ _ _ _ _ _ _ _ _ _) [.bool m3x, .slice o3x n3x c3x, .slice p3x k3x d3x, .bool m3y, .slice o3y n3y c3y, .slice p3y k3y d3y] rfl
    have f2_3 := f2_2.setAll pr_2 (noWord6 _ _ _ _ _ _ _ _ _ _ _ _ _ _) [.bool m3x, .slice o3x n3x c3x, .slice p3x k3x d3x, .bool m3y, .slice o3y n3y c3y, .slice p3y k3y d3y] rfl
    have lp_3 := lp_2.farAll (g' := w.heap.size + 1 + 1 + 1 + 1) (by omega) [.bool m3x, .slice o3x n3x c3x, .slice p3x k3x d3x, .bool m3y, .slice o3y n3y c3y, .slice p3y k3y d3y]
    have f3x_1 := f3x_0.setAll pr_2 (noWord6 _ _ _ _ _ _ _ _ _ _ _ _ _ _) [.bool m3x, .slice o3x n3x c3x, .slice p3x k3x d3x, .bool m3y, .slice o3y n3y c3y, .slice p3y k3y d3y] rfl
    have f3y_1 := f3y_0.setAll pr_2 (noWord6 _ _ _ _ _ _ _ _ _ _ _ _ _ _) [.bool m3x, .slice o3x n3x c3x, .slice p3x k3x d3x, .bool m3y, .slice o3y n3y c3y, .slice p3y k3y d3y] rfl
    have pr_3 := pr_2.setAll [.bool m3x, .slice o3x n3x c3x, .slice p3x k3x d3x, .bool m3y, .slice o3y n3y c3y, .slice p3y k3y d3y] rfl
    simp only [setAll, Nat.zero_add, Nat.reduceAdd] at hB_3 fax_3 fay_3 fbx_3 fby_3 pa_3 pb_3 pr_3 f1_3 f2_3 lp_3 f3x_1 f3y_1
    clear hB_2 fax_2 fay_2 fbx_2 fby_2 pa_2 pb_2 f1_2 f2_2 lp_2 f3x_0 f3y_0 pr_2
    generalize (World.setCell (World.setCell (World.setCell (World.setCell (World.setCell (World.setCell w8 ⟨w.heap.size + 1 + 1 + 1 + 1, 0, none⟩ (.bool m3x)) ⟨w.heap.size + 1 + 1 + 1 + 1, 1, none⟩ (.slice o3x n3x c3x)) ⟨w.heap.size + 1 + 1 + 1 + 1, 2, none⟩ (.slice p3x k3x d3x)) ⟨w.heap.size + 1 + 1 + 1 + 1, 3, none⟩ (.bool m3y)) ⟨w.heap.size + 1 + 1 + 1 + 1, 4, none⟩ (.slice o3y n3y c3y)) ⟨w.heap.size + 1 + 1 + 1 + 1, 5, none⟩ (.slice p3y k3y d3y)) = w9 at *
    go_wp2
    obtain ⟨pre0, pre1, pre2, pre3, pre4, pre5, pre6, pre7, pre8, pre9, pre10, pre11⟩ := pr_3.open6
    exact bodyPost_ret (v := .agg #[.bool m3x, .slice o3x n3x c3x, .slice p3x k3x d3x, .bool m3y, .slice o3y n3y c3y, .slice p3y k3y d3y]) (by simp [results, Try.results32, go_sem, pre0, pre1, pre2, pre3, pre4, pre5]) rfl ⟨_, _, _, _, _, _, _, _, _, _, _, _, _, _, rfl, f3x_1, f3y_1, hB_3⟩
  simp only [HAi.out, Act.put, List.setIfInBounds_toArray, List.set_cons_zero, List.set_cons_succ] at sti_2t
  have sti_2f : ∀ (w' : World) (m1 : Bool) (o1 : Option Addr) (n1 : Nat) (c1 : Nat) (p1 : Option Addr) (k1 : Nat) (d1 : Nat) (m2 : Bool) (o2 : Option Addr) (n2 : Nat) (c2 : Nat) (p2 : Option Addr) (k2 : Nat) (d2 : Nat), Below w.heap.size w w' → FQ w' (.agg #[.bool axm, .slice axo axn axc, .slice axp axk axd]) La axq → FQ w' (.agg #[.bool aym, .slice ayo ayn ayc, .slice ayp ayk ayd]) La ayq → FQ w' (.agg #[.bool bxm, .slice bxo bxn bxc, .slice bxp bxk bxd]) Lb bxq → FQ w' (.agg #[.bool bym, .slice byo byn byc, .slice byp byk byd]) Lb byq → FQ w' (.agg #[.bool um, .slice uo un uc, .slice up uk ud]) Lu uq → FQ w' (.agg #[.bool vm, .slice vo vn vc, .slice vp vk vd]) Lv vq → Box w' (w.heap.size) [.bool axm, .slice axo axn axc, .slice axp axk axd, .bool aym, .slice ayo ayn ayc, .slice ayp ayk ayd] → Box w' (w.heap.size + 1) [.bool bxm, .slice bxo bxn bxc, .slice bxp bxk bxd, .bool bym, .slice byo byn byc, .slice byp byk byd] → Box w' (w.heap.size + 1 + 1) [.bool um, .slice uo un uc, .slice up uk ud] → Box w' (w.heap.size + 1 + 1 + 1) [.bool vm, .slice vo vn vc, .slice vp vk vd] → Box w' (w.heap.size + 1 + 1 + 1 + 1) [.bool false, .slice none 0 0, .slice none 0 0, .bool false, .slice none 0 0, .slice none 0 0] → Below w5.heap.size w5 w' → RF w' (.agg #[.bool m1, .slice o1 n1 c1, .slice p1 k1 d1]) (Lu + Lv + 2) (uq - vq) → RF w' (.agg #[.bool m2, .slice o2 n2 c2, .slice p2 k2 d2]) (Lu + (Lu + Lv + 2) + 3) (uq / (uq - vq)) → WWi 3 #[true, true, true, true, true, true, true, true, false, false, false] (((((ai.put (some 15) (.agg #[.bool m1, .slice o1 n1 c1, .slice p1 k1 d1])).put (some 16) (.tuple #[.agg #[.bool m2, .slice o2 n2 c2, .slice p2 k2 d2], .bool true])).put (some 11) (.tuple #[.agg #[.bool m2, .slice o2 n2 c2, .slice p2 k2 d2], .bool true])).put (some 17) (.agg #[.bool m2, .slice o2 n2 c2, .slice p2 k2 d2])).put (some 18) (.bool true)) w' := by
    intro w10 m1 o1 n1 c1 p1 k1 d1 m2 o2 n2 c2 p2 k2 d2 hB_0 fax_0 fay_0 fbx_0 fby_0 fu_0 fv_0 pa_0 pb_0 pu_0 pv_0 pr_0 hWi_0 f1_0 f2_0
    rw [HWi.out, HAi.out]
    try simp only [Act.put]
    try simp only [List.setIfInBounds_toArray, List.set_cons_zero, List.set_cons_succ]
    refine reg_all1 8 ?_ (by kernel_rfl) ?_ (fun K hK => ?_)
    rotate_left 1
    · simp only [List.getElem?_toArray, List.getElem?_cons_succ, List.getElem?_cons_zero]; exact rfl
    · go_simp
      have hgn : w5.heap.size ≤ w10.heap.size := hWi_0.size
      obtain ⟨w11, hww11, lp_0, hb11, -⟩ := new_box w10 _ rfl [.bool false, .slice none 0 0, .slice none 0 0] 28
      rw [hww11]
      have hB_1 := hB_0.trans (hb11.mono hB_0.size)
      have fax_1 := fax_0.below hb11
      have fay_1 := fay_0.below hb11
      have fbx_1 := fbx_0.below hb11
      have fby_1 := fby_0.below hb11
      have fu_1 := fu_0.below hb11
      have fv_1 := fv_0.below hb11
      have pa_1 := pa_0.below hb11
      have pb_1 := pb_0.below hb11
      have pu_1 := pu_0.below hb11
      have pv_1 := pv_0.below hb11
      have pr_1 := pr_0.below hb11
      have hWi_1 := hWi_0.trans (hb11.mono hWi_0.size)
      have f1_1 := f1_0.below hb11
      have f2_1 := f2_0.below hb11
      clear hb11 hB_0 fax_0 fay_0 fbx_0 fby_0 fu_0 fv_0 pa_0 pb_0 pu_0 pv_0 pr_0 hWi_0 f1_0 f2_0
      refine hK.out _ _ ⟨pu_1.c0, pu_1.c1, pu_1.c2, pv_1.c0, pv_1.c1, pv_1.c2⟩ (fun hHeld => ?_)
      clear hK K
      try simp only [Act.put]
      try simp only [List.setIfInBounds_toArray, List.set_cons_zero, List.set_cons_succ]
      rw [← HWi.out]
      exact sti_2t _ m1 o1 n1 c1 p1 k1 d1 m2 o2 n2 c2 p2 k2 d2 w10.heap.size hB_1 fax_1 fay_1 fbx_1 fby_1 fu_1 fv_1 pa_1 pb_1 pu_1 pv_1 pr_1 hWi_1 f1_1 f2_1 lp_0 (by omega)
  try simp only [HAi.out, Act.put, List.setIfInBounds_toArray, List.set_cons_zero, List.set_cons_succ] at sti_2f
  have sti_1t : ∀ (w' : World) (m1 : Bool) (o1 : Option Addr) (n1 : Nat) (c1 : Nat) (p1 : Option Addr) (k1 : Nat) (d1 : Nat) (glp : Nat), Below w.heap.size w w' → FQ w' (.agg #[.bool axm, .slice axo axn axc, .slice axp axk axd]) La axq → FQ w' (.agg #[.bool aym, .slice ayo ayn ayc, .slice ayp ayk ayd]) La ayq → FQ w' (.agg #[.bool bxm, .slice bxo bxn bxc, .slice bxp bxk bxd]) Lb bxq → FQ w' (.agg #[.bool bym, .slice byo byn byc, .slice byp byk byd]) Lb byq → FQ w' (.agg #[.bool um, .slice uo un uc, .slice up uk ud]) Lu uq → FQ w' (.agg #[.bool vm, .slice vo vn vc, .slice vp vk vd]) Lv vq → Box w' (w.heap.size) [.bool axm, .slice axo axn axc, .slice axp axk axd, .bool aym, .slice ayo ayn ayc, .slice ayp ayk ayd] → Box w' (w.heap.size + 1) [.bool bxm, .slice bxo bxn bxc, .slice bxp bxk bxd, .bool bym, .slice byo byn byc, .slice byp byk byd] → Box w' (w.heap.size + 1 + 1) [.bool um, .slice uo un uc, .slice up uk ud] → Box w' (w.heap.size + 1 + 1 + 1) [.bool vm, .slice vo vn vc, .slice vp vk vd] → Box w' (w.heap.size + 1 + 1 + 1 + 1) [.bool false, .slice none 0 0, .slice none 0 0, .bool false, .slice none 0 0, .slice none 0 0] → Below w5.heap.size w5 w' → RF w' (.agg #[.bool m1, .slice o1 n1 c1, .slice p1 k1 d1]) (Lu + Lv + 2) (uq - vq) → Box w' glp [.bool false, .slice none 0 0, .slice none 0 0] → w5.heap.size ≤ glp → WWi 6 #[true, true, true, true, false, false, false, false, true, false, false] ((ai.put (some 15) (.agg #[.bool m1, .slice o1 n1 c1, .slice p1 k1 d1])).put (some 9) (.pointer (some ⟨glp, 0, none⟩))) w' := by
    intro w12 m1 o1 n1 c1 p1 k1 d1 glp hB_0 fax_0 fay_0 fbx_0 fby_0 fu_0 fv_0 pa_0 pb_0 pu_0 pv_0 pr_0 hWi_0 f1_0 lp_0 hglp
    rw [HWi.out, HAi.out]
    try simp only [Act.put]
    try simp only [List.setIfInBounds_toArray, List.set_cons_zero, List.set_cons_succ]
    refine reg_all1 4 ?_ (by kernel_rfl) ?_ (fun K hK => ?_)
    rotate_left 1
    · simp only [List.getElem?_toArray, List.getElem?_cons_succ, List.getElem?_cons_zero]; exact rfl
    · go_simp
      refine (qDiv _ _ Lu (Lu + Lv + 2) uq _ _ (by have := HLa.out; have := HLb.out; have := HLu.out; have := HLv.out; omega) (by have := HLa.out; have := HLb.out; have := HLu.out; have := HLv.out; omega) fu_0 f1_0.q HN.out).mono ?_
      rintro e w13 ⟨m2, o2, n2, c2, p2, k2, d2, rfl, f2_0, hb13⟩
      have hB_1 := hB_0.trans (hb13.mono hB_0.size)
      have fax_1 := fax_0.below hb13
      have fay_1 := fay_0.below hb13
      have fbx_1 := fbx_0.below hb13
      have fby_1 := fby_0.below hb13
      have fu_1 := fu_0.below hb13
      have fv_1 := fv_0.below hb13
      have pa_1 := pa_0.below hb13
      have pb_1 := pb_0.below hb13
      have pu_1 := pu_0.below hb13
      have pv_1 := pv_0.below hb13
      have pr_1 := pr_0.below hb13
      have hWi_1 := hWi_0.trans (hb13.mono hWi_0.size)
      have f1_1 := f1_0.below hb13
      have lp_1 := lp_0.below hb13
      clear hb13 hB_0 fax_0 fay_0 fbx_0 fby_0 fu_0 fv_0 pa_0 pb_0 pu_0 pv_0 pr_0 hWi_0 f1_0 lp_0
      go_wp2_with fail
      refine hK.out _ _ ⟨pu_1.c0, pu_1.c1, pu_1.c2, pv_1.c0, pv_1.c1, pv_1.c2⟩ (fun hHeld => ?_)
      clear hK K
      try simp only [Act.put]
      try simp only [List.setIfInBounds_toArray, List.set_cons_zero, List.set_cons_succ]
      refine reg_take 5 ?_ ?_ ?_ (by kernel_rfl) (by kernel_rfl) (by kernel_rfl) (fun _ _ _ h => h) ?_ ?_ (by assumption) ?_
      rotate_left 2
      · simp only [List.getElem?_toArray, List.getElem?_cons_succ, List.getElem?_cons_zero]; exact rfl
      · rfl
      · intro w hSw; (try dsimp only at hSw); go_simp; try with_reducible rfl
      try simp only [Act.put]
      try simp only [List.setIfInBounds_toArray, List.set_cons_zero, List.set_cons_succ]
      refine reg_take 6 ?_ ?_ ?_ (by kernel_rfl) (by kernel_rfl) (by kernel_rfl) (fun _ _ _ h => h) ?_ ?_ (by assumption) ?_
      rotate_left 2
      · simp only [List.getElem?_toArray, List.getElem?_cons_succ, List.getElem?_cons_zero]; exact rfl
      · rfl
      · intro w hSw; (try dsimp only at hSw); go_simp; try with_reducible rfl
      try simp only [Act.put]
      try simp only [List.setIfInBounds_toArray, List.set_cons_zero, List.set_cons_succ]
      refine reg_take 7 ?_ ?_ ?_ (by kernel_rfl) (by kernel_rfl) (by kernel_rfl) (fun _ _ _ h => h) ?_ ?_ (by assumption) ?_
      rotate_left 2
      · simp only [List.getElem?_toArray, List.getElem?_cons_succ, List.getElem?_cons_zero]; exact rfl
      · rfl
      · intro w hSw; (try dsimp only at hSw); go_simp; try with_reducible rfl
      try simp only [Act.put]
      try simp only [List.setIfInBounds_toArray, List.set_cons_zero, List.set_cons_succ]
      rw [← HWi.out]
      exact sti_2t _ m1 o1 n1 c1 p1 k1 d1 m2 o2 n2 c2 p2 k2 d2 glp hB_1 fax_1 fay_1 fbx_1 fby_1 fu_1 fv_1 pa_1 pb_1 pu_1 pv_1 pr_1 hWi_1 f1_1 f2_0 lp_1 (by omega)
  try simp only [HAi.out, Act.put, List.setIfInBounds_toArray, List.set_cons_zero, List.set_cons_succ] at sti_1t
  have sti_1f : ∀ (w' : World) (m1 : Bool) (o1 : Option Addr) (n1 : Nat) (c1 : Nat) (p1 : Option Addr) (k1 : Nat) (d1 : Nat), Below w.heap.size w w' → FQ w' (.agg #[.bool axm, .slice axo axn axc, .slice axp axk axd]) La axq → FQ w' (.agg #[.bool aym, .slice ayo ayn ayc, .slice ayp ayk ayd]) La ayq → FQ w' (.agg #[.bool bxm, .slice bxo bxn bxc, .slice bxp bxk bxd]) Lb bxq → FQ w' (.agg #[.bool bym, .slice byo byn byc, .slice byp byk byd]) Lb byq → FQ w' (.agg #[.bool um, .slice uo un uc, .slice up uk ud]) Lu uq → FQ w' (.agg #[.bool vm, .slice vo vn vc, .slice vp vk vd]) Lv vq → Box w' (w.heap.size) [.bool axm, .slice axo axn axc, .slice axp axk axd, .bool aym, .slice ayo ayn ayc, .slice ayp ayk ayd] → Box w' (w.heap.size + 1) [.bool bxm, .slice bxo bxn bxc, .slice bxp bxk bxd, .bool bym, .slice byo byn byc, .slice byp byk byd] → Box w' (w.heap.size + 1 + 1) [.bool um, .slice uo un uc, .slice up uk ud] → Box w' (w.heap.size + 1 + 1 + 1) [.bool vm, .slice vo vn vc, .slice vp vk vd] → Box w' (w.heap.size + 1 + 1 + 1 + 1) [.bool false, .slice none 0 0, .slice none 0 0, .bool false, .slice none 0 0, .slice none 0 0] → Below w5.heap.size w5 w' → RF w' (.agg #[.bool m1, .slice o1 n1 c1, .slice p1 k1 d1]) (Lu + Lv + 2) (uq - vq) → WWi 7 #[true, true, true, true, false, false, false, false, false, false, false] (ai.put (some 15) (.agg #[.bool m1, .slice o1 n1 c1, .slice p1 k1 d1])) w' := by
    intro w14 m1 o1 n1 c1 p1 k1 d1 hB_0 fax_0 fay_0 fbx_0 fby_0 fu_0 fv_0 pa_0 pb_0 pu_0 pv_0 pr_0 hWi_0 f1_0
    rw [HWi.out, HAi.out]
    try simp only [Act.put]
    try simp only [List.setIfInBounds_toArray, List.set_cons_zero, List.set_cons_succ]
    refine reg_all2 4 8 ?_ ?_ (by kernel_rfl) ?_ ?_ (fun K hK => ?_) (fun K hK => ?_)
    rotate_left 2
    · simp only [List.getElem?_toArray, List.getElem?_cons_succ, List.getElem?_cons_zero]; exact rfl
    · simp only [List.getElem?_toArray, List.getElem?_cons_succ, List.getElem?_cons_zero]; exact rfl
    · go_simp
      refine (qDiv _ _ Lu (Lu + Lv + 2) uq _ _ (by have := HLa.out; have := HLb.out; have := HLu.out; have := HLv.out; omega) (by have := HLa.out; have := HLb.out; have := HLu.out; have := HLv.out; omega) fu_0 f1_0.q HN.out).mono ?_
      rintro e w15 ⟨m2, o2, n2, c2, p2, k2, d2, rfl, f2_0, hb15⟩
      have hB_1 := hB_0.trans (hb15.mono hB_0.size)
      have fax_1 := fax_0.below hb15
      have fay_1 := fay_0.below hb15
      have fbx_1 := fbx_0.below hb15
      have fby_1 := fby_0.below hb15
      have fu_1 := fu_0.below hb15
      have fv_1 := fv_0.below hb15
      have pa_1 := pa_0.below hb15
      have pb_1 := pb_0.below hb15
      have pu_1 := pu_0.below hb15
      have pv_1 := pv_0.below hb15
      have pr_1 := pr_0.below hb15
      have hWi_1 := hWi_0.trans (hb15.mono hWi_0.size)
      have f1_1 := f1_0.below hb15
      clear hb15 hB_0 fax_0 fay_0 fbx_0 fby_0 fu_0 fv_0 pa_0 pb_0 pu_0 pv_0 pr_0 hWi_0 f1_0
      go_wp2_with fail
      refine hK.out _ _ ⟨pu_1.c0, pu_1.c1, pu_1.c2, pv_1.c0, pv_1.c1, pv_1.c2⟩ (fun hHeld => ?_)
      clear hK K
      try simp only [Act.put]
      try simp only [List.setIfInBounds_toArray, List.set_cons_zero, List.set_cons_succ]
      refine reg_take 5 ?_ ?_ ?_ (by kernel_rfl) (by kernel_rfl) (by kernel_rfl) (fun _ _ _ h => h) ?_ ?_ (by assumption) ?_
      rotate_left 2
      · simp only [List.getElem?_toArray, List.getElem?_cons_succ, List.getElem?_cons_zero]; exact rfl
      · rfl
      · intro w hSw; (try dsimp only at hSw); go_simp; try with_reducible rfl
      try simp only [Act.put]
      try simp only [List.setIfInBounds_toArray, List.set_cons_zero, List.set_cons_succ]
      refine reg_take 6 ?_ ?_ ?_ (by kernel_rfl) (by kernel_rfl) (by kernel_rfl) (fun _ _ _ h => h) ?_ ?_ (by assumption) ?_
      rotate_left 2
      · simp only [List.getElem?_toArray, List.getElem?_cons_succ, List.getElem?_cons_zero]; exact rfl
      · rfl
      · intro w hSw; (try dsimp only at hSw); go_simp; try with_reducible rfl
      try simp only [Act.put]
      try simp only [List.setIfInBounds_toArray, List.set_cons_zero, List.set_cons_succ]
      refine reg_take 7 ?_ ?_ ?_ (by kernel_rfl) (by kernel_rfl) (by kernel_rfl) (fun _ _ _ h => h) ?_ ?_ (by assumption) ?_
      rotate_left 2
      · simp only [List.getElem?_toArray, List.getElem?_cons_succ, List.getElem?_cons_zero]; exact rfl
      · rfl
      · intro w hSw; (try dsimp only at hSw); go_simp; try with_reducible rfl
      try simp only [Act.put]
      try simp only [List.setIfInBounds_toArray, List.set_cons_zero, List.set_cons_succ]
      rw [← HWi.out]
      exact sti_2f _ m1 o1 n1 c1 p1 k1 d1 m2 o2 n2 c2 p2 k2 d2 hB_1 fax_1 fay_1 fbx_1 fby_1 fu_1 fv_1 pa_1 pb_1 pu_1 pv_1 pr_1 hWi_1 f1_1 f2_0
    · go_simp
      have hgn : w5.heap.size ≤ w14.heap.size := hWi_0.size
      obtain ⟨w16, hww16, lp_0, hb16, -⟩ := new_box w14 _ rfl [.bool false, .slice none 0 0, .slice none 0 0] 28
      rw [hww16]
      have hB_1 := hB_0.trans (hb16.mono hB_0.size)
      have fax_1 := fax_0.below hb16
      have fay_1 := fay_0.below hb16
      have fbx_1 := fbx_0.below hb16
      have fby_1 := fby_0.below hb16
      have fu_1 := fu_0.below hb16
      have fv_1 := fv_0.below hb16
      have pa_1 := pa_0.below hb16
      have pb_1 := pb_0.below hb16
      have pu_1 := pu_0.below hb16
      have pv_1 := pv_0.below hb16
      have pr_1 := pr_0.below hb16
      have hWi_1 := hWi_0.trans (hb16.mono hWi_0.size)
      have f1_1 := f1_0.below hb16
      clear hb16 hB_0 fax_0 fay_0 fbx_0 fby_0 fu_0 fv_0 pa_0 pb_0 pu_0 pv_0 pr_0 hWi_0 f1_0
      refine hK.out _ _ ⟨pu_1.c0, pu_1.c1, pu_1.c2, pv_1.c0, pv_1.c1, pv_1.c2⟩ (fun hHeld => ?_)
      clear hK K
      try simp only [Act.put]
      try simp only [List.setIfInBounds_toArray, List.set_cons_zero, List.set_cons_succ]
      rw [← HWi.out]
      exact sti_1t _ m1 o1 n1 c1 p1 k1 d1 w14.heap.size hB_1 fax_1 fay_1 fbx_1 fby_1 fu_1 fv_1 pa_1 pb_1 pu_1 pv_1 pr_1 hWi_1 f1_1 lp_0 (by omega)
  try simp only [HAi.out, Act.put, List.setIfInBounds_toArray, List.set_cons_zero, List.set_cons_succ] at sti_1f
  have sti_0t : ∀ (w' : World) (glp : Nat), Below w.heap.size w w' → FQ w' (.agg #[.bool axm, .slice axo axn axc, .slice axp axk axd]) La axq → FQ w' (.agg #[.bool aym, .slice ayo ayn ayc, .slice ayp ayk ayd]) La ayq → FQ w' (.agg #[.bool bxm, .slice bxo bxn bxc, .slice bxp bxk bxd]) Lb bxq → FQ w' (.agg #[.bool bym, .slice byo byn byc, .slice byp byk byd]) Lb byq → FQ w' (.agg #[.bool um, .slice uo un uc, .slice up uk ud]) Lu uq → FQ w' (.agg #[.bool vm, .slice vo vn vc, .slice vp vk vd]) Lv vq → Box w' (w.heap.size) [.bool axm, .slice axo axn axc, .slice axp axk axd, .bool aym, .slice ayo ayn ayc, .slice ayp ayk ayd] → Box w' (w.heap.size + 1) [.bool bxm, .slice bxo bxn bxc, .slice bxp bxk bxd, .bool bym, .slice byo byn byc, .slice byp byk byd] → Box w' (w.heap.size + 1 + 1) [.bool um, .slice uo un uc, .slice up uk ud] → Box w' (w.heap.size + 1 + 1 + 1) [.bool vm, .slice vo vn vc, .slice vp vk vd] → Box w' (w.heap.size + 1 + 1 + 1 + 1) [.bool false, .slice none 0 0, .slice none 0 0, .bool false, .slice none 0 0, .slice none 0 0] → Below w5.heap.size w5 w' → Box w' glp [.bool false, .slice none 0 0, .slice none 0 0] → w5.heap.size ≤ glp → WWi 7 #[true, true, true, false, false, false, false, false, true, false, false] (ai.put (some 9) (.pointer (some ⟨glp, 0, none⟩))) w' := by
    intro w17 glp hB_0 fax_0 fay_0 fbx_0 fby_0 fu_0 fv_0 pa_0 pb_0 pu_0 pv_0 pr_0 hWi_0 lp_0 hglp
    rw [HWi.out, HAi.out]
    try simp only [Act.put]
    try simp only [List.setIfInBounds_toArray, List.set_cons_zero, List.set_cons_succ]
    refine reg_all1 3 ?_ (by kernel_rfl) ?_ (fun K hK => ?_)
    rotate_left 1
    · simp only [List.getElem?_toArray, List.getElem?_cons_succ, List.getElem?_cons_zero]; exact rfl
    · go_simp
      refine (qSub _ _ Lu Lv uq vq _ (by have := HLa.out; have := HLb.out; have := HLu.out; have := HLv.out; omega) (by have := HLa.out; have := HLb.out; have := HLu.out; have := HLv.out; omega) fu_0 fv_0).mono ?_
      rintro e w18 ⟨m1, o1, n1, c1, p1, k1, d1, rfl, f1_0, hb18⟩
      have hB_1 := hB_0.trans (hb18.mono hB_0.size)
      have fax_1 := fax_0.below hb18
      have fay_1 := fay_0.below hb18
      have fbx_1 := fbx_0.below hb18
      have fby_1 := fby_0.below hb18
      have fu_1 := fu_0.below hb18
      have fv_1 := fv_0.below hb18
      have pa_1 := pa_0.below hb18
      have pb_1 := pb_0.below hb18
      have pu_1 := pu_0.below hb18
      have pv_1 := pv_0.below hb18
      have pr_1 := pr_0.below hb18
      have hWi_1 := hWi_0.trans (hb18.mono hWi_0.size)
      have lp_1 := lp_0.below hb18
      clear hb18 hB_0 fax_0 fay_0 fbx_0 fby_0 fu_0 fv_0 pa_0 pb_0 pu_0 pv_0 pr_0 hWi_0 lp_0
      go_wp2_with fail
      refine hK.out _ _ ⟨pu_1.c0, pu_1.c1, pu_1.c2, pv_1.c0, pv_1.c1, pv_1.c2⟩ (fun hHeld => ?_)
      clear hK K
      try simp only [Act.put]
      try simp only [List.setIfInBounds_toArray, List.set_cons_zero, List.set_cons_succ]
      rw [← HWi.out]
      exact sti_1t _ m1 o1 n1 c1 p1 k1 d1 glp hB_1 fax_1 fay_1 fbx_1 fby_1 fu_1 fv_1 pa_1 pb_1 pu_1 pv_1 pr_1 hWi_1 f1_0 lp_1 (by omega)
  try simp only [HAi.out, Act.put, List.setIfInBounds_toArray, List.set_cons_zero, List.set_cons_succ] at sti_0t
  have sti_0f : ∀ (w' : World), Below w.heap.size w w' → FQ w' (.agg #[.bool axm, .slice axo axn axc, .slice axp axk axd]) La axq → FQ w' (.agg #[.bool aym, .slice ayo ayn ayc, .slice ayp ayk ayd]) La ayq → FQ w' (.agg #[.bool bxm, .slice bxo bxn bxc, .slice bxp bxk bxd]) Lb bxq → FQ w' (.agg #[.bool bym, .slice byo byn byc, .slice byp byk byd]) Lb byq → FQ w' (.agg #[.bool um, .slice uo un uc, .slice up uk ud]) Lu uq → FQ w' (.agg #[.bool vm, .slice vo vn vc, .slice vp vk vd]) Lv vq → Box w' (w.heap.size) [.bool axm, .slice axo axn axc, .slice axp axk axd, .bool aym, .slice ayo ayn ayc, .slice ayp ayk ayd] → Box w' (w.heap.size + 1) [.bool bxm, .slice bxo bxn bxc, .slice bxp bxk bxd, .bool bym, .slice byo byn byc, .slice byp byk byd] → Box w' (w.heap.size + 1 + 1) [.bool um, .slice uo un uc, .slice up uk ud] → Box w' (w.heap.size + 1 + 1 + 1) [.bool vm, .slice vo vn vc, .slice vp vk vd] → Box w' (w.heap.size + 1 + 1 + 1 + 1) [.bool false, .slice none 0 0, .slice none 0 0, .bool false, .slice none 0 0, .slice none 0 0] → Below w5.heap.size w5 w' → WWi 8 #[true, true, true, false, false, false, false, false, false, false, false] ai w' := by
    intro w19 hB_0 fax_0 fay_0 fbx_0 fby_0 fu_0 fv_0 pa_0 pb_0 pu_0 pv_0 pr_0 hWi_0
    rw [HWi.out, HAi.out]
    try simp only [Act.put]
    try simp only [List.setIfInBounds_toArray, List.set_cons_zero, List.set_cons_succ]
    refine reg_all2 3 8 ?_ ?_ (by kernel_rfl) ?_ ?_ (fun K hK => ?_) (fun K hK => ?_)
    rotate_left 2
    · simp only [List.getElem?_toArray, List.getElem?_cons_succ, List.getElem?_cons_zero]; exact rfl
    · simp only [List.getElem?_toArray, List.getElem?_cons_succ, List.getElem?_cons_zero]; exact rfl
    · go_simp
      refine (qSub _ _ Lu Lv uq vq _ (by have := HLa.out; have := HLb.out; have := HLu.out; have := HLv.out; omega) (by have := HLa.out; have := HLb.out; have := HLu.out; have := HLv.out; omega) fu_0 fv_0).mono ?_
      rintro e w20 ⟨m1, o1, n1, c1, p1, k1, d1, rfl, f1_0, hb20⟩
      have hB_1 := hB_0.trans (hb20.mono hB_0.size)
      have fax_1 := fax_0.below hb20
      have fay_1 := fay_0.below hb20
      have fbx_1 := fbx_0.below hb20
      have fby_1 := fby_0.below hb20
      have fu_1 := fu_0.below hb20
      have fv_1 := fv_0.below hb20
      have pa_1 := pa_0.below hb20
      have pb_1 := pb_0.below hb20
      have pu_1 := pu_0.below hb20
      have pv_1 := pv_0.below hb20
      have pr_1 := pr_0.below hb20
      have hWi_1 := hWi_0.trans (hb20.mono hWi_0.size)
      clear hb20 hB_0 fax_0 fay_0 fbx_0 fby_0 fu_0 fv_0 pa_0 pb_0 pu_0 pv_0 pr_0 hWi_0
      go_wp2_with fail
      refine hK.out _ _ ⟨pu_1.c0, pu_1.c1, pu_1.c2, pv_1.c0, pv_1.c1, pv_1.c2⟩ (fun hHeld => ?_)
      clear hK K
      try simp only [Act.put]
      try simp only [List.setIfInBounds_toArray, List.set_cons_zero, List.set_cons_succ]
      rw [← HWi.out]
      exact sti_1f _ m1 o1 n1 c1 p1 k1 d1 hB_1 fax_1 fay_1 fbx_1 fby_1 fu_1 fv_1 pa_1 pb_1 pu_1 pv_1 pr_1 hWi_1 f1_0
    · go_simp
      have hgn : w5.heap.size ≤ w19.heap.size := hWi_0.size
      obtain ⟨w21, hww21, lp_0, hb21, -⟩ := new_box w19 _ rfl [.bool false, .slice none 0 0, .slice none 0 0] 28
      rw [hww21]
      have hB_1 := hB_0.trans (hb21.mono hB_0.size)
      have fax_1 := fax_0.below hb21
      have fay_1 := fay_0.below hb21
      have fbx_1 := fbx_0.below hb21
      have fby_1 := fby_0.below hb21
      have fu_1 := fu_0.below hb21
      have fv_1 := fv_0.below hb21
      have pa_1 := pa_0.below hb21
      have pb_1 := pb_0.below hb21
      have pu_1 := pu_0.below hb21
      have pv_1 := pv_0.below hb21
      have pr_1 := pr_0.below hb21
      have hWi_1 := hWi_0.trans (hb21.mono hWi_0.size)
      clear hb21 hB_0 fax_0 fay_0 fbx_0 fby_0 fu_0 fv_0 pa_0 pb_0 pu_0 pv_0 pr_0 hWi_0
      refine hK.out _ _ ⟨pu_1.c0, pu_1.c1, pu_1.c2, pv_1.c0, pv_1.c1, pv_1.c2⟩ (fun hHeld => ?_)
      clear hK K
      try simp only [Act.put]
      try simp only [List.setIfInBounds_toArray, List.set_cons_zero, List.set_cons_succ]
      rw [← HWi.out]
      exact sti_0t _ w19.heap.size hB_1 fax_1 fay_1 fbx_1 fby_1 fu_1 fv_1 pa_1 pb_1 pu_1 pv_1 pr_1 hWi_1 lp_0 (by omega)
  exact sti_0f _ hB_6 fax_6 fay_6 fbx_6 fby_6 fu_6 fv_6 pa_5 pb_4 pu_3 pv_2 pr_1 hWi_1
end Go.Proofs.Ytdfabocecpcmcaa
/- Rows of right Spots, slices of them. Over any program. -/
namespace Go.MagM
open Go.RowKit
/-- Cells that are Spots, six each. -/
def SrR (w : World) (L : Nat) (xs : List Value) (l : List (Rat × Rat)) : Prop :=
  (∀ u ∈ xs, u.oneCell' = true) ∧ (∀ u ∈ xs, NoWord u) ∧ xs.length = l.length * 6 ∧
  ∀ i x y, l[i]? = some (x, y) → ∃ m so sn sc tp tn tc m' so' sn' sc' tp' tn' tc', xs[i * 6]? = some (.bool m) ∧ xs[i * 6 + 1]? = some (.slice so sn sc) ∧ xs[i * 6 + 2]? = some (.slice tp tn tc) ∧
    xs[i * 6 + 3]? = some (.bool m') ∧ xs[i * 6 + 4]? = some (.slice so' sn' sc') ∧ xs[i * 6 + 5]? = some (.slice tp' tn' tc') ∧ RF w (.agg #[.bool m, .slice so sn sc, .slice tp tn tc]) L x ∧ RF w (.agg #[.bool m', .slice so' sn' sc', .slice tp' tn' tc']) L y
theorem SrR.kept {w w' : World} {L : Nat} {xs : List Value} {l : List (Rat × Rat)} (h : SrR w L xs l) (hk : Kept w w') : SrR w' L xs l :=
  ⟨h.1, h.2.1, h.2.2.1, fun i x y hi => by
    obtain ⟨m, so, sn, sc, tp, tn, tc, m', so', sn', sc', tp', tn', tc', h1, h2, h3, h4, h5, h6, h7, h8⟩ := h.2.2.2 i x y hi
    exact ⟨m, so, sn, sc, tp, tn, tc, m', so', sn', sc', tp', tn', tc', h1, h2, h3, h4, h5, h6, h7.kept hk, h8.kept hk⟩⟩
theorem SrR.below {w w' : World} {L : Nat} {xs : List Value} {l : List (Rat × Rat)} (h : SrR w L xs l) (hb : Below w.heap.size w w') : SrR w' L xs l := h.kept (Kept.below hb)
theorem SrR.drew {w : World} {L : Nat} {xs : List Value} {l : List (Rat × Rat)} (h : SrR w L xs l) : SrR w.drew L xs l := h
theorem SrR.nil (w : World) (L : Nat) : SrR w L [] [] := ⟨by simp, by simp, rfl, fun i x y hi => by simp at hi⟩
theorem SrR.one {w : World} {L : Nat} {m : Bool} {so : Option Addr} {sn sc : Nat} {tp : Option Addr} {tn tc : Nat} {m' : Bool} {so' : Option Addr} {sn' sc' : Nat} {tp' : Option Addr} {tn' tc' : Nat} {x y : Rat}
    (hx : RF w (.agg #[.bool m, .slice so sn sc, .slice tp tn tc]) L x) (hy : RF w (.agg #[.bool m', .slice so' sn' sc', .slice tp' tn' tc']) L y) : SrR w L [.bool m, .slice so sn sc, .slice tp tn tc, .bool m', .slice so' sn' sc', .slice tp' tn' tc'] [(x, y)] := by
  refine ⟨?_, noWord6 _ _ _ _ _ _ _ _ _ _ _ _ _ _, rfl, fun i a b hi => ?_⟩
  · intro u hu; simp at hu; rcases hu with rfl | rfl | rfl | rfl | rfl | rfl <;> rfl
  · have hi' := (List.getElem?_eq_some_iff.1 hi).1
    obtain rfl : i = 0 := by simpa using hi'
    simp at hi
    obtain ⟨rfl, rfl⟩ := hi
    exact ⟨_, _, _, _, _, _, _, _, _, _, _, _, _, _, rfl, rfl, rfl, rfl, rfl, rfl, hx, hy⟩
theorem SrR.append {w : World} {L : Nat} {xs ys : List Value} {l k : List (Rat × Rat)} (h : SrR w L xs l) (h' : SrR w L ys k) : SrR w L (xs ++ ys) (l ++ k) := by
  refine ⟨?_, ?_, ?_, fun i x y hi => ?_⟩
  · intro u hu; rw [List.mem_append] at hu; rcases hu with hu | hu
    · exact h.1 u hu
    · exact h'.1 u hu
  · intro u hu; rw [List.mem_append] at hu; rcases hu with hu | hu
    · exact h.2.1 u hu
    · exact h'.2.1 u hu
  · rw [List.length_append, List.length_append, h.2.2.1, h'.2.2.1, Nat.add_mul]
  · by_cases hlt : i < l.length
    · rw [List.getElem?_append_left hlt] at hi
      have hl := h.2.2.1
      obtain ⟨m, so, sn, sc, tp, tn, tc, m', so', sn', sc', tp', tn', tc', h1, h2, h3, h4, h5, h6, h7⟩ := h.2.2.2 i x y hi
      refine ⟨m, so, sn, sc, tp, tn, tc, m', so', sn', sc', tp', tn', tc', ?_, ?_, ?_, ?_, ?_, ?_, h7⟩ <;> rw [List.getElem?_append_left (by omega)] <;> assumption
    · rw [List.getElem?_append_right (by omega)] at hi
      have hl := h.2.2.1
      obtain ⟨m, so, sn, sc, tp, tn, tc, m', so', sn', sc', tp', tn', tc', h1, h2, h3, h4, h5, h6, h7⟩ := h'.2.2.2 _ x y hi
      refine ⟨m, so, sn, sc, tp, tn, tc, m', so', sn', sc', tp', tn', tc', ?_, ?_, ?_, ?_, ?_, ?_, h7⟩
      · rw [List.getElem?_append_right (by omega), show i * 6 - xs.length = (i - l.length) * 6 by omega]; exact h1
      · rw [List.getElem?_append_right (by omega), show i * 6 + 1 - xs.length = (i - l.length) * 6 + 1 by omega]; exact h2
      · rw [List.getElem?_append_right (by omega), show i * 6 + 2 - xs.length = (i - l.length) * 6 + 2 by omega]; exact h3
      · rw [List.getElem?_append_right (by omega), show i * 6 + 3 - xs.length = (i - l.length) * 6 + 3 by omega]; exact h4
      · rw [List.getElem?_append_right (by omega), show i * 6 + 4 - xs.length = (i - l.length) * 6 + 4 by omega]; exact h5
      · rw [List.getElem?_append_right (by omega), show i * 6 + 5 - xs.length = (i - l.length) * 6 + 5 by omega]; exact h6
theorem SrR.tail {w : World} {L : Nat} {xs : List Value} {p : Rat × Rat} {l : List (Rat × Rat)} (h : SrR w L xs (p :: l)) : SrR w L (xs.drop 6) l := by
  refine ⟨fun u hu => h.1 u (List.mem_of_mem_drop hu), fun u hu => h.2.1 u (List.mem_of_mem_drop hu), ?_, fun i x y hi => ?_⟩
  · have := h.2.2.1
    rw [List.length_drop, this, List.length_cons]; omega
  · obtain ⟨m, so, sn, sc, tp, tn, tc, m', so', sn', sc', tp', tn', tc', h1, h2, h3, h4, h5, h6, h7⟩ := h.2.2.2 (i + 1) x y (by simpa using hi)
    refine ⟨m, so, sn, sc, tp, tn, tc, m', so', sn', sc', tp', tn', tc', ?_, ?_, ?_, ?_, ?_, ?_, h7⟩ <;> rw [List.getElem?_drop]
    · rw [show 6 + i * 6 = (i + 1) * 6 by omega]; exact h1
    · rw [show 6 + (i * 6 + 1) = (i + 1) * 6 + 1 by omega]; exact h2
    · rw [show 6 + (i * 6 + 2) = (i + 1) * 6 + 2 by omega]; exact h3
    · rw [show 6 + (i * 6 + 3) = (i + 1) * 6 + 3 by omega]; exact h4
    · rw [show 6 + (i * 6 + 4) = (i + 1) * 6 + 4 by omega]; exact h5
    · rw [show 6 + (i * 6 + 5) = (i + 1) * 6 + 5 by omega]; exact h6
/-- One of them, where it lies. -/
theorem SrR.at {w : World} {base : Nat} {e : TypeId} {v : Value} {n L : Nat} {xs : List Value} {l : List (Rat × Rat)} (h : SrR w L xs l) (hr : RowN w base e 6 v n xs) {i : Nat} {x y : Rat} (hi : l[i]? = some (x, y)) :
    ∃ g c m so sn sc tp tn tc m' so' sn' sc' tp' tn' tc', v = .slice (some ⟨g, 0, none⟩) n c ∧ At6 w g (i * 6) (.bool m) (.slice so sn sc) (.slice tp tn tc) (.bool m') (.slice so' sn' sc') (.slice tp' tn' tc') ∧
      RF w (.agg #[.bool m, .slice so sn sc, .slice tp tn tc]) L x ∧ RF w (.agg #[.bool m', .slice so' sn' sc', .slice tp' tn' tc']) L y := by
  obtain ⟨m, so, sn, sc, tp, tn, tc, m', so', sn', sc', tp', tn', tc', h1, h2, h3, h4, h5, h6, h7, h8⟩ := h.2.2.2 i x y hi
  have hl := (List.getElem?_eq_some_iff.1 h1).1
  rcases hr.2 with ⟨rfl, rfl⟩ | ⟨g, cap, cur, rfl, _⟩
  · have := hr.1; omega
  · exact ⟨g, cap, m, so, sn, sc, tp, tn, tc, m', so', sn', sc', tp', tn', tc', rfl, ⟨hr.cells rfl _ _ h1, hr.cells rfl _ _ h2, hr.cells rfl _ _ h3, hr.cells rfl _ _ h4, hr.cells rfl _ _ h5, hr.cells rfl _ _ h6⟩, h7, h8⟩
theorem SrR.sr {w : World} {L : Nat} {xs : List Value} {l : List (Rat × Rat)} (h : SrR w L xs l) : Sr w L xs l :=
  ⟨h.1, h.2.1, h.2.2.1, fun i x y hi => by
    obtain ⟨m, so, sn, sc, tp, tn, tc, m', so', sn', sc', tp', tn', tc', h1, h2, h3, h4, h5, h6, h7, h8⟩ := h.2.2.2 i x y hi
    exact ⟨m, so, sn, sc, tp, tn, tc, m', so', sn', sc', tp', tn', tc', h1, h2, h3, h4, h5, h6, h7.q, h8.q⟩⟩
theorem SrR.more {w : World} {L L' : Nat} {xs : List Value} {l : List (Rat × Rat)} (h : SrR w L xs l) (hL : L ≤ L') : SrR w L' xs l :=
  ⟨h.1, h.2.1, h.2.2.1, fun i x y hi => by
    obtain ⟨m, so, sn, sc, tp, tn, tc, m', so', sn', sc', tp', tn', tc', h1, h2, h3, h4, h5, h6, h7, h8⟩ := h.2.2.2 i x y hi
    exact ⟨m, so, sn, sc, tp, tn, tc, m', so', sn', sc', tp', tn', tc', h1, h2, h3, h4, h5, h6, h7.more hL, h8.more hL⟩⟩
/-- The slice at ao holds right points; each coordinate has at most L words. -/
def SpotsR (w : World) (ao : Option Addr) (L : Nat) (l : List (Rat × Rat)) : Prop :=
  ∀ i x y, l[i]? = some (x, y) → ∃ b o m so sn sc tp tn tc m' so' sn' sc' tp' tn' tc', ao = some ⟨b, o, none⟩ ∧ At6 w b (o + i * 6) (.bool m) (.slice so sn sc) (.slice tp tn tc) (.bool m') (.slice so' sn' sc') (.slice tp' tn' tc') ∧
    RF w (.agg #[.bool m, .slice so sn sc, .slice tp tn tc]) L x ∧ RF w (.agg #[.bool m', .slice so' sn' sc', .slice tp' tn' tc']) L y
theorem SpotsR.below {w w' : World} {ao : Option Addr} {L : Nat} {l : List (Rat × Rat)} (h : SpotsR w ao L l) (hb : Below w.heap.size w w') : SpotsR w' ao L l := by
  intro i x y hi
  obtain ⟨b, o, m, so, sn, sc, tp, tn, tc, m', so', sn', sc', tp', tn', tc', h0, h1, h7, h8⟩ := h i x y hi
  exact ⟨b, o, m, so, sn, sc, tp, tn, tc, m', so', sn', sc', tp', tn', tc', h0, h1.below hb, h7.below hb, h8.below hb⟩
theorem SpotsR.drew {w : World} {ao : Option Addr} {L : Nat} {l : List (Rat × Rat)} (h : SpotsR w ao L l) : SpotsR w.drew ao L l := h.below (Below.refl _ _).drew'
theorem SpotsR.nil (w : World) (ao : Option Addr) (L : Nat) : SpotsR w ao L [] := fun i x y hi => by simp at hi
theorem SpotsR.more {w : World} {ao : Option Addr} {L L' : Nat} {l : List (Rat × Rat)} (h : SpotsR w ao L l) (hL : L ≤ L') : SpotsR w ao L' l := by
  intro i x y hi
  obtain ⟨b, o, m, so, sn, sc, tp, tn, tc, m', so', sn', sc', tp', tn', tc', h0, h1, h7, h8⟩ := h i x y hi
  exact ⟨b, o, m, so, sn, sc, tp, tn, tc, m', so', sn', sc', tp', tn', tc', h0, h1, h7.more hL, h8.more hL⟩
theorem SpotsR.spots {w : World} {ao : Option Addr} {L : Nat} {l : List (Rat × Rat)} (h : SpotsR w ao L l) : Spots w ao L l := by
  intro i x y hi
  obtain ⟨b, o, m, so, sn, sc, tp, tn, tc, m', so', sn', sc', tp', tn', tc', h0, h1, h7, h8⟩ := h i x y hi
  exact ⟨b, o, m, so, sn, sc, tp, tn, tc, m', so', sn', sc', tp', tn', tc', h0, h1.c0, h1.c1, h1.c2, h1.c3, h1.c4, h1.c5, h7.q, h8.q⟩
/-- Smaller numbers have fewer words. -/
theorem SpotsR.short {w : World} {ao : Option Addr} {L : Nat} {l : List (Rat × Rat)} (h : SpotsR w ao L l) {K : Nat} (hs : ∀ (i : Nat) (x y : Rat), l[i]? = some (x, y) → (x.num.natAbs < B ^ K ∧ x.den < B ^ K) ∧ (y.num.natAbs < B ^ K ∧ y.den < B ^ K)) : SpotsR w ao K l := by
  intro i x y hi
  obtain ⟨b, o, m, so, sn, sc, tp, tn, tc, m', so', sn', sc', tp', tn', tc', h0, h1, h7, h8⟩ := h i x y hi
  obtain ⟨⟨s1, s2⟩, s3, s4⟩ := hs i x y hi
  exact ⟨b, o, m, so, sn, sc, tp, tn, tc, m', so', sn', sc', tp', tn', tc', h0, h1, h7.short s1 s2, h8.short s3 s4⟩
/-- Such a row is a slice of Spots. -/
theorem SrR.spotsR {w : World} {base : Nat} {e : TypeId} {v : Value} {n L : Nat} {xs : List Value} {l : List (Rat × Rat)} (h : SrR w L xs l) (hr : RowN w base e 6 v n xs) (hl : l.length = n) :
    ∃ ao c, v = .slice ao n c ∧ SpotsR w ao L l := by
  rcases hr.2 with ⟨rfl, rfl⟩ | ⟨g, cap, cur, rfl, _⟩
  · obtain rfl := List.length_eq_zero_iff.1 hl
    exact ⟨_, _, rfl, SpotsR.nil _ _ _⟩
  · refine ⟨_, _, rfl, fun i x y hi => ?_⟩
    obtain ⟨m, so, sn, sc, tp, tn, tc, m', so', sn', sc', tp', tn', tc', h1, h2, h3, h4, h5, h6, h7, h8⟩ := h.2.2.2 i x y hi
    refine ⟨g, 0, m, so, sn, sc, tp, tn, tc, m', so', sn', sc', tp', tn', tc', rfl, ⟨?_, ?_, ?_, ?_, ?_, ?_⟩, h7, h8⟩ <;> rw [Nat.zero_add] <;> exact hr.cells rfl _ _ (by assumption)
/-- A call's answer is a slice of right points. -/
def AnsL (w w' : World) (e : Ending) (L : Nat) (l : List (Rat × Rat)) : Prop := ∃ ao c, e = .returned (.slice ao l.length c) ∧ SpotsR w' ao L l ∧ (∀ a, ao = some a → w.heap.size ≤ a.block) ∧ Below w.heap.size w w'
theorem AnsL.of {w w' : World} {e : Ending} {L L' : Nat} {l l' : List (Rat × Rat)} (h : AnsL w w' e L l) (hl : l = l') (hs : ∀ ao, SpotsR w' ao L l → SpotsR w' ao L' l) : AnsL w w' e L' l' := by
  subst hl; obtain ⟨ao, c, h1, h2, h3, h4⟩ := h; exact ⟨ao, c, h1, hs ao h2, h3, h4⟩
/-- The same, its length named. -/
def AnsM (w w' : World) (e : Ending) (L n : Nat) (l : List (Rat × Rat)) : Prop := ∃ ao c, e = .returned (.slice ao n c) ∧ SpotsR w' ao L l ∧ (∀ a, ao = some a → w.heap.size ≤ a.block) ∧ Below w.heap.size w w'
theorem AnsL.m {w w' : World} {e : Ending} {L n : Nat} {l : List (Rat × Rat)} (h : AnsL w w' e L l) (hl : l.length = n) : AnsM w w' e L n l := by subst hl; exact h
/-- A box that is written elsewhere. -/
theorem SpotsR.setBox {w : World} {ao : Option Addr} {L : Nat} {l : List (Rat × Rat)} (h : SpotsR w ao L l) {g : Nat} {vs : List Value} (hb : Box w g vs) (hv : ∀ u ∈ vs, NoWord u) (xs : List Value) (hl : vs.length = xs.length) (hne : ∀ a, ao = some a → a.block ≠ g) : SpotsR (Go.MagM.setAll w g 0 xs) ao L l := by
  intro i x y hi
  obtain ⟨b, o, m, so, sn, sc, tp, tn, tc, m', so', sn', sc', tp', tn', tc', h0, h1, h7, h8⟩ := h i x y hi
  exact ⟨b, o, m, so, sn, sc, tp, tn, tc, m', so', sn', sc', tp', tn', tc', h0, h1.farAll (hne _ h0) xs, h7.setAll hb hv xs hl, h8.setAll hb hv xs hl⟩
/-- Three cells hold these values. -/
structure At3 (w : World) (b o : Nat) (v0 v1 v2 : Value) : Prop where
  c0 : w.cell? ⟨b, o, none⟩ = some v0
  c1 : w.cell? ⟨b, o + 1, none⟩ = some v1
  c2 : w.cell? ⟨b, o + 2, none⟩ = some v2
theorem At3.below {w w' : World} {b o : Nat} {v0 v1 v2 : Value} (h : At3 w b o v0 v1 v2) (hb : Below w.heap.size w w') : At3 w' b o v0 v1 v2 := by
  have hlt := World.block_lt_of_cell? w _ h.c0
  exact ⟨(hb.cell (p := ⟨b, o, none⟩) hlt).trans h.c0, (hb.cell (p := ⟨b, o + 1, none⟩) hlt).trans h.c1, (hb.cell (p := ⟨b, o + 2, none⟩) hlt).trans h.c2⟩
theorem At3.drew {w : World} {b o : Nat} {v0 v1 v2 : Value} (h : At3 w b o v0 v1 v2) : At3 w.drew b o v0 v1 v2 := ⟨h.c0, h.c1, h.c2⟩
theorem At3.grown {w w' : World} {b o : Nat} {v0 v1 v2 : Value} {row : Option Nat} (h : At3 w b o v0 v1 v2) (hg : w.grownBy w' row) (hne : row ≠ some b) : At3 w' b o v0 v1 v2 := by
  have hl := World.block_lt_of_cell? w _ h.c0
  have e := hg.block b hl (fun k => hne k.symm)
  exact ⟨(World.cell?_of_block (a := ⟨b, o, none⟩) e).trans h.c0, (World.cell?_of_block (a := ⟨b, o + 1, none⟩) e).trans h.c1, (World.cell?_of_block (a := ⟨b, o + 2, none⟩) e).trans h.c2⟩
theorem At3.farFrom {b o : Nat} {v0 v1 v2 : Value} {g' : Nat} (hne : b ≠ g') : ∀ (xs : List Value) (i : Nat) {w : World}, At3 w b o v0 v1 v2 → At3 (Go.MagM.setAll w g' i xs) b o v0 v1 v2
  | [], _, _, h => h
  | x :: xs, i, w, h => by
    have e : ∀ j, (w.setCell ⟨g', i, none⟩ x).cell? ⟨b, j, none⟩ = w.cell? ⟨b, j, none⟩ := fun j => World.cell?_setCell_other _ _ _ _ (by intro k; injection k with h1; first | exact hne h1 | exact hne h1.symm)
    exact At3.farFrom hne xs (i + 1) ⟨(e _).trans h.c0, (e _).trans h.c1, (e _).trans h.c2⟩
theorem At3.farAll {w : World} {b o : Nat} {v0 v1 v2 : Value} (h : At3 w b o v0 v1 v2) {g' : Nat} (hne : b ≠ g') (xs : List Value) : At3 (Go.MagM.setAll w g' 0 xs) b o v0 v1 v2 := At3.farFrom hne xs 0 h
/-- One of a row's Fracs, where it lies. -/
theorem Fr.at {w : World} {base : Nat} {e : TypeId} {v : Value} {n L : Nat} {xs : List Value} {l : List Rat} (h : Fr w L xs l) (hr : RowN w base e 3 v n xs) {i : Nat} {q : Rat} (hi : l[i]? = some q) :
    ∃ g c m so sn sc tp tn tc, v = .slice (some ⟨g, 0, none⟩) n c ∧ At3 w g (i * 3) (.bool m) (.slice so sn sc) (.slice tp tn tc) ∧ RF w (.agg #[.bool m, .slice so sn sc, .slice tp tn tc]) L q := by
  obtain ⟨m, so, sn, sc, tp, tn, tc, h1, h2, h3, h4⟩ := h i q hi
  have hl := (List.getElem?_eq_some_iff.1 h1).1
  rcases hr.2 with ⟨rfl, rfl⟩ | ⟨g, cap, cur, rfl, _⟩
  · have := hr.1; omega
  · exact ⟨g, cap, m, so, sn, sc, tp, tn, tc, rfl, ⟨hr.cells rfl _ _ h1, hr.cells rfl _ _ h2, hr.cells rfl _ _ h3⟩, h4⟩
section
variable {P : Program}
/-- append: the same, and in which block the slice lies. -/
theorem run_append_row' (w : World) (base : Nat) (t ty e : TypeId) (i : TypeInfo) (z : Value) (size bytes : Nat) (ht : P.underlying t = some (.slice e)) (hi : P.info? e = some i) (hz : i.zero = some z)
    (hsize : i.size = size) (hby : i.bytes = bytes) (hzs : z.cells.size = size) (hzw : ∀ u ∈ z.cells.toList, NoWord u)
    (v : Value) (n : Nat) (xs : List Value) (hrow : RowN w base e size v n xs)
    (a : Addr) (m c : Nat) (news : List Value) (hm0 : 0 < m) (hl : news.length = m * size) (hnews : ∀ j u, news[j]? = some u → w.cell? (a.add j) = some u) (h1 : ∀ u ∈ news, u.oneCell' = true) (hnw : ∀ u ∈ news, NoWord u)
    (h63 : n + m ≤ maxLen) (hbytes : (n + m) * bytes ≤ 140737488355328) (hbase : base ≤ w.heap.size) :
    ∃ v' w', (Builtin.append_ #[t, t] ty #[v, .slice (some a) m c]).run P w = .ok v' w' ∧ RowN w' base e size v' (n + m) (xs ++ news) ∧ w.grownBy w' v.ownBlock ∧ Kept w w' ∧ ∀ g, v'.ownBlock = some g → v.ownBlock = some g ∨ w.heap.size ≤ g := by
  subst hsize
  subst hby
  have hlen : (xs ++ news).length = (n + m) * i.size := by rw [List.length_append, hrow.1, hl, Nat.add_mul]
  have grown : ∀ (old : Nat), old < n + m → (∀ u ∈ xs, NoWord u) → ∀ (row : Option Nat),
      RowN (w.drew.alloc (.cells (xs.toArray ++ news.toArray ++ Builtin.zeroCells z.cells (grownCap w (n + m) old e - (n + m))) e)) base e i.size
        (.slice (some ⟨w.heap.size, 0, none⟩) (n + m) (grownCap w (n + m) old e)) (n + m) (xs ++ news) ∧
      w.grownBy (w.drew.alloc (.cells (xs.toArray ++ news.toArray ++ Builtin.zeroCells z.cells (grownCap w (n + m) old e - (n + m))) e)) row := by
    intro old ho hxw row
    have hge := grownCap_ge w (n + m) old e
    have hcm : grownCap w (n + m) old e ≤ maxLen := grownCap_le_maxLen w (n + m) old e h63
    refine ⟨⟨hlen, .inr ⟨w.heap.size, _, _, rfl, hbase, heap_alloc_new w.drew _, hge, hcm, ?_, ?_, ?_⟩⟩, ⟨rfl, rfl, rfl, by simp, fun k hk _ => heap_alloc_old w.drew _ hk⟩⟩
    · simp only [Array.size_append, List.size_toArray, size_zeroCells, hzs, hrow.1, hl, ← Nat.add_mul]
      congr 1
      omega
    · simp only [Array.toList_append, List.append_assoc]
      rw [← List.append_assoc, ← hlen]
      exact List.take_left
    · intro u hu
      simp only [Array.toList_append, List.mem_append] at hu
      rcases hu with (hu | hu) | hu
      · exact hxw u hu
      · exact hnw u hu
      · exact noWord_zero hzw _ u hu
  have hrow' := hrow
  rcases hrow.2 with ⟨rfl, rfl⟩ | ⟨g, cap, cur, rfl, hbg, hg, hnc, hcm, hcs, htake, hcw⟩
  · have hx : xs = [] := List.eq_nil_of_length_eq_zero (by simpa using hrow.1)
    subst hx
    have hr := run_append_nil (P := P) w t ty e i z ht hi hz a m c news hl hnews hm0 (by simp only [maxLen] at h63; omega) (by have hb := hbytes; simp only [Nat.zero_add] at hb; omega)
    have hgr := grown 0 (by omega) (fun u hu => by cases hu) (Value.ownBlock (.slice none 0 0))
    simp only [Nat.zero_add, List.nil_append, Array.empty_append] at hgr ⊢
    exact ⟨_, _, hr, hgr.1, hgr.2, Kept.alloc w _, fun g hg => .inr (by simp [Value.ownBlock] at hg; omega)⟩
  · by_cases hroom : n + m ≤ cap
    · have hfit : n * i.size + news.length ≤ cur.size := by rw [hl, hcs, ← Nat.add_mul]; exact Nat.mul_le_mul_right _ hroom
      have hr := run_append_room (P := P) w t ty e i ht hi g n cap cur hg a m c news hl hnews h1 hroom hfit
      have hcells : ∀ u ∈ cur.toList.take (n * i.size) ++ news ++ cur.toList.drop (n * i.size + news.length), NoWord u := by
        intro u hu
        rw [List.mem_append, List.mem_append] at hu
        rcases hu with (hu | hu) | hu
        · exact hcw u (List.mem_of_mem_take hu)
        · exact hnw u hu
        · exact hcw u (List.mem_of_mem_drop hu)
      refine ⟨_, _, hr, ⟨hlen, .inr ⟨g, cap, _, rfl, hbg, setRow_heap w g cur _ e _ hg, hroom, hcm, ?_, ?_, hcells⟩⟩, ⟨rfl, rfl, rfl, by simp, fun k _ hk => setRow_other w g k _ (fun e => hk (by simp [Value.ownBlock, e]))⟩, ?_, fun k hk => .inl hk⟩
      · simp only [List.size_toArray, List.length_append, List.length_take, List.length_drop, Array.length_toList]
        omega
      · rw [htake, ← hlen]
        exact List.take_left
      · intro p x hp
        by_cases hpg : p.block = g
        · exfalso
          obtain ⟨pb, po, ps⟩ := p
          simp at hpg
          subst hpg
          have hsp := World.cell?_spot hp
          simp at hsp
          subst hsp
          rw [cell_of_row w pb po cur e (0, 0) hg] at hp
          have hmem : Value.int .u64 x ∈ cur.toList := Array.mem_toList_iff.2 (Array.mem_of_getElem? hp)
          exact hcw _ hmem x rfl
        · rw [World.cell?_of_block (w := w) (a := p) (setRow_other w g p.block _ hpg)]; exact hp
    · have holds : ∀ j u, xs[j]? = some u → w.cell? ((⟨g, 0, none⟩ : Addr).add j) = some u := hrow'.own.cells (g := g) rfl
      have hr := run_append_grow (P := P) w t ty e i z ht hi hz ⟨g, 0, none⟩ n cap xs hrow'.1 holds a m c news hl hnews (by omega) (by simp only [maxLen] at h63; omega) (growslice_fits (by omega) hbytes)
      have hgr := grown cap (by omega) (fun u hu => hcw u (by rw [← htake] at hu; exact List.mem_of_mem_take hu)) (Value.ownBlock (.slice (some ⟨g, 0, none⟩) n cap))
      exact ⟨_, _, hr, hgr.1, hgr.2, Kept.alloc w _, fun g hg => .inr (by simp [Value.ownBlock] at hg; omega)⟩
end
end Go.MagM
