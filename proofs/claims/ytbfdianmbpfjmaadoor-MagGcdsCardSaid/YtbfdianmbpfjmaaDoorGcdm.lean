/- A leap of Euclid's steps (Lehmer's way): the mathematics. -/
namespace Go.MagG
/-- Where a leap stands: a, b are what is left of the heads A0, B0; x, y are the factors; s: after steps (else none has been gone). -/
structure Leap (A0 B0 a b x0 x1 y0 y1 : Nat) (odd : Bool) : Prop where
  detA : y1 * a + y0 * b = A0
  detB : x1 * a + x0 * b = B0
  even : odd = false → x0 * y1 = x1 * y0 + 1
  odds : odd = true → y0 * x1 = x0 * y1 + 1
  gone : (y0 = 0 ∧ x0 = 1 ∧ x1 = 0 ∧ y1 = 1 ∧ b ≤ a) ∨ (1 ≤ y0 ∧ 1 ≤ x1 ∧ x0 ≤ y0 ∧ x1 ≤ y1 ∧ y1 ≤ b ∧ y0 + y1 + b ≤ a)
theorem Leap.start {A0 B0 : Nat} (h : B0 ≤ A0) : Leap A0 B0 A0 B0 1 0 0 1 false :=
  ⟨by simp, by simp, fun _ => rfl, fun h => by simp at h, .inl ⟨rfl, rfl, rfl, rfl, h⟩⟩
theorem Leap.le {A0 B0 a b x0 x1 y0 y1 : Nat} {odd : Bool} (h : Leap A0 B0 a b x0 x1 y0 y1 odd) : b ≤ a := by
  rcases h.gone with h | h <;> omega
theorem det_step (q y0 y1 a b r A : Nat) (h3 : a = b * q + r) (h : y1 * a + y0 * b = A) : (y0 + q * y1) * b + y1 * r = A := by grind
theorem det_flip (q x0 x1 y0 y1 : Nat) (h : x0 * y1 = x1 * y0 + 1) : y1 * (x0 + q * x1) = x1 * (y0 + q * y1) + 1 := by grind
theorem det_flop (q x0 x1 y0 y1 : Nat) (h : y0 * x1 = x0 * y1 + 1) : x1 * (y0 + q * y1) = (x0 + q * x1) * y1 + 1 := by grind
/-- One step: the next factors fit in a word, if the numbers do. -/
theorem Leap.next {A0 B0 a b x0 x1 y0 y1 : Nat} {odd : Bool} (h : Leap A0 B0 a b x0 x1 y0 y1 odd) (hb : b ≠ 0) :
    y0 + a / b * y1 ≤ A0 ∧ x0 + a / b * x1 ≤ B0 ∧ (y0 + a / b * y1 ≤ a % b → y1 + (y0 + a / b * y1) ≤ A0) := by
  have e := (Nat.div_add_mod a b).symm
  have h1 := det_step (a / b) y0 y1 a b (a % b) A0 e h.detA
  have h2 := det_step (a / b) x0 x1 a b (a % b) B0 e h.detB
  have hb1 : 1 ≤ b := by omega
  have h3 := Nat.mul_le_mul_left (y0 + a / b * y1) hb1
  have h4 := Nat.mul_le_mul_left (x0 + a / b * x1) hb1
  rw [Nat.mul_one] at h3 h4
  refine ⟨by omega, by omega, fun hr => ?_⟩
  have hny : 1 ≤ y0 + a / b * y1 := by
    rcases h.gone with ⟨g1, _, _, g2, g3⟩ | ⟨g1, _⟩
    · have : 1 ≤ a / b := (Nat.one_le_div_iff (by omega)).2 g3
      rw [g2]; omega
    · omega
  have h5 := Nat.mul_le_mul_left y1 (show 1 ≤ a % b by omega)
  rw [Nat.mul_one] at h5
  omega
theorem Leap.step {A0 B0 a b x0 x1 y0 y1 : Nat} {odd : Bool} (h : Leap A0 B0 a b x0 x1 y0 y1 odd) (hb : b ≠ 0)
    (h1 : y0 + a / b * y1 ≤ a % b) (h2 : y1 + (y0 + a / b * y1) ≤ b - a % b) :
    Leap A0 B0 b (a % b) x1 (x0 + a / b * x1) y1 (y0 + a / b * y1) (!odd) := by
  have e := (Nat.div_add_mod a b).symm
  have hr : a % b < b := Nat.mod_lt _ (by omega)
  refine ⟨det_step _ _ _ _ _ _ _ e h.detA, det_step _ _ _ _ _ _ _ e h.detB, fun ho => ?_, fun ho => ?_, .inr ?_⟩
  · have : odd = true := by simpa using ho
    exact det_flop _ _ _ _ _ (h.odds this)
  · have : odd = false := by simpa using ho
    exact det_flip _ _ _ _ _ (h.even this)
  · have hq : 1 ≤ a / b := (Nat.one_le_div_iff (by omega)).2 h.le
    rcases h.gone with ⟨g1, g2, g3, g4, g5⟩ | ⟨g1, g2, g3, g4, g5, g6⟩
    · subst g1; subst g2; subst g3; subst g4
      simp only [Nat.mul_zero, Nat.mul_one, Nat.zero_add, Nat.add_zero] at h1 h2 ⊢
      omega
    · have h5 := Nat.mul_le_mul_left (a / b) g4
      have h6 := Nat.mul_le_mul_right x1 hq
      omega
theorem sum_even (A0 B0 a b x0 x1 y0 y1 S lA lB P Q : Nat) (hA : y1 * a + y0 * b = A0) (hB : x1 * a + x0 * b = B0) (hd : x0 * y1 = x1 * y0 + 1)
    (hP : P + y0 * lB = a * S + x0 * lA) (hQ : Q + x1 * lA = b * S + y1 * lB) :
    P + y0 * (B0 * S + lB) = x0 * (A0 * S + lA) ∧ Q + x1 * (A0 * S + lA) = y1 * (B0 * S + lB) ∧ A0 * S + lA = y1 * P + y0 * Q ∧ B0 * S + lB = x1 * P + x0 * Q := by
  subst hA; subst hB
  refine ⟨?_, ?_, ?_, ?_⟩ <;> grind
theorem sum_odd (A0 B0 a b x0 x1 y0 y1 S lA lB P Q : Nat) (hA : y1 * a + y0 * b = A0) (hB : x1 * a + x0 * b = B0) (hd : y0 * x1 = x0 * y1 + 1)
    (hP : P + x0 * lA = a * S + y0 * lB) (hQ : Q + y1 * lB = b * S + x1 * lA) :
    P + x0 * (A0 * S + lA) = y0 * (B0 * S + lB) ∧ Q + y1 * (B0 * S + lB) = x1 * (A0 * S + lA) ∧ A0 * S + lA = y1 * P + y0 * Q ∧ B0 * S + lB = x1 * P + x0 * Q := by
  subst hA; subst hB
  refine ⟨?_, ?_, ?_, ?_⟩ <;> grind
/-- A pair with the same divisors: from A, B to P, Q. -/
theorem gcd_mix (A B P Q x0 x1 y0 y1 : Nat) (h1 : P + y0 * B = x0 * A) (h2 : Q + x1 * A = y1 * B) (h3 : A = y1 * P + y0 * Q) (h4 : B = x1 * P + x0 * Q) : Nat.gcd P Q = Nat.gcd A B := by
  apply Nat.dvd_antisymm
  · apply Nat.dvd_gcd
    · rw [h3]; exact Nat.dvd_add (Nat.dvd_mul_left_of_dvd (Nat.gcd_dvd_left _ _) _) (Nat.dvd_mul_left_of_dvd (Nat.gcd_dvd_right _ _) _)
    · rw [h4]; exact Nat.dvd_add (Nat.dvd_mul_left_of_dvd (Nat.gcd_dvd_left _ _) _) (Nat.dvd_mul_left_of_dvd (Nat.gcd_dvd_right _ _) _)
  · apply Nat.dvd_gcd
    · have := Nat.dvd_mul_left_of_dvd (Nat.gcd_dvd_left A B) x0
      rw [← h1] at this
      exact (Nat.dvd_add_iff_left (Nat.dvd_mul_left_of_dvd (Nat.gcd_dvd_right A B) y0)).2 this
    · have := Nat.dvd_mul_left_of_dvd (Nat.gcd_dvd_right A B) y1
      rw [← h2] at this
      exact (Nat.dvd_add_iff_left (Nat.dvd_mul_left_of_dvd (Nat.gcd_dvd_left A B) x1)).2 this
theorem gcd_mox (A B P Q x0 x1 y0 y1 : Nat) (h1 : P + x0 * A = y0 * B) (h2 : Q + y1 * B = x1 * A) (h3 : A = y1 * P + y0 * Q) (h4 : B = x1 * P + x0 * Q) : Nat.gcd P Q = Nat.gcd A B := by
  rw [Nat.gcd_comm A B]
  refine gcd_mix B A P Q y0 y1 x0 x1 h1 h2 h4 h3
theorem sub_room {c u l S t : Nat} (h : c ≤ t) (hl : l < S) : c * l ≤ t * S + u := by
  have := Nat.mul_le_mul h (Nat.le_of_lt hl); omega
/-- What the leap's end tells of the numbers whose heads they were: the new pair. -/
theorem Leap.pair {A0 B0 a b x0 x1 y0 y1 : Nat} {odd : Bool} (h : Leap A0 B0 a b x0 x1 y0 y1 odd) (hy : y0 ≠ 0) (S lA lB : Nat) (hlA : lA < S) (hlB : lB < S) :
    ∃ P Q, (odd = false → P + y0 * (B0 * S + lB) = x0 * (A0 * S + lA) ∧ Q + x1 * (A0 * S + lA) = y1 * (B0 * S + lB)) ∧
      (odd = true → P + x0 * (A0 * S + lA) = y0 * (B0 * S + lB) ∧ Q + y1 * (B0 * S + lB) = x1 * (A0 * S + lA)) ∧
      Q ≤ P ∧ Nat.gcd P Q = Nat.gcd (A0 * S + lA) (B0 * S + lB) ∧ A0 * S + lA = y1 * P + y0 * Q ∧ B0 * S + lB = x1 * P + x0 * Q ∧ 1 ≤ y0 ∧ 1 ≤ x1 ∧ x1 ≤ y1 := by
  obtain ⟨g1, g2, g3, g4, g5, g6⟩ := h.gone.resolve_left (fun g => hy g.1)
  have hab : (y0 + y1) * S + b * S ≤ a * S := by rw [← Nat.add_mul]; exact Nat.mul_le_mul_right S g6
  have e1 : y0 * lB ≤ a * S + x0 * lA := sub_room (by omega) hlB
  have e2 : x1 * lA ≤ b * S + y1 * lB := sub_room (by omega) hlA
  have e3 : x0 * lA ≤ a * S + y0 * lB := sub_room (by omega) hlA
  have e4 : y1 * lB ≤ b * S + x1 * lA := sub_room (by omega) hlB
  have m1 : (y0 + y1) * lB ≤ (y0 + y1) * S := Nat.mul_le_mul_left _ (Nat.le_of_lt hlB)
  have m2 : (x0 + x1) * lA ≤ (y0 + y1) * S := Nat.mul_le_mul (by omega) (Nat.le_of_lt hlA)
  rw [Nat.add_mul] at m1 m2
  cases odd with
  | false =>
    obtain ⟨P, hP⟩ : ∃ P, P + y0 * lB = a * S + x0 * lA := ⟨a * S + x0 * lA - y0 * lB, by omega⟩
    obtain ⟨Q, hQ⟩ : ∃ Q, Q + x1 * lA = b * S + y1 * lB := ⟨b * S + y1 * lB - x1 * lA, by omega⟩
    obtain ⟨r1, r2, r3, r4⟩ := sum_even A0 B0 a b x0 x1 y0 y1 S lA lB P Q h.detA h.detB (h.even rfl) hP hQ
    exact ⟨P, Q, fun _ => ⟨r1, r2⟩, fun h => (by cases h), by omega, gcd_mix _ _ _ _ _ _ _ _ r1 r2 r3 r4, r3, r4, g1, g2, g4⟩
  | true =>
    obtain ⟨P, hP⟩ : ∃ P, P + x0 * lA = a * S + y0 * lB := ⟨a * S + y0 * lB - x0 * lA, by omega⟩
    obtain ⟨Q, hQ⟩ : ∃ Q, Q + y1 * lB = b * S + x1 * lA := ⟨b * S + x1 * lA - y1 * lB, by omega⟩
    obtain ⟨r1, r2, r3, r4⟩ := sum_odd A0 B0 a b x0 x1 y0 y1 S lA lB P Q h.detA h.detB (h.odds rfl) hP hQ
    exact ⟨P, Q, fun h => (by cases h), fun _ => ⟨r1, r2⟩, by omega, gcd_mox _ _ _ _ _ _ _ _ r1 r2 r3 r4, r3, r4, g1, g2, g4⟩
/-- The new pair is less. -/
theorem less_pair (A B P Q x0 x1 y0 y1 : Nat) (h3 : A = y1 * P + y0 * Q) (h4 : B = x1 * P + x0 * Q) (hy0 : 1 ≤ y0) (hx1 : 1 ≤ x1) (hxy : x1 ≤ y1) (hle : Q ≤ P) (hA : 0 < A) : P + Q < A + B ∧ P ≤ A := by
  have h5 := Nat.mul_le_mul_right P (show 1 ≤ y1 by omega)
  have h6 := Nat.mul_le_mul_right P hx1
  have h7 := Nat.mul_le_mul_right Q hy0
  rw [Nat.one_mul] at h5 h6 h7
  have hP : 0 < P := by
    rcases Nat.eq_zero_or_pos P with h | h
    · subst h
      have : Q = 0 := by omega
      subst this; simp at h3; omega
    · exact h
  omega
end Go.MagG
