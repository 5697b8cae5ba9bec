/- Plain mathematics of long division: the guess, one word of the quotient, the whole. No program. -/
import Derived.Test.YtbfdianmbpfjmaaMathc
namespace Go.MagM
/-- What holds of a guess of a quotient's word: un B + u1 by y = y1 B + y0. -/
structure Full (y1 y0 un u1 q1 rh : Nat) : Prop where
  b0 : y0 < B
  b1 : u1 < B
  b2 : y1 < B
  lt : un < y1 * B + y0
  sum : q1 * y1 + rh = un
  ge : (un * B + u1) / (y1 * B + y0) ≤ q1
theorem full_mul (q1 y1 y0 : Nat) : q1 * (y1 * B + y0) = q1 * y1 * B + q1 * y0 := by rw [Nat.mul_add, Nat.mul_assoc]
theorem Full.quot_lt {y1 y0 un u1 q1 rh : Nat} (h : Full y1 y0 un u1 q1 rh) : (un * B + u1) / (y1 * B + y0) < B := by
  apply Nat.div_lt_of_lt_mul
  have h1 := Nat.mul_le_mul_right B (show un + 1 ≤ y1 * B + y0 from h.lt)
  have := h.b1
  rw [Nat.add_mul] at h1; omega
theorem Full.start {y1 y0 un u1 : Nat} (h0 : y0 < B) (h1 : u1 < B) (h2 : y1 < B) (h3 : 0 < y1) (hl : un < y1 * B + y0) : Full y1 y0 un u1 (un / y1) (un % y1) := by
  refine ⟨h0, h1, h2, hl, by have := Nat.div_add_mod un y1; rw [Nat.mul_comm] at this; exact this, ?_⟩
  have e : un / y1 = (un * B + u1) / (y1 * B) := by
    rw [Nat.mul_comm y1 B, ← Nat.div_div_eq_div_mul, Nat.mul_comm un B, Nat.mul_add_div (by unfold B; omega), Nat.div_eq_of_lt h1, Nat.add_zero]
  rw [e]
  exact Nat.div_le_div_left (by omega) (Nat.mul_pos h3 (by unfold B; omega))
theorem Full.next {y1 y0 un u1 q1 rh : Nat} (h : Full y1 y0 un u1 q1 rh) (hc : B ≤ q1 ∨ rh * B + u1 < q1 * y0) : 1 ≤ q1 ∧ Full y1 y0 un u1 (q1 - 1) (rh + y1) := by
  have hq : (un * B + u1) / (y1 * B + y0) < q1 := by
    rcases hc with hc | hc
    · have := h.quot_lt; omega
    · have hy : 0 < y1 * B + y0 := by have := h.lt; omega
      rw [Nat.div_lt_iff_lt_mul hy, full_mul]
      have h1 : q1 * y1 * B + rh * B = un * B := by rw [← Nat.add_mul, h.sum]
      omega
  have h1 : 1 ≤ q1 := Nat.lt_of_le_of_lt (Nat.zero_le _) hq
  refine ⟨h1, h.b0, h.b1, h.b2, h.lt, ?_, Nat.le_sub_one_of_lt hq⟩
  have e : (q1 - 1) * y1 + y1 = q1 * y1 := by
    obtain ⟨d, rfl⟩ : ∃ d, q1 = d + 1 := ⟨q1 - 1, by omega⟩
    rw [Nat.add_mul]; simp
  have := h.sum; omega
theorem Full.done {y1 y0 un u1 q1 rh : Nat} (h : Full y1 y0 un u1 q1 rh) (hc : B ≤ rh ∨ (q1 < B ∧ q1 * y0 ≤ rh * B + u1)) : q1 = (un * B + u1) / (y1 * B + y0) := by
  apply Nat.le_antisymm _ h.ge
  have hy : 0 < y1 * B + y0 := by have := h.lt; omega
  rw [Nat.le_div_iff_mul_le hy, full_mul]
  have h1 : q1 * y1 * B + rh * B = un * B := by rw [← Nat.add_mul, h.sum]
  rcases hc with hc | hc
  · have hq : q1 < B := by
      rcases Nat.lt_or_ge q1 B with a | a
      · exact a
      · exfalso
        have h2 := Nat.mul_le_mul_right y1 a
        have h3 := h.sum; have h4 := h.lt; have h5 := h.b0
        rw [Nat.mul_comm B y1] at h2; omega
    have h2 := Nat.mul_le_mul_right B hc
    have h3 := Nat.mul_le_mul (show q1 ≤ B by omega) (show y0 ≤ B by have := h.b0; omega)
    omega
  · omega
theorem full_quot_lt {un u1 y : Nat} (hu : u1 < B) (h : un < y) : (un * B + u1) / y < B := by
  apply Nat.div_lt_of_lt_mul
  have h1 := Nat.mul_le_mul_right B (show un + 1 ≤ y from h)
  rw [Nat.add_mul] at h1; omega

/-- What a guess from the highest words is good for: right, or too great by 1. -/
def GoodQ (g U D : Nat) : Prop := U / D ≤ g ∧ g ≤ U / D + 1
theorem good_of_quot {T D2 P Ul Dl : Nat} (hP : 0 < P) (hD : B ≤ D2) (hU : Ul < P) (hDl : Dl < P) (hg : T / D2 < B) : GoodQ (T / D2) (T * P + Ul) (D2 * P + Dl) := by
  have hD0 : 0 < D2 := by have := B_pos; omega
  have hDP : 0 < D2 * P := Nat.mul_pos hD0 hP
  constructor
  · have h1 : (T * P + Ul) / (D2 * P + Dl) ≤ (T * P + Ul) / (D2 * P) := Nat.div_le_div_left (by omega) hDP
    have h2 : (T * P + Ul) / (D2 * P) = T / D2 := by
      rw [Nat.mul_comm D2 P, ← Nat.div_div_eq_div_mul, Nat.mul_comm T P, Nat.mul_add_div hP, Nat.div_eq_of_lt hU, Nat.add_zero]
    omega
  · obtain ⟨g, hge⟩ : ∃ g, T / D2 = g := ⟨_, rfl⟩
    rw [hge] at hg ⊢
    cases g with
    | zero => exact Nat.zero_le _
    | succ g =>
      have h1 : (g + 1) * D2 ≤ T := by rw [← hge]; exact Nat.div_mul_le_self T D2
      have h2 := Nat.mul_le_mul_right P h1
      have h3 : g ≤ (T * P + Ul) / (D2 * P + Dl) := by
        rw [Nat.le_div_iff_mul_le (by omega), Nat.mul_add]
        have h4 := Nat.mul_le_mul_left g (show Dl ≤ P by omega)
        have h5 := Nat.mul_le_mul_right P (show g ≤ D2 by omega)
        rw [Nat.add_mul, Nat.add_mul, Nat.one_mul, Nat.mul_assoc] at h2
        omega
      omega
theorem good_of_max {x y b c P Ul Dl : Nat} (hP : 0 < P) (hx : B ≤ 2 * x) (hy : y < B) (hDl : Dl < P) (hlt : (x * B * B + b * B + c) * P + Ul < ((x * B + y) * P + Dl) * B) : GoodQ (B - 1) ((x * B * B + b * B + c) * P + Ul) ((x * B + y) * P + Dl) := by
  have hD0 : 0 < (x * B + y) * P + Dl := by
    have : 0 < x * B := Nat.mul_pos (by have := B_pos; omega) B_pos
    have := Nat.mul_pos (show 0 < x * B + y by omega) hP
    omega
  constructor
  · have := (Nat.div_lt_iff_lt_mul hD0).2 (show (x * B * B + b * B + c) * P + Ul < B * ((x * B + y) * P + Dl) by rw [Nat.mul_comm B]; exact hlt)
    omega
  · have h : B - 2 ≤ ((x * B * B + b * B + c) * P + Ul) / ((x * B + y) * P + Dl) := by
      rw [Nat.le_div_iff_mul_le hD0]
      -- (B - 2) D ≤ x B B P
      have h1 : (B - 2) * ((x * B + y) * P + Dl) ≤ (B - 2) * ((x * B + y + 1) * P) := by
        apply Nat.mul_le_mul_left
        rw [Nat.add_mul _ 1 P]; omega
      have h2 : (B - 2) * (x * B + y + 1) ≤ x * B * B := by
        have h3 : (B - 2) * (x * B + y + 1) ≤ (B - 2) * (x * B + B) := Nat.mul_le_mul_left _ (by omega)
        have h4 : (B - 2) * (x * B + B) = (B - 2) * (x + 1) * B := by rw [Nat.mul_assoc, Nat.add_mul, Nat.one_mul]
        have h5 : (B - 2) * (x + 1) ≤ x * B := by
          rw [Nat.mul_add, Nat.mul_one, Nat.sub_mul, Nat.mul_comm x B]
          have : 2 * x ≤ B * x := Nat.mul_le_mul_right x (by unfold B; omega)
          omega
        have h6 := Nat.mul_le_mul_right B h5
        omega
      have h7 := Nat.mul_le_mul_right P h2
      rw [Nat.mul_assoc] at h7
      have h8 : x * B * B * P ≤ (x * B * B + b * B + c) * P := Nat.mul_le_mul_right P (by omega)
      omega
    omega
/-- One word of the quotient: what was taken, and whether it was too much. -/
theorem take_low {R0 r D g over F P U : Nat} (hg : GoodQ g U D) (hD : 0 < D) (hDP : D < P) (hU : U = R0 + r * P) (hF : F < P) (h : F + D * g = R0 + over * P) (ho : over ≤ r) : g = U / D ∧ r = over ∧ F = U % D := by
  have e := Nat.div_add_mod U D
  have hl := Nat.mod_lt U hD
  have h1 : g ≤ U / D := by
    rw [Nat.le_div_iff_mul_le hD, Nat.mul_comm]
    have := Nat.mul_le_mul_right P ho; omega
  have h2 : g = U / D := Nat.le_antisymm h1 hg.1
  rw [← h2] at e
  have h3 : r = over := by
    rcases Nat.lt_or_ge over r with a | a
    · exfalso
      have := Nat.mul_le_mul_right P (show over + 1 ≤ r from a)
      rw [Nat.add_mul] at this; omega
    · omega
  subst h3
  exact ⟨h2, rfl, by omega⟩
theorem take_high {R0 r D g over F F2 cc P U : Nat} (hg : GoodQ g U D) (hD : 0 < D) (hDP : D < P) (hU : U = R0 + r * P) (hF : F < P) (hF2 : F2 < P) (h : F + D * g = R0 + over * P) (ho : r < over) (hcc : cc ≤ 1) (ha : F2 + cc * P = F + D) :
    1 ≤ g ∧ g - 1 = U / D ∧ F2 = U % D := by
  have e := Nat.div_add_mod U D
  have hl := Nat.mod_lt U hD
  have h1 : U < D * g := by
    have := Nat.mul_le_mul_right P (show r + 1 ≤ over from ho)
    rw [Nat.add_mul] at this; omega
  have h2 : U / D < g := by rw [Nat.div_lt_iff_lt_mul hD, Nat.mul_comm]; exact h1
  have h3 : g = U / D + 1 := by have := hg.2; omega
  rw [h3, Nat.mul_add, Nat.mul_one] at h
  -- U % D = U - D (U / D) = r P - over P + F + D
  generalize U / D = qq at *
  generalize U % D = rr at *
  have h4 : rr + over * P = F + D + r * P := by omega
  have h5 : over = r + 1 := by
    rcases Nat.lt_or_ge (r + 1) over with a | a
    · exfalso
      have := Nat.mul_le_mul_right P (show r + 2 ≤ over from a)
      rw [Nat.add_mul] at this; omega
    · omega
  rw [h5, Nat.add_mul, Nat.one_mul] at h4
  have h6 : cc = 1 := by
    have : cc = 0 ∨ cc = 1 := by omega
    rcases this with rfl | rfl
    · exfalso; omega
    · rfl
  rw [h6] at ha
  exact ⟨by omega, by omega, by omega⟩
/-- One round of long division. -/
theorem long_step {A Q D W Lo Pk : Nat} (hD : 0 < D) (hlo : Lo < Pk) (h : A = Q * (Pk * B) * D + (Lo + Pk * W)) :
    A = (Q * B + W / D) * Pk * D + (Lo + Pk * (W % D)) ∧ Lo + Pk * (W % D) < Pk * D := by
  have e := Nat.div_add_mod W D
  have hl := Nat.mod_lt W hD
  constructor
  · have h1 : Pk * W = Pk * (D * (W / D)) + Pk * (W % D) := by rw [← Nat.mul_add, e]
    have h2 : (Q * B + W / D) * Pk * D = Q * (Pk * B) * D + Pk * (D * (W / D)) := by
      rw [Nat.add_mul, Nat.add_mul]
      congr 1
      · congr 1; rw [Nat.mul_assoc, Nat.mul_comm B Pk]
      · rw [Nat.mul_comm (W / D) Pk, Nat.mul_assoc, Nat.mul_comm (W / D) D]
    omega
  · have := Nat.mul_le_mul_left Pk (show W % D + 1 ≤ D from hl)
    rw [Nat.mul_add] at this; omega
/-- Both moved up: quotient and rest. -/
theorem long_end {a b Q R s : Nat} (hb : 0 < b) (h : a * 2 ^ s = Q * (b * 2 ^ s) + R) (hR : R < b * 2 ^ s) : Q = a / b ∧ R / 2 ^ s = a % b := by
  have hp : 0 < 2 ^ s := Nat.pow_pos (by omega)
  have hbs : 0 < b * 2 ^ s := Nat.mul_pos hb hp
  have h1 : a * 2 ^ s / (b * 2 ^ s) = Q := by
    rw [h, Nat.mul_comm Q, Nat.mul_add_div hbs, Nat.div_eq_of_lt hR, Nat.add_zero]
  have h2 : a * 2 ^ s % (b * 2 ^ s) = R := by
    rw [h, Nat.mul_comm Q, Nat.mul_add_mod, Nat.mod_eq_of_lt hR]
  rw [Nat.mul_div_mul_right _ _ hp] at h1
  rw [Nat.mul_mod_mul_right] at h2
  exact ⟨h1.symm, by rw [← h2, Nat.mul_div_cancel _ hp]⟩
/-- The lowest word, and the others. -/
theorem V_low (f : Nat → Nat) (k m : Nat) : V (fun i => f (k + i)) (m + 1) = f k + B * V (fun i => f (k + 1 + i)) m := by
  have := V_split (fun i => f (k + i)) 1 m
  rw [Nat.add_comm 1 m, V_one, Nat.pow_one] at this
  simp only [Nat.add_zero] at this
  rw [this]; simp only [Nat.add_assoc]
end Go.MagM
