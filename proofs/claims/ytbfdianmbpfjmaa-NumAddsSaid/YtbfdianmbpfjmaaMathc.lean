/- Plain mathematics of one division of two words by one, half a word of the quotient at a time. No program. -/
import Derived.Test.YtbfdianmbpfjmaaMathb
namespace Go.MagM
/-- Half a word. -/
def H : Nat := 4294967296
theorem H_eq : H = 4294967296 := rfl
/-- What holds of a guess of a quotient's half: un H + u1 by y = y1 H + y0. -/
structure Half (y1 y0 un u1 q1 rh : Nat) : Prop where
  b0 : y0 < H
  b1 : u1 < H
  b2 : y1 < H
  lt : un < y1 * H + y0
  sum : q1 * y1 + rh = un
  ge : (un * H + u1) / (y1 * H + y0) ≤ q1
theorem half_mul (q1 y1 y0 : Nat) : q1 * (y1 * H + y0) = q1 * y1 * H + q1 * y0 := by rw [Nat.mul_add, Nat.mul_assoc]
theorem Half.quot_lt {y1 y0 un u1 q1 rh : Nat} (h : Half y1 y0 un u1 q1 rh) : (un * H + u1) / (y1 * H + y0) < H := by
  apply Nat.div_lt_of_lt_mul
  have h1 := Nat.mul_le_mul_right H (show un + 1 ≤ y1 * H + y0 from h.lt)
  have := h.b1
  rw [Nat.add_mul] at h1; omega
theorem Half.start {y1 y0 un u1 : Nat} (h0 : y0 < H) (h1 : u1 < H) (h2 : y1 < H) (h3 : 0 < y1) (hl : un < y1 * H + y0) : Half y1 y0 un u1 (un / y1) (un % y1) := by
  refine ⟨h0, h1, h2, hl, by have := Nat.div_add_mod un y1; rw [Nat.mul_comm] at this; exact this, ?_⟩
  have e : un / y1 = (un * H + u1) / (y1 * H) := by
    rw [Nat.mul_comm y1 H, ← Nat.div_div_eq_div_mul, Nat.mul_comm un H, Nat.mul_add_div (by unfold H; omega), Nat.div_eq_of_lt h1, Nat.add_zero]
  rw [e]
  exact Nat.div_le_div_left (by omega) (Nat.mul_pos h3 (by unfold H; omega))
theorem Half.next {y1 y0 un u1 q1 rh : Nat} (h : Half y1 y0 un u1 q1 rh) (hc : H ≤ q1 ∨ rh * H + u1 < q1 * y0) : 1 ≤ q1 ∧ Half y1 y0 un u1 (q1 - 1) (rh + y1) := by
  have hq : (un * H + u1) / (y1 * H + y0) < q1 := by
    rcases hc with hc | hc
    · have := h.quot_lt; omega
    · have hy : 0 < y1 * H + y0 := by have := h.lt; omega
      rw [Nat.div_lt_iff_lt_mul hy, half_mul]
      have h1 : q1 * y1 * H + rh * H = un * H := by rw [← Nat.add_mul, h.sum]
      omega
  have h1 : 1 ≤ q1 := Nat.lt_of_le_of_lt (Nat.zero_le _) hq
  refine ⟨h1, h.b0, h.b1, h.b2, h.lt, ?_, Nat.le_sub_one_of_lt hq⟩
  have e : (q1 - 1) * y1 + y1 = q1 * y1 := by
    obtain ⟨d, rfl⟩ : ∃ d, q1 = d + 1 := ⟨q1 - 1, by omega⟩
    rw [Nat.add_mul]; simp
  have := h.sum; omega
theorem Half.done {y1 y0 un u1 q1 rh : Nat} (h : Half y1 y0 un u1 q1 rh) (hc : H ≤ rh ∨ (q1 < H ∧ q1 * y0 ≤ rh * H + u1)) : q1 = (un * H + u1) / (y1 * H + y0) := by
  apply Nat.le_antisymm _ h.ge
  have hy : 0 < y1 * H + y0 := by have := h.lt; omega
  rw [Nat.le_div_iff_mul_le hy, half_mul]
  have h1 : q1 * y1 * H + rh * H = un * H := by rw [← Nat.add_mul, h.sum]
  rcases hc with hc | hc
  · have hq : q1 < H := by
      rcases Nat.lt_or_ge q1 H with a | a
      · exact a
      · exfalso
        have h2 := Nat.mul_le_mul_right y1 a
        have h3 := h.sum; have h4 := h.lt; have h5 := h.b0
        rw [Nat.mul_comm H y1] at h2; omega
    have h2 := Nat.mul_le_mul_right H hc
    have h3 := Nat.mul_le_mul (show q1 ≤ H by omega) (show y0 ≤ H by have := h.b0; omega)
    omega
  · omega
/-- Two halves are the whole quotient. -/
theorem halves {un u1 u0 y q1 q0 : Nat} (hq1 : q1 = (un * H + u1) / y) (hq0 : q0 = ((un * H + u1) % y * H + u0) / y) (hy : 0 < y) :
    (un * (H * H) + u1 * H + u0) / y = q1 * H + q0 ∧ (un * (H * H) + u1 * H + u0) % y = ((un * H + u1) % y * H + u0) % y := by
  have e1 := Nat.div_add_mod (un * H + u1) y
  have e0 := Nat.div_add_mod ((un * H + u1) % y * H + u0) y
  rw [← hq1] at e1; rw [← hq0] at e0
  have e2 : (y * q1 + (un * H + u1) % y) * H = (un * H + u1) * H := by rw [e1]
  rw [Nat.add_mul, Nat.add_mul] at e2
  have e3 : un * (H * H) + u1 * H + u0 = ((un * H + u1) % y * H + u0) % y + y * (q1 * H + q0) := by
    rw [Nat.mul_add, ← Nat.mul_assoc y q1 H, ← Nat.mul_assoc un H H]; omega
  rw [e3]
  have hlt : ((un * H + u1) % y * H + u0) % y < y := Nat.mod_lt _ hy
  constructor
  · rw [Nat.add_mul_div_left _ _ hy, Nat.div_eq_of_lt hlt, Nat.zero_add]
  · rw [Nat.add_mul_mod_self_left, Nat.mod_mod]
theorem half_quot_lt {un u1 y : Nat} (hu : u1 < H) (h : un < y) : (un * H + u1) / y < H := by
  apply Nat.div_lt_of_lt_mul
  have h1 := Nat.mul_le_mul_right H (show un + 1 ≤ y from h)
  rw [Nat.add_mul] at h1; omega
theorem HH_eq : H * H = B := rfl
/-- Both moved up by s: the same quotient, and the rest moved up. -/
theorem div64_up {hi lo y s un un1 un0 y' : Nat} (hs : s ≤ 64) (hy : 0 < y) (hy' : y' = y * 2 ^ s) (hun : un = hi * 2 ^ s + lo * 2 ^ s / B) (hu : un1 * H + un0 = lo * 2 ^ s % B) :
    (un * H + un1) / y' * H + ((un * H + un1) % y' * H + un0) / y' = (hi * B + lo) / y ∧ ((un * H + un1) % y' * H + un0) % y' / 2 ^ s = (hi * B + lo) % y := by
  have hp : 0 < 2 ^ s := Nat.pow_pos (by omega)
  have hy2 : 0 < y' := by rw [hy']; exact Nat.mul_pos hy hp
  obtain ⟨a, b⟩ := halves (un := un) (u1 := un1) (u0 := un0) (y := y') rfl rfl hy2
  have e : un * (H * H) + un1 * H + un0 = (hi * B + lo) * 2 ^ s := by
    have h1 := Nat.div_add_mod (lo * 2 ^ s) B
    have h2 : hi * B * 2 ^ s = hi * 2 ^ s * B := by rw [Nat.mul_right_comm]
    rw [HH_eq, hun, Nat.add_mul, Nat.add_mul, h2, Nat.mul_comm (lo * 2 ^ s / B) B]; omega
  rw [← a, ← b, e, hy']
  exact ⟨Nat.mul_div_mul_right _ _ hp, by rw [Nat.mul_mod_mul_right, Nat.mul_div_cancel _ hp]⟩
end Go.MagM
