/- Plain mathematics of bits. No program. -/
import Derived.Test.YtbfdianmbpfjmaaMath
namespace Go.MagM
/-- How many bits. -/
def bl (x : Nat) : Nat := if x = 0 then 0 else x.log2 + 1
theorem bl_lt (x : Nat) : x < 2 ^ bl x := by
  unfold bl; split
  · rename_i h; rw [h]; simp
  · exact Nat.lt_log2_self
theorem bl_ge {x : Nat} (h : x ≠ 0) : 2 ^ (bl x - 1) ≤ x := by
  unfold bl; rw [if_neg h]; exact Nat.log2_self_le h
theorem bl_pos {x : Nat} (h : x ≠ 0) : 1 ≤ bl x := by unfold bl; rw [if_neg h]; omega
theorem bl_zero : bl 0 = 0 := rfl
theorem bl_unique {x k : Nat} (h1 : x < 2 ^ k) (h2 : x = 0 → k = 0) (h3 : x ≠ 0 → 2 ^ (k - 1) ≤ x ∧ 1 ≤ k) : bl x = k := by
  by_cases h : x = 0
  · rw [h2 h, h]; rfl
  · obtain ⟨h4, h5⟩ := h3 h
    have a := bl_lt x; have b := bl_ge h; have c := bl_pos h
    have d := (Nat.pow_lt_pow_iff_right (show 1 < 2 by omega)).1 (Nat.lt_of_le_of_lt b h1)
    have e := (Nat.pow_lt_pow_iff_right (show 1 < 2 by omega)).1 (Nat.lt_of_le_of_lt h4 a)
    omega
theorem bl_shift {x : Nat} (k : Nat) (h : 2 ^ k ≤ x) : bl x = k + bl (x / 2 ^ k) := by
  have hq : x / 2 ^ k ≠ 0 := by have := Nat.div_pos h (Nat.pow_pos (show 0 < 2 by omega)); omega
  have a := bl_lt (x / 2 ^ k); have b := bl_ge hq; have c := bl_pos hq
  apply bl_unique
  · rw [Nat.pow_add, Nat.mul_comm]; exact (Nat.div_lt_iff_lt_mul (Nat.pow_pos (by omega))).1 a
  · intro h0; have := Nat.pow_pos (n := k) (show 0 < 2 by omega); omega
  · intro _
    refine ⟨?_, by omega⟩
    rw [show k + bl (x / 2 ^ k) - 1 = k + (bl (x / 2 ^ k) - 1) from by omega, Nat.pow_add]
    exact Nat.le_trans (Nat.mul_le_mul_left _ b) (Nat.mul_div_le x (2 ^ k))
theorem B_pow (n : Nat) (h : n ≤ 64) : B = 2 ^ (64 - n) * 2 ^ n := by
  rw [← Nat.pow_add, show 64 - n + n = 64 from by omega]; rfl
theorem shl_mod (x n : Nat) (h : n ≤ 64) : x * 2 ^ n % B = 2 ^ n * (x % 2 ^ (64 - n)) := by
  rw [B_pow n h, Nat.mul_mod_mul_right, Nat.mul_comm]
theorem shr_eq (y n : Nat) (h : n ≤ 64) : y / 2 ^ (64 - n) = y * 2 ^ n / B := by
  rw [B_pow n h, Nat.mul_div_mul_right _ _ (Nat.pow_pos (by omega))]
theorem shl_div_lt {y n : Nat} (hy : y < B) : y * 2 ^ n / B < 2 ^ n := by
  apply Nat.div_lt_of_lt_mul
  exact Nat.mul_lt_mul_of_pos_right hy (Nat.pow_pos (by omega))
/-- Two words' bits, moved up by n, put together. -/
theorem or_up {x y n : Nat} (hy : y < B) (h : n ≤ 64) : (x * 2 ^ n % B) ||| (y * 2 ^ n / B) = x * 2 ^ n % B + y * 2 ^ n / B := by
  rw [shl_mod x n h]
  exact (Nat.two_pow_add_eq_or_of_lt (shl_div_lt hy) _).symm
/-- .. moved down by n. -/
theorem or_down {x y n : Nat} (hx : x < B) (h : n ≤ 64) : (x / 2 ^ n) ||| (y * 2 ^ (64 - n) % B) = x / 2 ^ n + (y % 2 ^ n) * 2 ^ (64 - n) := by
  rw [shl_mod y (64 - n) (by omega), show 64 - (64 - n) = n from by omega, Nat.or_comm]
  have : x / 2 ^ n < 2 ^ (64 - n) := by
    apply Nat.div_lt_of_lt_mul
    rw [Nat.mul_comm, ← B_pow n h]; exact hx
  rw [← Nat.two_pow_add_eq_or_of_lt this, Nat.mul_comm (2 ^ (64 - n))]; omega
/-- Words that are moved up: what they count. -/
theorem V_moveUp {f f' : Nat → Nat} {n : Nat} (h0 : f' 0 = f 0 * 2 ^ n % B) : ∀ {len : Nat}, (∀ j, j < len → f' (j + 1) = f (j + 1) * 2 ^ n % B + f j * 2 ^ n / B) →
    V f' (len + 1) + f len * 2 ^ n / B * B ^ (len + 1) = V f (len + 1) * 2 ^ n
  | 0, _ => by
    rw [V_one, V_one, h0, Nat.pow_one]
    have := Nat.mod_add_div (f 0 * 2 ^ n) B
    rw [Nat.mul_comm (f 0 * 2 ^ n / B) B]; exact this
  | len + 1, h => by
    have ih := V_moveUp (len := len) h0 (fun j hj => h j (by omega))
    rw [V_succ f', V_succ f (len + 1), h len (by omega), Nat.add_mul (V f (len + 1)), ← ih]
    have e1 := Nat.mod_add_div (f (len + 1) * 2 ^ n) B
    have e2 : f (len + 1) * B ^ (len + 1) * 2 ^ n = f (len + 1) * 2 ^ n * B ^ (len + 1) := by rw [Nat.mul_right_comm]
    have e3 : f (len + 1) * 2 ^ n / B * B ^ (len + 1 + 1) = B * (f (len + 1) * 2 ^ n / B) * B ^ (len + 1) := by
      rw [Nat.pow_succ, Nat.mul_comm (B ^ (len + 1)) B, ← Nat.mul_assoc, Nat.mul_comm _ B]
    rw [e2, e3, Nat.add_mul]
    have e4 : (f (len + 1) * 2 ^ n % B + B * (f (len + 1) * 2 ^ n / B)) * B ^ (len + 1) = f (len + 1) * 2 ^ n * B ^ (len + 1) := by rw [e1]
    rw [Nat.add_mul] at e4
    omega
/-- Words that are moved down. -/
theorem V_moveDown {f f' : Nat → Nat} {n : Nat} (hn : n ≤ 64) : ∀ {len : Nat}, (∀ j, j < len → f' j = f j / 2 ^ n + f (j + 1) % 2 ^ n * 2 ^ (64 - n)) →
    V f' len * 2 ^ n + f 0 % 2 ^ n = V f len + f len % 2 ^ n * B ^ len
  | 0, _ => by simp [V]
  | len + 1, h => by
    have ih := V_moveDown hn (len := len) (fun j hj => h j (by omega))
    rw [V_succ f', V_succ f, h len (by omega), Nat.add_mul]
    have e1 := Nat.mod_add_div (f len) (2 ^ n)
    have e2 : (f len / 2 ^ n + f (len + 1) % 2 ^ n * 2 ^ (64 - n)) * B ^ len * 2 ^ n = f len / 2 ^ n * 2 ^ n * B ^ len + f (len + 1) % 2 ^ n * B ^ (len + 1) := by
      rw [Nat.add_mul, Nat.add_mul, Nat.mul_right_comm (f len / 2 ^ n), Nat.pow_succ, Nat.mul_comm (B ^ len) B, ← Nat.mul_assoc]
      congr 1
      rw [Nat.mul_right_comm, Nat.mul_assoc (f (len + 1) % 2 ^ n), ← B_pow n hn]
    have e3 : (f len % 2 ^ n + 2 ^ n * (f len / 2 ^ n)) * B ^ len = f len * B ^ len := by rw [e1]
    rw [Nat.add_mul, Nat.mul_comm (2 ^ n)] at e3
    rw [e2]; omega
theorem V_down_all {f f' : Nat → Nat} {n len : Nat} (hn : n ≤ 64) (hl : f' len = f len / 2 ^ n) (h : ∀ j, j < len → f' j = f j / 2 ^ n + f (j + 1) % 2 ^ n * 2 ^ (64 - n)) : V f' (len + 1) = V f (len + 1) / 2 ^ n := by
  have h1 := V_moveDown hn h
  have e1 := Nat.mod_add_div (f len) (2 ^ n)
  have e3 : (f len % 2 ^ n + 2 ^ n * (f len / 2 ^ n)) * B ^ len = f len * B ^ len := by rw [e1]
  rw [Nat.add_mul, Nat.mul_comm (2 ^ n)] at e3
  have h2 : V f' (len + 1) * 2 ^ n + f 0 % 2 ^ n = V f (len + 1) := by
    rw [V_succ f', V_succ f, hl, Nat.add_mul, Nat.mul_right_comm (f len / 2 ^ n)]; omega
  have h3 : f 0 % 2 ^ n < 2 ^ n := Nat.mod_lt _ (Nat.pow_pos (by omega))
  rw [← h2, Nat.add_comm (V f' (len + 1) * 2 ^ n), Nat.add_mul_div_right _ _ (Nat.pow_pos (by omega)), Nat.div_eq_of_lt h3, Nat.zero_add]
theorem Bpow_two (k : Nat) : B ^ k = 2 ^ (64 * k) := by rw [show B = 2 ^ 64 from rfl, ← Nat.pow_mul]
theorem two_shift (s : Nat) : 2 ^ s = B ^ (s / 64) * 2 ^ (s % 64) := by rw [Bpow_two, ← Nat.pow_add, Nat.div_add_mod]
theorem V_high (f : Nat → Nat) {k n : Nat} (hf : ∀ i, i < k + n → f i < B) : V (fun i => f (k + i)) n = V f (k + n) / B ^ k := by
  rw [V_split, Nat.add_mul_div_left _ _ (Bp k), Nat.div_eq_of_lt (V_lt (fun i hi => hf i (by omega))), Nat.zero_add]
end Go.MagM
