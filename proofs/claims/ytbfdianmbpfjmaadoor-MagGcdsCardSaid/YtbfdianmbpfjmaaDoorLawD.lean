/- The statements MagShifts, MagEdges, walked. -/
import Derived.Test.YtbfdianmbpfjmaaDoorLawC
namespace Go.Proofs.YtbfdianmbpfjmaaDoor
open Go.RowKit Go.MagM
theorem two_lt_words (n k : Nat) (h : n < 64 * k) : 2 ^ n < B ^ k := by
  rw [Bpow_two]; exact Nat.pow_lt_pow_right (by omega) h
theorem bl_words {X k : Nat} (h : X < B ^ k) : bl X ≤ 64 * k := by
  rw [Bpow_two] at h; exact bl_le_of_lt h
theorem two_lt (n : Nat) (h : n ≤ 511) : 2 ^ n < B ^ 9 := two_lt_words n 9 (by omega)
theorem shn_sub (k : Nat) (h : k ≤ 511) : shn ((k : Int) - 20) = k - 20 := by unfold shn; omega
theorem bl_top {X : Nat} (h : X ≠ 0) : X / 2 ^ (bl X - 1) = 1 := by
  have h1 := bl_lt X; have h2 := bl_ge h; have h3 := bl_pos h
  have hp : 0 < 2 ^ (bl X - 1) := Nat.pow_pos (by omega)
  apply Nat.div_eq_of_lt_le
  · omega
  · have : 2 ^ bl X = 2 ^ (bl X - 1) * 2 := by rw [← Nat.pow_succ]; congr 1; omega
    omega
theorem bl_up {N k : Nat} (h : N ≠ 0) : bl (N * 2 ^ k) = bl N + k := by
  have hp : 0 < 2 ^ k := Nat.pow_pos (by omega)
  have h1 : 2 ^ k ≤ N * 2 ^ k := Nat.le_mul_of_pos_left _ (by omega)
  have h2 := bl_shift k h1
  rw [Nat.mul_div_cancel _ hp] at h2
  omega
/-- The lowest word of an odd number is odd. -/
theorem odd_low {f : Nat → Nat} {n m : Nat} (hf : ∀ i, i < n → f i < B) (h : V f n = 2 * m + 1) : 0 < n ∧ bits .and .u64 ((f 0 : Nat) : Int) 1 = 1 := by
  cases n with
  | zero => exfalso; simp [V] at h
  | succ k =>
    refine ⟨by omega, ?_⟩
    have h1 := V_low f 0 k
    simp only [Nat.zero_add] at h1
    rw [h1] at h
    have h2 : f 0 % 2 = 1 := by unfold B at h; omega
    have h3 := bits_and_u64_nat (f 0) 1 (by have := hf 0 (by omega); unfold B at this; omega) (by omega)
    have h4 : f 0 &&& 1 = f 0 % 2 := Nat.and_two_pow_sub_one_eq_mod (f 0) 1
    rw [h4, h2] at h3
    exact h3
end Go.Proofs.YtbfdianmbpfjmaaDoor
