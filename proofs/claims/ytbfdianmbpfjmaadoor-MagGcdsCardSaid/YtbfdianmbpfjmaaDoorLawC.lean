/- The statements MagParts, MagShifts, MagEdges, walked. -/
import Derived.Test.YtbfdianmbpfjmaaDoorLawA
namespace Go.Proofs.YtbfdianmbpfjmaaDoor
open Go.RowKit Go.MagM
theorem shn_nat (n : Nat) (h : n ≤ 8192) : shn (n : Int) = n := by unfold shn; omega
/-- What is left of a number by a mask of nine bits. -/
theorem mask9 (n : Int) : ∃ k : Nat, k ≤ 511 ∧ bits .and .i64 n 511 = (k : Int) := by
  refine ⟨(BitVec.ofInt 64 n &&& BitVec.ofInt 64 511).toNat, ?_, ?_⟩
  · rw [BitVec.toNat_and]
    exact Nat.and_le_right
  · have h : (BitVec.ofInt 64 n &&& BitVec.ofInt 64 511).toNat ≤ 511 := by
      rw [BitVec.toNat_and]
      exact Nat.and_le_right
    show IntKind.i64.wrap (((BitVec.ofInt 64 n &&& BitVec.ofInt 64 511).toNat : Nat) : Int) = _
    exact IntWalk.i64_in _ (by omega)
theorem two_odd {a b m k : Nat} (h : 2 ^ a * (2 * m + 1) = 2 ^ b * (2 * k + 1)) : a = b := by
  rcases Nat.lt_trichotomy a b with c | c | c
  · exfalso
    obtain ⟨d, rfl⟩ : ∃ d, b = a + (d + 1) := ⟨b - a - 1, by omega⟩
    rw [Nat.pow_add, Nat.mul_assoc] at h
    have := Nat.eq_of_mul_eq_mul_left (Nat.pow_pos (by omega)) h
    rw [Nat.pow_succ, Nat.mul_assoc, Nat.mul_left_comm] at this
    omega
  · exact c
  · exfalso
    obtain ⟨d, rfl⟩ : ∃ d, a = b + (d + 1) := ⟨a - b - 1, by omega⟩
    rw [Nat.pow_add, Nat.mul_assoc] at h
    have := Nat.eq_of_mul_eq_mul_left (Nat.pow_pos (by omega)) h
    rw [Nat.pow_succ, Nat.mul_assoc, Nat.mul_left_comm] at this
    omega
theorem zeros_unique {X a b : Nat} (h : IsZeros X a) (h' : IsZeros X b) : a = b := by
  rcases h with ⟨h0, rfl⟩ | ⟨m, hm⟩
  · rcases h' with ⟨_, rfl⟩ | ⟨k, hk⟩
    · rfl
    · exfalso; rw [h0] at hk
      have := Nat.mul_pos (Nat.pow_pos (n := b) (show 0 < 2 by omega)) (show 0 < 2 * k + 1 by omega); omega
  · rcases h' with ⟨h0, rfl⟩ | ⟨k, hk⟩
    · exfalso; rw [h0] at hm
      have := Nat.mul_pos (Nat.pow_pos (n := a) (show 0 < 2 by omega)) (show 0 < 2 * m + 1 by omega); omega
    · exact two_odd (hm.symm.trans hk)
/-- What lies below some bits has the noughts of the whole, if it isn't nothing. -/
theorem zeros_low {X n z : Nat} (h0 : X % 2 ^ n ≠ 0) (h : IsZeros (X % 2 ^ n) z) : IsZeros X z := by
  rcases h with ⟨h1, _⟩ | ⟨m, hm⟩
  · exact absurd h1 h0
  · have hlt : X % 2 ^ n < 2 ^ n := Nat.mod_lt _ (Nat.pow_pos (by omega))
    have hz : z < n := by
      rcases Nat.lt_or_ge z n with a | a
      · exact a
      · exfalso
        have h2 : 2 ^ n ≤ 2 ^ z := Nat.pow_le_pow_right (by omega) a
        have h3 : 2 ^ z ≤ 2 ^ z * (2 * m + 1) := Nat.le_mul_of_pos_right _ (by omega)
        omega
    obtain ⟨d, rfl⟩ : ∃ d, n = z + (d + 1) := ⟨n - z - 1, by omega⟩
    have e := Nat.div_add_mod X (2 ^ (z + (d + 1)))
    rw [hm] at e
    generalize X / 2 ^ (z + (d + 1)) = q at e
    refine .inr ⟨2 ^ d * q + m, ?_⟩
    have e2 : 2 ^ (z + (d + 1)) * q = 2 ^ z * (2 * (2 ^ d * q)) := by
      rw [Nat.pow_add, Nat.pow_succ, Nat.mul_assoc (2 ^ z), Nat.mul_comm (2 ^ d) 2, Nat.mul_assoc 2]
    rw [← e, e2, ← Nat.mul_add]
    congr 1; omega
theorem bl_le_of_lt {x n : Nat} (h : x < 2 ^ n) : bl x ≤ n := by
  by_cases h0 : x = 0
  · rw [h0]; exact Nat.zero_le _
  · have h1 := bl_ge h0
    have h2 := (Nat.pow_lt_pow_iff_right (show 1 < 2 by omega)).1 (Nat.lt_of_le_of_lt h1 h)
    have := bl_pos h0
    omega
end Go.Proofs.YtbfdianmbpfjmaaDoor
