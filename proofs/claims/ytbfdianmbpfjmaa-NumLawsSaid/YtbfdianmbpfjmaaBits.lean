/- The product of two words, in two words. -/
import Derived.Test.YtbfdianmbpfjmaaWalkA
import Derived.Lib.Mul64
import Derived.Laws.Bits64b
namespace Go.Proofs.Ytbfdianmbpfjmaa
open Go.RowKit Go.MagM
theorem ret2 {k k' : IntKind} {a a' b b' : Int} (h : a = a') (h' : b = b') : Ending.returned (.tuple #[.int k a, .int k' b]) = Ending.returned (.tuple #[.int k a', .int k' b']) := by rw [h, h']
theorem ret1 {k : IntKind} {a a' : Int} (h : a = a') : Ending.returned (.int k a) = Ending.returned (.int k a') := by rw [h]
theorem maskN (a : Nat) (ha : a < B) : bits .and .u64 (a : Int) 4294967295 = ((a % 4294967296 : Nat) : Int) := by
  have h := bits_and_u64_nat a 4294967295 (by unfold B at ha; omega) (by omega)
  have e : a &&& 4294967295 = a % 4294967296 := Nat.and_two_pow_sub_one_eq_mod a 32
  rw [e] at h
  exact h
theorem divH (a : Nat) : (a : Int) / 4294967296 = ((a / 4294967296 : Nat) : Int) := by omega
theorem mulN (a b : Nat) : (a : Int) * (b : Int) = ((a * b : Nat) : Int) := (Int.natCast_mul a b).symm
theorem addN (a b : Nat) : (a : Int) + (b : Int) = ((a + b : Nat) : Int) := (Int.natCast_add a b).symm
theorem wrapN (a : Nat) : IntKind.u64.wrap (a : Int) = ((a % B : Nat) : Int) := by rw [IntKind.wrap_u64]; unfold B; omega
theorem wrapS (a : Nat) (ha : a < B) : IntKind.u64.wrap (a : Int) = (a : Int) := by rw [wrapN, Nat.mod_eq_of_lt ha]
set_option maxHeartbeats 1000000 in
theorem mul64_any (x y : Nat) (w : World) (hx : x < B) (hy : y < B) :
    Calls Try.prog 61 #[.int .u64 x, .int .u64 y] w fun e w' => e = .returned (.tuple #[.int .u64 ((x * y / B : Nat) : Int), .int .u64 ((x * y % B : Nat) : Int)]) ∧ w = w' := by
  have HX := Lib.hid hx; have HY := Lib.hid hy; clear hx hy
  go_enter Try.func61, Try.ntmps61
  go_wp2
  go_ret2
  refine ⟨ret2 (k := .u64) (k' := .u64) ?_ ?_, rfl⟩
  · have hx := HX.out; have hy := HY.out
    simp only [maskN, mod_lt, hx, hy, divH, mulN, addN, wrapN]
    obtain ⟨bd, bt, bw, hhi⟩ := Lib.mul64_hi x y hx hy
    have bp := Nat.mul_le_mul (show x / 4294967296 ≤ 4294967295 by unfold B at hx; omega) (show y / 4294967296 ≤ 4294967295 by unfold B at hy; omega)
    have bb := Nat.mul_le_mul (show x / 4294967296 ≤ 4294967295 by unfold B at hx; omega) (show y % 4294967296 ≤ 4294967295 by omega)
    have bc := Nat.mul_le_mul (show x % 4294967296 ≤ 4294967295 by omega) (show y / 4294967296 ≤ 4294967295 by unfold B at hy; omega)
    have hq : x * y / B < B := Nat.div_lt_of_lt_mul (Nat.mul_lt_mul'' hx hy)
    simp only [B_eq] at *
    generalize x % 4294967296 * (y % 4294967296) = p at *
    generalize x / 4294967296 * (y % 4294967296) = q at *
    generalize x % 4294967296 * (y / 4294967296) = r at *
    generalize x / 4294967296 * (y / 4294967296) = s at *
    generalize x * y / 18446744073709551616 = t at *
    omega
  · rw [mulN, wrapN]
end Go.Proofs.Ytbfdianmbpfjmaa
