/- The product of two words, in two words. -/
import Derived.Test.YtecnnpkpgbbfkaaProg
import Derived.Test.YtecnnpkpgbbfkaaKit
import Derived.BigQuiet
import Derived.Deep.QuietTactic
import Derived.OwnWalk
import Derived.Laws.Externs
import Derived.Lib.Mul64
import Derived.Laws.Bits64b
import Derived.Test.YtecnnpkpgbbfkaaMath
namespace Go.Proofs.Ytecnnpkpgbbfkaa
open Go.RowKit Go.MagM
theorem ret2 {k k' : IntKind} {a a' b b' : Int} (h : a = a') (h' : b = b') : Ending.returned (.tuple #[.int k a, .int k' b]) = Ending.returned (.tuple #[.int k a', .int k' b']) := by rw [h, h']
theorem maskN (a : Nat) (ha : a < B) : bits .and .u64 (a : Int) 4294967295 = ((a % 4294967296 : Nat) : Int) := by
 have h := bits_and_u64_nat a 4294967295 (by unfold B at ha; omega) (by omega)
 have e : a &&& 4294967295 = a % 4294967296 := Nat.and_two_pow_sub_one_eq_mod a 32
 rw [e] at h
 exact h
theorem divH (a : Nat) : (a : Int) / 4294967296 = ((a / 4294967296 : Nat) : Int) := by omega
theorem mulN (a b : Nat) : (a : Int) * (b : Int) = ((a * b : Nat) : Int) := (Int.natCast_mul a b).symm
theorem addN (a b : Nat) : (a : Int) + (b : Int) = ((a + b : Nat) : Int) := (Int.natCast_add a b).symm
theorem wrapN (a : Nat) : IntKind.u64.wrap (a : Int) = ((a % B : Nat) : Int) := by rw [IntKind.wrap_u64]; unfold B; omega
set_option maxHeartbeats 1000000 in
theorem mul64_any (x y : Nat) (w : World) (hx : x < B) (hy : y < B) :
  Calls Try.prog 80 #[.int .u64 x, .int .u64 y] w fun e w' => e = .returned (.tuple #[.int .u64 ((x * y / B : Nat) : Int), .int .u64 ((x * y % B : Nat) : Int)]) ∧ w = w' := by
 have HX := Lib.hid hx; have HY := Lib.hid hy; clear hx hy
 go_enter Try.func80, Try.ntmps80
 go_wp2
 go_ret2
 refine ⟨ret2 (k := .u64) (k' := .u64) ?_ ?_, rfl⟩
 ·have hx := HX.out; have hy := HY.out
  simp only [maskN, mod_lt, hx, hy, divH, mulN, addN, wrapN]
  obtain ⟨bd, bt, bw, hhi⟩ := Lib.mul64_hi x y hx hy
  have bp := Nat.mul_le_mul (show x / 4294967296 ≤ 4294967295 by unfold B at hx; omega) (show y / 4294967296 ≤ 4294967295 by unfold B at hy; omega)
  have bb := Nat.mul_le_mul (show x / 4294967296 ≤ 4294967295 by unfold B at hx; omega) (show y % 4294967296 ≤ 4294967295 by omega)
  have bc := Nat.mul_le_mul (show x % 4294967296 ≤ 4294967295 by omega) (show y / 4294967296 ≤ 4294967295 by unfold B at hy; omega)
  have hq : x * y / B < B := Nat.div_lt_of_lt_mul (Nat.mul_lt_mul'' hx hy)
  simp only [B_eq] at *
  generalize x % 4294967296 * (y % 4294967296) = p at *
  generalize x / 4294967296 * (y % 4294967296) = q at *
  generalize x % 4294967296 * (y / 4294967296) = r at *
  generalize x / 4294967296 * (y / 4294967296) = s at *
  generalize x * y / 18446744073709551616 = t at *
  omega
 ·rw [mulN, wrapN]
end Go.Proofs.Ytecnnpkpgbbfkaa
/- Sums, differences, products in place: addTo, takeFrom, addTimes, takeTimes; Add, Sub, Mul. -/
namespace Go.Proofs.Ytecnnpkpgbbfkaa
open Go.RowKit Go.MagM
def sub64Entry : Array Value → Sem Value := fun args => do
 let (x, y, b) ← Extern.MathBitsCarry.three "Sub64" args
 pure (Extern.MathBitsCarry.pair ((x + Extern.MathBitsCarry.m64 - y - b) % Extern.MathBitsCarry.m64) (if x < y + b then 1 else 0))
/-- What is borrowed. -/
def bor (x y b : Nat) : Nat := if x < y + b then 1 else 0
theorem bor_le (x y b : Nat) : bor x y b ≤ 1 := by unfold bor; split <;> omega
theorem sub64_run (x y b : Nat) (hb : b ≤ 1) (w : World) :
  (callFunc 79 #[.int .u64 x, .int .u64 y, .int .u64 b]).run Try.prog w =
   .ok (.value (.tuple #[.int .u64 (((x + B - y - b) % B : Nat) : Int), .int .u64 ((bor x y b : Nat) : Int)])) w := by
 rw [run_callFunc_extern Try.func79 (by kernel_rfl) (by kernel_rfl) (by kernel_rfl) (e := sub64Entry) (by kernel_rfl)]
 have : b = 0 ∨ b = 1 := by omega
 rcases this with rfl | rfl <;> rfl
end Go.Proofs.Ytecnnpkpgbbfkaa
/- Plain mathematics of bits. No program. -/
namespace Go.MagM
/-- How many bits. -/
def bl (x : Nat) : Nat := if x = 0 then 0 else x.log2 + 1
theorem bl_lt (x : Nat) : x < 2 ^ bl x := by
 unfold bl; split
 ·rename_i h; rw [h]; simp
 ·exact Nat.lt_log2_self
theorem bl_ge {x : Nat} (h : x ≠ 0) : 2 ^ (bl x - 1) ≤ x := by
 unfold bl; rw [if_neg h]; exact Nat.log2_self_le h
theorem bl_pos {x : Nat} (h : x ≠ 0) : 1 ≤ bl x := by unfold bl; rw [if_neg h]; omega
theorem B_pow (n : Nat) (h : n ≤ 64) : B = 2 ^ (64 - n) * 2 ^ n := by
 rw [← Nat.pow_add, show 64 - n + n = 64 from by omega]; rfl
theorem shl_mod (x n : Nat) (h : n ≤ 64) : x * 2 ^ n % B = 2 ^ n * (x % 2 ^ (64 - n)) := by
 rw [B_pow n h, Nat.mul_mod_mul_right, Nat.mul_comm]
theorem shr_eq (y n : Nat) (h : n ≤ 64) : y / 2 ^ (64 - n) = y * 2 ^ n / B := by
 rw [B_pow n h, Nat.mul_div_mul_right _ _ (Nat.pow_pos (by omega))]
theorem shl_div_lt {y n : Nat} (hy : y < B) : y * 2 ^ n / B < 2 ^ n := by
 apply Nat.div_lt_of_lt_mul
 exact Nat.mul_lt_mul_of_pos_right hy (Nat.pow_pos (by omega))
theorem V_high (f : Nat → Nat) {k n : Nat} (hf : ∀ i, i < k + n → f i < B) : V (fun i => f (k + i)) n = V f (k + n) / B ^ k := by
 rw [V_split, Nat.add_mul_div_left _ _ (Bp k), Nat.div_eq_of_lt (V_lt (fun i hi => hf i (by omega))), Nat.zero_add]
end Go.MagM
