/- What head tells: the number over the last bits, rounded down. -/
import Derived.Test.YtbfdianmbpfjmaaDoorGcd
import Derived.Test.YtbfdianmbpfjmaaDoorMathb
namespace Go.Proofs.YtbfdianmbpfjmaaDoor
open Go.RowKit Go.MagM
theorem zx_V (f : Nat → Nat) {n k : Nat} (hk : n ≤ k) : V (zx f n) k = V f n := by
  obtain ⟨d, rfl⟩ : ∃ d, k = n + d := ⟨k - n, by omega⟩
  rw [V_split, V_congr (f := zx f n) (g := f) (n := n) (fun i hi => if_pos hi), V_none (f := fun i => zx f n (n + i)) (fun i _ => if_neg (by omega))]; simp
theorem head_val (f : Nat → Nat) (n t s : Nat) (hf : ∀ i, i < n → f i < B) (hn : n ≤ t + 2) (hs : s ≤ 63) (htop : zx f n (t + 1) * 2 ^ s < B) :
    zx f n (t + 1) * 2 ^ s % B + zx f n t * 2 ^ s / B = V f n / (B ^ t * 2 ^ (64 - s)) := by
  have hz : ∀ i, zx f n i < B := zx_lt hf
  have h1 : V f n / B ^ t = zx f n t + zx f n (t + 1) * B := by
    rw [← zx_V f hn]
    have h2 := V_high (zx f n) (k := t) (n := 2) (fun i _ => hz i)
    rw [← h2, show (2 : Nat) = 1 + 1 from rfl, V_succ, V_one, Nat.pow_one]; rfl
  rw [← Nat.div_div_eq_div_mul, h1, Nat.mod_eq_of_lt htop, ← shr_eq _ s (by omega)]
  rw [show zx f n (t + 1) * B = 2 ^ (64 - s) * (zx f n (t + 1) * 2 ^ s) by rw [B_pow s (by omega), Nat.mul_left_comm]]
  rw [Nat.add_mul_div_left _ _ (Nat.pow_pos (by omega)), Nat.add_comm]
end Go.Proofs.YtbfdianmbpfjmaaDoor
