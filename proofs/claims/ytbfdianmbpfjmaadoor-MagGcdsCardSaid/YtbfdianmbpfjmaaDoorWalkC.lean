/- Add, Sub, Mul: what they answer. -/
import Derived.Test.YtbfdianmbpfjmaaDoorWalkB
namespace Go.Proofs.YtbfdianmbpfjmaaDoor
open Go.RowKit Go.MagM
theorem copied_V (f : Nat → Nat) (n d : Nat) : V (fun i => if i < n then f i else 0) (n + d) = V f n := by
  rw [V_split, V_congr (g := f) (fun i hi => if_pos hi), V_none (fun i _ => if_neg (by omega))]; simp
set_option maxHeartbeats 1000000 in
/-- The second half of Add: the longer one is copied, the shorter one added. -/
theorem Add_end {n m : Nat} {f g f' : Nat → Nat} {cc X Y : Nat} (hcc : cc ≤ 1) (hmn : m ≤ n) (hf : ∀ i, i < n → f i < B) (hg : ∀ i, i < m → g i < B)
    (hX : V f n = X) (hY : V g m = Y) (h : V f' (n + 1) + cc * B ^ (n + 1) = V (fun i => if i < n then f i else 0) (n + 1) + V g m) : V f' (n + 1) = X + Y := by
  rw [copied_V, hX, hY] at h
  have h1 := V_lt hf; have h2 := V_lt hg
  have h3 : B ^ m ≤ B ^ n := Nat.pow_le_pow_right B_pos hmn
  have h4 : 2 * B ^ n ≤ B ^ (n + 1) := by
    rw [Nat.pow_succ, Nat.mul_comm (B ^ n) B]; exact Nat.mul_le_mul_right _ (by unfold B; omega)
  have h5 : cc = 0 ∨ cc = 1 := by omega
  rcases h5 with rfl | rfl <;> omega
end Go.Proofs.YtbfdianmbpfjmaaDoor
