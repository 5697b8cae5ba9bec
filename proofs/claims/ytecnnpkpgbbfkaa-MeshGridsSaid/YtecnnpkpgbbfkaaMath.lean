/- Plain mathematics of magnitudes: numbers written in words of 64 bits, the lowest first. No program. -/
namespace Go.MagM
/-- One more than the greatest word. -/
def B : Nat := 18446744073709551616
theorem B_pos : 0 < B := by unfold B; omega
theorem B_gt1 : 1 < B := by unfold B; omega
theorem B_eq : B = 18446744073709551616 := rfl
theorem Bp (n : Nat) : 0 < B ^ n := Nat.pow_pos B_pos
/-- What the first k words count. -/
def V (f : Nat → Nat) : Nat → Nat
 | 0 => 0
 | k + 1 => V f k + f k * B ^ k
theorem V_succ (f : Nat → Nat) (k : Nat) : V f (k + 1) = V f k + f k * B ^ k := rfl
theorem V_congr {f g : Nat → Nat} : ∀ {n : Nat}, (∀ i, i < n → f i = g i) → V f n = V g n
 | 0, _ => rfl
 | n + 1, h => by rw [V_succ, V_succ, V_congr (fun i hi => h i (by omega)), h n (by omega)]
theorem V_lt {f : Nat → Nat} : ∀ {n : Nat}, (∀ i, i < n → f i < B) → V f n < B ^ n
 | 0, _ => by simp [V]
 | n + 1, h => by
  have h1 := V_lt (n := n) (fun i hi => h i (by omega))
  have h2 : f n + 1 ≤ B := h n (by omega)
  have h3 := Nat.mul_le_mul_right (B ^ n) h2
  rw [V_succ, Nat.pow_succ, Nat.mul_comm (B ^ n) B]
  rw [Nat.add_mul] at h3
  omega
theorem V_split (f : Nat → Nat) (a : Nat) : ∀ b : Nat, V f (a + b) = V f a + B ^ a * V (fun i => f (a + i)) b
 | 0 => by simp [V]
 | b + 1 => by
  rw [← Nat.add_assoc, V_succ, V_split f a b, V_succ, Nat.pow_add, Nat.mul_add]
  have : f (a + b) * (B ^ a * B ^ b) = B ^ a * (f (a + b) * B ^ b) := by rw [Nat.mul_left_comm]
  omega
theorem V_one (f : Nat → Nat) : V f 1 = f 0 := by simp [V]
theorem V_none {f : Nat → Nat} : ∀ {n : Nat}, (∀ i, i < n → f i = 0) → V f n = 0
 | 0, _ => rfl
 | n + 1, h => by rw [V_succ, V_none (fun i hi => h i (by omega)), h n (by omega)]; simp
/-- The word k turned. -/
def upd (f : Nat → Nat) (k x : Nat) : Nat → Nat := fun i => if i = k then x else f i
theorem upd_same (f : Nat → Nat) (k x : Nat) : upd f k x k = x := by simp [upd]
theorem upd_other (f : Nat → Nat) (k x : Nat) {i : Nat} (h : i ≠ k) : upd f k x i = f i := by simp [upd, h]
/-- Without a 0 at the end. -/
def Right (f : Nat → Nat) (n : Nat) : Prop := ∀ k, n = k + 1 → f k ≠ 0
theorem Right.ge {f : Nat → Nat} {k : Nat} (h : Right f (k + 1)) : B ^ k ≤ V f (k + 1) := by
 have h1 : 1 ≤ f k := by have := h k rfl; omega
 have h2 := Nat.mul_le_mul_right (B ^ k) h1
 rw [V_succ]; omega
theorem len_le_of_lt {f : Nat → Nat} {n L : Nat} (rf : Right f n) (h : V f n < B ^ L) : n ≤ L := by
 cases n with
 | zero => omega
 | succ k =>
  have h1 := rf.ge
  have h2 : B ^ k < B ^ L := by omega
  have := (Nat.pow_lt_pow_iff_right B_gt1).1 h2
  omega
theorem mod_lt (x : Nat) : x % B < B := Nat.mod_lt _ B_pos
end Go.MagM
