/- Up, Down, Len, Zeros: what they answer. -/
import Derived.Test.YtbfdianmbpfjmaaWalkF
namespace Go.Proofs.Ytbfdianmbpfjmaa
open Go.RowKit Go.MagM
/-- How many bits the words have, the highest being none. -/
theorem bl_V {f : Nat → Nat} {k : Nat} (hf : ∀ i, i < k → f i < B) (h : f k ≠ 0) : bl (V f (k + 1)) = k * 64 + bl (f k) := by
  have h1 := V_lt hf
  have h2 := bl_lt (f k); have h3 := bl_ge h; have h4 := bl_pos h
  have hB : B ^ k = 2 ^ (k * 64) := by rw [Bpow_two, Nat.mul_comm]
  rw [hB] at h1
  rw [V_succ, hB]
  apply bl_unique
  · rw [Nat.pow_add]
    have h5 := Nat.mul_le_mul_right (2 ^ (k * 64)) (show f k + 1 ≤ 2 ^ bl (f k) from h2)
    rw [Nat.add_mul] at h5
    rw [Nat.mul_comm (2 ^ (k * 64)) (2 ^ bl (f k))]; omega
  · intro h0
    have := Nat.mul_pos (show 0 < f k by omega) (Nat.pow_pos (n := k * 64) (show 0 < 2 by omega)); omega
  · intro _
    refine ⟨?_, by omega⟩
    rw [show k * 64 + bl (f k) - 1 = bl (f k) - 1 + k * 64 from by omega, Nat.pow_add]
    have := Nat.mul_le_mul_right (2 ^ (k * 64)) h3; omega
set_option maxHeartbeats 1000000 in
theorem Len_any (va : Value) (L X : Nat) (w : World) (hL : L ≤ 4000000000) (ha : Mag w va L X) :
    Calls Try.prog 43 #[va] w fun e w' => e = .returned (.int .i64 ((bl X : Nat) : Int)) ∧ w = w' := by
  obtain ⟨ao, n0, ca, f, rfl, hnc, hnL, hra, hX⟩ := ha
  have htn := tlen_le f n0
  have rf := tlen_right f n0
  rw [← tlen_V] at hX
  have hra' := hra.less htn
  have T1 := Lib.hid (trim_any ao n0 ca w (by omega) f hnc hra)
  obtain ⟨n, hn⟩ : ∃ n, tlen f n0 = n := ⟨_, rfl⟩
  rw [hn] at T1 hX htn hra' rf
  have hn9 : n ≤ 4000000000 := by omega
  have HX := Lib.hid hX; have HA := Lib.hid hra'; have HR := Lib.hid rf
  clear hX hra' hn hra rf
  cases n with
  | zero =>
    have h0 : bl X = 0 := by rw [← HX.out]; rfl
    have H0 := Lib.hid h0; clear h0
    go_enter Try.func43, Try.ntmps43
    go_wp2_with fail
    refine T1.out.mono ?_
    rintro e w1 ⟨rfl, rfl⟩
    go_wp2
    go_ret
    exact ⟨by rw [H0.out]; rfl, rfl⟩
  | succ k =>
    have h0 : bl X = k * 64 + bl (f k) := by rw [← HX.out]; exact bl_V (fun i hi => HA.out.lt i (by omega)) (HR.out k rfl)
    obtain ⟨ab, aoff, rfl, hc, hl⟩ := HA.out k (by omega)
    have hb64 : bl (f k) ≤ 64 := by
      have h1 := bl_ge (HR.out k rfl)
      have h2 := (Nat.pow_lt_pow_iff_right (show 1 < 2 by omega)).1 (show 2 ^ (bl (f k) - 1) < 2 ^ 64 by unfold B at hl; omega)
      omega
    have H0 := Lib.hid h0; have HL := Lib.hid hl; clear h0 hl
    have hne : (((k : Int) + 1) == 0) = false := by simp only [beq_eq_false_iff_ne]; omega
    go_enter Try.func43, Try.ntmps43
    go_wp2_with fail
    refine T1.out.mono ?_
    rintro e w1 ⟨rfl, rfl⟩
    go_wp2_with (go_at_call 55; refine (len64_any _ _ HL.out).mono ?_; rintro e w1 ⟨rfl, rfl⟩)
    go_ret
    refine ⟨ret1 (k := .i64) ?_, rfl⟩
    rw [H0.out]; go_arith
/-- How many noughts are at a number's end. -/
def IsZeros (X z : Nat) : Prop := (X = 0 ∧ z = 0) ∨ ∃ m, X = 2 ^ z * (2 * m + 1)
end Go.Proofs.Ytbfdianmbpfjmaa
