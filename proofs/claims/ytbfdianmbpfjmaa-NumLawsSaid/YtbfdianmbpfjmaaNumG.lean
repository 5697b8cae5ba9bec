/- The calls of num, on: Int. -/
import Derived.Test.YtbfdianmbpfjmaaNumF
namespace Go.Proofs.Ytbfdianmbpfjmaa
open Go.RowKit Go.MagM
theorem word_of {w : World} {vm : Value} {L N : Nat} (h : Mag w vm L N) (h0 : N ≠ 0) (hB : N < B) : ∃ b o n c, vm = .slice (some ⟨b, o, none⟩) (n + 1) c ∧ w.cell? ⟨b, o, none⟩ = some (.int .u64 (N : Int)) ∧ n + 1 ≤ c := by
  obtain ⟨ao, n, c, f, rfl, hc, _, hr, hV⟩ := h
  cases n with
  | zero => exact absurd hV.symm h0
  | succ n =>
    obtain ⟨b, o, rfl, h1, h2⟩ := hr 0 (by omega)
    refine ⟨b, o, n, c, rfl, ?_, hc⟩
    have hs := V_split f 1 n
    rw [Nat.add_comm 1 n, hV, V_one, Nat.pow_one] at hs
    have h3 : f 0 = N := by
      have h4 : V (fun i => f (1 + i)) n = 0 := by
        rcases Nat.eq_zero_or_pos (V (fun i => f (1 + i)) n) with h | h
        · exact h
        · have := Nat.mul_le_mul_left B h
          omega
      rw [h4] at hs; omega
    rw [← h3]; exact h1
theorem bl_big {N : Nat} (h : 64 < bl N) : B ≤ N := by
  have h0 : N ≠ 0 := by intro e; subst e; simp [bl_zero] at h
  have h1 := bl_ge h0
  have h2 : 2 ^ 64 ≤ 2 ^ (bl N - 1) := Nat.pow_le_pow_right (by omega) (by omega)
  have h3 : B = 2 ^ 64 := rfl
  omega
theorem bl_small' {N : Nat} (h : bl N ≤ 64) : N < B := by
  have h1 := bl_lt N
  have h2 : 2 ^ bl N ≤ 2 ^ 64 := Nat.pow_le_pow_right (by omega) h
  have h3 : B = 2 ^ 64 := rfl
  omega
theorem neg_back (N : Nat) (h0 : N ≠ 0) (h : N ≤ 9223372036854775808) : IntKind.i64.wrap (IntKind.u64.wrap (-(N : Int))) = -(N : Int) := by
  rw [IntKind.wrap_i64, IntKind.wrap_u64]; omega
theorem pos_back (N : Nat) (h : N ≤ 9223372036854775807) : IntKind.i64.wrap (N : Int) = (N : Int) := by
  rw [IntKind.wrap_i64]; omega
set_option maxHeartbeats 4000000 in
theorem Int_zero (vm : Value) (L N : Nat) (w : World) (hL : L ≤ 4000000000) (hm : Mag w vm L N) (m : Bool) (h0 : N = 0) :
    Calls Try.prog 29 #[.agg #[.bool m, vm]] w fun e w' => e = .returned (.tuple #[.int .i64 (0), .bool true]) ∧ Below w.heap.size w w' := by
  obtain ⟨b0, hB0⟩ := boxed1 w (.bool m) vm 25
  have hM := hm.below hB0
  subst h0
  have hb0 : (((bl 0 : Nat) : Int) == 0) = true := rfl
  have HM := Lib.hid hM; have H0 := Lib.hid hB0; clear hM hm b0 hB0
  go_enter Try.func29, Try.ntmps29
  go_wp2_with fail
  refine (Len_any _ L _ _ hL HM.out).mono ?_
  rintro e w' ⟨rfl, rfl⟩
  go_wp2
  go_ret2
  exact ⟨rfl, H0.out⟩
set_option maxHeartbeats 4000000 in
theorem Int_long (vm : Value) (L N : Nat) (w : World) (hL : L ≤ 4000000000) (hm : Mag w vm L N) (m : Bool) (h : B ≤ N) :
    Calls Try.prog 29 #[.agg #[.bool m, vm]] w fun e w' => e = .returned (.tuple #[.int .i64 (0), .bool false]) ∧ Below w.heap.size w w' := by
  obtain ⟨b0, hB0⟩ := boxed1 w (.bool m) vm 25
  have hM := hm.below hB0
  have hb1 : (64 : Int) < ((bl N : Nat) : Int) := by
    have h2 : ¬ bl N ≤ 64 := fun h3 => by have := bl_small' h3; omega
    omega
  have h0 : N ≠ 0 := by have := B_pos; omega
  have hb0 : (((bl N : Nat) : Int) == 0) = false := by have := bl_pos h0; simp only [beq_eq_false_iff_ne]; omega
  clear h h0
  have HM := Lib.hid hM; have H0 := Lib.hid hB0; clear hM hm b0 hB0
  go_enter Try.func29, Try.ntmps29
  go_wp2_with fail
  refine (Len_any _ L _ _ hL HM.out).mono ?_
  rintro e w' ⟨rfl, rfl⟩
  go_wp2
  go_ret2
  exact ⟨rfl, H0.out⟩
set_option maxHeartbeats 4000000 in
theorem Int_pos (vm : Value) (L N : Nat) (w : World) (hL : L ≤ 4000000000) (hm : Mag w vm L N) (h0 : N ≠ 0) (hB : N < B) (h : N ≤ 9223372036854775807) :
    Calls Try.prog 29 #[.agg #[.bool false, vm]] w fun e w' => e = .returned (.tuple #[.int .i64 ((N : Int)), .bool true]) ∧ Below w.heap.size w w' := by
  obtain ⟨b0, hB0⟩ := boxed1 w (.bool false) vm 25
  have hM := hm.below hB0
  obtain ⟨b, o, n, c, rfl, hcell, hnc⟩ := word_of hM h0 hB
  have hb1 : ¬ (64 : Int) < ((bl N : Nat) : Int) := by
    intro h2; have := bl_big (N := N) (by omega); omega
  have hb0 : (((bl N : Nat) : Int) == 0) = false := by have := bl_pos h0; simp only [beq_eq_false_iff_ne]; omega
  clear hB hnc
  have HM := Lib.hid hM; have H0 := Lib.hid hB0; clear hM hm b0 hB0
  go_enter Try.func29, Try.ntmps29
  go_wp2_with fail
  refine (Len_any _ L _ _ hL HM.out).mono ?_
  rintro e w' ⟨rfl, rfl⟩
  go_wp2
  go_ret2
  exact ⟨rfl, H0.out⟩
set_option maxHeartbeats 4000000 in
theorem Int_pos_no (vm : Value) (L N : Nat) (w : World) (hL : L ≤ 4000000000) (hm : Mag w vm L N) (h0 : N ≠ 0) (hB : N < B) (h : 9223372036854775807 < N) :
    Calls Try.prog 29 #[.agg #[.bool false, vm]] w fun e w' => e = .returned (.tuple #[.int .i64 (0), .bool false]) ∧ Below w.heap.size w w' := by
  obtain ⟨b0, hB0⟩ := boxed1 w (.bool false) vm 25
  have hM := hm.below hB0
  obtain ⟨b, o, n, c, rfl, hcell, hnc⟩ := word_of hM h0 hB
  have hb1 : ¬ (64 : Int) < ((bl N : Nat) : Int) := by
    intro h2; have := bl_big (N := N) (by omega); omega
  have hb0 : (((bl N : Nat) : Int) == 0) = false := by have := bl_pos h0; simp only [beq_eq_false_iff_ne]; omega
  clear hB hnc
  have HM := Lib.hid hM; have H0 := Lib.hid hB0; clear hM hm b0 hB0
  go_enter Try.func29, Try.ntmps29
  go_wp2_with fail
  refine (Len_any _ L _ _ hL HM.out).mono ?_
  rintro e w' ⟨rfl, rfl⟩
  go_wp2
  go_ret2
  exact ⟨rfl, H0.out⟩
set_option maxHeartbeats 4000000 in
theorem Int_neg (vm : Value) (L N : Nat) (w : World) (hL : L ≤ 4000000000) (hm : Mag w vm L N) (h0 : N ≠ 0) (hB : N < B) (h : N ≤ 9223372036854775808) :
    Calls Try.prog 29 #[.agg #[.bool true, vm]] w fun e w' => e = .returned (.tuple #[.int .i64 (-(N : Int)), .bool true]) ∧ Below w.heap.size w w' := by
  obtain ⟨b0, hB0⟩ := boxed1 w (.bool true) vm 25
  have hM := hm.below hB0
  obtain ⟨b, o, n, c, rfl, hcell, hnc⟩ := word_of hM h0 hB
  have hb1 : ¬ (64 : Int) < ((bl N : Nat) : Int) := by
    intro h2; have := bl_big (N := N) (by omega); omega
  have hb0 : (((bl N : Nat) : Int) == 0) = false := by have := bl_pos h0; simp only [beq_eq_false_iff_ne]; omega
  have hlast : IntKind.i64.wrap (IntKind.u64.wrap (-(N : Int))) = -(N : Int) := neg_back N h0 h
  have HLA := Lib.hid hlast
  clear hB hlast hnc
  have HM := Lib.hid hM; have H0 := Lib.hid hB0; clear hM hm b0 hB0
  go_enter Try.func29, Try.ntmps29
  go_wp2_with fail
  refine (Len_any _ L _ _ hL HM.out).mono ?_
  rintro e w' ⟨rfl, rfl⟩
  go_wp2
  go_ret2
  have hz : wrap64 (IntKind.u64.wrap (-(N : Int))) = -(N : Int) := by rw [← IntWalk.i64_left, HLA.out]
  exact ⟨congrArg (fun z => Ending.returned (.tuple #[.int .i64 z, .bool true])) hz, H0.out⟩
set_option maxHeartbeats 4000000 in
theorem Int_neg_no (vm : Value) (L N : Nat) (w : World) (hL : L ≤ 4000000000) (hm : Mag w vm L N) (h0 : N ≠ 0) (hB : N < B) (h : 9223372036854775808 < N) :
    Calls Try.prog 29 #[.agg #[.bool true, vm]] w fun e w' => e = .returned (.tuple #[.int .i64 (0), .bool false]) ∧ Below w.heap.size w w' := by
  obtain ⟨b0, hB0⟩ := boxed1 w (.bool true) vm 25
  have hM := hm.below hB0
  obtain ⟨b, o, n, c, rfl, hcell, hnc⟩ := word_of hM h0 hB
  have hb1 : ¬ (64 : Int) < ((bl N : Nat) : Int) := by
    intro h2; have := bl_big (N := N) (by omega); omega
  have hb0 : (((bl N : Nat) : Int) == 0) = false := by have := bl_pos h0; simp only [beq_eq_false_iff_ne]; omega
  clear hB hnc
  have HM := Lib.hid hM; have H0 := Lib.hid hB0; clear hM hm b0 hB0
  go_enter Try.func29, Try.ntmps29
  go_wp2_with fail
  refine (Len_any _ L _ _ hL HM.out).mono ?_
  rintro e w' ⟨rfl, rfl⟩
  go_wp2
  go_ret2
  exact ⟨rfl, H0.out⟩
theorem nInt_yes (va : Value) (L : Nat) (X : Int) (w : World) (hL : L ≤ 4000000000) (ha : Num w va L X) (h1 : -9223372036854775808 ≤ X) (h2 : X < 9223372036854775808) :
    Calls Try.prog 29 #[va] w fun e w' => e = .returned (.tuple #[.int .i64 X, .bool true]) ∧ Below w.heap.size w w' := by
  obtain ⟨m, vm, N, rfl, hm, rfl⟩ := ha
  by_cases h0 : N = 0
  · have e : sgn m N = 0 := by subst h0; cases m <;> rfl
    rw [e]; exact Int_zero vm L N w hL hm m h0
  · cases m with
    | false =>
      rw [sgn_false] at h1 h2 ⊢
      exact Int_pos vm L N w hL hm h0 (by unfold B; omega) (by omega)
    | true =>
      rw [sgn_true] at h1 h2 ⊢
      exact Int_neg vm L N w hL hm h0 (by unfold B; omega) (by omega)
theorem nInt_no (va : Value) (L : Nat) (X : Int) (w : World) (hL : L ≤ 4000000000) (ha : Num w va L X) (h : X < -9223372036854775808 ∨ 9223372036854775808 ≤ X) :
    Calls Try.prog 29 #[va] w fun e w' => e = .returned (.tuple #[.int .i64 0, .bool false]) ∧ Below w.heap.size w w' := by
  obtain ⟨m, vm, N, rfl, hm, rfl⟩ := ha
  by_cases hB : N < B
  · cases m with
    | false =>
      rw [sgn_false] at h
      exact Int_pos_no vm L N w hL hm (by omega) hB (by omega)
    | true =>
      rw [sgn_true] at h
      exact Int_neg_no vm L N w hL hm (by omega) hB (by omega)
  · exact Int_long vm L N w hL hm m (by omega)
end Go.Proofs.Ytbfdianmbpfjmaa
