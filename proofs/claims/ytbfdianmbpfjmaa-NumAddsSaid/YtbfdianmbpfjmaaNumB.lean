/- The calls of num, on: Of, Sign, Cmp. -/
import Derived.Test.YtbfdianmbpfjmaaNumA
namespace Go.Proofs.Ytbfdianmbpfjmaa
open Go.RowKit Go.MagM
theorem neg_word (n : Int) (h : -9223372036854775808 ≤ n) (h0 : n < 0) : IntKind.u64.wrap (-IntKind.u64.wrap n) = ((n.natAbs : Nat) : Int) := by
  rw [IntKind.wrap_u64, IntKind.wrap_u64]; omega
theorem pos_word (n : Int) (h : n < 9223372036854775808) (h0 : 0 ≤ n) : IntKind.u64.wrap n = ((n.natAbs : Nat) : Int) := by
  rw [IntKind.wrap_u64]; omega
theorem word_lt (n : Int) (h : -9223372036854775808 ≤ n) (h1 : n < 9223372036854775808) : n.natAbs < B := by unfold B; omega
set_option maxHeartbeats 2000000 in
theorem Of_neg (n : Int) (k : Nat) (h0 : n < 0) (hk : IntKind.u64.wrap (-IntKind.u64.wrap n) = (k : Int)) (hkB : k < B) (w : World) :
    Calls Try.prog 28 #[.int .i64 n] w fun e w' => AnsNum w w' e 1 (-(k : Int)) := by
  obtain ⟨b1, hB0⟩ := boxed1 w (.bool false) (.slice none 0 0) 25
  have HK := Lib.hid hk; have HB := Lib.hid hkB; have B1 := Lib.hid b1; have H0 := Lib.hid hB0; clear hk hkB b1 hB0
  go_enter Try.func28, Try.ntmps28
  go_wp2_with fail
  rw [HK.out]
  refine (Of_any k _ HB.out).mono ?_
  rintro e w1 ⟨v1, rfl, h1, hb1⟩
  have b1 := B1.out.below hb1
  have hB1 := H0.out.trans (hb1.mono H0.out.size)
  clear hb1
  go_wp2_with fail
  refine (signed_any _ _ 1 _ _ h1).mono ?_
  rintro e w2 ⟨m2, ao2, n2, c2, rfl, h2, hb2⟩
  obtain ⟨p0, p1, p2, p3⟩ := b1.below hb2
  have hB2 := hB1.trans (hb2.mono hB1.size)
  clear hb2 b1 h1
  go_wp2
  exact bodyPost_ret (v := .agg #[.bool m2, .slice ao2 n2 c2]) (by simp [results, Try.results28, go_sem, p0, p1]) rfl ⟨_, _, _, _, rfl, (RNum.of h2 rfl).set2 ⟨p0, p1, p2, p3⟩ _ _, below_set2 hB2 (by omega) _ _⟩
set_option maxHeartbeats 2000000 in
theorem Of_pos (n : Int) (k : Nat) (h0 : 0 ≤ n) (hk : IntKind.u64.wrap n = (k : Int)) (hkB : k < B) (w : World) :
    Calls Try.prog 28 #[.int .i64 n] w fun e w' => AnsNum w w' e 1 ((k : Int)) := by
  obtain ⟨b1, hB0⟩ := boxed1 w (.bool false) (.slice none 0 0) 25
  have HK := Lib.hid hk; have HB := Lib.hid hkB; have B1 := Lib.hid b1; have H0 := Lib.hid hB0; clear hk hkB b1 hB0
  have h0' : ¬ n < 0 := by omega
  go_enter Try.func28, Try.ntmps28
  go_wp2_with fail
  rw [HK.out]
  refine (Of_any k _ HB.out).mono ?_
  rintro e w1 ⟨v1, rfl, h1, hb1⟩
  have b1 := B1.out.below hb1
  have hB1 := H0.out.trans (hb1.mono H0.out.size)
  clear hb1
  go_wp2_with fail
  refine (signed_any _ _ 1 _ _ h1).mono ?_
  rintro e w2 ⟨m2, ao2, n2, c2, rfl, h2, hb2⟩
  obtain ⟨p0, p1, p2, p3⟩ := b1.below hb2
  have hB2 := hB1.trans (hb2.mono hB1.size)
  clear hb2 b1 h1
  go_wp2
  exact bodyPost_ret (v := .agg #[.bool m2, .slice ao2 n2 c2]) (by simp [results, Try.results28, go_sem, p0, p1]) rfl ⟨_, _, _, _, rfl, (RNum.of h2 rfl).set2 ⟨p0, p1, p2, p3⟩ _ _, below_set2 hB2 (by omega) _ _⟩
theorem nOf_any (n : Int) (h : -9223372036854775808 ≤ n) (h1 : n < 9223372036854775808) (w : World) :
    Calls Try.prog 28 #[.int .i64 n] w fun e w' => AnsNum w w' e 1 n := by
  by_cases h0 : n < 0
  · exact (Of_neg n _ h0 (neg_word n h h0) (word_lt n h h1) w).mono fun e w' h => h.of (Nat.le_refl _) (by omega)
  · exact (Of_pos n _ (by omega) (pos_word n h1 (by omega)) (word_lt n h h1) w).mono fun e w' h => h.of (Nat.le_refl _) (by omega)
set_option maxHeartbeats 2000000 in
theorem Sign_zero (m : Bool) (vm : Value) (L N : Nat) (w : World) (hL : L ≤ 4000000000) (hm : Mag w vm L N) (h0 : N = 0) :
    Calls Try.prog 21 #[.agg #[.bool m, vm]] w fun e w' => e = .returned (.int .i64 (0)) ∧ Below w.heap.size w w' := by
  obtain ⟨b0, hB0⟩ := boxed1 w (.bool m) vm 25
  have hM := hm.below hB0
  have HM := Lib.hid hM; have H0 := Lib.hid hB0; clear hM hm b0 hB0
  subst h0
  have hb0 : (((bl 0 : Nat) : Int) == 0) = true := rfl
  go_enter Try.func21, Try.ntmps21
  go_wp2_with fail
  refine (Len_any _ L _ _ hL HM.out).mono ?_
  rintro e w' ⟨rfl, rfl⟩
  go_wp2
  go_ret
  exact ⟨rfl, H0.out⟩
set_option maxHeartbeats 2000000 in
theorem Sign_neg (m : Bool) (vm : Value) (L N : Nat) (w : World) (hL : L ≤ 4000000000) (hm : Mag w vm L N) (hmt : m = true) (h0 : N ≠ 0) :
    Calls Try.prog 21 #[.agg #[.bool m, vm]] w fun e w' => e = .returned (.int .i64 (-1)) ∧ Below w.heap.size w w' := by
  obtain ⟨b0, hB0⟩ := boxed1 w (.bool m) vm 25
  have hM := hm.below hB0
  have HM := Lib.hid hM; have H0 := Lib.hid hB0; clear hM hm b0 hB0
  subst hmt
  have hb0 : (((bl N : Nat) : Int) == 0) = false := by have := bl_pos h0; simp only [beq_eq_false_iff_ne]; omega
  go_enter Try.func21, Try.ntmps21
  go_wp2_with fail
  refine (Len_any _ L _ _ hL HM.out).mono ?_
  rintro e w' ⟨rfl, rfl⟩
  go_wp2
  go_ret
  exact ⟨rfl, H0.out⟩
set_option maxHeartbeats 2000000 in
theorem Sign_pos (m : Bool) (vm : Value) (L N : Nat) (w : World) (hL : L ≤ 4000000000) (hm : Mag w vm L N) (hmt : m = false) (h0 : N ≠ 0) :
    Calls Try.prog 21 #[.agg #[.bool m, vm]] w fun e w' => e = .returned (.int .i64 (1)) ∧ Below w.heap.size w w' := by
  obtain ⟨b0, hB0⟩ := boxed1 w (.bool m) vm 25
  have hM := hm.below hB0
  have HM := Lib.hid hM; have H0 := Lib.hid hB0; clear hM hm b0 hB0
  subst hmt
  have hb0 : (((bl N : Nat) : Int) == 0) = false := by have := bl_pos h0; simp only [beq_eq_false_iff_ne]; omega
  go_enter Try.func21, Try.ntmps21
  go_wp2_with fail
  refine (Len_any _ L _ _ hL HM.out).mono ?_
  rintro e w' ⟨rfl, rfl⟩
  go_wp2
  go_ret
  exact ⟨rfl, H0.out⟩
theorem sgn_sign (m : Bool) (N : Nat) : (sgn m N).sign = if N = 0 then 0 else if m then -1 else 1 := by
  cases N with
  | zero => cases m <;> rfl
  | succ N => cases m <;> simp [sgn] <;> rfl
theorem Sign_any (va : Value) (L : Nat) (X : Int) (w : World) (hL : L ≤ 4000000000) (ha : Num w va L X) :
    Calls Try.prog 21 #[va] w fun e w' => e = .returned (.int .i64 X.sign) ∧ Below w.heap.size w w' := by
  obtain ⟨m, vm, N, rfl, hm, rfl⟩ := ha
  rw [sgn_sign]
  by_cases h0 : N = 0
  · rw [if_pos h0]; exact Sign_zero m vm L N w hL hm h0
  · rw [if_neg h0]
    cases m with
    | true => exact Sign_neg true vm L N w hL hm rfl h0
    | false => exact Sign_pos false vm L N w hL hm rfl h0
/-- Less, as much, more: -1, 0, 1. -/
def icmp (x y : Int) : Int := if x < y then -1 else if y < x then 1 else 0
theorem icmp_lt {x y : Int} (h : x < y) : icmp x y = -1 := by simp [icmp, h]
theorem icmp_gt {x y : Int} (h : y < x) : icmp x y = 1 := by have : ¬ x < y := by omega
                                                             simp [icmp, h, this]
theorem icmp_self (x : Int) : icmp x x = 0 := by simp [icmp]
theorem cmp_Int (x y : Int) (w : World) :
    Calls Try.prog 42 #[.int .i64 x, .int .i64 y] w fun e w' => e = .returned (.int .i64 (icmp x y)) ∧ w = w' := by
  have hx : (x != x) = false := by simp
  have hy : (y != y) = false := by simp
  rcases Int.lt_trichotomy x y with h | h | h
  · have he := icmp_lt h
    have HE := Lib.hid he; clear he
    go_enter Try.func42, Try.ntmps42
    go_wp2_with go_in
    go_ret
    exact ⟨by rw [HE.out]; rfl, rfl⟩
  · subst h
    have he := icmp_self x
    have HE := Lib.hid he; clear he
    go_enter Try.func42, Try.ntmps42
    go_wp2_with go_in
    go_ret
    exact ⟨by rw [HE.out]; rfl, rfl⟩
  · have he := icmp_gt h
    have HE := Lib.hid he; clear he
    go_enter Try.func42, Try.ntmps42
    go_wp2_with go_in
    go_ret
    exact ⟨by rw [HE.out]; rfl, rfl⟩
end Go.Proofs.Ytbfdianmbpfjmaa
