/- The statements MagShifts, MagEdges, walked. -/
import Derived.Test.YthbjiogpekhbeaaDoorLawC
namespace Go.Proofs.YthbjiogpekhbeaaDoor
open Go.RowKit Go.MagM
theorem two_lt_words (n k : Nat) (h : n < 64 * k) : 2 ^ n < B ^ k := by
  rw [Bpow_two]; exact Nat.pow_lt_pow_right (by omega) h
theorem bl_words {X k : Nat} (h : X < B ^ k) : bl X ≤ 64 * k := by
  rw [Bpow_two] at h; exact bl_le_of_lt h
theorem two_lt (n : Nat) (h : n ≤ 511) : 2 ^ n < B ^ 9 := two_lt_words n 9 (by omega)
set_option maxHeartbeats 1000000 in
theorem power_any (n : Nat) (w : World) (hn : n ≤ 511) :
    Calls Tryd.prog 28 #[.int .i64 n] w fun e w' => ∃ v, e = .returned v ∧ RMag w' v 9 (2 ^ n) ∧ Below w.heap.size w w' := by
  go_enter Tryd.func28, Tryd.ntmps28
  go_wp2
  go_loopw [3, 6] (fun o i wr => ∃ k : Nat, k ≤ n ∧ i = .int .i64 k ∧ RMag wr o 9 (2 ^ k) ∧ Below w.heap.size w wr) (fun _ i _ => n - (intOf i).toNat)
  case atStart =>
    refine ⟨0, Nat.zero_le _, by go_num, ⟨_, 1, 1, fun _ => 1, rfl, Nat.le_refl _, by omega, ?_, by simp [V], fun _ _ => Nat.one_ne_zero⟩, (Below.refl _ _).alloc (Nat.le_refl _) _⟩
    intro i hi
    refine ⟨w.heap.size, 0, rfl, ?_, B_gt1⟩
    have : i = 0 := by omega
    subst this
    exact World.cell?_alloc_new w _ _ _
  case round =>
    obtain ⟨k, hk, rfl, hv, hb⟩ := hrel
    by_cases hlt : k < n
    · go_wp2_with fail
      refine (Add_any _ _ 9 9 (2 ^ k) (2 ^ k) _ (by omega) (by omega) hv.mag hv.mag).mono ?_
      rintro e w2 ⟨v2, rfl, hv2, hb2⟩
      have hb3 := hb.trans (hb2.mono hb.size)
      have e2 : 2 ^ k + 2 ^ k = 2 ^ (k + 1) := by rw [Nat.pow_succ]; omega
      rw [e2] at hv2
      have hv3 := hv2.short (two_lt (k + 1) (by omega))
      clear hv hb hb2 hv2 e2
      go_wp2
      exact ⟨⟨k + 1, by omega, by go_num, hv3, hb3⟩, by simp [intOf]; omega⟩
    · have hkn : k = n := by omega
      subst hkn
      go_wp2
      go_ret
      exact ⟨_, rfl, hv, hb⟩
theorem shn_sub (k : Nat) (h : k ≤ 511) : shn ((k : Int) - 20) = k - 20 := by unfold shn; omega
theorem bl_top {X : Nat} (h : X ≠ 0) : X / 2 ^ (bl X - 1) = 1 := by
  have h1 := bl_lt X; have h2 := bl_ge h; have h3 := bl_pos h
  have hp : 0 < 2 ^ (bl X - 1) := Nat.pow_pos (by omega)
  apply Nat.div_eq_of_lt_le
  · omega
  · have : 2 ^ bl X = 2 ^ (bl X - 1) * 2 := by rw [← Nat.pow_succ]; congr 1; omega
    omega
theorem bl_up {N k : Nat} (h : N ≠ 0) : bl (N * 2 ^ k) = bl N + k := by
  have hp : 0 < 2 ^ k := Nat.pow_pos (by omega)
  have h1 : 2 ^ k ≤ N * 2 ^ k := Nat.le_mul_of_pos_left _ (by omega)
  have h2 := bl_shift k h1
  rw [Nat.mul_div_cancel _ hp] at h2
  omega
/-- The lowest word of an odd number is odd. -/
theorem odd_low {f : Nat → Nat} {n m : Nat} (hf : ∀ i, i < n → f i < B) (h : V f n = 2 * m + 1) : 0 < n ∧ bits .and .u64 ((f 0 : Nat) : Int) 1 = 1 := by
  cases n with
  | zero => exfalso; simp [V] at h
  | succ k =>
    refine ⟨by omega, ?_⟩
    have h1 := V_low f 0 k
    simp only [Nat.zero_add] at h1
    rw [h1] at h
    have h2 : f 0 % 2 = 1 := by unfold B at h; omega
    have h3 := bits_and_u64_nat (f 0) 1 (by have := hf 0 (by omega); unfold B at this; omega) (by omega)
    have h4 : f 0 &&& 1 = f 0 % 2 := Nat.and_two_pow_sub_one_eq_mod (f 0) 1
    rw [h4, h2] at h3
    exact h3
set_option maxHeartbeats 4000000 in
theorem MagShifts_walk (ao : Option Addr) (an ac : Nat) (f : Nat → Nat) (x1 : Int) (hw1 : (Lit.int .i64 x1).wf = true) (w : World) (ahc : an ≤ ac) (ar : Reads w ao an f) (hT : Tab w) :
    Calls Tryd.prog 9 #[.slice ao an ac, .int .i64 x1] w fun e w' => e = .returned (.bool true) ∧ Below w.heap.size w w' := by
  have hB := Below.refl w.heap.size w
  obtain ⟨X, hX⟩ : ∃ X, V f an = X := ⟨_, rfl⟩
  have am : Mag w (.slice ao an ac) an X := ⟨ao, an, ac, f, rfl, ahc, Nat.le_refl _, ar, hX⟩
  clear ahc ar hX
  obtain ⟨n, hn, hmask⟩ := mask9 x1
  clear hw1
  have hsn := shn_sub n hn
  have HSN := Lib.hid hsn
  clear hsn
  obtain ⟨mm, hmm⟩ : ∃ mm, n - 20 = mm := ⟨_, rfl⟩
  have HMM := Lib.hid hmm
  have hmm5 : mm ≤ 511 := by omega
  have hwr : IntKind.i64.wrap ((n : Int) - 20) = (n : Int) - 20 := IntWalk.i64_in _ (by omega)
  by_cases h20 : n < 20
  · skip
    have hx1 : (n : Int) - 20 < 0 := by omega
    obtain rfl : mm = 0 := by omega
    clear hmm
    go_enter Tryd.func9, Tryd.ntmps9
    go_wp2_with fail
    refine (fit_any _ hT).mono ?_
    rintro e w1 ⟨rfl, hb1⟩
    replace hT := hT.below hb1
    replace am := am.below hb1
    replace hB := hB.trans (hb1.mono hB.size)
    clear hb1
    by_cases hsh : an ≤ 8
    rotate_left
    · skip
      go_wp2_with fail
      refine (short1_no 8 ao an ac w1 22 (by omega) hsh).mono ?_
      rintro e w2 ⟨rfl, hw'⟩
      have hb2 : Below w1.heap.size w1 w2 := by rw [← hw']; exact (Below.refl _ _).alloc (Nat.le_refl _) _
      clear hw'
      replace hT := hT.below hb2
      replace am := am.below hb2
      replace hB := hB.trans (hb2.mono hB.size)
      clear hb2
      go_wp2
      go_ret
      exact ⟨rfl, hB⟩
    go_wp2_with fail
    refine (short1_yes 8 ao an ac w1 22 (by omega) (by omega)).mono ?_
    rintro e w2 ⟨rfl, hw'⟩
    have hb2 : Below w1.heap.size w1 w2 := by rw [← hw']; exact (Below.refl _ _).alloc (Nat.le_refl _) _
    clear hw'
    replace hT := hT.below hb2
    replace am := am.below hb2
    replace hB := hB.trans (hb2.mono hB.size)
    clear hb2
    replace am := am.more hsh
    go_wp2_with fail
    all_goals try (exfalso; omega)
    refine (power_any 0 _ hmm5).mono ?_
    rintro e w3 ⟨vp, rfl, hp, hb3⟩
    replace hT := hT.below hb3
    replace am := am.below hb3
    replace hB := hB.trans (hb3.mono hB.size)
    clear hb3
    go_wp2_with fail
    refine (Div_any _ _ 8 9 X (2 ^ 0) _ (by omega) (by omega) am hp.mag).mono ?_
    rintro e w4 ⟨vq, vr, rfl, hq, hr, hb4⟩
    replace hT := hT.below hb4
    replace am := am.below hb4
    replace hp := hp.below hb4
    replace hB := hB.trans (hb4.mono hB.size)
    clear hb4
    go_wp2_with fail
    refine (Up_any _ 8 X ((n : Int) - 20) _ (by omega) am).mono ?_
    rintro e w5 ⟨v1, rfl, h1, hb5⟩
    replace hT := hT.below hb5
    replace am := am.below hb5
    replace hp := hp.below hb5
    replace hq := hq.below hb5
    replace hr := hr.below hb5
    replace hB := hB.trans (hb5.mono hB.size)
    clear hb5
    rw [HSN.out, HMM.out] at h1
    go_wp2_with fail
    refine (Mul_any _ _ 8 9 X (2 ^ 0) _ (by omega) (by omega) am hp.mag).mono ?_
    rintro e w6 ⟨v2, rfl, h2, hb6⟩
    replace hT := hT.below hb6
    replace am := am.below hb6
    replace hp := hp.below hb6
    replace hq := hq.below hb6
    replace hr := hr.below hb6
    replace h1 := h1.below hb6
    replace hB := hB.trans (hb6.mono hB.size)
    clear hb6
    go_wp2_with fail
    refine (same_any _ _ _ _ (X * 2 ^ 0) _ (by omega) h1 h2).mono ?_
    rintro e w7 ⟨q, rfl, hq'⟩
    obtain ⟨hb7, hz⟩ := drewN_size hq'
    clear hq' hz
    replace hT := hT.below hb7
    replace am := am.below hb7
    replace hp := hp.below hb7
    replace hq := hq.below hb7
    replace hr := hr.below hb7
    replace h1 := h1.below hb7
    replace h2 := h2.below hb7
    replace hB := hB.trans (hb7.mono hB.size)
    clear hb7
    go_wp2_with fail
    refine (Down_any _ 8 X ((n : Int) - 20) _ (by omega) am).mono ?_
    rintro e w8 ⟨v3, rfl, h3, hb8⟩
    replace hT := hT.below hb8
    replace am := am.below hb8
    replace hp := hp.below hb8
    replace hq := hq.below hb8
    replace hr := hr.below hb8
    replace h1 := h1.below hb8
    replace h2 := h2.below hb8
    replace hB := hB.trans (hb8.mono hB.size)
    clear hb8
    rw [HSN.out, HMM.out] at h3
    go_wp2_with fail
    refine (same_any _ _ _ _ (X / 2 ^ 0) _ (by omega) h3 hq).mono ?_
    rintro e w9 ⟨q, rfl, hq'⟩
    obtain ⟨hb9, hz⟩ := drewN_size hq'
    clear hq' hz
    replace hT := hT.below hb9
    replace am := am.below hb9
    replace hp := hp.below hb9
    replace hq := hq.below hb9
    replace hr := hr.below hb9
    replace h1 := h1.below hb9
    replace h2 := h2.below hb9
    replace h3 := h3.below hb9
    replace hB := hB.trans (hb9.mono hB.size)
    clear hb9
    clear hq hr h1 h2 h3 hp
    by_cases hX0 : X = 0
    · skip
      subst hX0
      go_wp2_with fail
      have cc := Len_any _ 8 0 _ (by omega) am
      rw [show bl 0 = 0 from rfl] at cc
      refine cc.mono ?_
      clear cc
      rintro e w' ⟨rfl, rfl⟩
      go_wp2_with fail
      refine (Zeros_any _ 8 0 _ (by omega) am hT).mono ?_
      rintro e w' ⟨z, rfl, hz, _, rfl⟩
      have hz0 : z = 0 := zeros_unique hz (.inl ⟨rfl, rfl⟩)
      subst hz0
      clear hz
      go_wp2_with fail
      refine (Add_any _ _ 8 0 0 0 _ (by omega) (by omega) am (nil_mag _)).mono ?_
      rintro e w10 ⟨v4, rfl, h4, hb10⟩
      replace hT := hT.below hb10
      replace am := am.below hb10
      replace hB := hB.trans (hb10.mono hB.size)
      clear hb10
      obtain ⟨qo, qc, rfl⟩ := RMag.zero h4
      clear h4
      go_wp2
      go_ret
      exact ⟨rfl, hB⟩
    · skip
      have hblp := bl_pos hX0
      have hbl5 := bl_words am.lt
      have hbne : (((bl X : Nat) : Int) == 0) = false := by simp only [beq_eq_false_iff_ne]; omega
      have hwb : IntKind.i64.wrap (((bl X : Nat) : Int) - 1) = ((bl X : Nat) : Int) - 1 := IntWalk.i64_in _ (by omega)
      go_wp2_with fail
      refine (Len_any _ 8 X _ (by omega) am).mono ?_
      rintro e w' ⟨rfl, rfl⟩
      go_wp2_with fail
      refine (Zeros_any _ 8 X _ (by omega) am hT).mono ?_
      rintro e w' ⟨z, rfl, hz, hz8, rfl⟩
      have HZ := Lib.hid hz; clear hz
      go_wp2_with fail
      refine (Down_any _ 8 X (((bl X : Nat) : Int) - 1) _ (by omega) am).mono ?_
      rintro e w10 ⟨v5, rfl, h5, hb10⟩
      replace hT := hT.below hb10
      replace am := am.below hb10
      replace hB := hB.trans (hb10.mono hB.size)
      clear hb10
      rw [show shn (((bl X : Nat) : Int) - 1) = bl X - 1 by unfold shn; omega, bl_top hX0] at h5
      go_wp2_with fail
      refine (Down_any _ 8 X (z : Int) _ (by omega) am).mono ?_
      rintro e w11 ⟨v6, rfl, h6, hb11⟩
      replace hT := hT.below hb11
      replace am := am.below hb11
      replace h5 := h5.below hb11
      replace hB := hB.trans (hb11.mono hB.size)
      clear hb11
      rw [shn_nat z (by omega)] at h6
      go_wp2_with fail
      refine (Of_any 1 _ (by unfold B; omega)).mono ?_
      rintro e w12 ⟨v7, rfl, h7, hb12⟩
      replace hT := hT.below hb12
      replace am := am.below hb12
      replace h5 := h5.below hb12
      replace h6 := h6.below hb12
      replace hB := hB.trans (hb12.mono hB.size)
      clear hb12
      go_wp2_with fail
      refine (same_any _ _ _ _ 1 _ (by omega) h5 h7).mono ?_
      rintro e w13 ⟨q, rfl, hq'⟩
      obtain ⟨hb13, hz⟩ := drewN_size hq'
      clear hq' hz
      replace hT := hT.below hb13
      replace am := am.below hb13
      replace h5 := h5.below hb13
      replace h6 := h6.below hb13
      replace h7 := h7.below hb13
      replace hB := hB.trans (hb13.mono hB.size)
      clear hb13
      obtain ⟨m, hm⟩ : ∃ m, X = 2 ^ z * (2 * m + 1) := by
        rcases HZ.out with ⟨a, _⟩ | a
        · exact absurd a hX0
        · exact a
      have hpz : 0 < 2 ^ z := Nat.pow_pos (by omega)
      have hlow : X / 2 ^ z = 2 * m + 1 := by rw [hm, Nat.mul_div_cancel_left _ hpz]
      have h6k := h6
      obtain ⟨lo, ln, lc, lf, rfl, _, _, lr, lV, _⟩ := h6
      obtain ⟨hln, hand⟩ := odd_low lr.lt (lV.trans hlow)
      obtain ⟨lb, lof, rfl, lcell, _⟩ := lr 0 hln
      rw [Nat.add_zero] at lcell
      have HM := Lib.hid hm; have HLOW := Lib.hid hlow; have HLR := Lib.hid lr; have HLV := Lib.hid lV; have H6 := Lib.hid h6k
      clear hm hlow lr lV h6k
      go_wp2_with fail
      refine (Up_any _ 8 (X / 2 ^ z) (z : Int) _ (by omega) H6.out.mag).mono ?_
      rintro e w14 ⟨v8, rfl, h8, hb14⟩
      rw [shn_nat z (by omega), HLOW.out, Nat.mul_comm, ← HM.out] at h8
      clear hand lcell
      replace hT := hT.below hb14
      replace am := am.below hb14
      replace h5 := h5.below hb14
      replace h7 := h7.below hb14
      replace hB := hB.trans (hb14.mono hB.size)
      clear hb14
      go_wp2_with fail
      refine (Add_any _ _ 8 0 X 0 _ (by omega) (by omega) am (nil_mag _)).mono ?_
      rintro e w15 ⟨v9, rfl, h9, hb15⟩
      replace hT := hT.below hb15
      replace am := am.below hb15
      replace h5 := h5.below hb15
      replace h7 := h7.below hb15
      replace h8 := h8.below hb15
      replace hB := hB.trans (hb15.mono hB.size)
      clear hb15
      go_wp2_with fail
      refine (same_any _ _ _ _ X _ (by omega) h8 (RMag_eq h9 rfl)).mono ?_
      rintro e w16 ⟨q, rfl, hq'⟩
      obtain ⟨hb16, hz⟩ := drewN_size hq'
      clear hq' hz
      replace hT := hT.below hb16
      replace am := am.below hb16
      replace h5 := h5.below hb16
      replace h7 := h7.below hb16
      replace h8 := h8.below hb16
      replace h9 := h9.below hb16
      replace hB := hB.trans (hb16.mono hB.size)
      clear hb16
      go_wp2
      go_ret
      exact ⟨rfl, hB⟩
  · skip
    obtain rfl : n = mm + 20 := by omega
    clear HSN HMM hmm h20 hwr
    have HSN := Lib.hid (shn_nat mm (by omega))
    go_enter Tryd.func9, Tryd.ntmps9
    go_wp2_with fail
    refine (fit_any _ hT).mono ?_
    rintro e w1 ⟨rfl, hb1⟩
    replace hT := hT.below hb1
    replace am := am.below hb1
    replace hB := hB.trans (hb1.mono hB.size)
    clear hb1
    by_cases hsh : an ≤ 8
    rotate_left
    · skip
      go_wp2_with fail
      refine (short1_no 8 ao an ac w1 22 (by omega) hsh).mono ?_
      rintro e w2 ⟨rfl, hw'⟩
      have hb2 : Below w1.heap.size w1 w2 := by rw [← hw']; exact (Below.refl _ _).alloc (Nat.le_refl _) _
      clear hw'
      replace hT := hT.below hb2
      replace am := am.below hb2
      replace hB := hB.trans (hb2.mono hB.size)
      clear hb2
      go_wp2
      go_ret
      exact ⟨rfl, hB⟩
    go_wp2_with fail
    refine (short1_yes 8 ao an ac w1 22 (by omega) (by omega)).mono ?_
    rintro e w2 ⟨rfl, hw'⟩
    have hb2 : Below w1.heap.size w1 w2 := by rw [← hw']; exact (Below.refl _ _).alloc (Nat.le_refl _) _
    clear hw'
    replace hT := hT.below hb2
    replace am := am.below hb2
    replace hB := hB.trans (hb2.mono hB.size)
    clear hb2
    replace am := am.more hsh
    go_wp2_with fail
    all_goals try (exfalso; omega)
    refine (power_any mm _ hmm5).mono ?_
    rintro e w3 ⟨vp, rfl, hp, hb3⟩
    replace hT := hT.below hb3
    replace am := am.below hb3
    replace hB := hB.trans (hb3.mono hB.size)
    clear hb3
    go_wp2_with fail
    refine (Div_any _ _ 8 9 X (2 ^ mm) _ (by omega) (by omega) am hp.mag).mono ?_
    rintro e w4 ⟨vq, vr, rfl, hq, hr, hb4⟩
    replace hT := hT.below hb4
    replace am := am.below hb4
    replace hp := hp.below hb4
    replace hB := hB.trans (hb4.mono hB.size)
    clear hb4
    go_wp2_with fail
    refine (Up_any _ 8 X (mm : Int) _ (by omega) am).mono ?_
    rintro e w5 ⟨v1, rfl, h1, hb5⟩
    replace hT := hT.below hb5
    replace am := am.below hb5
    replace hp := hp.below hb5
    replace hq := hq.below hb5
    replace hr := hr.below hb5
    replace hB := hB.trans (hb5.mono hB.size)
    clear hb5
    rw [HSN.out] at h1
    go_wp2_with fail
    refine (Mul_any _ _ 8 9 X (2 ^ mm) _ (by omega) (by omega) am hp.mag).mono ?_
    rintro e w6 ⟨v2, rfl, h2, hb6⟩
    replace hT := hT.below hb6
    replace am := am.below hb6
    replace hp := hp.below hb6
    replace hq := hq.below hb6
    replace hr := hr.below hb6
    replace h1 := h1.below hb6
    replace hB := hB.trans (hb6.mono hB.size)
    clear hb6
    go_wp2_with fail
    refine (same_any _ _ _ _ (X * 2 ^ mm) _ (by omega) h1 h2).mono ?_
    rintro e w7 ⟨q, rfl, hq'⟩
    obtain ⟨hb7, hz⟩ := drewN_size hq'
    clear hq' hz
    replace hT := hT.below hb7
    replace am := am.below hb7
    replace hp := hp.below hb7
    replace hq := hq.below hb7
    replace hr := hr.below hb7
    replace h1 := h1.below hb7
    replace h2 := h2.below hb7
    replace hB := hB.trans (hb7.mono hB.size)
    clear hb7
    go_wp2_with fail
    refine (Down_any _ 8 X (mm : Int) _ (by omega) am).mono ?_
    rintro e w8 ⟨v3, rfl, h3, hb8⟩
    replace hT := hT.below hb8
    replace am := am.below hb8
    replace hp := hp.below hb8
    replace hq := hq.below hb8
    replace hr := hr.below hb8
    replace h1 := h1.below hb8
    replace h2 := h2.below hb8
    replace hB := hB.trans (hb8.mono hB.size)
    clear hb8
    rw [HSN.out] at h3
    go_wp2_with fail
    refine (same_any _ _ _ _ (X / 2 ^ mm) _ (by omega) h3 hq).mono ?_
    rintro e w9 ⟨q, rfl, hq'⟩
    obtain ⟨hb9, hz⟩ := drewN_size hq'
    clear hq' hz
    replace hT := hT.below hb9
    replace am := am.below hb9
    replace hp := hp.below hb9
    replace hq := hq.below hb9
    replace hr := hr.below hb9
    replace h1 := h1.below hb9
    replace h2 := h2.below hb9
    replace h3 := h3.below hb9
    replace hB := hB.trans (hb9.mono hB.size)
    clear hb9
    clear hq hr h1 h2 h3 hp
    by_cases hX0 : X = 0
    · skip
      subst hX0
      go_wp2_with fail
      have cc := Len_any _ 8 0 _ (by omega) am
      rw [show bl 0 = 0 from rfl] at cc
      refine cc.mono ?_
      clear cc
      rintro e w' ⟨rfl, rfl⟩
      go_wp2_with fail
      refine (Zeros_any _ 8 0 _ (by omega) am hT).mono ?_
      rintro e w' ⟨z, rfl, hz, _, rfl⟩
      have hz0 : z = 0 := zeros_unique hz (.inl ⟨rfl, rfl⟩)
      subst hz0
      clear hz
      go_wp2_with fail
      refine (Add_any _ _ 8 0 0 0 _ (by omega) (by omega) am (nil_mag _)).mono ?_
      rintro e w10 ⟨v4, rfl, h4, hb10⟩
      replace hT := hT.below hb10
      replace am := am.below hb10
      replace hB := hB.trans (hb10.mono hB.size)
      clear hb10
      obtain ⟨qo, qc, rfl⟩ := RMag.zero h4
      clear h4
      go_wp2
      go_ret
      exact ⟨rfl, hB⟩
    · skip
      have hblp := bl_pos hX0
      have hbl5 := bl_words am.lt
      have hbne : (((bl X : Nat) : Int) == 0) = false := by simp only [beq_eq_false_iff_ne]; omega
      have hwb : IntKind.i64.wrap (((bl X : Nat) : Int) - 1) = ((bl X : Nat) : Int) - 1 := IntWalk.i64_in _ (by omega)
      go_wp2_with fail
      refine (Len_any _ 8 X _ (by omega) am).mono ?_
      rintro e w' ⟨rfl, rfl⟩
      go_wp2_with fail
      refine (Zeros_any _ 8 X _ (by omega) am hT).mono ?_
      rintro e w' ⟨z, rfl, hz, hz8, rfl⟩
      have HZ := Lib.hid hz; clear hz
      go_wp2_with fail
      refine (Down_any _ 8 X (((bl X : Nat) : Int) - 1) _ (by omega) am).mono ?_
      rintro e w10 ⟨v5, rfl, h5, hb10⟩
      replace hT := hT.below hb10
      replace am := am.below hb10
      replace hB := hB.trans (hb10.mono hB.size)
      clear hb10
      rw [show shn (((bl X : Nat) : Int) - 1) = bl X - 1 by unfold shn; omega, bl_top hX0] at h5
      go_wp2_with fail
      refine (Down_any _ 8 X (z : Int) _ (by omega) am).mono ?_
      rintro e w11 ⟨v6, rfl, h6, hb11⟩
      replace hT := hT.below hb11
      replace am := am.below hb11
      replace h5 := h5.below hb11
      replace hB := hB.trans (hb11.mono hB.size)
      clear hb11
      rw [shn_nat z (by omega)] at h6
      go_wp2_with fail
      refine (Of_any 1 _ (by unfold B; omega)).mono ?_
      rintro e w12 ⟨v7, rfl, h7, hb12⟩
      replace hT := hT.below hb12
      replace am := am.below hb12
      replace h5 := h5.below hb12
      replace h6 := h6.below hb12
      replace hB := hB.trans (hb12.mono hB.size)
      clear hb12
      go_wp2_with fail
      refine (same_any _ _ _ _ 1 _ (by omega) h5 h7).mono ?_
      rintro e w13 ⟨q, rfl, hq'⟩
      obtain ⟨hb13, hz⟩ := drewN_size hq'
      clear hq' hz
      replace hT := hT.below hb13
      replace am := am.below hb13
      replace h5 := h5.below hb13
      replace h6 := h6.below hb13
      replace h7 := h7.below hb13
      replace hB := hB.trans (hb13.mono hB.size)
      clear hb13
      obtain ⟨m, hm⟩ : ∃ m, X = 2 ^ z * (2 * m + 1) := by
        rcases HZ.out with ⟨a, _⟩ | a
        · exact absurd a hX0
        · exact a
      have hpz : 0 < 2 ^ z := Nat.pow_pos (by omega)
      have hlow : X / 2 ^ z = 2 * m + 1 := by rw [hm, Nat.mul_div_cancel_left _ hpz]
      have h6k := h6
      obtain ⟨lo, ln, lc, lf, rfl, _, _, lr, lV, _⟩ := h6
      obtain ⟨hln, hand⟩ := odd_low lr.lt (lV.trans hlow)
      obtain ⟨lb, lof, rfl, lcell, _⟩ := lr 0 hln
      rw [Nat.add_zero] at lcell
      have HM := Lib.hid hm; have HLOW := Lib.hid hlow; have HLR := Lib.hid lr; have HLV := Lib.hid lV; have H6 := Lib.hid h6k
      clear hm hlow lr lV h6k
      go_wp2_with fail
      refine (Up_any _ 8 (X / 2 ^ z) (z : Int) _ (by omega) H6.out.mag).mono ?_
      rintro e w14 ⟨v8, rfl, h8, hb14⟩
      rw [shn_nat z (by omega), HLOW.out, Nat.mul_comm, ← HM.out] at h8
      clear hand lcell
      replace hT := hT.below hb14
      replace am := am.below hb14
      replace h5 := h5.below hb14
      replace h7 := h7.below hb14
      replace hB := hB.trans (hb14.mono hB.size)
      clear hb14
      go_wp2_with fail
      refine (Add_any _ _ 8 0 X 0 _ (by omega) (by omega) am (nil_mag _)).mono ?_
      rintro e w15 ⟨v9, rfl, h9, hb15⟩
      replace hT := hT.below hb15
      replace am := am.below hb15
      replace h5 := h5.below hb15
      replace h7 := h7.below hb15
      replace h8 := h8.below hb15
      replace hB := hB.trans (hb15.mono hB.size)
      clear hb15
      go_wp2_with fail
      refine (same_any _ _ _ _ X _ (by omega) h8 (RMag_eq h9 rfl)).mono ?_
      rintro e w16 ⟨q, rfl, hq'⟩
      obtain ⟨hb16, hz⟩ := drewN_size hq'
      clear hq' hz
      replace hT := hT.below hb16
      replace am := am.below hb16
      replace h5 := h5.below hb16
      replace h7 := h7.below hb16
      replace h8 := h8.below hb16
      replace h9 := h9.below hb16
      replace hB := hB.trans (hb16.mono hB.size)
      clear hb16
      go_wp2
      go_ret
      exact ⟨rfl, hB⟩
end Go.Proofs.YthbjiogpekhbeaaDoor
