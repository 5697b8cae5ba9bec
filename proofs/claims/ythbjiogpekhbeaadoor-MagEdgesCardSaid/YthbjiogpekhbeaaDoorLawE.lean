/- The statement MagEdges, walked. -/
import Derived.Test.YthbjiogpekhbeaaDoorLawD
namespace Go.Proofs.YthbjiogpekhbeaaDoor
open Go.RowKit Go.MagM
set_option maxHeartbeats 4000000 in
/-- m: how far k goes. -/
theorem MagEdges_main (N m : Nat) (k : Int) (w : World) (hN : N < B) (hm : shn k = m) (hm8 : m ≤ 8192)
    (hk1 : (k < 0 ∧ m = 0) ∨ (0 ≤ k ∧ k ≤ 8192 ∧ k = (m : Int)) ∨ (8192 < k ∧ m = 8192)) (hT : Tab w) :
    Calls Tryd.prog 10 #[.int .u64 N, .int .i64 k] w fun e w' => e = .returned (.bool true) ∧ Below w.heap.size w w' := by
  have hB := Below.refl w.heap.size w
  have HN := Lib.hid hN; have HM := Lib.hid hm; have HMM := Lib.hid (shn_nat m hm8)
  clear hN hm
  rcases hk1 with ⟨hk, rfl⟩ | ⟨hk, hk2, rfl⟩ | ⟨hk, hm82⟩
  · skip
    have hk' : k < 0 := by omega
    go_enter Tryd.func10, Tryd.ntmps10
    go_wp2_with fail
    refine (fit_any _ hT).mono ?_
    rintro e w1 ⟨rfl, hb1⟩
    replace hT := hT.below hb1
    replace hB := hB.trans (hb1.mono hB.size)
    clear hb1
    go_wp2_with fail
    refine (Of_any N _ HN.out).mono ?_
    rintro e w2 ⟨va, rfl, ha, hb2⟩
    replace hT := hT.below hb2
    replace hB := hB.trans (hb2.mono hB.size)
    clear hb2
    go_wp2_with fail
    refine (Up_any _ 1 N k _ (by omega) ha.mag).mono ?_
    rintro e w3 ⟨v1, rfl, h1, hb3⟩
    replace hT := hT.below hb3
    replace ha := ha.below hb3
    replace hB := hB.trans (hb3.mono hB.size)
    clear hb3
    rw [HM.out] at h1
    go_wp2_with fail
    refine (Up_any _ 1 N ((0 : Nat) : Int) _ (by omega) ha.mag).mono ?_
    rintro e w4 ⟨v2, rfl, h2, hb4⟩
    replace hT := hT.below hb4
    replace ha := ha.below hb4
    replace h1 := h1.below hb4
    replace hB := hB.trans (hb4.mono hB.size)
    clear hb4
    rw [HMM.out] at h2
    go_wp2_with fail
    refine (same_any _ _ _ _ (N * 2 ^ 0) _ (by omega) h1 h2).mono ?_
    rintro e w5 ⟨q, rfl, hq'⟩
    obtain ⟨hb5, hz⟩ := drewN_size hq'
    clear hq' hz
    replace hT := hT.below hb5
    replace ha := ha.below hb5
    replace h1 := h1.below hb5
    replace h2 := h2.below hb5
    replace hB := hB.trans (hb5.mono hB.size)
    clear hb5
    go_wp2_with fail
    refine (Up_any _ 1 N k _ (by omega) ha.mag).mono ?_
    rintro e w6 ⟨v3, rfl, h3, hb6⟩
    replace hT := hT.below hb6
    replace ha := ha.below hb6
    replace h1 := h1.below hb6
    replace h2 := h2.below hb6
    replace hB := hB.trans (hb6.mono hB.size)
    clear hb6
    rw [HM.out] at h3
    go_wp2_with fail
    refine (Down_any _ (1 + 129) (N * 2 ^ 0) k _ (by omega) h3.mag).mono ?_
    rintro e w7 ⟨v4, rfl, h4, hb7⟩
    replace hT := hT.below hb7
    replace ha := ha.below hb7
    replace h1 := h1.below hb7
    replace h2 := h2.below hb7
    replace h3 := h3.below hb7
    replace hB := hB.trans (hb7.mono hB.size)
    clear hb7
    rw [HM.out, Nat.mul_div_cancel _ (Nat.pow_pos (by omega))] at h4
    go_wp2_with fail
    refine (same_any _ _ _ _ N _ (by omega) h4 ha).mono ?_
    rintro e w8 ⟨q, rfl, hq'⟩
    obtain ⟨hb8, hz⟩ := drewN_size hq'
    clear hq' hz
    replace hT := hT.below hb8
    replace ha := ha.below hb8
    replace h1 := h1.below hb8
    replace h2 := h2.below hb8
    replace h3 := h3.below hb8
    replace h4 := h4.below hb8
    replace hB := hB.trans (hb8.mono hB.size)
    clear hb8
    go_wp2_with fail
    refine (Up_any _ 1 N k _ (by omega) ha.mag).mono ?_
    rintro e w9 ⟨v5, rfl, h5, hb9⟩
    replace hT := hT.below hb9
    replace ha := ha.below hb9
    replace h1 := h1.below hb9
    replace h2 := h2.below hb9
    replace h3 := h3.below hb9
    replace h4 := h4.below hb9
    replace hB := hB.trans (hb9.mono hB.size)
    clear hb9
    rw [HM.out] at h5
    clear h1 h2 h3 h4
    by_cases hN0 : N = 0
    · skip
      subst hN0
      rw [Nat.zero_mul] at h5
      go_wp2_with fail
      have cc := Len_any _ (1 + 129) 0 _ (by omega) h5.mag
      rw [show bl 0 = 0 from rfl] at cc
      refine cc.mono ?_
      clear cc
      rintro e w' ⟨rfl, rfl⟩
      go_wp2_with fail
      have cc := Len_any _ 1 0 _ (by omega) ha.mag
      rw [show bl 0 = 0 from rfl] at cc
      refine cc.mono ?_
      clear cc
      rintro e w' ⟨rfl, rfl⟩
      obtain ⟨qo, qc, rfl⟩ := RMag.zero ha
      clear ha
      go_wp2
      all_goals
        go_ret
        exact ⟨rfl, hB⟩
    · skip
      have hbu := bl_up (k := 0) hN0
      have hbB : bl N ≤ 64 := bl_le_of_lt HN.out
      obtain ⟨b, hb⟩ : ∃ b, bl N = b := ⟨_, rfl⟩
      rw [hb] at hbu hbB
      have c1 := fun w => Len_any v5 (1 + 129) (N * 2 ^ 0) w (by omega)
      have c2 := fun w => Len_any va 1 N w (by omega)
      rw [hbu] at c1
      rw [hb] at c2
      have C1 := Lib.hid c1; have C2 := Lib.hid c2
      clear c1 c2 hbu hb
      have hne : (((b : Int) + (0 : Int)) != ((b : Int) + (0 : Int))) = false := by simp
      go_wp2_with fail
      refine (C1.out _ h5.mag).mono ?_
      rintro e w' ⟨rfl, rfl⟩
      go_wp2_with fail
      refine (C2.out _ ha.mag).mono ?_
      rintro e w' ⟨rfl, rfl⟩
      obtain ⟨ao, ac, af, rfl, _, har, haf⟩ := rmag_one ha hN0
      obtain ⟨ab, aof, rfl, hcell, _⟩ := har 0 (by omega)
      rw [Nat.add_zero, haf] at hcell
      have hNN : ((N : Int) == (N : Int)) = true := by simp
      have hw2 : IntKind.i64.wrap ((b : Int) + (0 : Int)) = (b : Int) + (0 : Int) := IntWalk.i64_in _ (by omega)
      clear ha har haf hN0
      go_wp2
      go_ret
      exact ⟨rfl, hB⟩
  · skip
    have hk' : ¬ ((m : Int) < 0) := by omega
    have hk2' : ¬ ((8192 : Int) < (m : Int)) := by omega
    go_enter Tryd.func10, Tryd.ntmps10
    go_wp2_with fail
    refine (fit_any _ hT).mono ?_
    rintro e w1 ⟨rfl, hb1⟩
    replace hT := hT.below hb1
    replace hB := hB.trans (hb1.mono hB.size)
    clear hb1
    go_wp2_with fail
    refine (Of_any N _ HN.out).mono ?_
    rintro e w2 ⟨va, rfl, ha, hb2⟩
    replace hT := hT.below hb2
    replace hB := hB.trans (hb2.mono hB.size)
    clear hb2
    go_wp2_with fail
    refine (Up_any _ 1 N (m : Int) _ (by omega) ha.mag).mono ?_
    rintro e w3 ⟨v1, rfl, h1, hb3⟩
    replace hT := hT.below hb3
    replace ha := ha.below hb3
    replace hB := hB.trans (hb3.mono hB.size)
    clear hb3
    rw [HM.out] at h1
    go_wp2_with fail
    refine (Up_any _ 1 N (m : Int) _ (by omega) ha.mag).mono ?_
    rintro e w4 ⟨v2, rfl, h2, hb4⟩
    replace hT := hT.below hb4
    replace ha := ha.below hb4
    replace h1 := h1.below hb4
    replace hB := hB.trans (hb4.mono hB.size)
    clear hb4
    rw [HMM.out] at h2
    go_wp2_with fail
    refine (same_any _ _ _ _ (N * 2 ^ m) _ (by omega) h1 h2).mono ?_
    rintro e w5 ⟨q, rfl, hq'⟩
    obtain ⟨hb5, hz⟩ := drewN_size hq'
    clear hq' hz
    replace hT := hT.below hb5
    replace ha := ha.below hb5
    replace h1 := h1.below hb5
    replace h2 := h2.below hb5
    replace hB := hB.trans (hb5.mono hB.size)
    clear hb5
    go_wp2_with fail
    refine (Up_any _ 1 N (m : Int) _ (by omega) ha.mag).mono ?_
    rintro e w6 ⟨v3, rfl, h3, hb6⟩
    replace hT := hT.below hb6
    replace ha := ha.below hb6
    replace h1 := h1.below hb6
    replace h2 := h2.below hb6
    replace hB := hB.trans (hb6.mono hB.size)
    clear hb6
    rw [HM.out] at h3
    go_wp2_with fail
    refine (Down_any _ (1 + 129) (N * 2 ^ m) (m : Int) _ (by omega) h3.mag).mono ?_
    rintro e w7 ⟨v4, rfl, h4, hb7⟩
    replace hT := hT.below hb7
    replace ha := ha.below hb7
    replace h1 := h1.below hb7
    replace h2 := h2.below hb7
    replace h3 := h3.below hb7
    replace hB := hB.trans (hb7.mono hB.size)
    clear hb7
    rw [HM.out, Nat.mul_div_cancel _ (Nat.pow_pos (by omega))] at h4
    go_wp2_with fail
    refine (same_any _ _ _ _ N _ (by omega) h4 ha).mono ?_
    rintro e w8 ⟨q, rfl, hq'⟩
    obtain ⟨hb8, hz⟩ := drewN_size hq'
    clear hq' hz
    replace hT := hT.below hb8
    replace ha := ha.below hb8
    replace h1 := h1.below hb8
    replace h2 := h2.below hb8
    replace h3 := h3.below hb8
    replace h4 := h4.below hb8
    replace hB := hB.trans (hb8.mono hB.size)
    clear hb8
    go_wp2_with fail
    refine (Up_any _ 1 N (m : Int) _ (by omega) ha.mag).mono ?_
    rintro e w9 ⟨v5, rfl, h5, hb9⟩
    replace hT := hT.below hb9
    replace ha := ha.below hb9
    replace h1 := h1.below hb9
    replace h2 := h2.below hb9
    replace h3 := h3.below hb9
    replace h4 := h4.below hb9
    replace hB := hB.trans (hb9.mono hB.size)
    clear hb9
    rw [HM.out] at h5
    clear h1 h2 h3 h4
    by_cases hN0 : N = 0
    · skip
      subst hN0
      rw [Nat.zero_mul] at h5
      go_wp2_with fail
      have cc := Len_any _ (1 + 129) 0 _ (by omega) h5.mag
      rw [show bl 0 = 0 from rfl] at cc
      refine cc.mono ?_
      clear cc
      rintro e w' ⟨rfl, rfl⟩
      go_wp2_with fail
      have cc := Len_any _ 1 0 _ (by omega) ha.mag
      rw [show bl 0 = 0 from rfl] at cc
      refine cc.mono ?_
      clear cc
      rintro e w' ⟨rfl, rfl⟩
      obtain ⟨qo, qc, rfl⟩ := RMag.zero ha
      clear ha
      go_wp2
      all_goals
        go_ret
        exact ⟨rfl, hB⟩
    · skip
      have hbu := bl_up (k := m) hN0
      have hbB : bl N ≤ 64 := bl_le_of_lt HN.out
      obtain ⟨b, hb⟩ : ∃ b, bl N = b := ⟨_, rfl⟩
      rw [hb] at hbu hbB
      have c1 := fun w => Len_any v5 (1 + 129) (N * 2 ^ m) w (by omega)
      have c2 := fun w => Len_any va 1 N w (by omega)
      rw [hbu] at c1
      rw [hb] at c2
      have C1 := Lib.hid c1; have C2 := Lib.hid c2
      clear c1 c2 hbu hb
      have hne : (((b : Int) + (m : Int)) != ((b : Int) + (m : Int))) = false := by simp
      go_wp2_with fail
      refine (C1.out _ h5.mag).mono ?_
      rintro e w' ⟨rfl, rfl⟩
      go_wp2_with fail
      refine (C2.out _ ha.mag).mono ?_
      rintro e w' ⟨rfl, rfl⟩
      obtain ⟨ao, ac, af, rfl, _, har, haf⟩ := rmag_one ha hN0
      obtain ⟨ab, aof, rfl, hcell, _⟩ := har 0 (by omega)
      rw [Nat.add_zero, haf] at hcell
      have hNN : ((N : Int) == (N : Int)) = true := by simp
      have hw2 : IntKind.i64.wrap ((b : Int) + (m : Int)) = (b : Int) + (m : Int) := IntWalk.i64_in _ (by omega)
      clear ha har haf hN0
      go_wp2
      go_ret
      exact ⟨rfl, hB⟩
  · skip
    have hk' : ¬ (k < 0) := by omega
    have hk2' : (8192 : Int) < k := by omega
    have HM3 : Hid (shn ((8192 : Nat) : Int) = m) := Lib.hid (by rw [hm82]; exact shn_nat 8192 (Nat.le_refl _))
    have hma : m ≤ 8192 := by omega
    have hmb : 8192 ≤ m := by omega
    clear hm82
    go_enter Tryd.func10, Tryd.ntmps10
    go_wp2_with fail
    refine (fit_any _ hT).mono ?_
    rintro e w1 ⟨rfl, hb1⟩
    replace hT := hT.below hb1
    replace hB := hB.trans (hb1.mono hB.size)
    clear hb1
    go_wp2_with fail
    refine (Of_any N _ HN.out).mono ?_
    rintro e w2 ⟨va, rfl, ha, hb2⟩
    replace hT := hT.below hb2
    replace hB := hB.trans (hb2.mono hB.size)
    clear hb2
    go_wp2_with fail
    refine (Up_any _ 1 N k _ (by omega) ha.mag).mono ?_
    rintro e w3 ⟨v1, rfl, h1, hb3⟩
    replace hT := hT.below hb3
    replace ha := ha.below hb3
    replace hB := hB.trans (hb3.mono hB.size)
    clear hb3
    rw [HM.out] at h1
    go_wp2_with fail
    refine (Up_any _ 1 N ((8192 : Nat) : Int) _ (by omega) ha.mag).mono ?_
    rintro e w4 ⟨v2, rfl, h2, hb4⟩
    replace hT := hT.below hb4
    replace ha := ha.below hb4
    replace h1 := h1.below hb4
    replace hB := hB.trans (hb4.mono hB.size)
    clear hb4
    rw [HM3.out] at h2
    go_wp2_with fail
    refine (same_any _ _ _ _ (N * 2 ^ m) _ (by omega) h1 h2).mono ?_
    rintro e w5 ⟨q, rfl, hq'⟩
    obtain ⟨hb5, hz⟩ := drewN_size hq'
    clear hq' hz
    replace hT := hT.below hb5
    replace ha := ha.below hb5
    replace h1 := h1.below hb5
    replace h2 := h2.below hb5
    replace hB := hB.trans (hb5.mono hB.size)
    clear hb5
    go_wp2_with fail
    refine (Up_any _ 1 N k _ (by omega) ha.mag).mono ?_
    rintro e w6 ⟨v3, rfl, h3, hb6⟩
    replace hT := hT.below hb6
    replace ha := ha.below hb6
    replace h1 := h1.below hb6
    replace h2 := h2.below hb6
    replace hB := hB.trans (hb6.mono hB.size)
    clear hb6
    rw [HM.out] at h3
    go_wp2_with fail
    refine (Down_any _ (1 + 129) (N * 2 ^ m) k _ (by omega) h3.mag).mono ?_
    rintro e w7 ⟨v4, rfl, h4, hb7⟩
    replace hT := hT.below hb7
    replace ha := ha.below hb7
    replace h1 := h1.below hb7
    replace h2 := h2.below hb7
    replace h3 := h3.below hb7
    replace hB := hB.trans (hb7.mono hB.size)
    clear hb7
    rw [HM.out, Nat.mul_div_cancel _ (Nat.pow_pos (by omega))] at h4
    go_wp2_with fail
    refine (same_any _ _ _ _ N _ (by omega) h4 ha).mono ?_
    rintro e w8 ⟨q, rfl, hq'⟩
    obtain ⟨hb8, hz⟩ := drewN_size hq'
    clear hq' hz
    replace hT := hT.below hb8
    replace ha := ha.below hb8
    replace h1 := h1.below hb8
    replace h2 := h2.below hb8
    replace h3 := h3.below hb8
    replace h4 := h4.below hb8
    replace hB := hB.trans (hb8.mono hB.size)
    clear hb8
    go_wp2_with fail
    refine (Up_any _ 1 N k _ (by omega) ha.mag).mono ?_
    rintro e w9 ⟨v5, rfl, h5, hb9⟩
    replace hT := hT.below hb9
    replace ha := ha.below hb9
    replace h1 := h1.below hb9
    replace h2 := h2.below hb9
    replace h3 := h3.below hb9
    replace h4 := h4.below hb9
    replace hB := hB.trans (hb9.mono hB.size)
    clear hb9
    rw [HM.out] at h5
    clear h1 h2 h3 h4
    by_cases hN0 : N = 0
    · skip
      subst hN0
      rw [Nat.zero_mul] at h5
      go_wp2_with fail
      have cc := Len_any _ (1 + 129) 0 _ (by omega) h5.mag
      rw [show bl 0 = 0 from rfl] at cc
      refine cc.mono ?_
      clear cc
      rintro e w' ⟨rfl, rfl⟩
      go_wp2_with fail
      have cc := Len_any _ 1 0 _ (by omega) ha.mag
      rw [show bl 0 = 0 from rfl] at cc
      refine cc.mono ?_
      clear cc
      rintro e w' ⟨rfl, rfl⟩
      obtain ⟨qo, qc, rfl⟩ := RMag.zero ha
      clear ha
      go_wp2
      all_goals
        go_ret
        exact ⟨rfl, hB⟩
    · skip
      have hbu := bl_up (k := m) hN0
      have hbB : bl N ≤ 64 := bl_le_of_lt HN.out
      obtain ⟨b, hb⟩ : ∃ b, bl N = b := ⟨_, rfl⟩
      rw [hb] at hbu hbB
      have c1 := fun w => Len_any v5 (1 + 129) (N * 2 ^ m) w (by omega)
      have c2 := fun w => Len_any va 1 N w (by omega)
      rw [hbu] at c1
      rw [hb] at c2
      have C1 := Lib.hid c1; have C2 := Lib.hid c2
      clear c1 c2 hbu hb
      have hne : (((b : Int) + (m : Int)) != ((b : Int) + 8192)) = false := by simp only [bne_eq_false_iff_eq]; omega
      go_wp2_with fail
      refine (C1.out _ h5.mag).mono ?_
      rintro e w' ⟨rfl, rfl⟩
      go_wp2_with fail
      refine (C2.out _ ha.mag).mono ?_
      rintro e w' ⟨rfl, rfl⟩
      obtain ⟨ao, ac, af, rfl, _, har, haf⟩ := rmag_one ha hN0
      obtain ⟨ab, aof, rfl, hcell, _⟩ := har 0 (by omega)
      rw [Nat.add_zero, haf] at hcell
      have hNN : ((N : Int) == (N : Int)) = true := by simp
      have hw2 : IntKind.i64.wrap ((b : Int) + 8192) = (b : Int) + 8192 := IntWalk.i64_in _ (by omega)
      clear ha har haf hN0
      go_wp2
      go_ret
      exact ⟨rfl, hB⟩
theorem MagEdges_walk (x0 : Int) (hw0 : (Lit.int .u64 x0).wf = true) (x1 : Int) (_hw1 : (Lit.int .i64 x1).wf = true) (w : World) (hT : Tab w) :
    Calls Tryd.prog 10 #[.int .u64 x0, .int .i64 x1] w fun e w' => e = .returned (.bool true) ∧ Below w.heap.size w w' := by
  have hr : 0 ≤ x0 ∧ x0 < 18446744073709551616 := by
    simp only [Lit.wf, IntKind.min, IntKind.max, IntKind.signed, IntKind.bits, Bool.and_eq_true] at hw0
    simp at hw0
    omega
  obtain ⟨N, rfl⟩ : ∃ N : Nat, x0 = (N : Int) := ⟨x0.toNat, by omega⟩
  exact MagEdges_main N (shn x1) x1 w (by unfold B; omega) rfl (shn_le _) (by unfold shn; omega) hT
end Go.Proofs.YthbjiogpekhbeaaDoor
