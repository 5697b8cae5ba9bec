/- The statement MagGcds, walked. -/
import Derived.Test.YtbfdianmbpfjmaaDoorFit
import Derived.Test.YtbfdianmbpfjmaaDoorLawD
import Derived.Test.YtbfdianmbpfjmaaDoorGcde
namespace Go.Proofs.YtbfdianmbpfjmaaDoor
open Go.RowKit Go.MagM
theorem gcd_parts {X Y D : Nat} (h : Nat.gcd X Y = D) (h0 : ¬ (X = 0 ∧ Y = 0)) : 0 < D ∧ X % D = 0 ∧ Y % D = 0 ∧ Nat.gcd (X / D) (Y / D) = 1 := by
  subst h
  have hp : 0 < Nat.gcd X Y := by
    rcases Nat.eq_zero_or_pos (Nat.gcd X Y) with h | h
    · exact absurd (Nat.gcd_eq_zero_iff.1 h) h0
    · exact h
  exact ⟨hp, Nat.mod_eq_zero_of_dvd (Nat.gcd_dvd_left _ _), Nat.mod_eq_zero_of_dvd (Nat.gcd_dvd_right _ _), by rw [Nat.gcd_div (Nat.gcd_dvd_left _ _) (Nat.gcd_dvd_right _ _), Nat.div_self hp]⟩
theorem bl_one : bl 1 = 1 := rfl
set_option maxHeartbeats 4000000 in
theorem MagGcds_walk (ao : Option Addr) (an ac : Nat) (f : Nat → Nat) (bo : Option Addr) (bn bc : Nat) (g : Nat → Nat) (co : Option Addr) (cn cc : Nat) (h : Nat → Nat) (w : World) (ahc : an ≤ ac) (ar : Reads w ao an f) (bhc : bn ≤ bc) (br : Reads w bo bn g) (chc : cn ≤ cc) (cr : Reads w co cn h) (hT : Tab w) :
    Calls Tryd.prog 3 #[.slice ao an ac, .slice bo bn bc, .slice co cn cc] w fun e w' => e = .returned (.bool true) ∧ Below w.heap.size w w' := by
  have hB := Below.refl w.heap.size w
  obtain ⟨X, hX⟩ : ∃ X, V f an = X := ⟨_, rfl⟩
  have am : Mag w (.slice ao an ac) an X := ⟨ao, an, ac, f, rfl, ahc, Nat.le_refl _, ar, hX⟩
  clear ahc ar hX
  obtain ⟨Y, hY⟩ : ∃ Y, V g bn = Y := ⟨_, rfl⟩
  have bm : Mag w (.slice bo bn bc) bn Y := ⟨bo, bn, bc, g, rfl, bhc, Nat.le_refl _, br, hY⟩
  clear bhc br hY
  obtain ⟨Z, hZ⟩ : ∃ Z, V h cn = Z := ⟨_, rfl⟩
  have cm : Mag w (.slice co cn cc) cn Z := ⟨co, cn, cc, h, rfl, chc, Nat.le_refl _, cr, hZ⟩
  clear chc cr hZ
  go_enter Tryd.func3, Tryd.ntmps3
  go_wp2_with fail
  refine (fit_any _ hT).mono ?_
  rintro e w1 ⟨rfl, hb1⟩
  replace hT := hT.below hb1
  replace am := am.below hb1
  replace bm := bm.below hb1
  replace cm := cm.below hb1
  replace hB := hB.trans (hb1.mono hB.size)
  clear hb1
  by_cases hsh : an ≤ 8 ∧ bn ≤ 8 ∧ cn ≤ 8
  rotate_left
  · skip
    go_wp2_with fail
    refine (short3_no 8 ao an ac bo bn bc co cn cc w1 22 (by omega) hsh).mono ?_
    rintro e w2 ⟨rfl, hw'⟩
    have hb2 : Below w1.heap.size w1 w2 := by rw [← hw']; exact (Below.refl _ _).alloc (Nat.le_refl _) _
    clear hw'
    replace hT := hT.below hb2
    replace am := am.below hb2
    replace bm := bm.below hb2
    replace cm := cm.below hb2
    replace hB := hB.trans (hb2.mono hB.size)
    clear hb2
    go_wp2
    go_ret
    exact ⟨rfl, hB⟩
  have hsa : an ≤ 8 := hsh.1
  have hsb : bn ≤ 8 := hsh.2.1
  have hsc : cn ≤ 8 := hsh.2.2
  go_wp2_with fail
  refine (short3_yes 8 ao an ac bo bn bc co cn cc w1 22 (by omega) (by omega) (by omega) (by omega)).mono ?_
  rintro e w2 ⟨rfl, hw'⟩
  have hb2 : Below w1.heap.size w1 w2 := by rw [← hw']; exact (Below.refl _ _).alloc (Nat.le_refl _) _
  clear hw'
  replace hT := hT.below hb2
  replace am := am.below hb2
  replace bm := bm.below hb2
  replace cm := cm.below hb2
  replace hB := hB.trans (hb2.mono hB.size)
  clear hb2
  obtain ⟨D, hD⟩ : ∃ D, Nat.gcd X Y = D := ⟨_, rfl⟩
  have gc1 := fun w h k => Gcd_any (.slice ao an ac) (.slice bo bn bc) an bn X Y w (by omega) (by omega) h k
  rw [hD] at gc1
  have GC1 := Lib.hid gc1; have HD := Lib.hid hD; clear gc1 hD
  go_wp2_with fail
  refine (GC1.out _ am bm).mono ?_
  rintro e w3 ⟨vg, rfl, hg, hb3⟩
  replace hT := hT.below hb3
  replace am := am.below hb3
  replace bm := bm.below hb3
  replace cm := cm.below hb3
  replace hB := hB.trans (hb3.mono hB.size)
  clear hb3
  by_cases hz : X = 0 ∧ Y = 0
  · skip
    obtain ⟨rfl, rfl⟩ := hz
    have hd0 : D = 0 := by rw [← HD.out]; rfl
    subst hd0
    go_wp2_with fail
    have cc := Len_any _ an 0 _ (by omega) am
    rw [show bl 0 = 0 from rfl] at cc
    refine cc.mono ?_
    clear cc
    rintro e w' ⟨rfl, rfl⟩
    go_wp2_with fail
    have cc := Len_any _ bn 0 _ (by omega) bm
    rw [show bl 0 = 0 from rfl] at cc
    refine cc.mono ?_
    clear cc
    rintro e w' ⟨rfl, rfl⟩
    obtain ⟨qo, qc, rfl⟩ := RMag.zero hg
    clear hg
    go_wp2
    go_ret
    exact ⟨rfl, hB⟩
  · skip
    obtain ⟨d1, d2, d3, d4⟩ := gcd_parts HD.out hz
    have hbl : (((bl X : Nat) : Int) + ((bl Y : Nat) : Int) == 0) = false := by
      simp only [beq_eq_false_iff_ne]
      intro h
      apply hz
      constructor
      · rcases Nat.eq_zero_or_pos X with h1 | h1
        · exact h1
        · have := bl_pos (show X ≠ 0 by omega); omega
      · rcases Nat.eq_zero_or_pos Y with h1 | h1
        · exact h1
        · have := bl_pos (show Y ≠ 0 by omega); omega
    have hbx : bl X ≤ 64 * 8 := bl_words (by have := am.lt; exact Nat.lt_of_lt_of_le this (Nat.pow_le_pow_right B_pos hsa))
    have hby : bl Y ≤ 64 * 8 := bl_words (by have := bm.lt; exact Nat.lt_of_lt_of_le this (Nat.pow_le_pow_right B_pos hsb))
    have D2 := Lib.hid d2; have D3 := Lib.hid d3; have D4 := Lib.hid d4
    clear hz d2 d3 d4
    go_wp2_with fail
    refine (Len_any _ an X _ (by omega) am).mono ?_
    rintro e w' ⟨rfl, rfl⟩
    go_wp2_with fail
    refine (Len_any _ bn Y _ (by omega) bm).mono ?_
    rintro e w' ⟨rfl, rfl⟩
    go_wp2_with fail
    refine (Div_any _ _ an (max an bn) X D _ (by omega) (by omega) am hg.mag).mono ?_
    rintro e w4 ⟨vp, vr, rfl, hp, hr, hb4⟩
    replace hT := hT.below hb4
    replace am := am.below hb4
    replace bm := bm.below hb4
    replace cm := cm.below hb4
    replace hg := hg.below hb4
    replace hB := hB.trans (hb4.mono hB.size)
    clear hb4
    clear hbl
    rw [D2.out] at hr
    obtain ⟨ro, rc, rfl⟩ := RMag.zero hr
    clear hr
    go_wp2_with fail
    refine (Div_any _ _ bn (max an bn) Y D _ (by omega) (by omega) bm hg.mag).mono ?_
    rintro e w5 ⟨vq, vs, rfl, hq, hs, hb5⟩
    replace hT := hT.below hb5
    replace am := am.below hb5
    replace bm := bm.below hb5
    replace cm := cm.below hb5
    replace hg := hg.below hb5
    replace hp := hp.below hb5
    replace hB := hB.trans (hb5.mono hB.size)
    clear hb5
    rw [D3.out] at hs
    obtain ⟨so, sc, rfl⟩ := RMag.zero hs
    clear hs
    go_wp2_with fail
    refine (Gcd_any _ _ an bn (X / D) (Y / D) _ (by omega) (by omega) hp.mag hq.mag).mono ?_
    rintro e w6 ⟨vk, rfl, hk, hb6⟩
    replace hT := hT.below hb6
    replace am := am.below hb6
    replace bm := bm.below hb6
    replace cm := cm.below hb6
    replace hg := hg.below hb6
    replace hp := hp.below hb6
    replace hq := hq.below hb6
    replace hB := hB.trans (hb6.mono hB.size)
    clear hb6
    rw [D4.out] at hk
    go_wp2_with fail
    have cc := Len_any _ (max an bn) 1 _ (by omega) hk.mag
    rw [bl_one] at cc
    refine cc.mono ?_
    clear cc
    rintro e w' ⟨rfl, rfl⟩
    go_wp2_with fail
    refine (Gcd_any _ _ bn an Y X _ (by omega) (by omega) bm am).mono ?_
    rintro e w7 ⟨vl, rfl, hl, hb7⟩
    replace hT := hT.below hb7
    replace am := am.below hb7
    replace bm := bm.below hb7
    replace cm := cm.below hb7
    replace hg := hg.below hb7
    replace hp := hp.below hb7
    replace hq := hq.below hb7
    replace hk := hk.below hb7
    replace hB := hB.trans (hb7.mono hB.size)
    clear hb7
    rw [Nat.gcd_comm Y X, HD.out] at hl
    go_wp2_with fail
    refine (same_any _ _ _ _ D _ (by omega) hg hl).mono ?_
    rintro e w8 ⟨q, rfl, hq'⟩
    obtain ⟨hb8, hz⟩ := drewN_size hq'
    clear hq' hz
    replace hT := hT.below hb8
    replace am := am.below hb8
    replace bm := bm.below hb8
    replace cm := cm.below hb8
    replace hg := hg.below hb8
    replace hp := hp.below hb8
    replace hq := hq.below hb8
    replace hk := hk.below hb8
    replace hl := hl.below hb8
    replace hB := hB.trans (hb8.mono hB.size)
    clear hb8
    clear hl hk hp hq
    go_wp2_with fail
    refine (Mul_any _ _ an cn X Z _ (by omega) (by omega) am cm).mono ?_
    rintro e w9 ⟨v1, rfl, h1, hb9⟩
    replace hT := hT.below hb9
    replace am := am.below hb9
    replace bm := bm.below hb9
    replace cm := cm.below hb9
    replace hg := hg.below hb9
    replace hB := hB.trans (hb9.mono hB.size)
    clear hb9
    go_wp2_with fail
    refine (Mul_any _ _ bn cn Y Z _ (by omega) (by omega) bm cm).mono ?_
    rintro e w10 ⟨v2, rfl, h2, hb10⟩
    replace hT := hT.below hb10
    replace am := am.below hb10
    replace bm := bm.below hb10
    replace cm := cm.below hb10
    replace hg := hg.below hb10
    replace h1 := h1.below hb10
    replace hB := hB.trans (hb10.mono hB.size)
    clear hb10
    go_wp2_with fail
    refine (Gcd_any _ _ (an + cn) (bn + cn) (X * Z) (Y * Z) _ (by omega) (by omega) h1.mag h2.mag).mono ?_
    rintro e w11 ⟨v3, rfl, h3, hb11⟩
    replace hT := hT.below hb11
    replace am := am.below hb11
    replace bm := bm.below hb11
    replace cm := cm.below hb11
    replace hg := hg.below hb11
    replace h1 := h1.below hb11
    replace h2 := h2.below hb11
    replace hB := hB.trans (hb11.mono hB.size)
    clear hb11
    rw [Nat.gcd_mul_right, HD.out] at h3
    go_wp2_with fail
    refine (Mul_any _ _ (max an bn) cn D Z _ (by omega) (by omega) hg.mag cm).mono ?_
    rintro e w12 ⟨v4, rfl, h4, hb12⟩
    replace hT := hT.below hb12
    replace am := am.below hb12
    replace bm := bm.below hb12
    replace cm := cm.below hb12
    replace hg := hg.below hb12
    replace h1 := h1.below hb12
    replace h2 := h2.below hb12
    replace h3 := h3.below hb12
    replace hB := hB.trans (hb12.mono hB.size)
    clear hb12
    go_wp2_with fail
    refine (same_any _ _ _ _ (D * Z) _ (by omega) h3 h4).mono ?_
    rintro e w13 ⟨q, rfl, hq'⟩
    obtain ⟨hb13, hz⟩ := drewN_size hq'
    clear hq' hz
    replace hT := hT.below hb13
    replace am := am.below hb13
    replace bm := bm.below hb13
    replace cm := cm.below hb13
    replace hg := hg.below hb13
    replace h1 := h1.below hb13
    replace h2 := h2.below hb13
    replace h3 := h3.below hb13
    replace h4 := h4.below hb13
    replace hB := hB.trans (hb13.mono hB.size)
    clear hb13
    go_wp2
    go_ret
    exact ⟨rfl, hB⟩
end Go.Proofs.YtbfdianmbpfjmaaDoor
