/- The statements of layer 1, walked: MagDivs, MagBack, MagLaws. -/
import Derived.Test.YthbjiogpekhbeaaDoorFit
namespace Go.Proofs.YthbjiogpekhbeaaDoor
open Go.RowKit Go.MagM
theorem nil_mag (w : World) : Mag w (.slice none 0 0) 0 0 := (RMag.nil w).mag
theorem RMag_eq {w : World} {v : Value} {L N N' : Nat} (h : RMag w v L N) (e : N = N') : RMag w v L N' := e ▸ h
theorem Mag_eq {w : World} {v : Value} {L N N' : Nat} (h : Mag w v L N) (e : N = N') : Mag w v L N' := e ▸ h
set_option maxHeartbeats 4000000 in
theorem MagDivs_walk (ao : Option Addr) (an ac : Nat) (f : Nat → Nat) (bo : Option Addr) (bn bc : Nat) (g : Nat → Nat) (w : World) (ahc : an ≤ ac) (ar : Reads w ao an f) (bhc : bn ≤ bc) (br : Reads w bo bn g) (hT : Tab w) :
    Calls Tryd.prog 5 #[.slice ao an ac, .slice bo bn bc] w fun e w' => e = .returned (.bool true) ∧ Below w.heap.size w w' := by
  have hB := Below.refl w.heap.size w
  obtain ⟨X, hX⟩ : ∃ X, V f an = X := ⟨_, rfl⟩
  have am : Mag w (.slice ao an ac) an X := ⟨ao, an, ac, f, rfl, ahc, Nat.le_refl _, ar, hX⟩
  clear ahc ar hX
  obtain ⟨Y, hY⟩ : ∃ Y, V g bn = Y := ⟨_, rfl⟩
  have bm : Mag w (.slice bo bn bc) bn Y := ⟨bo, bn, bc, g, rfl, bhc, Nat.le_refl _, br, hY⟩
  clear bhc br hY
  go_enter Tryd.func5, Tryd.ntmps5
  go_wp2_with fail
  refine (fit_any _ hT).mono ?_
  rintro e w1 ⟨rfl, hb1⟩
  replace hT := hT.below hb1
  replace am := am.below hb1
  replace bm := bm.below hb1
  replace hB := hB.trans (hb1.mono hB.size)
  clear hb1
  by_cases hsh : an ≤ 40 ∧ bn ≤ 40
  rotate_left
  · skip
    go_wp2_with fail
    refine (short2_no 40 ao an ac bo bn bc w1 22 (by omega) hsh).mono ?_
    rintro e w2 ⟨rfl, hw'⟩
    have hb2 : Below w1.heap.size w1 w2 := by rw [← hw']; exact (Below.refl _ _).alloc (Nat.le_refl _) _
    clear hw'
    replace hT := hT.below hb2
    replace am := am.below hb2
    replace bm := bm.below hb2
    replace hB := hB.trans (hb2.mono hB.size)
    clear hb2
    go_wp2
    go_ret
    exact ⟨rfl, hB⟩
  have hsa : an ≤ 40 := hsh.1
  have hsb : bn ≤ 40 := hsh.2
  go_wp2_with fail
  refine (short2_yes 40 ao an ac bo bn bc w1 22 (by omega) (by omega) (by omega)).mono ?_
  rintro e w2 ⟨rfl, hw'⟩
  have hb2 : Below w1.heap.size w1 w2 := by rw [← hw']; exact (Below.refl _ _).alloc (Nat.le_refl _) _
  clear hw'
  replace hT := hT.below hb2
  replace am := am.below hb2
  replace bm := bm.below hb2
  replace hB := hB.trans (hb2.mono hB.size)
  clear hb2
  go_wp2_with fail
  refine (Div_any _ _ an bn X Y _ (by omega) (by omega) am bm).mono ?_
  rintro e w3 ⟨vq, vr, rfl, hq, hr, hb3⟩
  replace hT := hT.below hb3
  replace am := am.below hb3
  replace bm := bm.below hb3
  replace hB := hB.trans (hb3.mono hB.size)
  clear hb3
  by_cases hY0 : Y = 0
  · skip
    subst hY0
    rw [Nat.div_zero] at hq
    rw [Nat.mod_zero] at hr
    go_wp2_with fail
    have cc := Len_any _ bn 0 _ (by omega) bm
    rw [show bl 0 = 0 from rfl] at cc
    refine cc.mono ?_
    clear cc
    rintro e w' ⟨rfl, rfl⟩
    obtain ⟨qo, qc, rfl⟩ := RMag.zero hq
    clear hq
    go_wp2_with fail
    have cc := Cmp_any vr _ an an X X w3 (by omega) (by omega) hr.mag am
    rw [show cmpn X X = 0 from cmpn_self X] at cc
    refine cc.mono ?_
    clear cc
    rintro e w4 ⟨q, rfl, hq'⟩
    obtain ⟨hb4, hz⟩ := drewN_size hq'
    clear hq' hz
    replace hT := hT.below hb4
    replace am := am.below hb4
    replace bm := bm.below hb4
    replace hr := hr.below hb4
    replace hB := hB.trans (hb4.mono hB.size)
    clear hb4
    go_wp2_with fail
    refine (Add_any _ _ an 0 X 0 _ (by omega) (by omega) am (nil_mag _)).mono ?_
    rintro e w5 ⟨vs, rfl, hs, hb5⟩
    replace hT := hT.below hb5
    replace am := am.below hb5
    replace bm := bm.below hb5
    replace hr := hr.below hb5
    replace hB := hB.trans (hb5.mono hB.size)
    clear hb5
    go_wp2_with fail
    refine (same_any _ _ _ _ X _ (by omega) hr (RMag_eq hs (by omega))).mono ?_
    rintro e w6 ⟨q, rfl, hq'⟩
    obtain ⟨hb6, hz⟩ := drewN_size hq'
    clear hq' hz
    replace hT := hT.below hb6
    replace am := am.below hb6
    replace bm := bm.below hb6
    replace hr := hr.below hb6
    replace hs := hs.below hb6
    replace hB := hB.trans (hb6.mono hB.size)
    clear hb6
    go_wp2
    go_ret
    exact ⟨rfl, hB⟩
  · skip
    have hbl : ((bl Y : Nat) : Int) == 0 ↔ False := by have := bl_pos hY0; simp; omega
    have hbl' : (((bl Y : Nat) : Int) == 0) = false := by have := bl_pos hY0; simp only [beq_eq_false_iff_ne]; omega
    clear hbl
    go_wp2_with fail
    refine (Len_any _ bn Y _ (by omega) bm).mono ?_
    rintro e w' ⟨rfl, rfl⟩
    go_wp2_with fail
    have cc := Cmp_any vr _ an bn (X % Y) Y w3 (by omega) (by omega) hr.mag bm
    rw [show cmpn (X % Y) Y = -1 from cmpn_of_lt (Nat.mod_lt _ (by omega))] at cc
    refine cc.mono ?_
    clear cc
    rintro e w4 ⟨q, rfl, hq'⟩
    obtain ⟨hb4, hz⟩ := drewN_size hq'
    clear hq' hz
    replace hT := hT.below hb4
    replace am := am.below hb4
    replace bm := bm.below hb4
    replace hq := hq.below hb4
    replace hr := hr.below hb4
    replace hB := hB.trans (hb4.mono hB.size)
    clear hb4
    go_wp2_with fail
    refine (Mul_any vq _ an bn (X / Y) Y _ (by omega) (by omega) hq.mag bm).mono ?_
    rintro e w5 ⟨vp, rfl, hp, hb5⟩
    replace hT := hT.below hb5
    replace am := am.below hb5
    replace bm := bm.below hb5
    replace hq := hq.below hb5
    replace hr := hr.below hb5
    replace hB := hB.trans (hb5.mono hB.size)
    clear hb5
    go_wp2_with fail
    refine (Add_any vp vr (an + bn) an (X / Y * Y) (X % Y) _ (by omega) (by omega) hp.mag hr.mag).mono ?_
    rintro e w6 ⟨vs, rfl, hs, hb6⟩
    replace hT := hT.below hb6
    replace am := am.below hb6
    replace bm := bm.below hb6
    replace hq := hq.below hb6
    replace hr := hr.below hb6
    replace hp := hp.below hb6
    replace hB := hB.trans (hb6.mono hB.size)
    clear hb6
    go_wp2_with fail
    have cc := Cmp_any vs _ (max (an + bn) an + 1) an (X / Y * Y + X % Y) X w6 (by omega) (by omega) hs.mag am
    rw [show cmpn (X / Y * Y + X % Y) X = 0 from by rw [Nat.mul_comm, Nat.div_add_mod]; exact cmpn_self X] at cc
    refine cc.mono ?_
    clear cc
    rintro e w7 ⟨q, rfl, hq'⟩
    obtain ⟨hb7, hz⟩ := drewN_size hq'
    clear hq' hz
    replace hT := hT.below hb7
    replace am := am.below hb7
    replace bm := bm.below hb7
    replace hq := hq.below hb7
    replace hr := hr.below hb7
    replace hp := hp.below hb7
    replace hs := hs.below hb7
    replace hB := hB.trans (hb7.mono hB.size)
    clear hb7
    go_wp2_with fail
    refine (Add_any vq _ an 0 (X / Y) 0 _ (by omega) (by omega) hq.mag (nil_mag _)).mono ?_
    rintro e w8 ⟨vt, rfl, ht, hb8⟩
    replace hT := hT.below hb8
    replace am := am.below hb8
    replace bm := bm.below hb8
    replace hq := hq.below hb8
    replace hr := hr.below hb8
    replace hp := hp.below hb8
    replace hs := hs.below hb8
    replace hB := hB.trans (hb8.mono hB.size)
    clear hb8
    go_wp2_with fail
    refine (same_any _ _ _ _ (X / Y) _ (by omega) hq (RMag_eq ht rfl)).mono ?_
    rintro e w9 ⟨q, rfl, hq'⟩
    obtain ⟨hb9, hz⟩ := drewN_size hq'
    clear hq' hz
    replace hT := hT.below hb9
    replace am := am.below hb9
    replace bm := bm.below hb9
    replace hq := hq.below hb9
    replace hr := hr.below hb9
    replace hp := hp.below hb9
    replace hs := hs.below hb9
    replace ht := ht.below hb9
    replace hB := hB.trans (hb9.mono hB.size)
    clear hb9
    go_wp2_with fail
    refine (Add_any vr _ an 0 (X % Y) 0 _ (by omega) (by omega) hr.mag (nil_mag _)).mono ?_
    rintro e w10 ⟨vu, rfl, hu, hb10⟩
    replace hT := hT.below hb10
    replace am := am.below hb10
    replace bm := bm.below hb10
    replace hq := hq.below hb10
    replace hr := hr.below hb10
    replace hp := hp.below hb10
    replace hs := hs.below hb10
    replace ht := ht.below hb10
    replace hB := hB.trans (hb10.mono hB.size)
    clear hb10
    go_wp2_with fail
    refine (same_any _ _ _ _ (X % Y) _ (by omega) hr (RMag_eq hu rfl)).mono ?_
    rintro e w11 ⟨q, rfl, hq'⟩
    obtain ⟨hb11, hz⟩ := drewN_size hq'
    clear hq' hz
    replace hT := hT.below hb11
    replace am := am.below hb11
    replace bm := bm.below hb11
    replace hq := hq.below hb11
    replace hr := hr.below hb11
    replace hp := hp.below hb11
    replace hs := hs.below hb11
    replace ht := ht.below hb11
    replace hu := hu.below hb11
    replace hB := hB.trans (hb11.mono hB.size)
    clear hb11
    go_wp2
    go_ret
    exact ⟨rfl, hB⟩
set_option maxHeartbeats 4000000 in
theorem MagBack_walk (ao : Option Addr) (an ac : Nat) (f : Nat → Nat) (bo : Option Addr) (bn bc : Nat) (g : Nat → Nat) (co : Option Addr) (cn cc : Nat) (h : Nat → Nat) (w : World) (ahc : an ≤ ac) (ar : Reads w ao an f) (bhc : bn ≤ bc) (br : Reads w bo bn g) (chc : cn ≤ cc) (cr : Reads w co cn h) (hT : Tab w) :
    Calls Tryd.prog 6 #[.slice ao an ac, .slice bo bn bc, .slice co cn cc] w fun e w' => e = .returned (.bool true) ∧ Below w.heap.size w w' := by
  have hB := Below.refl w.heap.size w
  obtain ⟨X, hX⟩ : ∃ X, V f an = X := ⟨_, rfl⟩
  have am : Mag w (.slice ao an ac) an X := ⟨ao, an, ac, f, rfl, ahc, Nat.le_refl _, ar, hX⟩
  clear ahc ar hX
  obtain ⟨Y, hY⟩ : ∃ Y, V g bn = Y := ⟨_, rfl⟩
  have bm : Mag w (.slice bo bn bc) bn Y := ⟨bo, bn, bc, g, rfl, bhc, Nat.le_refl _, br, hY⟩
  clear bhc br hY
  obtain ⟨Z, hZ⟩ : ∃ Z, V h cn = Z := ⟨_, rfl⟩
  have cm : Mag w (.slice co cn cc) cn Z := ⟨co, cn, cc, h, rfl, chc, Nat.le_refl _, cr, hZ⟩
  clear chc cr hZ
  go_enter Tryd.func6, Tryd.ntmps6
  go_wp2_with fail
  refine (fit_any _ hT).mono ?_
  rintro e w1 ⟨rfl, hb1⟩
  replace hT := hT.below hb1
  replace am := am.below hb1
  replace bm := bm.below hb1
  replace cm := cm.below hb1
  replace hB := hB.trans (hb1.mono hB.size)
  clear hb1
  by_cases hsh : an ≤ 20 ∧ bn ≤ 20 ∧ cn ≤ 20
  rotate_left
  · skip
    go_wp2_with fail
    refine (short3_no 20 ao an ac bo bn bc co cn cc w1 22 (by omega) hsh).mono ?_
    rintro e w2 ⟨rfl, hw'⟩
    have hb2 : Below w1.heap.size w1 w2 := by rw [← hw']; exact (Below.refl _ _).alloc (Nat.le_refl _) _
    clear hw'
    replace hT := hT.below hb2
    replace am := am.below hb2
    replace bm := bm.below hb2
    replace cm := cm.below hb2
    replace hB := hB.trans (hb2.mono hB.size)
    clear hb2
    go_wp2
    go_ret
    exact ⟨rfl, hB⟩
  have hsa : an ≤ 20 := hsh.1
  have hsb : bn ≤ 20 := hsh.2.1
  have hsc : cn ≤ 20 := hsh.2.2
  go_wp2_with fail
  refine (short3_yes 20 ao an ac bo bn bc co cn cc w1 22 (by omega) (by omega) (by omega) (by omega)).mono ?_
  rintro e w2 ⟨rfl, hw'⟩
  have hb2 : Below w1.heap.size w1 w2 := by rw [← hw']; exact (Below.refl _ _).alloc (Nat.le_refl _) _
  clear hw'
  replace hT := hT.below hb2
  replace am := am.below hb2
  replace bm := bm.below hb2
  replace cm := cm.below hb2
  replace hB := hB.trans (hb2.mono hB.size)
  clear hb2
  by_cases hY0 : Y = 0
  · skip
    subst hY0
    go_wp2_with fail
    have cc := Len_any _ bn 0 _ (by omega) bm
    rw [show bl 0 = 0 from rfl] at cc
    refine cc.mono ?_
    clear cc
    rintro e w' ⟨rfl, rfl⟩
    go_wp2
    go_ret
    exact ⟨rfl, hB⟩
  · skip
    have hbl' : (((bl Y : Nat) : Int) == 0) = false := by have := bl_pos hY0; simp only [beq_eq_false_iff_ne]; omega
    go_wp2_with fail
    refine (Len_any _ bn Y _ (by omega) bm).mono ?_
    rintro e w' ⟨rfl, rfl⟩
    go_wp2_with fail
    refine (Div_any _ _ cn bn Z Y _ (by omega) (by omega) cm bm).mono ?_
    rintro e w3 ⟨vq, vl, rfl, hq, hl, hb3⟩
    replace hT := hT.below hb3
    replace am := am.below hb3
    replace bm := bm.below hb3
    replace cm := cm.below hb3
    replace hB := hB.trans (hb3.mono hB.size)
    clear hb3
    go_wp2_with fail
    refine (Mul_any _ _ an bn X Y _ (by omega) (by omega) am bm).mono ?_
    rintro e w4 ⟨vp, rfl, hp, hb4⟩
    replace hT := hT.below hb4
    replace am := am.below hb4
    replace bm := bm.below hb4
    replace cm := cm.below hb4
    replace hq := hq.below hb4
    replace hl := hl.below hb4
    replace hB := hB.trans (hb4.mono hB.size)
    clear hb4
    go_wp2_with fail
    refine (Add_any vp vl (an + bn) cn (X * Y) (Z % Y) _ (by omega) (by omega) hp.mag hl.mag).mono ?_
    rintro e w5 ⟨vs, rfl, hs, hb5⟩
    replace hT := hT.below hb5
    replace am := am.below hb5
    replace bm := bm.below hb5
    replace cm := cm.below hb5
    replace hq := hq.below hb5
    replace hl := hl.below hb5
    replace hp := hp.below hb5
    replace hB := hB.trans (hb5.mono hB.size)
    clear hb5
    go_wp2_with fail
    refine (Div_any vs _ (max (an + bn) cn + 1) bn (X * Y + Z % Y) Y _ (by omega) (by omega) hs.mag bm).mono ?_
    rintro e w6 ⟨vq2, vr2, rfl, hq2, hr2, hb6⟩
    replace hT := hT.below hb6
    replace am := am.below hb6
    replace bm := bm.below hb6
    replace cm := cm.below hb6
    replace hq := hq.below hb6
    replace hl := hl.below hb6
    replace hp := hp.below hb6
    replace hs := hs.below hb6
    replace hB := hB.trans (hb6.mono hB.size)
    clear hb6
    have hml := Nat.mod_lt Z (show Y > 0 by omega)
    have e1 : (X * Y + Z % Y) / Y = X := by rw [Nat.mul_comm, Nat.mul_add_div (by omega), Nat.div_eq_of_lt hml, Nat.add_zero]
    have e2 : (X * Y + Z % Y) % Y = Z % Y := by rw [Nat.mul_comm, Nat.mul_add_mod, Nat.mod_eq_of_lt hml]
    rw [e1] at hq2
    rw [e2] at hr2
    clear e1 e2 hml
    go_wp2_with fail
    have cc := Cmp_any vq2 _ (max (an + bn) cn + 1) an X X w6 (by omega) (by omega) hq2.mag am
    rw [show cmpn X X = 0 from cmpn_self X] at cc
    refine cc.mono ?_
    clear cc
    rintro e w7 ⟨q, rfl, hq'⟩
    obtain ⟨hb7, hz⟩ := drewN_size hq'
    clear hq' hz
    replace hT := hT.below hb7
    replace am := am.below hb7
    replace bm := bm.below hb7
    replace cm := cm.below hb7
    replace hq := hq.below hb7
    replace hl := hl.below hb7
    replace hp := hp.below hb7
    replace hs := hs.below hb7
    replace hq2 := hq2.below hb7
    replace hr2 := hr2.below hb7
    replace hB := hB.trans (hb7.mono hB.size)
    clear hb7
    go_wp2_with fail
    refine (same_any _ _ _ _ (Z % Y) _ (by omega) hr2 hl).mono ?_
    rintro e w8 ⟨q, rfl, hq'⟩
    obtain ⟨hb8, hz⟩ := drewN_size hq'
    clear hq' hz
    replace hT := hT.below hb8
    replace am := am.below hb8
    replace bm := bm.below hb8
    replace cm := cm.below hb8
    replace hq := hq.below hb8
    replace hl := hl.below hb8
    replace hp := hp.below hb8
    replace hs := hs.below hb8
    replace hq2 := hq2.below hb8
    replace hr2 := hr2.below hb8
    replace hB := hB.trans (hb8.mono hB.size)
    clear hb8
    go_wp2
    go_ret
    exact ⟨rfl, hB⟩
end Go.Proofs.YthbjiogpekhbeaaDoor
