/- The statement MagLaws, walked. -/
import Derived.Test.YthbjiogpekhbeaaDoorLawA
namespace Go.Proofs.YthbjiogpekhbeaaDoor
open Go.RowKit Go.MagM
set_option maxHeartbeats 4000000 in
theorem MagLaws_walk (ao : Option Addr) (an ac : Nat) (f : Nat → Nat) (bo : Option Addr) (bn bc : Nat) (g : Nat → Nat) (co : Option Addr) (cn cc : Nat) (h : Nat → Nat) (w : World) (ahc : an ≤ ac) (ar : Reads w ao an f) (bhc : bn ≤ bc) (br : Reads w bo bn g) (chc : cn ≤ cc) (cr : Reads w co cn h) (hT : Tab w) :
    Calls Tryd.prog 7 #[.slice ao an ac, .slice bo bn bc, .slice co cn cc] w fun e w' => e = .returned (.bool true) ∧ Below w.heap.size w w' := by
  have hB := Below.refl w.heap.size w
  obtain ⟨X, hX⟩ : ∃ X, V f an = X := ⟨_, rfl⟩
  have am : Mag w (.slice ao an ac) an X := ⟨ao, an, ac, f, rfl, ahc, Nat.le_refl _, ar, hX⟩
  clear ahc ar hX
  obtain ⟨Y, hY⟩ : ∃ Y, V g bn = Y := ⟨_, rfl⟩
  have bm : Mag w (.slice bo bn bc) bn Y := ⟨bo, bn, bc, g, rfl, bhc, Nat.le_refl _, br, hY⟩
  clear bhc br hY
  obtain ⟨Z, hZ⟩ : ∃ Z, V h cn = Z := ⟨_, rfl⟩
  have cm : Mag w (.slice co cn cc) cn Z := ⟨co, cn, cc, h, rfl, chc, Nat.le_refl _, cr, hZ⟩
  clear chc cr hZ
  go_enter Tryd.func7, Tryd.ntmps7
  go_wp2_with fail
  refine (fit_any _ hT).mono ?_
  rintro e w1 ⟨rfl, hb1⟩
  replace hT := hT.below hb1
  replace am := am.below hb1
  replace bm := bm.below hb1
  replace cm := cm.below hb1
  replace hB := hB.trans (hb1.mono hB.size)
  clear hb1
  by_cases hsh : an ≤ 20 ∧ bn ≤ 20 ∧ cn ≤ 20
  rotate_left
  · skip
    go_wp2_with fail
    refine (short3_no 20 ao an ac bo bn bc co cn cc w1 22 (by omega) hsh).mono ?_
    rintro e w2 ⟨rfl, hw'⟩
    have hb2 : Below w1.heap.size w1 w2 := by rw [← hw']; exact (Below.refl _ _).alloc (Nat.le_refl _) _
    clear hw'
    replace hT := hT.below hb2
    replace am := am.below hb2
    replace bm := bm.below hb2
    replace cm := cm.below hb2
    replace hB := hB.trans (hb2.mono hB.size)
    clear hb2
    go_wp2
    go_ret
    exact ⟨rfl, hB⟩
  go_wp2_with fail
  refine (short3_yes 20 ao an ac bo bn bc co cn cc w1 22 (by omega) (by omega) (by omega) (by omega)).mono ?_
  rintro e w2 ⟨rfl, hw'⟩
  have hb2 : Below w1.heap.size w1 w2 := by rw [← hw']; exact (Below.refl _ _).alloc (Nat.le_refl _) _
  clear hw'
  replace hT := hT.below hb2
  replace am := am.below hb2
  replace bm := bm.below hb2
  replace cm := cm.below hb2
  replace hB := hB.trans (hb2.mono hB.size)
  clear hb2
  obtain ⟨hsa, hsb, hsc⟩ := hsh
  replace am := am.more hsa
  replace bm := bm.more hsb
  replace cm := cm.more hsc
  go_wp2_with fail
  refine (Add_any _ _ 20 20 Y Z _ (by omega) (by omega) bm cm).mono ?_
  rintro e w3 ⟨v1, rfl, h1, hb3⟩
  replace hT := hT.below hb3
  replace am := am.below hb3
  replace bm := bm.below hb3
  replace cm := cm.below hb3
  replace hB := hB.trans (hb3.mono hB.size)
  clear hb3
  go_wp2_with fail
  refine (Mul_any _ _ 20 (max 20 20 + 1) X (Y + Z) _ (by omega) (by omega) am h1.mag).mono ?_
  rintro e w4 ⟨v2, rfl, h2, hb4⟩
  replace hT := hT.below hb4
  replace am := am.below hb4
  replace bm := bm.below hb4
  replace cm := cm.below hb4
  replace h1 := h1.below hb4
  replace hB := hB.trans (hb4.mono hB.size)
  clear hb4
  go_wp2_with fail
  refine (Mul_any _ _ 20 20 Z X _ (by omega) (by omega) cm am).mono ?_
  rintro e w5 ⟨v3, rfl, h3, hb5⟩
  replace hT := hT.below hb5
  replace am := am.below hb5
  replace bm := bm.below hb5
  replace cm := cm.below hb5
  replace h1 := h1.below hb5
  replace h2 := h2.below hb5
  replace hB := hB.trans (hb5.mono hB.size)
  clear hb5
  go_wp2_with fail
  refine (Mul_any _ _ 20 20 Y X _ (by omega) (by omega) bm am).mono ?_
  rintro e w6 ⟨v4, rfl, h4, hb6⟩
  replace hT := hT.below hb6
  replace am := am.below hb6
  replace bm := bm.below hb6
  replace cm := cm.below hb6
  replace h1 := h1.below hb6
  replace h2 := h2.below hb6
  replace h3 := h3.below hb6
  replace hB := hB.trans (hb6.mono hB.size)
  clear hb6
  go_wp2_with fail
  refine (Add_any _ _ (20 + 20) (20 + 20) (Z * X) (Y * X) _ (by omega) (by omega) h3.mag h4.mag).mono ?_
  rintro e w7 ⟨v5, rfl, h5, hb7⟩
  replace hT := hT.below hb7
  replace am := am.below hb7
  replace bm := bm.below hb7
  replace cm := cm.below hb7
  replace h1 := h1.below hb7
  replace h2 := h2.below hb7
  replace h3 := h3.below hb7
  replace h4 := h4.below hb7
  replace hB := hB.trans (hb7.mono hB.size)
  clear hb7
  go_wp2_with fail
  refine (same_any _ _ _ _ (X * (Y + Z)) _ (by omega) h2 (RMag_eq h5 (by rw [Nat.mul_add, Nat.mul_comm Z X, Nat.mul_comm Y X]; omega))).mono ?_
  rintro e w8 ⟨q, rfl, hq'⟩
  obtain ⟨hb8, hz⟩ := drewN_size hq'
  clear hq' hz
  replace hT := hT.below hb8
  replace am := am.below hb8
  replace bm := bm.below hb8
  replace cm := cm.below hb8
  replace h1 := h1.below hb8
  replace h2 := h2.below hb8
  replace h3 := h3.below hb8
  replace h4 := h4.below hb8
  replace h5 := h5.below hb8
  replace hB := hB.trans (hb8.mono hB.size)
  clear hb8
  go_wp2_with fail
  refine (Mul_any _ _ 20 20 X Y _ (by omega) (by omega) am bm).mono ?_
  rintro e w9 ⟨v6, rfl, h6, hb9⟩
  replace hT := hT.below hb9
  replace am := am.below hb9
  replace bm := bm.below hb9
  replace cm := cm.below hb9
  replace h1 := h1.below hb9
  replace h2 := h2.below hb9
  replace h3 := h3.below hb9
  replace h4 := h4.below hb9
  replace h5 := h5.below hb9
  replace hB := hB.trans (hb9.mono hB.size)
  clear hb9
  go_wp2_with fail
  refine (Mul_any _ _ (20 + 20) 20 (X * Y) Z _ (by omega) (by omega) h6.mag cm).mono ?_
  rintro e w10 ⟨v7, rfl, h7, hb10⟩
  replace hT := hT.below hb10
  replace am := am.below hb10
  replace bm := bm.below hb10
  replace cm := cm.below hb10
  replace h1 := h1.below hb10
  replace h2 := h2.below hb10
  replace h3 := h3.below hb10
  replace h4 := h4.below hb10
  replace h5 := h5.below hb10
  replace h6 := h6.below hb10
  replace hB := hB.trans (hb10.mono hB.size)
  clear hb10
  go_wp2_with fail
  refine (Mul_any _ _ 20 20 Z Y _ (by omega) (by omega) cm bm).mono ?_
  rintro e w11 ⟨v8, rfl, h8, hb11⟩
  replace hT := hT.below hb11
  replace am := am.below hb11
  replace bm := bm.below hb11
  replace cm := cm.below hb11
  replace h1 := h1.below hb11
  replace h2 := h2.below hb11
  replace h3 := h3.below hb11
  replace h4 := h4.below hb11
  replace h5 := h5.below hb11
  replace h6 := h6.below hb11
  replace h7 := h7.below hb11
  replace hB := hB.trans (hb11.mono hB.size)
  clear hb11
  go_wp2_with fail
  refine (Mul_any _ _ 20 (20 + 20) X (Z * Y) _ (by omega) (by omega) am h8.mag).mono ?_
  rintro e w12 ⟨v9, rfl, h9, hb12⟩
  replace hT := hT.below hb12
  replace am := am.below hb12
  replace bm := bm.below hb12
  replace cm := cm.below hb12
  replace h1 := h1.below hb12
  replace h2 := h2.below hb12
  replace h3 := h3.below hb12
  replace h4 := h4.below hb12
  replace h5 := h5.below hb12
  replace h6 := h6.below hb12
  replace h7 := h7.below hb12
  replace h8 := h8.below hb12
  replace hB := hB.trans (hb12.mono hB.size)
  clear hb12
  go_wp2_with fail
  refine (same_any _ _ _ _ (X * Y * Z) _ (by omega) h7 (RMag_eq h9 (by rw [Nat.mul_comm Z Y, Nat.mul_assoc]))).mono ?_
  rintro e w13 ⟨q, rfl, hq'⟩
  obtain ⟨hb13, hz⟩ := drewN_size hq'
  clear hq' hz
  replace hT := hT.below hb13
  replace am := am.below hb13
  replace bm := bm.below hb13
  replace cm := cm.below hb13
  replace h1 := h1.below hb13
  replace h2 := h2.below hb13
  replace h3 := h3.below hb13
  replace h4 := h4.below hb13
  replace h5 := h5.below hb13
  replace h6 := h6.below hb13
  replace h7 := h7.below hb13
  replace h8 := h8.below hb13
  replace h9 := h9.below hb13
  replace hB := hB.trans (hb13.mono hB.size)
  clear hb13
  go_wp2_with fail
  refine (Add_any _ _ 20 20 X Y _ (by omega) (by omega) am bm).mono ?_
  rintro e w14 ⟨s1, rfl, k1, hb14⟩
  replace hT := hT.below hb14
  replace am := am.below hb14
  replace bm := bm.below hb14
  replace cm := cm.below hb14
  replace h1 := h1.below hb14
  replace h2 := h2.below hb14
  replace h3 := h3.below hb14
  replace h4 := h4.below hb14
  replace h5 := h5.below hb14
  replace h6 := h6.below hb14
  replace h7 := h7.below hb14
  replace h8 := h8.below hb14
  replace h9 := h9.below hb14
  replace hB := hB.trans (hb14.mono hB.size)
  clear hb14
  go_wp2_with fail
  refine (Add_any _ _ (max 20 20 + 1) 20 (X + Y) Z _ (by omega) (by omega) k1.mag cm).mono ?_
  rintro e w15 ⟨s2, rfl, k2, hb15⟩
  replace hT := hT.below hb15
  replace am := am.below hb15
  replace bm := bm.below hb15
  replace cm := cm.below hb15
  replace h1 := h1.below hb15
  replace h2 := h2.below hb15
  replace h3 := h3.below hb15
  replace h4 := h4.below hb15
  replace h5 := h5.below hb15
  replace h6 := h6.below hb15
  replace h7 := h7.below hb15
  replace h8 := h8.below hb15
  replace h9 := h9.below hb15
  replace k1 := k1.below hb15
  replace hB := hB.trans (hb15.mono hB.size)
  clear hb15
  go_wp2_with fail
  refine (Add_any _ _ 20 20 Z X _ (by omega) (by omega) cm am).mono ?_
  rintro e w16 ⟨s3, rfl, k3, hb16⟩
  replace hT := hT.below hb16
  replace am := am.below hb16
  replace bm := bm.below hb16
  replace cm := cm.below hb16
  replace h1 := h1.below hb16
  replace h2 := h2.below hb16
  replace h3 := h3.below hb16
  replace h4 := h4.below hb16
  replace h5 := h5.below hb16
  replace h6 := h6.below hb16
  replace h7 := h7.below hb16
  replace h8 := h8.below hb16
  replace h9 := h9.below hb16
  replace k1 := k1.below hb16
  replace k2 := k2.below hb16
  replace hB := hB.trans (hb16.mono hB.size)
  clear hb16
  go_wp2_with fail
  refine (Add_any _ _ 20 (max 20 20 + 1) Y (Z + X) _ (by omega) (by omega) bm k3.mag).mono ?_
  rintro e w17 ⟨s4, rfl, k4, hb17⟩
  replace hT := hT.below hb17
  replace am := am.below hb17
  replace bm := bm.below hb17
  replace cm := cm.below hb17
  replace h1 := h1.below hb17
  replace h2 := h2.below hb17
  replace h3 := h3.below hb17
  replace h4 := h4.below hb17
  replace h5 := h5.below hb17
  replace h6 := h6.below hb17
  replace h7 := h7.below hb17
  replace h8 := h8.below hb17
  replace h9 := h9.below hb17
  replace k1 := k1.below hb17
  replace k2 := k2.below hb17
  replace k3 := k3.below hb17
  replace hB := hB.trans (hb17.mono hB.size)
  clear hb17
  go_wp2_with fail
  refine (same_any _ _ _ _ (X + Y + Z) _ (by omega) k2 (RMag_eq k4 (by omega))).mono ?_
  rintro e w18 ⟨q, rfl, hq'⟩
  obtain ⟨hb18, hz⟩ := drewN_size hq'
  clear hq' hz
  replace hT := hT.below hb18
  replace am := am.below hb18
  replace bm := bm.below hb18
  replace cm := cm.below hb18
  replace h1 := h1.below hb18
  replace h2 := h2.below hb18
  replace h3 := h3.below hb18
  replace h4 := h4.below hb18
  replace h5 := h5.below hb18
  replace h6 := h6.below hb18
  replace h7 := h7.below hb18
  replace h8 := h8.below hb18
  replace h9 := h9.below hb18
  replace k1 := k1.below hb18
  replace k2 := k2.below hb18
  replace k3 := k3.below hb18
  replace k4 := k4.below hb18
  replace hB := hB.trans (hb18.mono hB.size)
  clear hb18
  go_wp2_with fail
  refine (Add_any _ _ 20 20 X Z _ (by omega) (by omega) am cm).mono ?_
  rintro e w19 ⟨s5, rfl, k5, hb19⟩
  replace hT := hT.below hb19
  replace am := am.below hb19
  replace bm := bm.below hb19
  replace cm := cm.below hb19
  replace h1 := h1.below hb19
  replace h2 := h2.below hb19
  replace h3 := h3.below hb19
  replace h4 := h4.below hb19
  replace h5 := h5.below hb19
  replace h6 := h6.below hb19
  replace h7 := h7.below hb19
  replace h8 := h8.below hb19
  replace h9 := h9.below hb19
  replace k1 := k1.below hb19
  replace k2 := k2.below hb19
  replace k3 := k3.below hb19
  replace k4 := k4.below hb19
  replace hB := hB.trans (hb19.mono hB.size)
  clear hb19
  go_wp2_with fail
  refine (Sub_any _ _ (max (max 20 20 + 1) 20 + 1) (max 20 20 + 1) (X + Y + Z) (X + Z) _ (by omega) (by omega) k2.mag k5.mag).mono ?_
  rintro e w20 ⟨s6, rfl, k6, hb20⟩
  replace hT := hT.below hb20
  replace am := am.below hb20
  replace bm := bm.below hb20
  replace cm := cm.below hb20
  replace h1 := h1.below hb20
  replace h2 := h2.below hb20
  replace h3 := h3.below hb20
  replace h4 := h4.below hb20
  replace h5 := h5.below hb20
  replace h6 := h6.below hb20
  replace h7 := h7.below hb20
  replace h8 := h8.below hb20
  replace h9 := h9.below hb20
  replace k1 := k1.below hb20
  replace k2 := k2.below hb20
  replace k3 := k3.below hb20
  replace k4 := k4.below hb20
  replace k5 := k5.below hb20
  replace hB := hB.trans (hb20.mono hB.size)
  clear hb20
  go_wp2_with fail
  refine (Add_any _ _ 20 0 Y 0 _ (by omega) (by omega) bm (nil_mag _)).mono ?_
  rintro e w21 ⟨s7, rfl, k7, hb21⟩
  replace hT := hT.below hb21
  replace am := am.below hb21
  replace bm := bm.below hb21
  replace cm := cm.below hb21
  replace h1 := h1.below hb21
  replace h2 := h2.below hb21
  replace h3 := h3.below hb21
  replace h4 := h4.below hb21
  replace h5 := h5.below hb21
  replace h6 := h6.below hb21
  replace h7 := h7.below hb21
  replace h8 := h8.below hb21
  replace h9 := h9.below hb21
  replace k1 := k1.below hb21
  replace k2 := k2.below hb21
  replace k3 := k3.below hb21
  replace k4 := k4.below hb21
  replace k5 := k5.below hb21
  replace k6 := k6.below hb21
  replace hB := hB.trans (hb21.mono hB.size)
  clear hb21
  go_wp2_with fail
  refine (same_any _ _ _ _ Y _ (by omega) (RMag_eq k6 (by omega)) (RMag_eq k7 rfl)).mono ?_
  rintro e w22 ⟨q, rfl, hq'⟩
  obtain ⟨hb22, hz⟩ := drewN_size hq'
  clear hq' hz
  replace hT := hT.below hb22
  replace am := am.below hb22
  replace bm := bm.below hb22
  replace cm := cm.below hb22
  replace h1 := h1.below hb22
  replace h2 := h2.below hb22
  replace h3 := h3.below hb22
  replace h4 := h4.below hb22
  replace h5 := h5.below hb22
  replace h6 := h6.below hb22
  replace h7 := h7.below hb22
  replace h8 := h8.below hb22
  replace h9 := h9.below hb22
  replace k1 := k1.below hb22
  replace k2 := k2.below hb22
  replace k3 := k3.below hb22
  replace k4 := k4.below hb22
  replace k5 := k5.below hb22
  replace k6 := k6.below hb22
  replace k7 := k7.below hb22
  replace hB := hB.trans (hb22.mono hB.size)
  clear hb22
  go_wp2
  go_ret
  exact ⟨rfl, hB⟩
end Go.Proofs.YthbjiogpekhbeaaDoor
