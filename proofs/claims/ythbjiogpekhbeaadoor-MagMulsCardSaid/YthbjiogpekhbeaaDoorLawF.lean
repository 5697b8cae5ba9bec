/- The statement MagAdds, walked. -/
import Derived.Test.YthbjiogpekhbeaaDoorFit
import Derived.Test.YthbjiogpekhbeaaDoorTenC
import Derived.Test.YthbjiogpekhbeaaDoorTenD
namespace Go.Proofs.YthbjiogpekhbeaaDoor
open Go.RowKit Go.MagM
theorem Digits_mag (va : Value) (L X : Nat) (w : World) (hL : L ≤ 1000) (ha : Mag w va L X) :
    Calls Tryd.prog 14 #[va] w fun e w' => ∃ v, e = .returned v ∧ Dec w' v (20 * L) X ∧ Below w.heap.size w w' := by
  obtain ⟨ao, n, c, f, rfl, h1, h2, h3, rfl⟩ := ha
  exact (Digits_any ao n c f w (by omega) h3).mono (fun e w' ⟨v, h4, h5, h6⟩ => ⟨v, h4, h5.more (by omega), h6⟩)
set_option maxHeartbeats 4000000 in
theorem MagAdds_walk (ao : Option Addr) (an ac : Nat) (f : Nat → Nat) (bo : Option Addr) (bn bc : Nat) (g : Nat → Nat) (w : World) (ahc : an ≤ ac) (ar : Reads w ao an f) (bhc : bn ≤ bc) (br : Reads w bo bn g) (hT : Tab w) :
    Calls Tryd.prog 3 #[.slice ao an ac, .slice bo bn bc] w fun e w' => e = .returned (.bool true) ∧ Below w.heap.size w w' := by
  have hB := Below.refl w.heap.size w
  obtain ⟨X, hX⟩ : ∃ X, V f an = X := ⟨_, rfl⟩
  have am : Mag w (.slice ao an ac) an X := ⟨ao, an, ac, f, rfl, ahc, Nat.le_refl _, ar, hX⟩
  clear ahc ar hX
  obtain ⟨Y, hY⟩ : ∃ Y, V g bn = Y := ⟨_, rfl⟩
  have bm : Mag w (.slice bo bn bc) bn Y := ⟨bo, bn, bc, g, rfl, bhc, Nat.le_refl _, br, hY⟩
  clear bhc br hY
  go_enter Tryd.func3, Tryd.ntmps3
  go_wp2_with fail
  refine (fit_any _ hT).mono ?_
  rintro e w1 ⟨rfl, hb1⟩
  replace hT := hT.below hb1
  replace am := am.below hb1
  replace bm := bm.below hb1
  replace hB := hB.trans (hb1.mono hB.size)
  clear hb1
  by_cases hsh : an ≤ 8 ∧ bn ≤ 8
  rotate_left
  · skip
    go_wp2_with fail
    refine (short2_no 8 ao an ac bo bn bc w1 22 (by omega) hsh).mono ?_
    rintro e w2 ⟨rfl, hw'⟩
    have hb2 : Below w1.heap.size w1 w2 := by rw [← hw']; exact (Below.refl _ _).alloc (Nat.le_refl _) _
    clear hw'
    replace hT := hT.below hb2
    replace am := am.below hb2
    replace bm := bm.below hb2
    replace hB := hB.trans (hb2.mono hB.size)
    clear hb2
    go_wp2
    go_ret
    exact ⟨rfl, hB⟩
  have hsa : an ≤ 8 := hsh.1
  have hsb : bn ≤ 8 := hsh.2
  go_wp2_with fail
  refine (short2_yes 8 ao an ac bo bn bc w1 22 (by omega) (by omega) (by omega)).mono ?_
  rintro e w2 ⟨rfl, hw'⟩
  have hb2 : Below w1.heap.size w1 w2 := by rw [← hw']; exact (Below.refl _ _).alloc (Nat.le_refl _) _
  clear hw'
  replace hT := hT.below hb2
  replace am := am.below hb2
  replace bm := bm.below hb2
  replace hB := hB.trans (hb2.mono hB.size)
  clear hb2
  go_wp2_with fail
  refine (Digits_mag _ an X _ (by omega) am).mono ?_
  rintro e w3 ⟨va, rfl, da, hb3⟩
  replace hT := hT.below hb3
  replace am := am.below hb3
  replace bm := bm.below hb3
  replace hB := hB.trans (hb3.mono hB.size)
  clear hb3
  go_wp2_with fail
  refine (Digits_mag _ bn Y _ (by omega) bm).mono ?_
  rintro e w4 ⟨vb, rfl, db, hb4⟩
  replace hT := hT.below hb4
  replace am := am.below hb4
  replace bm := bm.below hb4
  replace da := da.below hb4
  replace hB := hB.trans (hb4.mono hB.size)
  clear hb4
  rcases Nat.lt_or_ge X Y with hXY | hXY
  · skip
    go_wp2_with fail
    have cc := rCmp_any va vb _ _ X Y w4 (by omega) (by omega) da db
    rw [show cmpn X Y = -1 from cmpn_of_lt hXY] at cc
    refine cc.mono ?_
    clear cc
    rintro e w5 ⟨q, rfl, hq'⟩
    obtain ⟨hb5, hz⟩ := drewN_size hq'
    clear hq' hz
    replace hT := hT.below hb5
    replace am := am.below hb5
    replace bm := bm.below hb5
    replace da := da.below hb5
    replace db := db.below hb5
    replace hB := hB.trans (hb5.mono hB.size)
    clear hb5
    go_wp2_with fail
    have cc := Cmp_any _ _ an bn X Y w5 (by omega) (by omega) am bm
    rw [show cmpn X Y = -1 from cmpn_of_lt hXY] at cc
    refine cc.mono ?_
    clear cc
    rintro e w6 ⟨q, rfl, hq'⟩
    obtain ⟨hb6, hz⟩ := drewN_size hq'
    clear hq' hz
    replace hT := hT.below hb6
    replace am := am.below hb6
    replace bm := bm.below hb6
    replace da := da.below hb6
    replace db := db.below hb6
    replace hB := hB.trans (hb6.mono hB.size)
    clear hb6
    go_wp2_with fail
    refine (Add_any _ _ an bn X Y _ (by omega) (by omega) am bm).mono ?_
    rintro e w7 ⟨vs, rfl, hs, hb7⟩
    replace hT := hT.below hb7
    replace am := am.below hb7
    replace bm := bm.below hb7
    replace da := da.below hb7
    replace db := db.below hb7
    replace hB := hB.trans (hb7.mono hB.size)
    clear hb7
    go_wp2_with fail
    refine (radd_any va vb _ _ X Y _ (by omega) (by omega) da db).mono ?_
    rintro e w8 ⟨vt, rfl, dt, hb8⟩
    replace hT := hT.below hb8
    replace am := am.below hb8
    replace bm := bm.below hb8
    replace da := da.below hb8
    replace db := db.below hb8
    replace hs := hs.below hb8
    replace hB := hB.trans (hb8.mono hB.size)
    clear hb8
    go_wp2_with fail
    refine (Is_any vs vt _ _ (X + Y) _ (by omega) (by omega) hs dt).mono ?_
    rintro e w9 ⟨rfl, hb9⟩
    replace hT := hT.below hb9
    replace am := am.below hb9
    replace bm := bm.below hb9
    replace da := da.below hb9
    replace db := db.below hb9
    replace hs := hs.below hb9
    replace dt := dt.below hb9
    replace hB := hB.trans (hb9.mono hB.size)
    clear hb9
    clear hs dt da db
    go_wp2_with fail
    refine (Sub_any _ _ an bn X Y _ (by omega) (by omega) am bm).mono ?_
    rintro e w10 ⟨vd, rfl, hd, hb10⟩
    replace hT := hT.below hb10
    replace am := am.below hb10
    replace bm := bm.below hb10
    replace hB := hB.trans (hb10.mono hB.size)
    clear hb10
    rw [show X - Y = 0 by omega] at hd
    obtain ⟨qo, qc, rfl⟩ := RMag.zero hd
    clear hd
    go_wp2
    go_ret
    exact ⟨rfl, hB⟩
  · skip
    obtain ⟨cv, hcv, hc0⟩ : ∃ cv : Int, cmpn X Y = cv ∧ (cv = 0 ∨ cv = 1) := by
      refine ⟨_, rfl, ?_⟩
      rcases Nat.lt_or_eq_of_le hXY with h | h
      · exact .inr (cmpn_of_gt h)
      · rw [h]; exact .inl (cmpn_self _)
    rcases hc0 with rfl | rfl
    · skip
      go_wp2_with fail
      have cc := rCmp_any va vb _ _ X Y w4 (by omega) (by omega) da db
      rw [show cmpn X Y = 0 from hcv] at cc
      refine cc.mono ?_
      clear cc
      rintro e w5 ⟨q, rfl, hq'⟩
      obtain ⟨hb5, hz⟩ := drewN_size hq'
      clear hq' hz
      replace hT := hT.below hb5
      replace am := am.below hb5
      replace bm := bm.below hb5
      replace da := da.below hb5
      replace db := db.below hb5
      replace hB := hB.trans (hb5.mono hB.size)
      clear hb5
      go_wp2_with fail
      have cc := Cmp_any _ _ an bn X Y w5 (by omega) (by omega) am bm
      rw [show cmpn X Y = 0 from hcv] at cc
      refine cc.mono ?_
      clear cc
      rintro e w6 ⟨q, rfl, hq'⟩
      obtain ⟨hb6, hz⟩ := drewN_size hq'
      clear hq' hz
      replace hT := hT.below hb6
      replace am := am.below hb6
      replace bm := bm.below hb6
      replace da := da.below hb6
      replace db := db.below hb6
      replace hB := hB.trans (hb6.mono hB.size)
      clear hb6
      go_wp2_with fail
      refine (Add_any _ _ an bn X Y _ (by omega) (by omega) am bm).mono ?_
      rintro e w7 ⟨vs, rfl, hs, hb7⟩
      replace hT := hT.below hb7
      replace am := am.below hb7
      replace bm := bm.below hb7
      replace da := da.below hb7
      replace db := db.below hb7
      replace hB := hB.trans (hb7.mono hB.size)
      clear hb7
      go_wp2_with fail
      refine (radd_any va vb _ _ X Y _ (by omega) (by omega) da db).mono ?_
      rintro e w8 ⟨vt, rfl, dt, hb8⟩
      replace hT := hT.below hb8
      replace am := am.below hb8
      replace bm := bm.below hb8
      replace da := da.below hb8
      replace db := db.below hb8
      replace hs := hs.below hb8
      replace hB := hB.trans (hb8.mono hB.size)
      clear hb8
      go_wp2_with fail
      refine (Is_any vs vt _ _ (X + Y) _ (by omega) (by omega) hs dt).mono ?_
      rintro e w9 ⟨rfl, hb9⟩
      replace hT := hT.below hb9
      replace am := am.below hb9
      replace bm := bm.below hb9
      replace da := da.below hb9
      replace db := db.below hb9
      replace hs := hs.below hb9
      replace dt := dt.below hb9
      replace hB := hB.trans (hb9.mono hB.size)
      clear hb9
      clear hs dt
      go_wp2_with fail
      refine (Sub_any _ _ an bn X Y _ (by omega) (by omega) am bm).mono ?_
      rintro e w10 ⟨vd, rfl, hd, hb10⟩
      replace hT := hT.below hb10
      replace am := am.below hb10
      replace bm := bm.below hb10
      replace da := da.below hb10
      replace db := db.below hb10
      replace hB := hB.trans (hb10.mono hB.size)
      clear hb10
      go_wp2_with fail
      refine (rSub_any va vb _ _ X Y _ (by omega) (by omega) hXY da db).mono ?_
      rintro e w11 ⟨ve, rfl, de, hb11⟩
      replace hT := hT.below hb11
      replace am := am.below hb11
      replace bm := bm.below hb11
      replace da := da.below hb11
      replace db := db.below hb11
      replace hd := hd.below hb11
      replace hB := hB.trans (hb11.mono hB.size)
      clear hb11
      go_wp2_with fail
      refine (Is_any vd ve _ _ (X - Y) _ (by omega) (by omega) hd de).mono ?_
      rintro e w12 ⟨rfl, hb12⟩
      replace hT := hT.below hb12
      replace am := am.below hb12
      replace bm := bm.below hb12
      replace da := da.below hb12
      replace db := db.below hb12
      replace hd := hd.below hb12
      replace de := de.below hb12
      replace hB := hB.trans (hb12.mono hB.size)
      clear hb12
      go_wp2
      go_ret
      exact ⟨rfl, hB⟩
    · skip
      go_wp2_with fail
      have cc := rCmp_any va vb _ _ X Y w4 (by omega) (by omega) da db
      rw [show cmpn X Y = 1 from hcv] at cc
      refine cc.mono ?_
      clear cc
      rintro e w5 ⟨q, rfl, hq'⟩
      obtain ⟨hb5, hz⟩ := drewN_size hq'
      clear hq' hz
      replace hT := hT.below hb5
      replace am := am.below hb5
      replace bm := bm.below hb5
      replace da := da.below hb5
      replace db := db.below hb5
      replace hB := hB.trans (hb5.mono hB.size)
      clear hb5
      go_wp2_with fail
      have cc := Cmp_any _ _ an bn X Y w5 (by omega) (by omega) am bm
      rw [show cmpn X Y = 1 from hcv] at cc
      refine cc.mono ?_
      clear cc
      rintro e w6 ⟨q, rfl, hq'⟩
      obtain ⟨hb6, hz⟩ := drewN_size hq'
      clear hq' hz
      replace hT := hT.below hb6
      replace am := am.below hb6
      replace bm := bm.below hb6
      replace da := da.below hb6
      replace db := db.below hb6
      replace hB := hB.trans (hb6.mono hB.size)
      clear hb6
      go_wp2_with fail
      refine (Add_any _ _ an bn X Y _ (by omega) (by omega) am bm).mono ?_
      rintro e w7 ⟨vs, rfl, hs, hb7⟩
      replace hT := hT.below hb7
      replace am := am.below hb7
      replace bm := bm.below hb7
      replace da := da.below hb7
      replace db := db.below hb7
      replace hB := hB.trans (hb7.mono hB.size)
      clear hb7
      go_wp2_with fail
      refine (radd_any va vb _ _ X Y _ (by omega) (by omega) da db).mono ?_
      rintro e w8 ⟨vt, rfl, dt, hb8⟩
      replace hT := hT.below hb8
      replace am := am.below hb8
      replace bm := bm.below hb8
      replace da := da.below hb8
      replace db := db.below hb8
      replace hs := hs.below hb8
      replace hB := hB.trans (hb8.mono hB.size)
      clear hb8
      go_wp2_with fail
      refine (Is_any vs vt _ _ (X + Y) _ (by omega) (by omega) hs dt).mono ?_
      rintro e w9 ⟨rfl, hb9⟩
      replace hT := hT.below hb9
      replace am := am.below hb9
      replace bm := bm.below hb9
      replace da := da.below hb9
      replace db := db.below hb9
      replace hs := hs.below hb9
      replace dt := dt.below hb9
      replace hB := hB.trans (hb9.mono hB.size)
      clear hb9
      clear hs dt
      go_wp2_with fail
      refine (Sub_any _ _ an bn X Y _ (by omega) (by omega) am bm).mono ?_
      rintro e w10 ⟨vd, rfl, hd, hb10⟩
      replace hT := hT.below hb10
      replace am := am.below hb10
      replace bm := bm.below hb10
      replace da := da.below hb10
      replace db := db.below hb10
      replace hB := hB.trans (hb10.mono hB.size)
      clear hb10
      go_wp2_with fail
      refine (rSub_any va vb _ _ X Y _ (by omega) (by omega) hXY da db).mono ?_
      rintro e w11 ⟨ve, rfl, de, hb11⟩
      replace hT := hT.below hb11
      replace am := am.below hb11
      replace bm := bm.below hb11
      replace da := da.below hb11
      replace db := db.below hb11
      replace hd := hd.below hb11
      replace hB := hB.trans (hb11.mono hB.size)
      clear hb11
      go_wp2_with fail
      refine (Is_any vd ve _ _ (X - Y) _ (by omega) (by omega) hd de).mono ?_
      rintro e w12 ⟨rfl, hb12⟩
      replace hT := hT.below hb12
      replace am := am.below hb12
      replace bm := bm.below hb12
      replace da := da.below hb12
      replace db := db.below hb12
      replace hd := hd.below hb12
      replace de := de.below hb12
      replace hB := hB.trans (hb12.mono hB.size)
      clear hb12
      go_wp2
      go_ret
      exact ⟨rfl, hB⟩
end Go.Proofs.YthbjiogpekhbeaaDoor
