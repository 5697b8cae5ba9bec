/- The statement MagMuls, walked. -/
import Derived.Test.YthbjiogpekhbeaaDoorLawF
import Derived.Test.YthbjiogpekhbeaaDoorTenE
namespace Go.Proofs.YthbjiogpekhbeaaDoor
open Go.RowKit Go.MagM
set_option maxHeartbeats 4000000 in
theorem MagMuls_walk (ao : Option Addr) (an ac : Nat) (f : Nat → Nat) (bo : Option Addr) (bn bc : Nat) (g : Nat → Nat) (w : World) (ahc : an ≤ ac) (ar : Reads w ao an f) (bhc : bn ≤ bc) (br : Reads w bo bn g) (hT : Tab w) :
    Calls Tryd.prog 4 #[.slice ao an ac, .slice bo bn bc] w fun e w' => e = .returned (.bool true) ∧ Below w.heap.size w w' := by
  have hB := Below.refl w.heap.size w
  obtain ⟨X, hX⟩ : ∃ X, V f an = X := ⟨_, rfl⟩
  have am : Mag w (.slice ao an ac) an X := ⟨ao, an, ac, f, rfl, ahc, Nat.le_refl _, ar, hX⟩
  clear ahc ar hX
  obtain ⟨Y, hY⟩ : ∃ Y, V g bn = Y := ⟨_, rfl⟩
  have bm : Mag w (.slice bo bn bc) bn Y := ⟨bo, bn, bc, g, rfl, bhc, Nat.le_refl _, br, hY⟩
  clear bhc br hY
  go_enter Tryd.func4, Tryd.ntmps4
  go_wp2_with fail
  refine (fit_any _ hT).mono ?_
  rintro e w1 ⟨rfl, hb1⟩
  replace hT := hT.below hb1
  replace am := am.below hb1
  replace bm := bm.below hb1
  replace hB := hB.trans (hb1.mono hB.size)
  clear hb1
  by_cases hsh : an ≤ 6 ∧ bn ≤ 6
  rotate_left
  · skip
    go_wp2_with fail
    refine (short2_no 6 ao an ac bo bn bc w1 22 (by omega) hsh).mono ?_
    rintro e w2 ⟨rfl, hw'⟩
    have hb2 : Below w1.heap.size w1 w2 := by rw [← hw']; exact (Below.refl _ _).alloc (Nat.le_refl _) _
    clear hw'
    replace hT := hT.below hb2
    replace am := am.below hb2
    replace bm := bm.below hb2
    replace hB := hB.trans (hb2.mono hB.size)
    clear hb2
    go_wp2
    go_ret
    exact ⟨rfl, hB⟩
  have hsa : an ≤ 6 := hsh.1
  have hsb : bn ≤ 6 := hsh.2
  go_wp2_with fail
  refine (short2_yes 6 ao an ac bo bn bc w1 22 (by omega) (by omega) (by omega)).mono ?_
  rintro e w2 ⟨rfl, hw'⟩
  have hb2 : Below w1.heap.size w1 w2 := by rw [← hw']; exact (Below.refl _ _).alloc (Nat.le_refl _) _
  clear hw'
  replace hT := hT.below hb2
  replace am := am.below hb2
  replace bm := bm.below hb2
  replace hB := hB.trans (hb2.mono hB.size)
  clear hb2
  go_wp2_with fail
  refine (Mul_any _ _ an bn X Y _ (by omega) (by omega) am bm).mono ?_
  rintro e w3 ⟨vp, rfl, hp, hb3⟩
  replace hT := hT.below hb3
  replace am := am.below hb3
  replace bm := bm.below hb3
  replace hB := hB.trans (hb3.mono hB.size)
  clear hb3
  go_wp2_with fail
  refine (Digits_mag _ an X _ (by omega) am).mono ?_
  rintro e w4 ⟨va, rfl, da, hb4⟩
  replace hT := hT.below hb4
  replace am := am.below hb4
  replace bm := bm.below hb4
  replace hp := hp.below hb4
  replace hB := hB.trans (hb4.mono hB.size)
  clear hb4
  go_wp2_with fail
  refine (Digits_mag _ bn Y _ (by omega) bm).mono ?_
  rintro e w5 ⟨vb, rfl, db, hb5⟩
  replace hT := hT.below hb5
  replace am := am.below hb5
  replace bm := bm.below hb5
  replace hp := hp.below hb5
  replace da := da.below hb5
  replace hB := hB.trans (hb5.mono hB.size)
  clear hb5
  go_wp2_with fail
  refine (rMul_any va vb _ _ X Y _ (by omega) (by omega) da db).mono ?_
  rintro e w6 ⟨vt, rfl, dt, hb6⟩
  replace hT := hT.below hb6
  replace am := am.below hb6
  replace bm := bm.below hb6
  replace hp := hp.below hb6
  replace da := da.below hb6
  replace db := db.below hb6
  replace hB := hB.trans (hb6.mono hB.size)
  clear hb6
  go_wp2_with fail
  refine (Is_any vp vt _ _ (X * Y) _ (by omega) (by omega) hp dt).mono ?_
  rintro e w7 ⟨rfl, hb7⟩
  replace hT := hT.below hb7
  replace am := am.below hb7
  replace bm := bm.below hb7
  replace hp := hp.below hb7
  replace da := da.below hb7
  replace db := db.below hb7
  replace dt := dt.below hb7
  replace hB := hB.trans (hb7.mono hB.size)
  clear hb7
  go_wp2
  go_ret
  exact ⟨rfl, hB⟩
end Go.Proofs.YthbjiogpekhbeaaDoor
