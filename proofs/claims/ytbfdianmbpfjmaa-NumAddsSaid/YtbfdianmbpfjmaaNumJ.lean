/- The statement NumDivs, walked. -/
import Derived.Test.YtbfdianmbpfjmaaNumI
namespace Go.Proofs.Ytbfdianmbpfjmaa
open Go.RowKit Go.MagM
theorem nCmp_even (va vb : Value) (L L' : Nat) (X Y : Int) (w : World) (hL : L ≤ 4000000000) (hL' : L' ≤ 4000000000) (ha : Num w va L X) (hb : Num w vb L' Y) (h : X = Y) :
    Calls Try.prog 19 #[va, vb] w fun e w' => e = .returned (.int .i64 0) ∧ Below w.heap.size w w' := by
  have := nCmp_any va vb L L' X Y w hL hL' ha hb
  rw [h, icmp_self] at this; exact this
theorem nCmp_less (va vb : Value) (L L' : Nat) (X Y : Int) (w : World) (hL : L ≤ 4000000000) (hL' : L' ≤ 4000000000) (ha : Num w va L X) (hb : Num w vb L' Y) (h : X < Y) :
    Calls Try.prog 19 #[va, vb] w fun e w' => e = .returned (.int .i64 (-1)) ∧ Below w.heap.size w w' := by
  have := nCmp_any va vb L L' X Y w hL hL' ha hb
  rw [icmp_lt h] at this; exact this
theorem nCmp_more (va vb : Value) (L L' : Nat) (X Y : Int) (w : World) (hL : L ≤ 4000000000) (hL' : L' ≤ 4000000000) (ha : Num w va L X) (hb : Num w vb L' Y) (h : Y < X) :
    Calls Try.prog 19 #[va, vb] w fun e w' => e = .returned (.int .i64 1) ∧ Below w.heap.size w w' := by
  have := nCmp_any va vb L L' X Y w hL hL' ha hb
  rw [icmp_gt h] at this; exact this
theorem Sign_is (va : Value) (L : Nat) (X s : Int) (w : World) (hL : L ≤ 4000000000) (ha : Num w va L X) (h : X.sign = s) :
    Calls Try.prog 21 #[va] w fun e w' => e = .returned (.int .i64 s) ∧ Below w.heap.size w w' := by
  have := Sign_any va L X w hL ha
  rw [h] at this; exact this
theorem fmod_sign {X Y : Int} (h : Y ≠ 0) (h0 : X.fmod Y ≠ 0) : (X.fmod Y).sign = Y.sign := by
  rcases Int.lt_or_gt_of_ne h with hy | hy
  · have := (Int.fdiv_fmod_unique' (a := X) (r := X.fmod Y) (q := X.fdiv Y) hy).1 ⟨rfl, rfl⟩
    rw [Int.sign_eq_neg_one_of_neg hy, Int.sign_eq_neg_one_of_neg (by omega)]
  · have := (Int.fdiv_fmod_unique (a := X) (r := X.fmod Y) (q := X.fdiv Y) hy).1 ⟨rfl, rfl⟩
    rw [Int.sign_eq_one_of_pos hy, Int.sign_eq_one_of_pos (by omega)]
theorem fmod_abs {X Y : Int} (h : Y ≠ 0) : ((X.fmod Y).natAbs : Int) < (Y.natAbs : Int) := by
  rcases Int.lt_or_gt_of_ne h with hy | hy
  · have := (Int.fdiv_fmod_unique' (a := X) (r := X.fmod Y) (q := X.fdiv Y) hy).1 ⟨rfl, rfl⟩
    omega
  · have := (Int.fdiv_fmod_unique (a := X) (r := X.fmod Y) (q := X.fdiv Y) hy).1 ⟨rfl, rfl⟩
    omega
theorem sign_ne {X : Int} (h : X ≠ 0) : (X.sign == 0) = false := by
  rcases Int.lt_or_gt_of_ne h with hy | hy
  · rw [Int.sign_eq_neg_one_of_neg hy]; rfl
  · rw [Int.sign_eq_one_of_pos hy]; rfl
set_option maxRecDepth 100000 in
set_option maxHeartbeats 8000000 in
theorem NumDivs_walk (am : Bool) (ao : Option Addr) (an ac : Nat) (f : Nat → Nat) (bm : Bool) (bo : Option Addr) (bn bc : Nat) (g : Nat → Nat) (w : World) (ahc : an ≤ ac) (ar : Reads w ao an f) (bhc : bn ≤ bc) (br : Reads w bo bn g) :
    Calls Try.prog 4 #[.agg #[.bool am, .slice ao an ac], .agg #[.bool bm, .slice bo bn bc]] w fun e w' => e = .returned (.bool true) ∧ Below w.heap.size w w' := by
  have hB_0 := Below.refl w.heap.size w
  obtain ⟨X, hX⟩ : ∃ X, sgn am (V f an) = X := ⟨_, rfl⟩
  have ax_0 : Num w (.agg #[.bool am, .slice ao an ac]) an X := ⟨_, _, _, rfl, ⟨ao, an, ac, f, rfl, ahc, Nat.le_refl _, ar, rfl⟩, hX.symm⟩
  clear ahc ar hX
  obtain ⟨Y, hY⟩ : ∃ Y, sgn bm (V g bn) = Y := ⟨_, rfl⟩
  have bx_0 : Num w (.agg #[.bool bm, .slice bo bn bc]) bn Y := ⟨_, _, _, rfl, ⟨bo, bn, bc, g, rfl, bhc, Nat.le_refl _, br, rfl⟩, hY.symm⟩
  clear bhc br hY
  go_enter Try.func4, Try.ntmps4
  go_wp2_with fail
  obtain ⟨pa_0, pb_0, hb1⟩ := boxed2 w (.bool am) (.slice ao an ac) (.bool bm) (.slice bo bn bc) 25
  have hB_1 := hB_0.trans (hb1.mono hB_0.size)
  have ax_1 := ax_0.below hb1
  have bx_1 := bx_0.below hb1
  clear hb1 hB_0 ax_0 bx_0
  generalize ((w.alloc (Obj.cells #[Value.bool am, Value.slice ao an ac] 25)).alloc (Obj.cells #[Value.bool bm, Value.slice bo bn bc] 25)) = w1 at *
  obtain ⟨pae0, pae1, pae2, pae3⟩ := (id pa_0)
  obtain ⟨pbe0, pbe1, pbe2, pbe3⟩ := (id pb_0)
  go_wp2_with fail
  refine (fit_any _).mono ?_
  rintro e w2 ⟨rfl, hb2⟩
  clear pae0 pae1 pae2 pae3 pbe0 pbe1 pbe2 pbe3
  have hB_2 := hB_1.trans (hb2.mono hB_1.size)
  have ax_2 := ax_1.below hb2
  have bx_2 := bx_1.below hb2
  have pa_1 := pa_0.below hb2
  have pb_1 := pb_0.below hb2
  clear hb2 hB_1 ax_1 bx_1 pa_0 pb_0
  obtain ⟨pae0, pae1, pae2, pae3⟩ := (id pa_1)
  obtain ⟨pbe0, pbe1, pbe2, pbe3⟩ := (id pb_1)
  by_cases hsh : an ≤ 20 ∧ bn ≤ 20
  rotate_left
  · skip
    go_wp2_with fail
    refine (nshort2_no 20 _ _ am ao an ac bm bo bn bc (by omega) hsh).mono ?_
    rintro e w3 ⟨rfl, hb3⟩
    clear pae0 pae1 pae2 pae3 pbe0 pbe1 pbe2 pbe3
    have hB_3 := hB_2.trans (hb3.mono hB_2.size)
    have ax_3 := ax_2.below hb3
    have bx_3 := bx_2.below hb3
    have pa_2 := pa_1.below hb3
    have pb_2 := pb_1.below hb3
    clear hb3 hB_2 ax_2 bx_2 pa_1 pb_1
    go_wp2
    go_ret
    exact ⟨rfl, hB_3⟩
  have hsa : an ≤ 20 := hsh.1
  have hsb : bn ≤ 20 := hsh.2
  go_wp2_with fail
  refine (nshort2_yes 20 _ _ am ao an ac bm bo bn bc (by omega) hsh).mono ?_
  rintro e w3 ⟨rfl, hb3⟩
  clear pae0 pae1 pae2 pae3 pbe0 pbe1 pbe2 pbe3
  have hB_3 := hB_2.trans (hb3.mono hB_2.size)
  have ax_3 := ax_2.below hb3
  have bx_3 := bx_2.below hb3
  have pa_2 := pa_1.below hb3
  have pb_2 := pb_1.below hb3
  clear hb3 hB_2 ax_2 bx_2 pa_1 pb_1
  obtain ⟨pae0, pae1, pae2, pae3⟩ := (id pa_2)
  obtain ⟨pbe0, pbe1, pbe2, pbe3⟩ := (id pb_2)
  clear hsh
  go_wp2_with fail
  refine (nDiv_any _ _ an bn X Y _ (by omega) (by omega) ax_3 bx_3).mono ?_
  rintro e w4 ⟨m3, ao3, n3, c3, m4, ao4, n4, c4, rfl, h3_0, h4_0, hb4⟩
  clear pae0 pae1 pae2 pae3 pbe0 pbe1 pbe2 pbe3
  have hB_4 := hB_3.trans (hb4.mono hB_3.size)
  have ax_4 := ax_3.below hb4
  have bx_4 := bx_3.below hb4
  have pa_3 := pa_2.below hb4
  have pb_3 := pb_2.below hb4
  clear hb4 hB_3 ax_3 bx_3 pa_2 pb_2
  go_wp2
  obtain ⟨q_0, r_0, hb5⟩ := boxed2 w4 (.bool m3) (.slice ao3 n3 c3) (.bool m4) (.slice ao4 n4 c4) 25
  have hB_5 := hB_4.trans (hb5.mono hB_4.size)
  have ax_5 := ax_4.below hb5
  have bx_5 := bx_4.below hb5
  have pa_4 := pa_3.below hb5
  have pb_4 := pb_3.below hb5
  have h3_1 := h3_0.below hb5
  have h4_1 := h4_0.below hb5
  clear hb5 hB_4 ax_4 bx_4 pa_3 pb_3 h3_0 h4_0
  generalize ((w4.alloc (Obj.cells #[Value.bool m3, Value.slice ao3 n3 c3] 25)).alloc (Obj.cells #[Value.bool m4, Value.slice ao4 n4 c4] 25)) = w5 at *
  have hB_6 := hB_5.drew'
  have ax_6 := ax_5.drew
  have bx_6 := bx_5.drew
  have pa_5 := pa_4.drew
  have pb_5 := pb_4.drew
  have h3_2 := h3_1.drew
  have h4_2 := h4_1.drew
  have q_1 := q_0.drew
  have r_1 := r_0.drew
  go_region_held3 (fun w' => w'.cell? ⟨w.heap.size, 0, none⟩ = some (.bool am) ∧ w'.cell? ⟨w.heap.size, 1, none⟩ = some (.slice ao an ac) ∧ w'.cell? ⟨w.heap.size + 1, 0, none⟩ = some (.bool bm) ∧ w'.cell? ⟨w.heap.size + 1, 1, none⟩ = some (.slice bo bn bc) ∧ w'.cell? ⟨w4.heap.size, 0, none⟩ = some (.bool m3) ∧ w'.cell? ⟨w4.heap.size, 1, none⟩ = some (.slice ao3 n3 c3) ∧ w'.cell? ⟨w4.heap.size + 1, 0, none⟩ = some (.bool m4) ∧ w'.cell? ⟨w4.heap.size + 1, 1, none⟩ = some (.slice ao4 n4 c4))
    (first | with_reducible exact ⟨pa_5.c0, pa_5.c1, pb_5.c0, pb_5.c1, q_1.c0, q_1.c1, r_1.c0, r_1.c1⟩ | with_reducible exact ⟨pa_6.c0, pa_6.c1, pb_6.c0, pb_6.c1, q_2.c0, q_2.c1, r_2.c0, r_2.c1⟩ | with_reducible exact ⟨pa_7.c0, pa_7.c1, pb_7.c0, pb_7.c1, q_3.c0, q_3.c1, r_3.c0, r_3.c1⟩ | with_reducible exact ⟨pa_8.c0, pa_8.c1, pb_8.c0, pb_8.c1, q_4.c0, q_4.c1, r_4.c0, r_4.c1⟩ | with_reducible exact ⟨pa_9.c0, pa_9.c1, pb_9.c0, pb_9.c1, q_5.c0, q_5.c1, r_5.c0, r_5.c1⟩ | with_reducible exact ⟨pa_10.c0, pa_10.c1, pb_10.c0, pb_10.c1, q_6.c0, q_6.c1, r_6.c0, r_6.c1⟩ | fail)
    (first
      | (go_at_call 26; (with_reducible refine (Right_any _ _ _ _ (by omega) h3_2).mono ?_); rintro e w6 ⟨rfl, hb6⟩; have hB_7 := hB_6.trans (hb6.mono hB_6.size); have ax_7 := ax_6.below hb6; have bx_7 := bx_6.below hb6; have pa_6 := pa_5.below hb6; have pb_6 := pb_5.below hb6; have h3_3 := h3_2.below hb6; have h4_3 := h4_2.below hb6; have q_2 := q_1.below hb6; have r_2 := r_1.below hb6; clear hb6)
      | (go_at_call 26; (with_reducible refine (Right_any _ _ _ _ (by omega) h4_3).mono ?_); rintro e w7 ⟨rfl, hb7⟩; have hB_8 := hB_7.trans (hb7.mono hB_7.size); have ax_8 := ax_7.below hb7; have bx_8 := bx_7.below hb7; have pa_7 := pa_6.below hb7; have pb_7 := pb_6.below hb7; have h3_4 := h3_3.below hb7; have h4_4 := h4_3.below hb7; have q_3 := q_2.below hb7; have r_3 := r_2.below hb7; clear hb7)
      | (go_at_call 17; (with_reducible refine (nMul_any _ _ _ _ _ _ _ (by omega) (by omega) h3_4.num bx_8).mono ?_); rintro e w8 ⟨m5, ao5, n5, c5, rfl, h5_0, hb8⟩; have hB_9 := hB_8.trans (hb8.mono hB_8.size); have ax_9 := ax_8.below hb8; have bx_9 := bx_8.below hb8; have pa_8 := pa_7.below hb8; have pb_8 := pb_7.below hb8; have h3_5 := h3_4.below hb8; have h4_5 := h4_4.below hb8; have q_4 := q_3.below hb8; have r_4 := r_3.below hb8; clear hb8)
      | (go_at_call 15; (with_reducible refine (nAdd_any _ _ _ _ _ _ _ (by omega) (by omega) h5_0.num h4_5.num).mono ?_); rintro e w9 ⟨m6, ao6, n6, c6, rfl, h6_0, hb9⟩; have hB_10 := hB_9.trans (hb9.mono hB_9.size); have ax_10 := ax_9.below hb9; have bx_10 := bx_9.below hb9; have pa_9 := pa_8.below hb9; have pb_9 := pb_8.below hb9; have h3_6 := h3_5.below hb9; have h4_6 := h4_5.below hb9; have q_5 := q_4.below hb9; have r_5 := r_4.below hb9; have h5_1 := h5_0.below hb9; clear hb9)
      | (go_at_call 19; (with_reducible refine (nCmp_even _ _ _ _ _ _ _ (by omega) (by omega) h6_0.num ax_10 (by rw [Int.mul_comm]; exact Int.mul_fdiv_add_fmod X Y)).mono ?_); rintro e w10 ⟨rfl, hb10⟩; have hB_11 := hB_10.trans (hb10.mono hB_10.size); have ax_11 := ax_10.below hb10; have bx_11 := bx_10.below hb10; have pa_10 := pa_9.below hb10; have pb_10 := pb_9.below hb10; have h3_7 := h3_6.below hb10; have h4_7 := h4_6.below hb10; have q_6 := q_5.below hb10; have r_6 := r_5.below hb10; have h5_2 := h5_1.below hb10; have h6_1 := h6_0.below hb10; clear hb10))
  clear h5_2 h6_1
  obtain ⟨pae0, pae1, pae2, pae3⟩ := (id pa_10)
  obtain ⟨pbe0, pbe1, pbe2, pbe3⟩ := (id pb_10)
  obtain ⟨qe0, qe1, qe2, qe3⟩ := (id q_6)
  obtain ⟨re0, re1, re2, re3⟩ := (id r_6)
  by_cases hY0 : Y = 0
  · skip
    go_wp2_with fail
    refine (Sign_is _ _ _ 0 _ (by omega) bx_11 (by rw [hY0]; rfl)).mono ?_
    rintro e w11 ⟨rfl, hb11⟩
    clear pae0 pae1 pae2 pae3 pbe0 pbe1 pbe2 pbe3 qe0 qe1 qe2 qe3 re0 re1 re2 re3
    have hB_12 := hB_11.trans (hb11.mono hB_11.size)
    have ax_12 := ax_11.below hb11
    have bx_12 := bx_11.below hb11
    have pa_11 := pa_10.below hb11
    have pb_11 := pb_10.below hb11
    have h3_8 := h3_7.below hb11
    have h4_8 := h4_7.below hb11
    have q_7 := q_6.below hb11
    have r_7 := r_6.below hb11
    clear hb11 hB_11 ax_11 bx_11 pa_10 pb_10 h3_7 h4_7 q_6 r_6
    obtain ⟨pae0, pae1, pae2, pae3⟩ := (id pa_11)
    obtain ⟨pbe0, pbe1, pbe2, pbe3⟩ := (id pb_11)
    obtain ⟨qe0, qe1, qe2, qe3⟩ := (id q_7)
    obtain ⟨re0, re1, re2, re3⟩ := (id r_7)
    go_wp2_with fail
    refine (Sign_is _ _ _ 0 _ (by omega) h3_8.num (by rw [hY0, Int.fdiv_zero]; rfl)).mono ?_
    rintro e w12 ⟨rfl, hb12⟩
    clear pae0 pae1 pae2 pae3 pbe0 pbe1 pbe2 pbe3 qe0 qe1 qe2 qe3 re0 re1 re2 re3
    have hB_13 := hB_12.trans (hb12.mono hB_12.size)
    have ax_13 := ax_12.below hb12
    have bx_13 := bx_12.below hb12
    have pa_12 := pa_11.below hb12
    have pb_12 := pb_11.below hb12
    have h3_9 := h3_8.below hb12
    have h4_9 := h4_8.below hb12
    have q_8 := q_7.below hb12
    have r_8 := r_7.below hb12
    clear hb12 hB_12 ax_12 bx_12 pa_11 pb_11 h3_8 h4_8 q_7 r_7
    go_wp2
    go_ret
    exact ⟨rfl, hB_13⟩
  · skip
    have hsy := sign_ne hY0
    obtain ⟨sy, hsy'⟩ : ∃ sy, Y.sign = sy := ⟨_, rfl⟩
    rw [hsy'] at hsy
    have HSY := Lib.hid hsy'; have HY := Lib.hid hY0; clear hsy' hY0
    have hss : (sy == sy) = true := by simp
    go_wp2_with fail
    refine (Sign_is _ _ _ sy _ (by omega) bx_11 HSY.out).mono ?_
    rintro e w11 ⟨rfl, hb11⟩
    clear pae0 pae1 pae2 pae3 pbe0 pbe1 pbe2 pbe3 qe0 qe1 qe2 qe3 re0 re1 re2 re3
    have hB_12 := hB_11.trans (hb11.mono hB_11.size)
    have ax_12 := ax_11.below hb11
    have bx_12 := bx_11.below hb11
    have pa_11 := pa_10.below hb11
    have pb_11 := pb_10.below hb11
    have h3_8 := h3_7.below hb11
    have h4_8 := h4_7.below hb11
    have q_7 := q_6.below hb11
    have r_7 := r_6.below hb11
    clear hb11 hB_11 ax_11 bx_11 pa_10 pb_10 h3_7 h4_7 q_6 r_6
    obtain ⟨pae0, pae1, pae2, pae3⟩ := (id pa_11)
    obtain ⟨pbe0, pbe1, pbe2, pbe3⟩ := (id pb_11)
    obtain ⟨qe0, qe1, qe2, qe3⟩ := (id q_7)
    obtain ⟨re0, re1, re2, re3⟩ := (id r_7)
    by_cases hm0 : X.fmod Y = 0
    · skip
      go_wp2
      clear pae0 pae1 pae2 pae3 pbe0 pbe1 pbe2 pbe3 qe0 qe1 qe2 qe3 re0 re1 re2 re3
      have hB_13 := hB_12.drew'
      have ax_13 := ax_12.drew
      have bx_13 := bx_12.drew
      have pa_12 := pa_11.drew
      have pb_12 := pb_11.drew
      have h3_9 := h3_8.drew
      have h4_9 := h4_8.drew
      have q_8 := q_7.drew
      have r_8 := r_7.drew
      refine wp_region_noPanic ?_
      refine wp_region_held_drew (S := fun w' => w'.cell? ⟨w.heap.size + 1, 0, none⟩ = some (.bool bm) ∧ w'.cell? ⟨w.heap.size + 1, 1, none⟩ = some (.slice bo bn bc) ∧ w'.cell? ⟨w4.heap.size + 1, 0, none⟩ = some (.bool m4) ∧ w'.cell? ⟨w4.heap.size + 1, 1, none⟩ = some (.slice ao4 n4 c4)) (by kernel_rfl) (⟨pb_12.c0, pb_12.c1, r_8.c0, r_8.c1⟩) (fun hHeld => ?_)
      refine reg_take 0 ?_ ?_ ?_ (by kernel_rfl) (by kernel_rfl) (by kernel_rfl) (fun _ _ _ h => h) ?_ ?_ (by assumption) ?_
      rotate_left 2
      · simp only [List.getElem?_toArray, List.getElem?_cons_zero]; exact rfl
      · rfl
      · intro w hSw; (try dsimp only at hSw); go_simp; try with_reducible rfl
      try simp only [Act.put, List.setIfInBounds_toArray, List.set_cons_zero, List.set_cons_succ]
      refine reg_take 2 ?_ ?_ ?_ (by kernel_rfl) (by kernel_rfl) (by kernel_rfl) (fun _ _ _ h => h) ?_ ?_ (by assumption) ?_
      rotate_left 2
      · simp only [List.getElem?_toArray, List.getElem?_cons_succ, List.getElem?_cons_zero]; exact rfl
      · rfl
      · intro w hSw; (try dsimp only at hSw); go_simp; try with_reducible rfl
      try simp only [Act.put, List.setIfInBounds_toArray, List.set_cons_zero, List.set_cons_succ]
      refine reg_call 1 ?_ (by kernel_rfl) ?_ (fun K hK => ?_)
      rotate_left 1
      · simp only [List.getElem?_toArray, List.getElem?_cons_succ, List.getElem?_cons_zero]; exact rfl
      go_simp
      refine (Abs_any _ _ _ _ (by omega) h4_9.num).mono ?_
      rintro e w12 ⟨m7, ao7, n7, c7, rfl, h7_0, hb12⟩
      have hB_14 := hB_13.trans (hb12.mono hB_13.size)
      have ax_14 := ax_13.below hb12
      have bx_14 := bx_13.below hb12
      have pa_13 := pa_12.below hb12
      have pb_13 := pb_12.below hb12
      have h3_10 := h3_9.below hb12
      have h4_10 := h4_9.below hb12
      have q_9 := q_8.below hb12
      have r_9 := r_8.below hb12
      clear hb12 hB_13 ax_13 bx_13 pa_12 pb_12 h3_9 h4_9 q_8 r_8
      go_wp2_with fail
      refine hK.out _ _ ⟨pb_13.c0, pb_13.c1, r_9.c0, r_9.c1⟩ (fun hHeld => ?_)
      clear hK K
      try simp only [Act.put, List.setIfInBounds_toArray, List.set_cons_zero, List.set_cons_succ]
      refine reg_call 3 ?_ (by kernel_rfl) ?_ (fun K hK => ?_)
      rotate_left 1
      · simp only [List.getElem?_toArray, List.getElem?_cons_succ, List.getElem?_cons_zero]; exact rfl
      go_simp
      refine (Abs_any _ _ _ _ (by omega) bx_14).mono ?_
      rintro e w13 ⟨m8, ao8, n8, c8, rfl, h8_0, hb13⟩
      have hB_15 := hB_14.trans (hb13.mono hB_14.size)
      have ax_15 := ax_14.below hb13
      have bx_15 := bx_14.below hb13
      have pa_14 := pa_13.below hb13
      have pb_14 := pb_13.below hb13
      have h3_11 := h3_10.below hb13
      have h4_11 := h4_10.below hb13
      have q_10 := q_9.below hb13
      have r_10 := r_9.below hb13
      have h7_1 := h7_0.below hb13
      clear hb13 hB_14 ax_14 bx_14 pa_13 pb_13 h3_10 h4_10 q_9 r_9 h7_0
      go_wp2_with fail
      refine hK.out _ _ ⟨pb_14.c0, pb_14.c1, r_10.c0, r_10.c1⟩ (fun hHeld => ?_)
      clear hK K
      try simp only [Act.put, List.setIfInBounds_toArray, List.set_cons_zero, List.set_cons_succ]
      refine reg_call 4 ?_ (by kernel_rfl) ?_ (fun K hK => ?_)
      rotate_left 1
      · simp only [List.getElem?_toArray, List.getElem?_cons_succ, List.getElem?_cons_zero]; exact rfl
      go_simp
      refine (nCmp_less _ _ _ _ _ _ _ (by omega) (by omega) h7_1.num h8_0.num (fmod_abs HY.out)).mono ?_
      rintro e w14 ⟨rfl, hb14⟩
      have hB_16 := hB_15.trans (hb14.mono hB_15.size)
      have ax_16 := ax_15.below hb14
      have bx_16 := bx_15.below hb14
      have pa_15 := pa_14.below hb14
      have pb_15 := pb_14.below hb14
      have h3_12 := h3_11.below hb14
      have h4_12 := h4_11.below hb14
      have q_11 := q_10.below hb14
      have r_11 := r_10.below hb14
      have h7_2 := h7_1.below hb14
      have h8_1 := h8_0.below hb14
      clear hb14 hB_15 ax_15 bx_15 pa_14 pb_14 h3_11 h4_11 q_10 r_10 h7_1 h8_0
      go_wp2_with fail
      refine hK.out _ _ ⟨pb_15.c0, pb_15.c1, r_11.c0, r_11.c1⟩ (fun hHeld => ?_)
      clear hK K
      try simp only [Act.put, List.setIfInBounds_toArray, List.set_cons_zero, List.set_cons_succ]
      refine reg_take 5 ?_ ?_ ?_ (by kernel_rfl) (by kernel_rfl) (by kernel_rfl) (fun _ _ _ h => h) ?_ ?_ (by assumption) ?_
      rotate_left 2
      · simp only [List.getElem?_toArray, List.getElem?_cons_succ, List.getElem?_cons_zero]; exact rfl
      · rfl
      · intro w hSw; (try dsimp only at hSw); go_simp; try with_reducible rfl
      try simp only [Act.put, List.setIfInBounds_toArray, List.set_cons_zero, List.set_cons_succ]
      refine reg_take 6 ?_ ?_ ?_ (by kernel_rfl) (by kernel_rfl) (by kernel_rfl) (fun _ _ _ h => h) ?_ ?_ (by assumption) ?_
      rotate_left 2
      · simp only [List.getElem?_toArray, List.getElem?_cons_succ, List.getElem?_cons_zero]; exact rfl
      · rfl
      · intro w hSw; (try dsimp only at hSw); go_simp; try with_reducible rfl
      try simp only [Act.put, List.setIfInBounds_toArray, List.set_cons_zero, List.set_cons_succ]
      refine reg_take 7 ?_ ?_ ?_ (by kernel_rfl) (by kernel_rfl) (by kernel_rfl) (fun _ _ _ h => h) ?_ ?_ (by assumption) ?_
      rotate_left 2
      · simp only [List.getElem?_toArray, List.getElem?_cons_succ, List.getElem?_cons_zero]; exact rfl
      · rfl
      · intro w hSw; (try dsimp only at hSw); go_simp; try with_reducible rfl
      try simp only [Act.put, List.setIfInBounds_toArray, List.set_cons_zero, List.set_cons_succ]
      refine reg_call 8 ?_ (by kernel_rfl) ?_ (fun K hK => ?_)
      rotate_left 1
      · simp only [List.getElem?_toArray, List.getElem?_cons_succ, List.getElem?_cons_zero]; exact rfl
      go_simp
      refine (Sign_is _ _ _ 0 _ (by omega) h4_12.num (by rw [hm0, Int.sign_zero])).mono ?_
      rintro e w15 ⟨rfl, hb15⟩
      have hB_17 := hB_16.trans (hb15.mono hB_16.size)
      have ax_17 := ax_16.below hb15
      have bx_17 := bx_16.below hb15
      have pa_16 := pa_15.below hb15
      have pb_16 := pb_15.below hb15
      have h3_13 := h3_12.below hb15
      have h4_13 := h4_12.below hb15
      have q_12 := q_11.below hb15
      have r_12 := r_11.below hb15
      have h7_3 := h7_2.below hb15
      have h8_2 := h8_1.below hb15
      clear hb15 hB_16 ax_16 bx_16 pa_15 pb_15 h3_12 h4_12 q_11 r_11 h7_2 h8_1
      go_wp2_with fail
      refine hK.out _ _ ⟨pb_16.c0, pb_16.c1, r_12.c0, r_12.c1⟩ (fun hHeld => ?_)
      clear hK K
      try simp only [Act.put, List.setIfInBounds_toArray, List.set_cons_zero, List.set_cons_succ]
      refine reg_take 9 ?_ ?_ ?_ (by kernel_rfl) (by kernel_rfl) (by kernel_rfl) (fun _ _ _ h => h) ?_ ?_ (by assumption) ?_
      rotate_left 2
      · simp only [List.getElem?_toArray, List.getElem?_cons_succ, List.getElem?_cons_zero]; exact rfl
      · rfl
      · intro w hSw; (try dsimp only at hSw); go_simp; try with_reducible rfl
      try simp only [Act.put, List.setIfInBounds_toArray, List.set_cons_zero, List.set_cons_succ]
      refine reg_take 10 ?_ ?_ ?_ (by kernel_rfl) (by kernel_rfl) (by kernel_rfl) (fun _ _ _ h => h) ?_ ?_ (by assumption) ?_
      rotate_left 2
      · simp only [List.getElem?_toArray, List.getElem?_cons_succ, List.getElem?_cons_zero]; exact rfl
      · rfl
      · intro w hSw; (try dsimp only at hSw); go_simp; try with_reducible rfl
      try simp only [Act.put, List.setIfInBounds_toArray, List.set_cons_zero, List.set_cons_succ]
      refine reg_skip 11 ?_ ?_ (by kernel_rfl) (by kernel_rfl) (by kernel_rfl) (fun _ _ _ h => h) ?_ (by assumption) ?_
      rotate_left 1
      · simp only [List.getElem?_toArray, List.getElem?_cons_succ, List.getElem?_cons_zero]; exact rfl
      · rfl
      try simp only [Act.put, List.setIfInBounds_toArray, List.set_cons_zero, List.set_cons_succ]
      refine reg_skip 12 ?_ ?_ (by kernel_rfl) (by kernel_rfl) (by kernel_rfl) (fun _ _ _ h => h) ?_ (by assumption) ?_
      rotate_left 1
      · simp only [List.getElem?_toArray, List.getElem?_cons_succ, List.getElem?_cons_zero]; exact rfl
      · rfl
      try simp only [Act.put, List.setIfInBounds_toArray, List.set_cons_zero, List.set_cons_succ]
      refine reg_skip 13 ?_ ?_ (by kernel_rfl) (by kernel_rfl) (by kernel_rfl) (fun _ _ _ h => h) ?_ (by assumption) ?_
      rotate_left 1
      · simp only [List.getElem?_toArray, List.getElem?_cons_succ, List.getElem?_cons_zero]; exact rfl
      · rfl
      try simp only [Act.put, List.setIfInBounds_toArray, List.set_cons_zero, List.set_cons_succ]
      refine reg_skip 14 ?_ ?_ (by kernel_rfl) (by kernel_rfl) (by kernel_rfl) (fun _ _ _ h => h) ?_ (by assumption) ?_
      rotate_left 1
      · simp only [List.getElem?_toArray, List.getElem?_cons_succ, List.getElem?_cons_zero]; exact rfl
      · rfl
      try simp only [Act.put, List.setIfInBounds_toArray, List.set_cons_zero, List.set_cons_succ]
      refine reg_skip 15 ?_ ?_ (by kernel_rfl) (by kernel_rfl) (by kernel_rfl) (fun _ _ _ h => h) ?_ (by assumption) ?_
      rotate_left 1
      · simp only [List.getElem?_toArray, List.getElem?_cons_succ, List.getElem?_cons_zero]; exact rfl
      · rfl
      try simp only [Act.put, List.setIfInBounds_toArray, List.set_cons_zero, List.set_cons_succ]
      refine reg_take 16 ?_ ?_ ?_ (by kernel_rfl) (by kernel_rfl) (by kernel_rfl) (fun _ _ _ h => h) ?_ ?_ (by assumption) ?_
      rotate_left 2
      · simp only [List.getElem?_toArray, List.getElem?_cons_succ, List.getElem?_cons_zero]; exact rfl
      · rfl
      · intro w hSw; (try dsimp only at hSw); go_simp; try with_reducible rfl
      try simp only [Act.put, List.setIfInBounds_toArray, List.set_cons_zero, List.set_cons_succ]
      refine reg_take 17 ?_ ?_ ?_ (by kernel_rfl) (by kernel_rfl) (by kernel_rfl) (fun _ _ _ h => h) ?_ ?_ (by assumption) ?_
      rotate_left 2
      · simp only [List.getElem?_toArray, List.getElem?_cons_succ, List.getElem?_cons_zero]; exact rfl
      · rfl
      · intro w hSw; (try dsimp only at hSw); go_simp; try with_reducible rfl
      try simp only [Act.put, List.setIfInBounds_toArray, List.set_cons_zero, List.set_cons_succ]
      refine reg_take 18 ?_ ?_ ?_ (by kernel_rfl) (by kernel_rfl) (by kernel_rfl) (fun _ _ _ h => h) ?_ ?_ (by assumption) ?_
      rotate_left 2
      · simp only [List.getElem?_toArray, List.getElem?_cons_succ, List.getElem?_cons_zero]; exact rfl
      · rfl
      · intro w hSw; (try dsimp only at hSw); go_simp; try with_reducible rfl
      try simp only [Act.put, List.setIfInBounds_toArray, List.set_cons_zero, List.set_cons_succ]
      refine wpAnyH_done (by kernel_rfl) ?_ _
      refine NoPanic.normal ?_
      go_wp2
      go_ret
      exact ⟨rfl, hB_17⟩
    · skip
      go_wp2
      clear pae0 pae1 pae2 pae3 pbe0 pbe1 pbe2 pbe3 qe0 qe1 qe2 qe3 re0 re1 re2 re3
      have hB_13 := hB_12.drew'
      have ax_13 := ax_12.drew
      have bx_13 := bx_12.drew
      have pa_12 := pa_11.drew
      have pb_12 := pb_11.drew
      have h3_9 := h3_8.drew
      have h4_9 := h4_8.drew
      have q_8 := q_7.drew
      have r_8 := r_7.drew
      go_region_held3 (fun w' => w'.cell? ⟨w.heap.size + 1, 0, none⟩ = some (.bool bm) ∧ w'.cell? ⟨w.heap.size + 1, 1, none⟩ = some (.slice bo bn bc) ∧ w'.cell? ⟨w4.heap.size + 1, 0, none⟩ = some (.bool m4) ∧ w'.cell? ⟨w4.heap.size + 1, 1, none⟩ = some (.slice ao4 n4 c4))
        (first | with_reducible exact ⟨pb_12.c0, pb_12.c1, r_8.c0, r_8.c1⟩ | with_reducible exact ⟨pb_13.c0, pb_13.c1, r_9.c0, r_9.c1⟩ | with_reducible exact ⟨pb_14.c0, pb_14.c1, r_10.c0, r_10.c1⟩ | with_reducible exact ⟨pb_15.c0, pb_15.c1, r_11.c0, r_11.c1⟩ | with_reducible exact ⟨pb_16.c0, pb_16.c1, r_12.c0, r_12.c1⟩ | with_reducible exact ⟨pb_17.c0, pb_17.c1, r_13.c0, r_13.c1⟩ | with_reducible exact ⟨pb_18.c0, pb_18.c1, r_14.c0, r_14.c1⟩ | fail)
        (first
          | (go_at_call 23; (with_reducible refine (Abs_any _ _ _ _ (by omega) h4_9.num).mono ?_); rintro e w12 ⟨m7, ao7, n7, c7, rfl, h7_0, hb12⟩; have hB_14 := hB_13.trans (hb12.mono hB_13.size); have ax_14 := ax_13.below hb12; have bx_14 := bx_13.below hb12; have pa_13 := pa_12.below hb12; have pb_13 := pb_12.below hb12; have h3_10 := h3_9.below hb12; have h4_10 := h4_9.below hb12; have q_9 := q_8.below hb12; have r_9 := r_8.below hb12; clear hb12)
          | (go_at_call 23; (with_reducible refine (Abs_any _ _ _ _ (by omega) bx_14).mono ?_); rintro e w13 ⟨m8, ao8, n8, c8, rfl, h8_0, hb13⟩; have hB_15 := hB_14.trans (hb13.mono hB_14.size); have ax_15 := ax_14.below hb13; have bx_15 := bx_14.below hb13; have pa_14 := pa_13.below hb13; have pb_14 := pb_13.below hb13; have h3_11 := h3_10.below hb13; have h4_11 := h4_10.below hb13; have q_10 := q_9.below hb13; have r_10 := r_9.below hb13; have h7_1 := h7_0.below hb13; clear hb13)
          | (go_at_call 19; (with_reducible refine (nCmp_less _ _ _ _ _ _ _ (by omega) (by omega) h7_1.num h8_0.num (fmod_abs HY.out)).mono ?_); rintro e w14 ⟨rfl, hb14⟩; have hB_16 := hB_15.trans (hb14.mono hB_15.size); have ax_16 := ax_15.below hb14; have bx_16 := bx_15.below hb14; have pa_15 := pa_14.below hb14; have pb_15 := pb_14.below hb14; have h3_12 := h3_11.below hb14; have h4_12 := h4_11.below hb14; have q_11 := q_10.below hb14; have r_11 := r_10.below hb14; have h7_2 := h7_1.below hb14; have h8_1 := h8_0.below hb14; clear hb14)
          | (go_at_call 21; (with_reducible refine (Sign_is _ _ _ sy _ (by omega) h4_12.num (by rw [fmod_sign HY.out hm0]; exact HSY.out)).mono ?_); rintro e w15 ⟨rfl, hb15⟩; have hB_17 := hB_16.trans (hb15.mono hB_16.size); have ax_17 := ax_16.below hb15; have bx_17 := bx_16.below hb15; have pa_16 := pa_15.below hb15; have pb_16 := pb_15.below hb15; have h3_13 := h3_12.below hb15; have h4_13 := h4_12.below hb15; have q_12 := q_11.below hb15; have r_12 := r_11.below hb15; have h7_3 := h7_2.below hb15; have h8_2 := h8_1.below hb15; clear hb15)
          | (go_at_call 21; (with_reducible refine (Sign_is _ _ _ sy _ (by omega) h4_13.num (by rw [fmod_sign HY.out hm0]; exact HSY.out)).mono ?_); rintro e w16 ⟨rfl, hb16⟩; have hB_18 := hB_17.trans (hb16.mono hB_17.size); have ax_18 := ax_17.below hb16; have bx_18 := bx_17.below hb16; have pa_17 := pa_16.below hb16; have pb_17 := pb_16.below hb16; have h3_14 := h3_13.below hb16; have h4_14 := h4_13.below hb16; have q_13 := q_12.below hb16; have r_13 := r_12.below hb16; have h7_4 := h7_3.below hb16; have h8_3 := h8_2.below hb16; clear hb16)
          | (go_at_call 21; (with_reducible refine (Sign_is _ _ _ sy _ (by omega) bx_18 HSY.out).mono ?_); rintro e w17 ⟨rfl, hb17⟩; have hB_19 := hB_18.trans (hb17.mono hB_18.size); have ax_19 := ax_18.below hb17; have bx_19 := bx_18.below hb17; have pa_18 := pa_17.below hb17; have pb_18 := pb_17.below hb17; have h3_15 := h3_14.below hb17; have h4_15 := h4_14.below hb17; have q_14 := q_13.below hb17; have r_14 := r_13.below hb17; have h7_5 := h7_4.below hb17; have h8_4 := h8_3.below hb17; clear hb17))
      go_wp2
      go_ret
      exact ⟨rfl, hB_19⟩
end Go.Proofs.Ytbfdianmbpfjmaa
