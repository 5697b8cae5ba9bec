/- The statement NumSigns, walked. -/
import Derived.Test.YtbfdianmbpfjmaaNumJ
namespace Go.Proofs.Ytbfdianmbpfjmaa
open Go.RowKit Go.MagM
theorem sign_bd (X : Int) : -1 ≤ X.sign ∧ X.sign ≤ 1 := by
  rcases Int.lt_trichotomy X 0 with h | h | h
  · rw [Int.sign_eq_neg_one_of_neg h]; omega
  · rw [h, Int.sign_zero]; omega
  · rw [Int.sign_eq_one_of_pos h]; omega
theorem prod_bd {s u : Int} (h1 : -1 ≤ s ∧ s ≤ 1) (h2 : -1 ≤ u ∧ u ≤ 1) : -1 ≤ s * u ∧ s * u ≤ 1 := by
  obtain rfl | rfl | rfl : s = -1 ∨ s = 0 ∨ s = 1 := by omega
  all_goals omega
set_option maxHeartbeats 8000000 in
theorem NumSigns_walk (am : Bool) (ao : Option Addr) (an ac : Nat) (f : Nat → Nat) (bm : Bool) (bo : Option Addr) (bn bc : Nat) (g : Nat → Nat) (w : World) (ahc : an ≤ ac) (ar : Reads w ao an f) (bhc : bn ≤ bc) (br : Reads w bo bn g) :
    Calls Try.prog 8 #[.agg #[.bool am, .slice ao an ac], .agg #[.bool bm, .slice bo bn bc]] w fun e w' => e = .returned (.bool true) ∧ Below w.heap.size w w' := by
  have hB_0 := Below.refl w.heap.size w
  obtain ⟨X, hX⟩ : ∃ X, sgn am (V f an) = X := ⟨_, rfl⟩
  have ax_0 : Num w (.agg #[.bool am, .slice ao an ac]) an X := ⟨_, _, _, rfl, ⟨ao, an, ac, f, rfl, ahc, Nat.le_refl _, ar, rfl⟩, hX.symm⟩
  clear ahc ar hX
  obtain ⟨Y, hY⟩ : ∃ Y, sgn bm (V g bn) = Y := ⟨_, rfl⟩
  have bx_0 : Num w (.agg #[.bool bm, .slice bo bn bc]) bn Y := ⟨_, _, _, rfl, ⟨bo, bn, bc, g, rfl, bhc, Nat.le_refl _, br, rfl⟩, hY.symm⟩
  clear bhc br hY
  go_enter Try.func8, Try.ntmps8
  go_wp2_with fail
  obtain ⟨pa_0, pb_0, hb1⟩ := boxed2 w (.bool am) (.slice ao an ac) (.bool bm) (.slice bo bn bc) 25
  have hB_1 := hB_0.trans (hb1.mono hB_0.size)
  have ax_1 := ax_0.below hb1
  have bx_1 := bx_0.below hb1
  clear hb1 hB_0 ax_0 bx_0
  generalize ((w.alloc (Obj.cells #[Value.bool am, Value.slice ao an ac] 25)).alloc (Obj.cells #[Value.bool bm, Value.slice bo bn bc] 25)) = w1 at *
  obtain ⟨pae0, pae1, pae2, pae3⟩ := (id pa_0)
  obtain ⟨pbe0, pbe1, pbe2, pbe3⟩ := (id pb_0)
  go_wp2_with fail
  refine (fit_any _).mono ?_
  rintro e w2 ⟨rfl, hb2⟩
  clear pae0 pae1 pae2 pae3 pbe0 pbe1 pbe2 pbe3
  have hB_2 := hB_1.trans (hb2.mono hB_1.size)
  have ax_2 := ax_1.below hb2
  have bx_2 := bx_1.below hb2
  have pa_1 := pa_0.below hb2
  have pb_1 := pb_0.below hb2
  clear hb2 hB_1 ax_1 bx_1 pa_0 pb_0
  obtain ⟨pae0, pae1, pae2, pae3⟩ := (id pa_1)
  obtain ⟨pbe0, pbe1, pbe2, pbe3⟩ := (id pb_1)
  by_cases hsh : an ≤ 12 ∧ bn ≤ 12
  rotate_left
  · skip
    go_wp2_with fail
    refine (nshort2_no 12 _ _ am ao an ac bm bo bn bc (by omega) hsh).mono ?_
    rintro e w3 ⟨rfl, hb3⟩
    clear pae0 pae1 pae2 pae3 pbe0 pbe1 pbe2 pbe3
    have hB_3 := hB_2.trans (hb3.mono hB_2.size)
    have ax_3 := ax_2.below hb3
    have bx_3 := bx_2.below hb3
    have pa_2 := pa_1.below hb3
    have pb_2 := pb_1.below hb3
    clear hb3 hB_2 ax_2 bx_2 pa_1 pb_1
    go_wp2
    go_ret
    exact ⟨rfl, hB_3⟩
  have hsa : an ≤ 12 := hsh.1
  have hsb : bn ≤ 12 := hsh.2
  go_wp2_with fail
  refine (nshort2_yes 12 _ _ am ao an ac bm bo bn bc (by omega) hsh).mono ?_
  rintro e w3 ⟨rfl, hb3⟩
  clear pae0 pae1 pae2 pae3 pbe0 pbe1 pbe2 pbe3
  have hB_3 := hB_2.trans (hb3.mono hB_2.size)
  have ax_3 := ax_2.below hb3
  have bx_3 := bx_2.below hb3
  have pa_2 := pa_1.below hb3
  have pb_2 := pb_1.below hb3
  clear hb3 hB_2 ax_2 bx_2 pa_1 pb_1
  obtain ⟨pae0, pae1, pae2, pae3⟩ := (id pa_2)
  obtain ⟨pbe0, pbe1, pbe2, pbe3⟩ := (id pb_2)
  clear hsh
  obtain ⟨s, hs⟩ : ∃ s, X.sign = s := ⟨_, rfl⟩
  obtain ⟨u, hu⟩ : ∃ u, Y.sign = u := ⟨_, rfl⟩
  have bs := sign_bd X
  have bu := sign_bd Y
  rw [hs] at bs
  rw [hu] at bu
  have hw1 : IntKind.i64.wrap (-s) = -s := IntWalk.i64_in _ (by omega)
  have bp := prod_bd bs bu
  have hw2 : IntKind.i64.wrap (s * u) = s * u := IntWalk.i64_in _ (by omega)
  have HS := Lib.hid hs; have HU := Lib.hid hu; have HNS : Hid ((-X).sign = -s) := Lib.hid (by rw [Int.sign_neg, hs]); have HP : Hid ((X * Y).sign = s * u) := Lib.hid (by rw [Int.sign_mul, hs, hu])
  have HZ : Hid ((X + -X).sign = 0) := Lib.hid (by rw [Int.add_right_neg, Int.sign_zero])
  clear hs hu bs bu bp
  go_wp2_with fail
  refine (Neg_any _ _ _ _ (by omega) ax_3).mono ?_
  rintro e w4 ⟨m3, ao3, n3, c3, rfl, h3_0, hb4⟩
  clear pae0 pae1 pae2 pae3 pbe0 pbe1 pbe2 pbe3
  have hB_4 := hB_3.trans (hb4.mono hB_3.size)
  have ax_4 := ax_3.below hb4
  have bx_4 := bx_3.below hb4
  have pa_3 := pa_2.below hb4
  have pb_3 := pb_2.below hb4
  clear hb4 hB_3 ax_3 bx_3 pa_2 pb_2
  go_wp2
  obtain ⟨q_0, hb5⟩ := boxed1 w4 (.bool m3) (.slice ao3 n3 c3) 25
  have hB_5 := hB_4.trans (hb5.mono hB_4.size)
  have ax_5 := ax_4.below hb5
  have bx_5 := bx_4.below hb5
  have pa_4 := pa_3.below hb5
  have pb_4 := pb_3.below hb5
  have h3_1 := h3_0.below hb5
  clear hb5 hB_4 ax_4 bx_4 pa_3 pb_3 h3_0
  generalize (w4.alloc (Obj.cells #[Value.bool m3, Value.slice ao3 n3 c3] 25)) = w5 at *
  have hB_6 := hB_5.drew'
  have ax_6 := ax_5.drew
  have bx_6 := bx_5.drew
  have pa_5 := pa_4.drew
  have pb_5 := pb_4.drew
  have h3_2 := h3_1.drew
  have q_1 := q_0.drew
  go_region_held3 (fun w' => w'.cell? ⟨w.heap.size, 0, none⟩ = some (.bool am) ∧ w'.cell? ⟨w.heap.size, 1, none⟩ = some (.slice ao an ac) ∧ w'.cell? ⟨w4.heap.size, 0, none⟩ = some (.bool m3) ∧ w'.cell? ⟨w4.heap.size, 1, none⟩ = some (.slice ao3 n3 c3))
    (first | with_reducible exact ⟨pa_5.c0, pa_5.c1, q_1.c0, q_1.c1⟩ | with_reducible exact ⟨pa_6.c0, pa_6.c1, q_2.c0, q_2.c1⟩ | with_reducible exact ⟨pa_7.c0, pa_7.c1, q_3.c0, q_3.c1⟩ | with_reducible exact ⟨pa_8.c0, pa_8.c1, q_4.c0, q_4.c1⟩ | with_reducible exact ⟨pa_9.c0, pa_9.c1, q_5.c0, q_5.c1⟩ | with_reducible exact ⟨pa_10.c0, pa_10.c1, q_6.c0, q_6.c1⟩ | with_reducible exact ⟨pa_11.c0, pa_11.c1, q_7.c0, q_7.c1⟩ | with_reducible exact ⟨pa_12.c0, pa_12.c1, q_8.c0, q_8.c1⟩ | fail)
    (first
      | (go_at_call 26; (with_reducible refine (Right_any _ _ _ _ (by omega) h3_2).mono ?_); rintro e w6 ⟨rfl, hb6⟩; have hB_7 := hB_6.trans (hb6.mono hB_6.size); have ax_7 := ax_6.below hb6; have bx_7 := bx_6.below hb6; have pa_6 := pa_5.below hb6; have pb_6 := pb_5.below hb6; have h3_3 := h3_2.below hb6; have q_2 := q_1.below hb6; clear hb6)
      | (go_at_call 22; (with_reducible refine (Neg_any _ _ _ _ (by omega) h3_3.num).mono ?_); rintro e w7 ⟨m4, ao4, n4, c4, rfl, h4_0, hb7⟩; have hB_8 := hB_7.trans (hb7.mono hB_7.size); have ax_8 := ax_7.below hb7; have bx_8 := bx_7.below hb7; have pa_7 := pa_6.below hb7; have pb_7 := pb_6.below hb7; have h3_4 := h3_3.below hb7; have q_3 := q_2.below hb7; clear hb7)
      | (go_at_call 19; (with_reducible refine (nCmp_even _ _ _ _ _ _ _ (by omega) (by omega) h4_0.num ax_8 (Int.neg_neg X)).mono ?_); rintro e w8 ⟨rfl, hb8⟩; have hB_9 := hB_8.trans (hb8.mono hB_8.size); have ax_9 := ax_8.below hb8; have bx_9 := bx_8.below hb8; have pa_8 := pa_7.below hb8; have pb_8 := pb_7.below hb8; have h3_5 := h3_4.below hb8; have q_4 := q_3.below hb8; have h4_1 := h4_0.below hb8; clear hb8)
      | (go_at_call 15; (with_reducible refine (nAdd_any _ _ _ _ _ _ _ (by omega) (by omega) ax_9 h3_5.num).mono ?_); rintro e w9 ⟨m5, ao5, n5, c5, rfl, h5_0, hb9⟩; have hB_10 := hB_9.trans (hb9.mono hB_9.size); have ax_10 := ax_9.below hb9; have bx_10 := bx_9.below hb9; have pa_9 := pa_8.below hb9; have pb_9 := pb_8.below hb9; have h3_6 := h3_5.below hb9; have q_5 := q_4.below hb9; have h4_2 := h4_1.below hb9; clear hb9)
      | (go_at_call 21; (with_reducible refine (Sign_is _ _ _ 0 _ (by omega) h5_0.num HZ.out).mono ?_); rintro e w10 ⟨rfl, hb10⟩; have hB_11 := hB_10.trans (hb10.mono hB_10.size); have ax_11 := ax_10.below hb10; have bx_11 := bx_10.below hb10; have pa_10 := pa_9.below hb10; have pb_10 := pb_9.below hb10; have h3_7 := h3_6.below hb10; have q_6 := q_5.below hb10; have h4_3 := h4_2.below hb10; have h5_1 := h5_0.below hb10; clear hb10)
      | (go_at_call 21; (with_reducible refine (Sign_is _ _ _ (-s) _ (by omega) h3_7.num HNS.out).mono ?_); rintro e w11 ⟨rfl, hb11⟩; have hB_12 := hB_11.trans (hb11.mono hB_11.size); have ax_12 := ax_11.below hb11; have bx_12 := bx_11.below hb11; have pa_11 := pa_10.below hb11; have pb_11 := pb_10.below hb11; have h3_8 := h3_7.below hb11; have q_7 := q_6.below hb11; have h4_4 := h4_3.below hb11; have h5_2 := h5_1.below hb11; clear hb11)
      | (go_at_call 21; (with_reducible refine (Sign_is _ _ _ s _ (by omega) ax_12 HS.out).mono ?_); rintro e w12 ⟨rfl, hb12⟩; have hB_13 := hB_12.trans (hb12.mono hB_12.size); have ax_13 := ax_12.below hb12; have bx_13 := bx_12.below hb12; have pa_12 := pa_11.below hb12; have pb_12 := pb_11.below hb12; have h3_9 := h3_8.below hb12; have q_8 := q_7.below hb12; have h4_5 := h4_4.below hb12; have h5_3 := h5_2.below hb12; clear hb12))
  clear h4_5 h5_3
  obtain ⟨pae0, pae1, pae2, pae3⟩ := (id pa_12)
  obtain ⟨pbe0, pbe1, pbe2, pbe3⟩ := (id pb_12)
  obtain ⟨qe0, qe1, qe2, qe3⟩ := (id q_8)
  go_wp2_with fail
  refine (nMul_any _ _ _ _ _ _ _ (by omega) (by omega) ax_13 bx_13).mono ?_
  rintro e w13 ⟨m6, ao6, n6, c6, rfl, h6_0, hb13⟩
  clear pae0 pae1 pae2 pae3 pbe0 pbe1 pbe2 pbe3 qe0 qe1 qe2 qe3
  have hB_14 := hB_13.trans (hb13.mono hB_13.size)
  have ax_14 := ax_13.below hb13
  have bx_14 := bx_13.below hb13
  have pa_13 := pa_12.below hb13
  have pb_13 := pb_12.below hb13
  have h3_10 := h3_9.below hb13
  have q_9 := q_8.below hb13
  clear hb13 hB_13 ax_13 bx_13 pa_12 pb_12 h3_9 q_8
  go_wp2
  obtain ⟨p_0, hb14⟩ := boxed1 w13 (.bool m6) (.slice ao6 n6 c6) 25
  have hB_15 := hB_14.trans (hb14.mono hB_14.size)
  have ax_15 := ax_14.below hb14
  have bx_15 := bx_14.below hb14
  have pa_14 := pa_13.below hb14
  have pb_14 := pb_13.below hb14
  have h3_11 := h3_10.below hb14
  have q_10 := q_9.below hb14
  have h6_1 := h6_0.below hb14
  clear hb14 hB_14 ax_14 bx_14 pa_13 pb_13 h3_10 q_9 h6_0
  generalize (w13.alloc (Obj.cells #[Value.bool m6, Value.slice ao6 n6 c6] 25)) = w14 at *
  have hB_16 := hB_15.drew'
  have ax_16 := ax_15.drew
  have bx_16 := bx_15.drew
  have pa_15 := pa_14.drew
  have pb_15 := pb_14.drew
  have h3_12 := h3_11.drew
  have q_11 := q_10.drew
  have h6_2 := h6_1.drew
  have p_1 := p_0.drew
  go_region_held3 (fun w' => w'.cell? ⟨w.heap.size, 0, none⟩ = some (.bool am) ∧ w'.cell? ⟨w.heap.size, 1, none⟩ = some (.slice ao an ac) ∧ w'.cell? ⟨w.heap.size + 1, 0, none⟩ = some (.bool bm) ∧ w'.cell? ⟨w.heap.size + 1, 1, none⟩ = some (.slice bo bn bc) ∧ w'.cell? ⟨w4.heap.size, 0, none⟩ = some (.bool m3) ∧ w'.cell? ⟨w4.heap.size, 1, none⟩ = some (.slice ao3 n3 c3) ∧ w'.cell? ⟨w13.heap.size, 0, none⟩ = some (.bool m6) ∧ w'.cell? ⟨w13.heap.size, 1, none⟩ = some (.slice ao6 n6 c6))
    (first | with_reducible exact ⟨pa_15.c0, pa_15.c1, pb_15.c0, pb_15.c1, q_11.c0, q_11.c1, p_1.c0, p_1.c1⟩ | with_reducible exact ⟨pa_16.c0, pa_16.c1, pb_16.c0, pb_16.c1, q_12.c0, q_12.c1, p_2.c0, p_2.c1⟩ | with_reducible exact ⟨pa_17.c0, pa_17.c1, pb_17.c0, pb_17.c1, q_13.c0, q_13.c1, p_3.c0, p_3.c1⟩ | with_reducible exact ⟨pa_18.c0, pa_18.c1, pb_18.c0, pb_18.c1, q_14.c0, q_14.c1, p_4.c0, p_4.c1⟩ | with_reducible exact ⟨pa_19.c0, pa_19.c1, pb_19.c0, pb_19.c1, q_15.c0, q_15.c1, p_5.c0, p_5.c1⟩ | with_reducible exact ⟨pa_20.c0, pa_20.c1, pb_20.c0, pb_20.c1, q_16.c0, q_16.c1, p_6.c0, p_6.c1⟩ | with_reducible exact ⟨pa_21.c0, pa_21.c1, pb_21.c0, pb_21.c1, q_17.c0, q_17.c1, p_7.c0, p_7.c1⟩ | with_reducible exact ⟨pa_22.c0, pa_22.c1, pb_22.c0, pb_22.c1, q_18.c0, q_18.c1, p_8.c0, p_8.c1⟩ | with_reducible exact ⟨pa_23.c0, pa_23.c1, pb_23.c0, pb_23.c1, q_19.c0, q_19.c1, p_9.c0, p_9.c1⟩ | with_reducible exact ⟨pa_24.c0, pa_24.c1, pb_24.c0, pb_24.c1, q_20.c0, q_20.c1, p_10.c0, p_10.c1⟩ | with_reducible exact ⟨pa_25.c0, pa_25.c1, pb_25.c0, pb_25.c1, q_21.c0, q_21.c1, p_11.c0, p_11.c1⟩ | with_reducible exact ⟨pa_26.c0, pa_26.c1, pb_26.c0, pb_26.c1, q_22.c0, q_22.c1, p_12.c0, p_12.c1⟩ | with_reducible exact ⟨pa_27.c0, pa_27.c1, pb_27.c0, pb_27.c1, q_23.c0, q_23.c1, p_13.c0, p_13.c1⟩ | fail)
    (first
      | (go_at_call 21; (with_reducible refine (Sign_is _ _ _ (s * u) _ (by omega) h6_2.num HP.out).mono ?_); rintro e w15 ⟨rfl, hb15⟩; have hB_17 := hB_16.trans (hb15.mono hB_16.size); have ax_17 := ax_16.below hb15; have bx_17 := bx_16.below hb15; have pa_16 := pa_15.below hb15; have pb_16 := pb_15.below hb15; have h3_13 := h3_12.below hb15; have q_12 := q_11.below hb15; have h6_3 := h6_2.below hb15; have p_2 := p_1.below hb15; clear hb15)
      | (go_at_call 21; (with_reducible refine (Sign_is _ _ _ s _ (by omega) ax_17 HS.out).mono ?_); rintro e w16 ⟨rfl, hb16⟩; have hB_18 := hB_17.trans (hb16.mono hB_17.size); have ax_18 := ax_17.below hb16; have bx_18 := bx_17.below hb16; have pa_17 := pa_16.below hb16; have pb_17 := pb_16.below hb16; have h3_14 := h3_13.below hb16; have q_13 := q_12.below hb16; have h6_4 := h6_3.below hb16; have p_3 := p_2.below hb16; clear hb16)
      | (go_at_call 21; (with_reducible refine (Sign_is _ _ _ u _ (by omega) bx_18 HU.out).mono ?_); rintro e w17 ⟨rfl, hb17⟩; have hB_19 := hB_18.trans (hb17.mono hB_18.size); have ax_19 := ax_18.below hb17; have bx_19 := bx_18.below hb17; have pa_18 := pa_17.below hb17; have pb_18 := pb_17.below hb17; have h3_15 := h3_14.below hb17; have q_14 := q_13.below hb17; have h6_5 := h6_4.below hb17; have p_4 := p_3.below hb17; clear hb17)
      | (go_at_call 23; (with_reducible refine (Abs_any _ _ _ _ (by omega) h6_5.num).mono ?_); rintro e w18 ⟨m7, ao7, n7, c7, rfl, h7_0, hb18⟩; have hB_20 := hB_19.trans (hb18.mono hB_19.size); have ax_20 := ax_19.below hb18; have bx_20 := bx_19.below hb18; have pa_19 := pa_18.below hb18; have pb_19 := pb_18.below hb18; have h3_16 := h3_15.below hb18; have q_15 := q_14.below hb18; have h6_6 := h6_5.below hb18; have p_5 := p_4.below hb18; clear hb18)
      | (go_at_call 23; (with_reducible refine (Abs_any _ _ _ _ (by omega) ax_20).mono ?_); rintro e w19 ⟨m8, ao8, n8, c8, rfl, h8_0, hb19⟩; have hB_21 := hB_20.trans (hb19.mono hB_20.size); have ax_21 := ax_20.below hb19; have bx_21 := bx_20.below hb19; have pa_20 := pa_19.below hb19; have pb_20 := pb_19.below hb19; have h3_17 := h3_16.below hb19; have q_16 := q_15.below hb19; have h6_7 := h6_6.below hb19; have p_6 := p_5.below hb19; have h7_1 := h7_0.below hb19; clear hb19)
      | (go_at_call 23; (with_reducible refine (Abs_any _ _ _ _ (by omega) bx_21).mono ?_); rintro e w20 ⟨m9, ao9, n9, c9, rfl, h9_0, hb20⟩; have hB_22 := hB_21.trans (hb20.mono hB_21.size); have ax_22 := ax_21.below hb20; have bx_22 := bx_21.below hb20; have pa_21 := pa_20.below hb20; have pb_21 := pb_20.below hb20; have h3_18 := h3_17.below hb20; have q_17 := q_16.below hb20; have h6_8 := h6_7.below hb20; have p_7 := p_6.below hb20; have h7_2 := h7_1.below hb20; have h8_1 := h8_0.below hb20; clear hb20)
      | (go_at_call 17; (with_reducible refine (nMul_any _ _ _ _ _ _ _ (by omega) (by omega) h8_1.num h9_0.num).mono ?_); rintro e w21 ⟨m10, ao10, n10, c10, rfl, h10_0, hb21⟩; have hB_23 := hB_22.trans (hb21.mono hB_22.size); have ax_23 := ax_22.below hb21; have bx_23 := bx_22.below hb21; have pa_22 := pa_21.below hb21; have pb_22 := pb_21.below hb21; have h3_19 := h3_18.below hb21; have q_18 := q_17.below hb21; have h6_9 := h6_8.below hb21; have p_8 := p_7.below hb21; have h7_3 := h7_2.below hb21; have h8_2 := h8_1.below hb21; have h9_1 := h9_0.below hb21; clear hb21)
      | (go_at_call 19; (with_reducible refine (nCmp_even _ _ _ _ _ _ _ (by omega) (by omega) h7_3.num h10_0.num (by rw [Int.natAbs_mul, Int.natCast_mul])).mono ?_); rintro e w22 ⟨rfl, hb22⟩; have hB_24 := hB_23.trans (hb22.mono hB_23.size); have ax_24 := ax_23.below hb22; have bx_24 := bx_23.below hb22; have pa_23 := pa_22.below hb22; have pb_23 := pb_22.below hb22; have h3_20 := h3_19.below hb22; have q_19 := q_18.below hb22; have h6_10 := h6_9.below hb22; have p_9 := p_8.below hb22; have h7_4 := h7_3.below hb22; have h8_3 := h8_2.below hb22; have h9_2 := h9_1.below hb22; have h10_1 := h10_0.below hb22; clear hb22)
      | (go_at_call 17; (with_reducible refine (nMul_any _ _ _ _ _ _ _ (by omega) (by omega) h3_20.num bx_24).mono ?_); rintro e w23 ⟨m11, ao11, n11, c11, rfl, h11_0, hb23⟩; have hB_25 := hB_24.trans (hb23.mono hB_24.size); have ax_25 := ax_24.below hb23; have bx_25 := bx_24.below hb23; have pa_24 := pa_23.below hb23; have pb_24 := pb_23.below hb23; have h3_21 := h3_20.below hb23; have q_20 := q_19.below hb23; have h6_11 := h6_10.below hb23; have p_10 := p_9.below hb23; have h7_5 := h7_4.below hb23; have h8_4 := h8_3.below hb23; have h9_3 := h9_2.below hb23; have h10_2 := h10_1.below hb23; clear hb23)
      | (go_at_call 22; (with_reducible refine (Neg_any _ _ _ _ (by omega) h6_11.num).mono ?_); rintro e w24 ⟨m12, ao12, n12, c12, rfl, h12_0, hb24⟩; have hB_26 := hB_25.trans (hb24.mono hB_25.size); have ax_26 := ax_25.below hb24; have bx_26 := bx_25.below hb24; have pa_25 := pa_24.below hb24; have pb_25 := pb_24.below hb24; have h3_22 := h3_21.below hb24; have q_21 := q_20.below hb24; have h6_12 := h6_11.below hb24; have p_11 := p_10.below hb24; have h7_6 := h7_5.below hb24; have h8_5 := h8_4.below hb24; have h9_4 := h9_3.below hb24; have h10_3 := h10_2.below hb24; have h11_1 := h11_0.below hb24; clear hb24)
      | (go_at_call 19; (with_reducible refine (nCmp_even _ _ _ _ _ _ _ (by omega) (by omega) h11_1.num h12_0.num (Int.neg_mul X Y)).mono ?_); rintro e w25 ⟨rfl, hb25⟩; have hB_27 := hB_26.trans (hb25.mono hB_26.size); have ax_27 := ax_26.below hb25; have bx_27 := bx_26.below hb25; have pa_26 := pa_25.below hb25; have pb_26 := pb_25.below hb25; have h3_23 := h3_22.below hb25; have q_22 := q_21.below hb25; have h6_13 := h6_12.below hb25; have p_12 := p_11.below hb25; have h7_7 := h7_6.below hb25; have h8_6 := h8_5.below hb25; have h9_5 := h9_4.below hb25; have h10_4 := h10_3.below hb25; have h11_2 := h11_1.below hb25; have h12_1 := h12_0.below hb25; clear hb25)
      | (go_at_call 26; (with_reducible refine (Right_any _ _ _ _ (by omega) h6_13).mono ?_); rintro e w26 ⟨rfl, hb26⟩; have hB_28 := hB_27.trans (hb26.mono hB_27.size); have ax_28 := ax_27.below hb26; have bx_28 := bx_27.below hb26; have pa_27 := pa_26.below hb26; have pb_27 := pb_26.below hb26; have h3_24 := h3_23.below hb26; have q_23 := q_22.below hb26; have h6_14 := h6_13.below hb26; have p_13 := p_12.below hb26; have h7_8 := h7_7.below hb26; have h8_7 := h8_6.below hb26; have h9_6 := h9_5.below hb26; have h10_5 := h10_4.below hb26; have h11_3 := h11_2.below hb26; have h12_2 := h12_1.below hb26; clear hb26))
  go_wp2
  go_ret
  exact ⟨rfl, hB_28⟩
end Go.Proofs.Ytbfdianmbpfjmaa
