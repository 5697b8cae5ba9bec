/- The statement NumOrders, walked. -/
import Derived.Test.YtbfdianmbpfjmaaNumJ
namespace Go.Proofs.Ytbfdianmbpfjmaa
open Go.RowKit Go.MagM
theorem icmp_sub (X Y : Int) : (X - Y).sign = icmp X Y := by
  rcases Int.lt_trichotomy X Y with h | h | h
  · rw [icmp_lt h, Int.sign_eq_neg_one_of_neg (by omega)]
  · rw [h, icmp_self, Int.sub_self, Int.sign_zero]
  · rw [icmp_gt h, Int.sign_eq_one_of_pos (by omega)]
theorem icmp_flip (X Y : Int) : icmp Y X = -icmp X Y := by
  rcases Int.lt_trichotomy X Y with h | h | h
  · rw [icmp_lt h, icmp_gt h]; rfl
  · rw [h, icmp_self]; rfl
  · rw [icmp_gt h, icmp_lt h]
theorem icmp_add (X Y Z : Int) : icmp (X + Z) (Y + Z) = icmp X Y := by
  rcases Int.lt_trichotomy X Y with h | h | h
  · rw [icmp_lt h, icmp_lt (by omega)]
  · rw [h, icmp_self, icmp_self]
  · rw [icmp_gt h, icmp_gt (by omega)]
theorem icmp_three (X Y : Int) : icmp X Y = -1 ∨ icmp X Y = 0 ∨ icmp X Y = 1 := by have := icmp_bd X Y; omega
theorem icmp_ge {X Y : Int} : icmp X Y = 0 ∨ icmp X Y = 1 → Y ≤ X := by
  intro h
  rcases Int.lt_trichotomy X Y with g | g | g
  · rw [icmp_lt g] at h; omega
  · omega
  · omega
theorem ge_icmp {X Y : Int} (h : Y ≤ X) : 0 ≤ icmp X Y := by
  rcases Int.lt_or_eq_of_le h with g | g
  · rw [icmp_gt g]; omega
  · rw [g, icmp_self]; omega
theorem nCmp_is (va vb : Value) (L L' : Nat) (X Y c : Int) (w : World) (hL : L ≤ 4000000000) (hL' : L' ≤ 4000000000) (ha : Num w va L X) (hb : Num w vb L' Y) (h : icmp X Y = c) :
    Calls Try.prog 19 #[va, vb] w fun e w' => e = .returned (.int .i64 c) ∧ Below w.heap.size w w' := by
  have := nCmp_any va vb L L' X Y w hL hL' ha hb
  rw [h] at this; exact this
theorem num_parts {w : World} {m : Bool} {vm : Value} {L : Nat} {X : Int} (h : Num w (.agg #[.bool m, vm]) L X) : ∃ N, Mag w vm L N ∧ X = sgn m N := by
  obtain ⟨m', vm', N, he, hm, hx⟩ := h
  simp at he
  obtain ⟨rfl, rfl⟩ := he
  exact ⟨N, hm, hx⟩
set_option maxRecDepth 100000 in
set_option maxHeartbeats 8000000 in
theorem NumOrders_walk (am : Bool) (ao : Option Addr) (an ac : Nat) (f : Nat → Nat) (bm : Bool) (bo : Option Addr) (bn bc : Nat) (g : Nat → Nat) (cm : Bool) (co : Option Addr) (cn cc : Nat) (h : Nat → Nat) (w : World) (ahc : an ≤ ac) (ar : Reads w ao an f) (bhc : bn ≤ bc) (br : Reads w bo bn g) (chc : cn ≤ cc) (cr : Reads w co cn h) :
    Calls Try.prog 7 #[.agg #[.bool am, .slice ao an ac], .agg #[.bool bm, .slice bo bn bc], .agg #[.bool cm, .slice co cn cc]] w fun e w' => e = .returned (.bool true) ∧ Below w.heap.size w w' := by
  have hB_0 := Below.refl w.heap.size w
  obtain ⟨X, hX⟩ : ∃ X, sgn am (V f an) = X := ⟨_, rfl⟩
  have ax_0 : Num w (.agg #[.bool am, .slice ao an ac]) an X := ⟨_, _, _, rfl, ⟨ao, an, ac, f, rfl, ahc, Nat.le_refl _, ar, rfl⟩, hX.symm⟩
  clear ahc ar hX
  obtain ⟨Y, hY⟩ : ∃ Y, sgn bm (V g bn) = Y := ⟨_, rfl⟩
  have bx_0 : Num w (.agg #[.bool bm, .slice bo bn bc]) bn Y := ⟨_, _, _, rfl, ⟨bo, bn, bc, g, rfl, bhc, Nat.le_refl _, br, rfl⟩, hY.symm⟩
  clear bhc br hY
  obtain ⟨Z, hZ⟩ : ∃ Z, sgn cm (V h cn) = Z := ⟨_, rfl⟩
  have cx_0 : Num w (.agg #[.bool cm, .slice co cn cc]) cn Z := ⟨_, _, _, rfl, ⟨co, cn, cc, h, rfl, chc, Nat.le_refl _, cr, rfl⟩, hZ.symm⟩
  clear chc cr hZ
  go_enter Try.func7, Try.ntmps7
  go_wp2_with fail
  obtain ⟨pa_0, pb_0, pc_0, hb1⟩ := boxed3 w (.bool am) (.slice ao an ac) (.bool bm) (.slice bo bn bc) (.bool cm) (.slice co cn cc) 25
  have hB_1 := hB_0.trans (hb1.mono hB_0.size)
  have ax_1 := ax_0.below hb1
  have bx_1 := bx_0.below hb1
  have cx_1 := cx_0.below hb1
  clear hb1 hB_0 ax_0 bx_0 cx_0
  generalize (((w.alloc (Obj.cells #[Value.bool am, Value.slice ao an ac] 25)).alloc (Obj.cells #[Value.bool bm, Value.slice bo bn bc] 25)).alloc (Obj.cells #[Value.bool cm, Value.slice co cn cc] 25)) = w1 at *
  obtain ⟨pae0, pae1, pae2, pae3⟩ := (id pa_0)
  obtain ⟨pbe0, pbe1, pbe2, pbe3⟩ := (id pb_0)
  obtain ⟨pce0, pce1, pce2, pce3⟩ := (id pc_0)
  go_wp2_with fail
  refine (fit_any _).mono ?_
  rintro e w2 ⟨rfl, hb2⟩
  clear pae0 pae1 pae2 pae3 pbe0 pbe1 pbe2 pbe3 pce0 pce1 pce2 pce3
  have hB_2 := hB_1.trans (hb2.mono hB_1.size)
  have ax_2 := ax_1.below hb2
  have bx_2 := bx_1.below hb2
  have cx_2 := cx_1.below hb2
  have pa_1 := pa_0.below hb2
  have pb_1 := pb_0.below hb2
  have pc_1 := pc_0.below hb2
  clear hb2 hB_1 ax_1 bx_1 cx_1 pa_0 pb_0 pc_0
  obtain ⟨pae0, pae1, pae2, pae3⟩ := (id pa_1)
  obtain ⟨pbe0, pbe1, pbe2, pbe3⟩ := (id pb_1)
  obtain ⟨pce0, pce1, pce2, pce3⟩ := (id pc_1)
  by_cases hsh : an ≤ 20 ∧ bn ≤ 20 ∧ cn ≤ 20
  rotate_left
  · skip
    go_wp2_with fail
    refine (nshort3_no 20 _ _ am ao an ac bm bo bn bc cm co cn cc (by omega) hsh).mono ?_
    rintro e w3 ⟨rfl, hb3⟩
    clear pae0 pae1 pae2 pae3 pbe0 pbe1 pbe2 pbe3 pce0 pce1 pce2 pce3
    have hB_3 := hB_2.trans (hb3.mono hB_2.size)
    have ax_3 := ax_2.below hb3
    have bx_3 := bx_2.below hb3
    have cx_3 := cx_2.below hb3
    have pa_2 := pa_1.below hb3
    have pb_2 := pb_1.below hb3
    have pc_2 := pc_1.below hb3
    clear hb3 hB_2 ax_2 bx_2 cx_2 pa_1 pb_1 pc_1
    go_wp2
    go_ret
    exact ⟨rfl, hB_3⟩
  have hsa : an ≤ 20 := hsh.1
  have hsb : bn ≤ 20 := hsh.2.1
  have hsc : cn ≤ 20 := hsh.2.2
  go_wp2_with fail
  refine (nshort3_yes 20 _ _ am ao an ac bm bo bn bc cm co cn cc (by omega) hsh).mono ?_
  rintro e w3 ⟨rfl, hb3⟩
  clear pae0 pae1 pae2 pae3 pbe0 pbe1 pbe2 pbe3 pce0 pce1 pce2 pce3
  have hB_3 := hB_2.trans (hb3.mono hB_2.size)
  have ax_3 := ax_2.below hb3
  have bx_3 := bx_2.below hb3
  have cx_3 := cx_2.below hb3
  have pa_2 := pa_1.below hb3
  have pb_2 := pb_1.below hb3
  have pc_2 := pc_1.below hb3
  clear hb3 hB_2 ax_2 bx_2 cx_2 pa_1 pb_1 pc_1
  obtain ⟨pae0, pae1, pae2, pae3⟩ := (id pa_2)
  obtain ⟨pbe0, pbe1, pbe2, pbe3⟩ := (id pb_2)
  obtain ⟨pce0, pce1, pce2, pce3⟩ := (id pc_2)
  clear hsh
  obtain ⟨x, hx⟩ : ∃ x, icmp X Y = x := ⟨_, rfl⟩
  obtain ⟨y, hy⟩ : ∃ y, icmp Y Z = y := ⟨_, rfl⟩
  have HX := Lib.hid hx; have HY := Lib.hid hy; clear hx hy
  go_wp2
  clear pae0 pae1 pae2 pae3 pbe0 pbe1 pbe2 pbe3 pce0 pce1 pce2 pce3
  have hB_4 := hB_3.drew'
  have ax_4 := ax_3.drew
  have bx_4 := bx_3.drew
  have cx_4 := cx_3.drew
  have pa_3 := pa_2.drew
  have pb_3 := pb_2.drew
  have pc_3 := pc_2.drew
  go_region_held3 (fun w' => w'.cell? ⟨w.heap.size, 0, none⟩ = some (.bool am) ∧ w'.cell? ⟨w.heap.size, 1, none⟩ = some (.slice ao an ac) ∧ w'.cell? ⟨w.heap.size + 1, 0, none⟩ = some (.bool bm) ∧ w'.cell? ⟨w.heap.size + 1, 1, none⟩ = some (.slice bo bn bc) ∧ w'.cell? ⟨w.heap.size + 1 + 1, 0, none⟩ = some (.bool cm) ∧ w'.cell? ⟨w.heap.size + 1 + 1, 1, none⟩ = some (.slice co cn cc))
    (first | with_reducible exact ⟨pa_3.c0, pa_3.c1, pb_3.c0, pb_3.c1, pc_3.c0, pc_3.c1⟩ | with_reducible exact ⟨pa_4.c0, pa_4.c1, pb_4.c0, pb_4.c1, pc_4.c0, pc_4.c1⟩ | with_reducible exact ⟨pa_5.c0, pa_5.c1, pb_5.c0, pb_5.c1, pc_5.c0, pc_5.c1⟩ | fail)
    (first
      | (go_at_call 19; (with_reducible refine (nCmp_is _ _ _ _ _ _ x _ (by omega) (by omega) ax_4 bx_4 HX.out).mono ?_); rintro e w4 ⟨rfl, hb4⟩; have hB_5 := hB_4.trans (hb4.mono hB_4.size); have ax_5 := ax_4.below hb4; have bx_5 := bx_4.below hb4; have cx_5 := cx_4.below hb4; have pa_4 := pa_3.below hb4; have pb_4 := pb_3.below hb4; have pc_4 := pc_3.below hb4; clear hb4)
      | (go_at_call 19; (with_reducible refine (nCmp_is _ _ _ _ _ _ y _ (by omega) (by omega) bx_5 cx_5 HY.out).mono ?_); rintro e w5 ⟨rfl, hb5⟩; have hB_6 := hB_5.trans (hb5.mono hB_5.size); have ax_6 := ax_5.below hb5; have bx_6 := bx_5.below hb5; have cx_6 := cx_5.below hb5; have pa_5 := pa_4.below hb5; have pb_5 := pb_4.below hb5; have pc_5 := pc_4.below hb5; clear hb5))
  go_wp2
  obtain ⟨nx, hnx⟩ : ∃ nx, icmp Y X = nx := ⟨_, rfl⟩
  have hw1 : IntKind.i64.wrap (-nx) = x := by
    have h1 := icmp_flip X Y
    have h2 := icmp_bd X Y
    rw [hnx] at h1
    rw [HX.out] at h1 h2
    rw [IntWalk.i64_in _ (by omega)]; omega
  have HNX := Lib.hid hnx; clear hnx
  have hB_7 := hB_6.drew'
  have ax_7 := ax_6.drew
  have bx_7 := bx_6.drew
  have cx_7 := cx_6.drew
  have pa_6 := pa_5.drew
  have pb_6 := pb_5.drew
  have pc_6 := pc_5.drew
  go_region_held3 (fun w' => w'.cell? ⟨w.heap.size, 0, none⟩ = some (.bool am) ∧ w'.cell? ⟨w.heap.size, 1, none⟩ = some (.slice ao an ac) ∧ w'.cell? ⟨w.heap.size + 1, 0, none⟩ = some (.bool bm) ∧ w'.cell? ⟨w.heap.size + 1, 1, none⟩ = some (.slice bo bn bc) ∧ w'.cell? ⟨w.heap.size + 1 + 1, 0, none⟩ = some (.bool cm) ∧ w'.cell? ⟨w.heap.size + 1 + 1, 1, none⟩ = some (.slice co cn cc))
    (first | with_reducible exact ⟨pa_6.c0, pa_6.c1, pb_6.c0, pb_6.c1, pc_6.c0, pc_6.c1⟩ | with_reducible exact ⟨pa_7.c0, pa_7.c1, pb_7.c0, pb_7.c1, pc_7.c0, pc_7.c1⟩ | with_reducible exact ⟨pa_8.c0, pa_8.c1, pb_8.c0, pb_8.c1, pc_8.c0, pc_8.c1⟩ | with_reducible exact ⟨pa_9.c0, pa_9.c1, pb_9.c0, pb_9.c1, pc_9.c0, pc_9.c1⟩ | with_reducible exact ⟨pa_10.c0, pa_10.c1, pb_10.c0, pb_10.c1, pc_10.c0, pc_10.c1⟩ | with_reducible exact ⟨pa_11.c0, pa_11.c1, pb_11.c0, pb_11.c1, pc_11.c0, pc_11.c1⟩ | with_reducible exact ⟨pa_12.c0, pa_12.c1, pb_12.c0, pb_12.c1, pc_12.c0, pc_12.c1⟩ | fail)
    (first
      | (go_at_call 16; (with_reducible refine (nSub_any _ _ _ _ _ _ _ (by omega) (by omega) ax_7 bx_7).mono ?_); rintro e w6 ⟨m3, ao3, n3, c3, rfl, h3_0, hb6⟩; have hB_8 := hB_7.trans (hb6.mono hB_7.size); have ax_8 := ax_7.below hb6; have bx_8 := bx_7.below hb6; have cx_8 := cx_7.below hb6; have pa_7 := pa_6.below hb6; have pb_7 := pb_6.below hb6; have pc_7 := pc_6.below hb6; clear hb6)
      | (go_at_call 21; (with_reducible refine (Sign_is _ _ _ x _ (by omega) h3_0.num (by rw [icmp_sub]; exact HX.out)).mono ?_); rintro e w7 ⟨rfl, hb7⟩; have hB_9 := hB_8.trans (hb7.mono hB_8.size); have ax_9 := ax_8.below hb7; have bx_9 := bx_8.below hb7; have cx_9 := cx_8.below hb7; have pa_8 := pa_7.below hb7; have pb_8 := pb_7.below hb7; have pc_8 := pc_7.below hb7; have h3_1 := h3_0.below hb7; clear hb7)
      | (go_at_call 19; (with_reducible refine (nCmp_is _ _ _ _ _ _ nx _ (by omega) (by omega) bx_9 ax_9 HNX.out).mono ?_); rintro e w8 ⟨rfl, hb8⟩; have hB_10 := hB_9.trans (hb8.mono hB_9.size); have ax_10 := ax_9.below hb8; have bx_10 := bx_9.below hb8; have cx_10 := cx_9.below hb8; have pa_9 := pa_8.below hb8; have pb_9 := pb_8.below hb8; have pc_9 := pc_8.below hb8; have h3_2 := h3_1.below hb8; clear hb8)
      | (go_at_call 15; (with_reducible refine (nAdd_any _ _ _ _ _ _ _ (by omega) (by omega) ax_10 cx_10).mono ?_); rintro e w9 ⟨m4, ao4, n4, c4, rfl, h4_0, hb9⟩; have hB_11 := hB_10.trans (hb9.mono hB_10.size); have ax_11 := ax_10.below hb9; have bx_11 := bx_10.below hb9; have cx_11 := cx_10.below hb9; have pa_10 := pa_9.below hb9; have pb_10 := pb_9.below hb9; have pc_10 := pc_9.below hb9; have h3_3 := h3_2.below hb9; clear hb9)
      | (go_at_call 15; (with_reducible refine (nAdd_any _ _ _ _ _ _ _ (by omega) (by omega) bx_11 cx_11).mono ?_); rintro e w10 ⟨m5, ao5, n5, c5, rfl, h5_0, hb10⟩; have hB_12 := hB_11.trans (hb10.mono hB_11.size); have ax_12 := ax_11.below hb10; have bx_12 := bx_11.below hb10; have cx_12 := cx_11.below hb10; have pa_11 := pa_10.below hb10; have pb_11 := pb_10.below hb10; have pc_11 := pc_10.below hb10; have h3_4 := h3_3.below hb10; have h4_1 := h4_0.below hb10; clear hb10)
      | (go_at_call 19; (with_reducible refine (nCmp_is _ _ _ _ _ _ x _ (by omega) (by omega) h4_1.num h5_0.num (by rw [icmp_add]; exact HX.out)).mono ?_); rintro e w11 ⟨rfl, hb11⟩; have hB_13 := hB_12.trans (hb11.mono hB_12.size); have ax_13 := ax_12.below hb11; have bx_13 := bx_12.below hb11; have cx_13 := cx_12.below hb11; have pa_12 := pa_11.below hb11; have pb_12 := pb_11.below hb11; have pc_12 := pc_11.below hb11; have h3_5 := h3_4.below hb11; have h4_2 := h4_1.below hb11; have h5_1 := h5_0.below hb11; clear hb11))
  clear h3_5 h4_2 h5_1
  clear hw1 HNX
  obtain hx3 : x = -1 ∨ x = 0 ∨ x = 1 := by rw [← HX.out]; exact icmp_three X Y
  rcases hx3 with rfl | rfl | rfl
  · skip
    obtain ⟨pae0, pae1, pae2, pae3⟩ := (id pa_12)
    obtain ⟨pbe0, pbe1, pbe2, pbe3⟩ := (id pb_12)
    obtain ⟨pce0, pce1, pce2, pce3⟩ := (id pc_12)
    go_wp2_with fail
    obtain ⟨N9, hm9, hx9⟩ := num_parts ax_13
    have HM9 := Lib.hid hm9; have HX9 := Lib.hid hx9; clear hm9 hx9
    go_wp2_with fail
    refine (Make_any am _ an N9 _ (by omega) HM9.out).mono ?_
    rintro e w12 ⟨m6, ao6, n6, c6, rfl, h6_0, hb12⟩
    clear pae0 pae1 pae2 pae3 pbe0 pbe1 pbe2 pbe3 pce0 pce1 pce2 pce3
    have hB_14 := hB_13.trans (hb12.mono hB_13.size)
    have ax_14 := ax_13.below hb12
    have bx_14 := bx_13.below hb12
    have cx_14 := cx_13.below hb12
    have pa_13 := pa_12.below hb12
    have pb_13 := pb_12.below hb12
    have pc_13 := pc_12.below hb12
    clear hb12 hB_13 ax_13 bx_13 cx_13 pa_12 pb_12 pc_12
    clear HM9
    go_wp2_with fail
    obtain ⟨mk_0, hb13⟩ := boxed1 w12 (.bool m6) (.slice ao6 n6 c6) 25
    have hB_15 := hB_14.trans (hb13.mono hB_14.size)
    have ax_15 := ax_14.below hb13
    have bx_15 := bx_14.below hb13
    have cx_15 := cx_14.below hb13
    have pa_14 := pa_13.below hb13
    have pb_14 := pb_13.below hb13
    have pc_14 := pc_13.below hb13
    have h6_1 := h6_0.below hb13
    clear hb13 hB_14 ax_14 bx_14 cx_14 pa_13 pb_13 pc_13 h6_0
    generalize (w12.alloc (Obj.cells #[Value.bool m6, Value.slice ao6 n6 c6] 25)) = w13 at *
    obtain ⟨pae0, pae1, pae2, pae3⟩ := (id pa_14)
    obtain ⟨pce0, pce1, pce2, pce3⟩ := (id pc_14)
    obtain ⟨mke0, mke1, mke2, mke3⟩ := (id mk_0)
    go_wp2_with fail
    refine (Right_any _ _ _ _ (by omega) h6_1).mono ?_
    rintro e w14 ⟨rfl, hb14⟩
    clear pae0 pae1 pae2 pae3 pce0 pce1 pce2 pce3 mke0 mke1 mke2 mke3
    have hB_16 := hB_15.trans (hb14.mono hB_15.size)
    have ax_16 := ax_15.below hb14
    have bx_16 := bx_15.below hb14
    have cx_16 := cx_15.below hb14
    have pa_15 := pa_14.below hb14
    have pb_15 := pb_14.below hb14
    have pc_15 := pc_14.below hb14
    have h6_2 := h6_1.below hb14
    have mk_1 := mk_0.below hb14
    clear hb14 hB_15 ax_15 bx_15 cx_15 pa_14 pb_14 pc_14 h6_1 mk_0
    obtain ⟨pae0, pae1, pae2, pae3⟩ := (id pa_15)
    obtain ⟨pce0, pce1, pce2, pce3⟩ := (id pc_15)
    obtain ⟨mke0, mke1, mke2, mke3⟩ := (id mk_1)
    go_wp2_with fail
    refine (nCmp_even _ _ _ _ _ _ _ (by omega) (by omega) h6_2.num ax_16 HX9.out.symm).mono ?_
    rintro e w15 ⟨rfl, hb15⟩
    clear pae0 pae1 pae2 pae3 pce0 pce1 pce2 pce3 mke0 mke1 mke2 mke3
    have hB_17 := hB_16.trans (hb15.mono hB_16.size)
    have ax_17 := ax_16.below hb15
    have bx_17 := bx_16.below hb15
    have cx_17 := cx_16.below hb15
    have pa_16 := pa_15.below hb15
    have pb_16 := pb_15.below hb15
    have pc_16 := pc_15.below hb15
    have h6_3 := h6_2.below hb15
    have mk_2 := mk_1.below hb15
    clear hb15 hB_16 ax_16 bx_16 cx_16 pa_15 pb_15 pc_15 h6_2 mk_1
    obtain ⟨pae0, pae1, pae2, pae3⟩ := (id pa_16)
    obtain ⟨pce0, pce1, pce2, pce3⟩ := (id pc_16)
    obtain ⟨mke0, mke1, mke2, mke3⟩ := (id mk_2)
    go_wp2
    go_ret
    exact ⟨rfl, hB_17⟩
  · skip
    obtain ⟨pae0, pae1, pae2, pae3⟩ := (id pa_12)
    obtain ⟨pbe0, pbe1, pbe2, pbe3⟩ := (id pb_12)
    obtain ⟨pce0, pce1, pce2, pce3⟩ := (id pc_12)
    go_wp2_with fail
    obtain ⟨N9, hm9, hx9⟩ := num_parts ax_13
    have HM9 := Lib.hid hm9; have HX9 := Lib.hid hx9; clear hm9 hx9
    go_wp2_with fail
    refine (Make_any am _ an N9 _ (by omega) HM9.out).mono ?_
    rintro e w12 ⟨m6, ao6, n6, c6, rfl, h6_0, hb12⟩
    clear pae0 pae1 pae2 pae3 pbe0 pbe1 pbe2 pbe3 pce0 pce1 pce2 pce3
    have hB_14 := hB_13.trans (hb12.mono hB_13.size)
    have ax_14 := ax_13.below hb12
    have bx_14 := bx_13.below hb12
    have cx_14 := cx_13.below hb12
    have pa_13 := pa_12.below hb12
    have pb_13 := pb_12.below hb12
    have pc_13 := pc_12.below hb12
    clear hb12 hB_13 ax_13 bx_13 cx_13 pa_12 pb_12 pc_12
    clear HM9
    go_wp2_with fail
    obtain ⟨mk_0, hb13⟩ := boxed1 w12 (.bool m6) (.slice ao6 n6 c6) 25
    have hB_15 := hB_14.trans (hb13.mono hB_14.size)
    have ax_15 := ax_14.below hb13
    have bx_15 := bx_14.below hb13
    have cx_15 := cx_14.below hb13
    have pa_14 := pa_13.below hb13
    have pb_14 := pb_13.below hb13
    have pc_14 := pc_13.below hb13
    have h6_1 := h6_0.below hb13
    clear hb13 hB_14 ax_14 bx_14 cx_14 pa_13 pb_13 pc_13 h6_0
    generalize (w12.alloc (Obj.cells #[Value.bool m6, Value.slice ao6 n6 c6] 25)) = w13 at *
    obtain ⟨pae0, pae1, pae2, pae3⟩ := (id pa_14)
    obtain ⟨pce0, pce1, pce2, pce3⟩ := (id pc_14)
    obtain ⟨mke0, mke1, mke2, mke3⟩ := (id mk_0)
    go_wp2_with fail
    refine (Right_any _ _ _ _ (by omega) h6_1).mono ?_
    rintro e w14 ⟨rfl, hb14⟩
    clear pae0 pae1 pae2 pae3 pce0 pce1 pce2 pce3 mke0 mke1 mke2 mke3
    have hB_16 := hB_15.trans (hb14.mono hB_15.size)
    have ax_16 := ax_15.below hb14
    have bx_16 := bx_15.below hb14
    have cx_16 := cx_15.below hb14
    have pa_15 := pa_14.below hb14
    have pb_15 := pb_14.below hb14
    have pc_15 := pc_14.below hb14
    have h6_2 := h6_1.below hb14
    have mk_1 := mk_0.below hb14
    clear hb14 hB_15 ax_15 bx_15 cx_15 pa_14 pb_14 pc_14 h6_1 mk_0
    obtain ⟨pae0, pae1, pae2, pae3⟩ := (id pa_15)
    obtain ⟨pce0, pce1, pce2, pce3⟩ := (id pc_15)
    obtain ⟨mke0, mke1, mke2, mke3⟩ := (id mk_1)
    go_wp2_with fail
    refine (nCmp_even _ _ _ _ _ _ _ (by omega) (by omega) h6_2.num ax_16 HX9.out.symm).mono ?_
    rintro e w15 ⟨rfl, hb15⟩
    clear pae0 pae1 pae2 pae3 pce0 pce1 pce2 pce3 mke0 mke1 mke2 mke3
    have hB_17 := hB_16.trans (hb15.mono hB_16.size)
    have ax_17 := ax_16.below hb15
    have bx_17 := bx_16.below hb15
    have cx_17 := cx_16.below hb15
    have pa_16 := pa_15.below hb15
    have pb_16 := pb_15.below hb15
    have pc_16 := pc_15.below hb15
    have h6_3 := h6_2.below hb15
    have mk_2 := mk_1.below hb15
    clear hb15 hB_16 ax_16 bx_16 cx_16 pa_15 pb_15 pc_15 h6_2 mk_1
    obtain ⟨pae0, pae1, pae2, pae3⟩ := (id pa_16)
    obtain ⟨pce0, pce1, pce2, pce3⟩ := (id pc_16)
    obtain ⟨mke0, mke1, mke2, mke3⟩ := (id mk_2)
    have hy3 : y = -1 ∨ y = 0 ∨ y = 1 := by rw [← HY.out]; exact icmp_three Y Z
    rcases hy3 with rfl | rfl | rfl
    · skip
      go_wp2
      go_ret
      exact ⟨rfl, hB_17⟩
    · skip
      have h1 := icmp_ge (.inl HX.out)
      have h2 := icmp_ge (.inl HY.out)
      obtain ⟨z, hz⟩ : ∃ z, icmp X Z = z := ⟨_, rfl⟩
      have hz0 : 0 ≤ z := by rw [← hz]; exact ge_icmp (by omega)
      have HZ := Lib.hid hz; clear hz h1 h2
      go_wp2_with fail
      refine (nCmp_is _ _ _ _ _ _ z _ (by omega) (by omega) ax_17 cx_17 HZ.out).mono ?_
      rintro e w16 ⟨rfl, hb16⟩
      clear pae0 pae1 pae2 pae3 pce0 pce1 pce2 pce3 mke0 mke1 mke2 mke3
      have hB_18 := hB_17.trans (hb16.mono hB_17.size)
      have ax_18 := ax_17.below hb16
      have bx_18 := bx_17.below hb16
      have cx_18 := cx_17.below hb16
      have pa_17 := pa_16.below hb16
      have pb_17 := pb_16.below hb16
      have pc_17 := pc_16.below hb16
      have h6_4 := h6_3.below hb16
      have mk_3 := mk_2.below hb16
      clear hb16 hB_17 ax_17 bx_17 cx_17 pa_16 pb_16 pc_16 h6_3 mk_2
      obtain ⟨pae0, pae1, pae2, pae3⟩ := (id pa_17)
      obtain ⟨pce0, pce1, pce2, pce3⟩ := (id pc_17)
      obtain ⟨mke0, mke1, mke2, mke3⟩ := (id mk_3)
      go_wp2
      go_ret
      exact ⟨rfl, hB_18⟩
    · skip
      have h1 := icmp_ge (.inl HX.out)
      have h2 := icmp_ge (.inr HY.out)
      obtain ⟨z, hz⟩ : ∃ z, icmp X Z = z := ⟨_, rfl⟩
      have hz0 : 0 ≤ z := by rw [← hz]; exact ge_icmp (by omega)
      have HZ := Lib.hid hz; clear hz h1 h2
      go_wp2_with fail
      refine (nCmp_is _ _ _ _ _ _ z _ (by omega) (by omega) ax_17 cx_17 HZ.out).mono ?_
      rintro e w16 ⟨rfl, hb16⟩
      clear pae0 pae1 pae2 pae3 pce0 pce1 pce2 pce3 mke0 mke1 mke2 mke3
      have hB_18 := hB_17.trans (hb16.mono hB_17.size)
      have ax_18 := ax_17.below hb16
      have bx_18 := bx_17.below hb16
      have cx_18 := cx_17.below hb16
      have pa_17 := pa_16.below hb16
      have pb_17 := pb_16.below hb16
      have pc_17 := pc_16.below hb16
      have h6_4 := h6_3.below hb16
      have mk_3 := mk_2.below hb16
      clear hb16 hB_17 ax_17 bx_17 cx_17 pa_16 pb_16 pc_16 h6_3 mk_2
      obtain ⟨pae0, pae1, pae2, pae3⟩ := (id pa_17)
      obtain ⟨pce0, pce1, pce2, pce3⟩ := (id pc_17)
      obtain ⟨mke0, mke1, mke2, mke3⟩ := (id mk_3)
      go_wp2
      go_ret
      exact ⟨rfl, hB_18⟩
  · skip
    obtain ⟨pae0, pae1, pae2, pae3⟩ := (id pa_12)
    obtain ⟨pbe0, pbe1, pbe2, pbe3⟩ := (id pb_12)
    obtain ⟨pce0, pce1, pce2, pce3⟩ := (id pc_12)
    go_wp2_with fail
    obtain ⟨N9, hm9, hx9⟩ := num_parts ax_13
    have HM9 := Lib.hid hm9; have HX9 := Lib.hid hx9; clear hm9 hx9
    go_wp2_with fail
    refine (Make_any am _ an N9 _ (by omega) HM9.out).mono ?_
    rintro e w12 ⟨m6, ao6, n6, c6, rfl, h6_0, hb12⟩
    clear pae0 pae1 pae2 pae3 pbe0 pbe1 pbe2 pbe3 pce0 pce1 pce2 pce3
    have hB_14 := hB_13.trans (hb12.mono hB_13.size)
    have ax_14 := ax_13.below hb12
    have bx_14 := bx_13.below hb12
    have cx_14 := cx_13.below hb12
    have pa_13 := pa_12.below hb12
    have pb_13 := pb_12.below hb12
    have pc_13 := pc_12.below hb12
    clear hb12 hB_13 ax_13 bx_13 cx_13 pa_12 pb_12 pc_12
    clear HM9
    go_wp2_with fail
    obtain ⟨mk_0, hb13⟩ := boxed1 w12 (.bool m6) (.slice ao6 n6 c6) 25
    have hB_15 := hB_14.trans (hb13.mono hB_14.size)
    have ax_15 := ax_14.below hb13
    have bx_15 := bx_14.below hb13
    have cx_15 := cx_14.below hb13
    have pa_14 := pa_13.below hb13
    have pb_14 := pb_13.below hb13
    have pc_14 := pc_13.below hb13
    have h6_1 := h6_0.below hb13
    clear hb13 hB_14 ax_14 bx_14 cx_14 pa_13 pb_13 pc_13 h6_0
    generalize (w12.alloc (Obj.cells #[Value.bool m6, Value.slice ao6 n6 c6] 25)) = w13 at *
    obtain ⟨pae0, pae1, pae2, pae3⟩ := (id pa_14)
    obtain ⟨pce0, pce1, pce2, pce3⟩ := (id pc_14)
    obtain ⟨mke0, mke1, mke2, mke3⟩ := (id mk_0)
    go_wp2_with fail
    refine (Right_any _ _ _ _ (by omega) h6_1).mono ?_
    rintro e w14 ⟨rfl, hb14⟩
    clear pae0 pae1 pae2 pae3 pce0 pce1 pce2 pce3 mke0 mke1 mke2 mke3
    have hB_16 := hB_15.trans (hb14.mono hB_15.size)
    have ax_16 := ax_15.below hb14
    have bx_16 := bx_15.below hb14
    have cx_16 := cx_15.below hb14
    have pa_15 := pa_14.below hb14
    have pb_15 := pb_14.below hb14
    have pc_15 := pc_14.below hb14
    have h6_2 := h6_1.below hb14
    have mk_1 := mk_0.below hb14
    clear hb14 hB_15 ax_15 bx_15 cx_15 pa_14 pb_14 pc_14 h6_1 mk_0
    obtain ⟨pae0, pae1, pae2, pae3⟩ := (id pa_15)
    obtain ⟨pce0, pce1, pce2, pce3⟩ := (id pc_15)
    obtain ⟨mke0, mke1, mke2, mke3⟩ := (id mk_1)
    go_wp2_with fail
    refine (nCmp_even _ _ _ _ _ _ _ (by omega) (by omega) h6_2.num ax_16 HX9.out.symm).mono ?_
    rintro e w15 ⟨rfl, hb15⟩
    clear pae0 pae1 pae2 pae3 pce0 pce1 pce2 pce3 mke0 mke1 mke2 mke3
    have hB_17 := hB_16.trans (hb15.mono hB_16.size)
    have ax_17 := ax_16.below hb15
    have bx_17 := bx_16.below hb15
    have cx_17 := cx_16.below hb15
    have pa_16 := pa_15.below hb15
    have pb_16 := pb_15.below hb15
    have pc_16 := pc_15.below hb15
    have h6_3 := h6_2.below hb15
    have mk_2 := mk_1.below hb15
    clear hb15 hB_16 ax_16 bx_16 cx_16 pa_15 pb_15 pc_15 h6_2 mk_1
    obtain ⟨pae0, pae1, pae2, pae3⟩ := (id pa_16)
    obtain ⟨pce0, pce1, pce2, pce3⟩ := (id pc_16)
    obtain ⟨mke0, mke1, mke2, mke3⟩ := (id mk_2)
    have hy3 : y = -1 ∨ y = 0 ∨ y = 1 := by rw [← HY.out]; exact icmp_three Y Z
    rcases hy3 with rfl | rfl | rfl
    · skip
      go_wp2
      go_ret
      exact ⟨rfl, hB_17⟩
    · skip
      have h1 := icmp_ge (.inr HX.out)
      have h2 := icmp_ge (.inl HY.out)
      obtain ⟨z, hz⟩ : ∃ z, icmp X Z = z := ⟨_, rfl⟩
      have hz0 : 0 ≤ z := by rw [← hz]; exact ge_icmp (by omega)
      have HZ := Lib.hid hz; clear hz h1 h2
      go_wp2_with fail
      refine (nCmp_is _ _ _ _ _ _ z _ (by omega) (by omega) ax_17 cx_17 HZ.out).mono ?_
      rintro e w16 ⟨rfl, hb16⟩
      clear pae0 pae1 pae2 pae3 pce0 pce1 pce2 pce3 mke0 mke1 mke2 mke3
      have hB_18 := hB_17.trans (hb16.mono hB_17.size)
      have ax_18 := ax_17.below hb16
      have bx_18 := bx_17.below hb16
      have cx_18 := cx_17.below hb16
      have pa_17 := pa_16.below hb16
      have pb_17 := pb_16.below hb16
      have pc_17 := pc_16.below hb16
      have h6_4 := h6_3.below hb16
      have mk_3 := mk_2.below hb16
      clear hb16 hB_17 ax_17 bx_17 cx_17 pa_16 pb_16 pc_16 h6_3 mk_2
      obtain ⟨pae0, pae1, pae2, pae3⟩ := (id pa_17)
      obtain ⟨pce0, pce1, pce2, pce3⟩ := (id pc_17)
      obtain ⟨mke0, mke1, mke2, mke3⟩ := (id mk_3)
      go_wp2
      go_ret
      exact ⟨rfl, hB_18⟩
    · skip
      have h1 := icmp_ge (.inr HX.out)
      have h2 := icmp_ge (.inr HY.out)
      obtain ⟨z, hz⟩ : ∃ z, icmp X Z = z := ⟨_, rfl⟩
      have hz0 : 0 ≤ z := by rw [← hz]; exact ge_icmp (by omega)
      have HZ := Lib.hid hz; clear hz h1 h2
      go_wp2_with fail
      refine (nCmp_is _ _ _ _ _ _ z _ (by omega) (by omega) ax_17 cx_17 HZ.out).mono ?_
      rintro e w16 ⟨rfl, hb16⟩
      clear pae0 pae1 pae2 pae3 pce0 pce1 pce2 pce3 mke0 mke1 mke2 mke3
      have hB_18 := hB_17.trans (hb16.mono hB_17.size)
      have ax_18 := ax_17.below hb16
      have bx_18 := bx_17.below hb16
      have cx_18 := cx_17.below hb16
      have pa_17 := pa_16.below hb16
      have pb_17 := pb_16.below hb16
      have pc_17 := pc_16.below hb16
      have h6_4 := h6_3.below hb16
      have mk_3 := mk_2.below hb16
      clear hb16 hB_17 ax_17 bx_17 cx_17 pa_16 pb_16 pc_16 h6_3 mk_2
      obtain ⟨pae0, pae1, pae2, pae3⟩ := (id pa_17)
      obtain ⟨pce0, pce1, pce2, pce3⟩ := (id pc_17)
      obtain ⟨mke0, mke1, mke2, mke3⟩ := (id mk_3)
      go_wp2
      go_ret
      exact ⟨rfl, hB_18⟩
end Go.Proofs.Ytbfdianmbpfjmaa
