/- The statement PredOns, walked. -/
import Derived.Test.YtjciefoademlnaaPartj
import Derived.Test.YtjciefoademlnaaParth
namespace Go.Proofs.Ytjciefoademlnaa
open Go.RowKit Go.MagM
set_option maxRecDepth 100000 in
set_option maxHeartbeats 16000000 in
theorem PredOns_w_neg (x0 x1 y0 y1 z0 z1 p0 p1 a0 a1 b0 b1 : Int) (X Y Z D s : Int) (t0 : ∀ w, Calls Try.prog 10 #[.agg #[.int .i64 x0, .int .i64 x1]] w fun e w' => e = .returned (.agg #[.int .i64 p0, .int .i64 p1]) ∧ Below w.heap.size w w') (t1 : ∀ w, Calls Try.prog 10 #[.agg #[.int .i64 y0, .int .i64 y1]] w fun e w' => e = .returned (.agg #[.int .i64 a0, .int .i64 a1]) ∧ Below w.heap.size w w') (t2 : ∀ w, Calls Try.prog 10 #[.agg #[.int .i64 z0, .int .i64 z1]] w fun e w' => e = .returned (.agg #[.int .i64 b0, .int .i64 b1]) ∧ Below w.heap.size w w') (k1 : ∀ w, Calls Try.prog 19 #[.agg #[.int .i64 a0, .int .i64 a1], .agg #[.int .i64 p0, .int .i64 p1]] w fun e w' => AnsNum w w' e 5 X) (k2 : ∀ w, Calls Try.prog 19 #[.agg #[.int .i64 p0, .int .i64 p1], .agg #[.int .i64 b0, .int .i64 b1]] w fun e w' => AnsNum w w' e 5 Y) (k3 : ∀ w, Calls Try.prog 19 #[.agg #[.int .i64 a0, .int .i64 a1], .agg #[.int .i64 b0, .int .i64 b1]] w fun e w' => AnsNum w w' e 5 Z) (k4 : ∀ w, Calls Try.prog 25 #[.agg #[.int .i64 a0, .int .i64 a1], .agg #[.int .i64 b0, .int .i64 b1]] w fun e w' => AnsNum w w' e 2 Z) (k5 : ∀ w, Calls Try.prog 23 #[.agg #[.int .i64 p0, .int .i64 p1], .agg #[.int .i64 a0, .int .i64 a1], .agg #[.int .i64 b0, .int .i64 b1]] w fun e w' => e = .returned (.bool false) ∧ Below w.heap.size w w') (k6 : ∀ w, Calls Try.prog 23 #[.agg #[.int .i64 p0, .int .i64 p1], .agg #[.int .i64 b0, .int .i64 b1], .agg #[.int .i64 a0, .int .i64 a1]] w fun e w' => e = .returned (.bool false) ∧ Below w.heap.size w w') (k7 : ∀ w, Calls Try.prog 24 #[.agg #[.int .i64 p0, .int .i64 p1], .agg #[.int .i64 a0, .int .i64 a1], .agg #[.int .i64 b0, .int .i64 b1]] w fun e w' => e = .returned (.bool false) ∧ Below w.heap.size w w') (e1 : Z - X - Y = D) (hs : D.sign = s) (g1 : decide (0 ≤ s) = false) (w : World) :
    Calls Try.prog 6 #[.agg #[.int .i64 x0, .int .i64 x1], .agg #[.int .i64 y0, .int .i64 y1], .agg #[.int .i64 z0, .int .i64 z1]] w fun e w' => e = .returned (.bool true) ∧ Below w.heap.size w w' := by
  have hB_0 := Below.refl w.heap.size w
  have T0 := Lib.hid t0; have T1 := Lib.hid t1; have T2 := Lib.hid t2; have K1 := Lib.hid k1; have K2 := Lib.hid k2; have K3 := Lib.hid k3; have K4 := Lib.hid k4; have K5 := Lib.hid k5; have K6 := Lib.hid k6; have K7 := Lib.hid k7; have E1 := Lib.hid e1; have HS := Lib.hid hs; have G1 := Lib.hid g1
  clear t0 t1 t2 k1 k2 k3 k4 k5 k6 k7 e1 hs g1
  obtain ⟨w1, hw1, pp_0, hb1, hs1⟩ := new_box w (w.heap.size) rfl [.int .i64 x0, .int .i64 x1] 23
  have hb1' : Below w.heap.size w w1 := hb1.mono (by omega)
  clear hb1
  have hB_1 := hB_0.trans (hb1'.mono hB_0.size)
  clear hb1' hB_0
  obtain ⟨w2, hw2, pa_0, hb2, hs2⟩ := new_box w1 (w.heap.size + 1) hs1 [.int .i64 y0, .int .i64 y1] 23
  have hb2' : Below w1.heap.size w1 w2 := hb2.mono (by omega)
  clear hb2
  have hB_2 := hB_1.trans (hb2'.mono hB_1.size)
  have pp_1 := pp_0.below hb2'
  clear hb2' hB_1 pp_0
  obtain ⟨w3, hw3, pb_0, hb3, hs3⟩ := new_box w2 (w.heap.size + 1 + 1) hs2 [.int .i64 z0, .int .i64 z1] 23
  have hb3' : Below w2.heap.size w2 w3 := hb3.mono (by omega)
  clear hb3
  have hB_3 := hB_2.trans (hb3'.mono hB_2.size)
  have pp_2 := pp_1.below hb3'
  have pa_1 := pa_0.below hb3'
  clear hb3' hB_2 pp_1 pa_0
  go_enter Try.func6, Try.ntmps6
  obtain ⟨ppe0, ppe1, ppe2, ppe3⟩ := pp_2.open2
  obtain ⟨pae0, pae1, pae2, pae3⟩ := pa_1.open2
  obtain ⟨pbe0, pbe1, pbe2, pbe3⟩ := pb_0.open2
  go_wp2_with fail
  refine (pfit_any _).mono ?_
  rintro e w4 ⟨rfl, hb4⟩
  clear ppe0 ppe1 ppe2 ppe3 pae0 pae1 pae2 pae3 pbe0 pbe1 pbe2 pbe3
  have hB_4 := hB_3.trans (hb4.mono hB_3.size)
  have pp_3 := pp_2.below hb4
  have pa_2 := pa_1.below hb4
  have pb_1 := pb_0.below hb4
  clear hb4 hB_3 pp_2 pa_1 pb_0
  obtain ⟨ppe0, ppe1, ppe2, ppe3⟩ := pp_3.open2
  obtain ⟨pae0, pae1, pae2, pae3⟩ := pa_2.open2
  obtain ⟨pbe0, pbe1, pbe2, pbe3⟩ := pb_1.open2
  go_wp2
  clear ppe0 ppe1 ppe2 ppe3 pae0 pae1 pae2 pae3 pbe0 pbe1 pbe2 pbe3
  have hWi_0 := Below.refl w4.heap.size w4
  have hsi : w.heap.size ≤ w4.heap.size := hB_4.size
  have hlipp := pp_3.lt
  have hlipa := pa_2.lt
  have hlipb := pb_1.lt
  have hB_5 := hB_4.drew'
  have pp_4 := pp_3.drew
  have pa_3 := pa_2.drew
  have pb_2 := pb_1.drew
  have hWi_1 := hWi_0.drew'
  clear hB_4 pp_3 pa_2 pb_1 hWi_0
  obtain ⟨FFi, hFFi⟩ : ∃ F : World → Prop, ∀ w', F w' ↔ (Below w.heap.size w w' ∧ Box w' (w.heap.size) [.int .i64 x0, .int .i64 x1] ∧ Box w' (w.heap.size + 1) [.int .i64 y0, .int .i64 y1] ∧ Box w' (w.heap.size + 1 + 1) [.int .i64 z0, .int .i64 z1] ∧ Below w4.heap.size w4 w') := ⟨_, fun _ => Iff.rfl⟩
  have cFi : ∀ {w' w'' : World}, FFi w' → Below w'.heap.size w' w'' → FFi w'' := by
    intro w' w'' h hb
    obtain ⟨y0, y1, y2, y3, y4⟩ := (hFFi _).1 h
    exact (hFFi _).2 ⟨y0.trans (hb.mono y0.size), y1.below hb, y2.below hb, y3.below hb, y4.trans (hb.mono y4.size)⟩
  have mFi : ∀ {w' : World}, FFi w' → w4.heap.size ≤ w'.heap.size := by
    intro w' h
    obtain ⟨y0, y1, y2, y3, y4⟩ := (hFFi _).1 h
    exact y4.size
  have sFi : ∀ {w' : World}, FFi w' → (True) := by
    intro w' h
    obtain ⟨y0, y1, y2, y3, y4⟩ := (hFFi _).1 h
    exact trivial
  have zF : FFi w4.drew := (hFFi _).2 ⟨hB_5, pp_4, pa_3, pb_2, hWi_1⟩
  clear hB_5 pp_4 pa_3 pb_2 hWi_1
  refine wp_region_noPanic ?_
  refine wp_region_held_drew (S := fun w' => True) (by kernel_rfl) (sFi zF) (fun hHeld => ?_)
  refine reg_grab (fun WWi ai hWW hAA => ?_)
  rw [hWW]
  have HAi := Lib.hid hAA; clear hWW hAA hHeld
  obtain ⟨IVi, hIVi⟩ : ∃ IV : Array Bool → Act → World → Prop, ∀ l a w', IV l a w' ↔ ∃ (k : Nat) (bb0 bb1 bb2 : Bool) (v0_ v1_ v2_ p0_ p1_ p2_ : Value), k ≤ 3 ∧ l = #[bb0, decide (1 ≤ k), bb1, decide (2 ≤ k), bb2, decide (3 ≤ k), false, false, false] ∧ a = ((((((ai.put (some 15) v0_).put (some 17) v1_).put (some 19) v2_).put (some 14) p0_).put (some 16) p1_).put (some 18) p2_) ∧ FFi w' ∧ (1 ≤ k → v0_ = .agg #[.int .i64 p0, .int .i64 p1]) ∧ (2 ≤ k → v1_ = .agg #[.int .i64 a0, .int .i64 a1]) ∧ (3 ≤ k → v2_ = .agg #[.int .i64 b0, .int .i64 b1]) ∧ (bb0 = true → p0_ = .agg #[.int .i64 x0, .int .i64 x1]) ∧ (bb1 = true → p1_ = .agg #[.int .i64 y0, .int .i64 y1]) ∧ (bb2 = true → p2_ = .agg #[.int .i64 z0, .int .i64 z1]) ∧ (1 ≤ k → bb0 = true) ∧ (2 ≤ k → bb1 = true) ∧ (3 ≤ k → bb2 = true) := ⟨_, fun _ _ _ => Iff.rfl⟩
  refine wpAnyH_until IVi ?_ _ _ _ _ ((hIVi _ _ _).2 ⟨0, false, false, false, (ai.tmps.getD 15 undef), (ai.tmps.getD 17 undef), (ai.tmps.getD 19 undef), (ai.tmps.getD 14 undef), (ai.tmps.getD 16 undef), (ai.tmps.getD 18 undef), Nat.zero_le _, rfl, (by simp only [put_same]), zF, (fun h => absurd h (by omega)), (fun h => absurd h (by omega)), (fun h => absurd h (by omega)), (fun h => by cases h), (fun h => by cases h), (fun h => by cases h), (fun h => absurd h (by omega)), (fun h => absurd h (by omega)), (fun h => absurd h (by omega))⟩) (by kernel_rfl)
  clear zF
  intro ll aa w5 hI
  obtain ⟨k, bb0, bb1, bb2, v0_, v1_, v2_, p0_, p1_, p2_, hk, rfl, rfl, zF, rr1, rr2, rr3, zz0, zz1, zz2, dp0_0, dp1_1, dp2_2⟩ := (hIVi _ _ _).1 hI
  clear hI
  by_cases hL : k = 3 ∧ bb0 = true ∧ bb1 = true ∧ bb2 = true
  · left
    obtain ⟨rfl, rfl, rfl, rfl⟩ := hL
    obtain rfl := rr1 (by omega)
    obtain rfl := rr2 (by omega)
    obtain rfl := rr3 (by omega)
    obtain rfl := zz0 rfl
    obtain rfl := zz1 rfl
    obtain rfl := zz2 rfl
    clear hk dp0_0 dp1_1 dp2_2
    show wpAnyH _ _ _ _ _ 3 _ _ _
    rw [HAi.out]
    try simp only [Act.put]
    try simp only [List.setIfInBounds_toArray, List.set_cons_zero, List.set_cons_succ]
    obtain ⟨hB_0, pp_0, pa_0, pb_0, hWi_0⟩ := (hFFi _).1 zF
    clear zF
    clear hWi_0
    obtain ⟨sf1a, sf1b, sf1c, sf1d⟩ := pp_0.open2
    obtain ⟨sg1a, sg1b⟩ := Box.put2 pp_0 (.int .i64 p0)
    refine reg_call 6 ?_ (by kernel_rfl) ?_ (fun K hK => ?_)
    rotate_left 1
    · simp only [List.getElem?_toArray, List.getElem?_cons_succ, List.getElem?_cons_zero]; exact rfl
    go_simp
    have hB_1 := below_setAll hB_0 (g := w.heap.size) (by omega) [.int .i64 p0, .int .i64 p1]
    have pa_1 := pa_0.farAll (g' := w.heap.size) (by omega) [.int .i64 p0, .int .i64 p1]
    have pb_1 := pb_0.farAll (g' := w.heap.size) (by omega) [.int .i64 p0, .int .i64 p1]
    have pp_1 := pp_0.setAll [.int .i64 p0, .int .i64 p1] rfl
    simp only [setAll, Nat.zero_add] at hB_1 pp_1 pa_1 pb_1
    clear sf1a sf1b sf1c sf1d sg1a sg1b
    clear hB_0 pa_0 pb_0 pp_0
    refine hK.out _ _ trivial (fun hHeld => ?_)
    clear hK K
    try simp only [Act.put]
    try simp only [List.setIfInBounds_toArray, List.set_cons_zero, List.set_cons_succ]
    generalize (World.setCell (World.setCell w5 ⟨w.heap.size, 0, none⟩ (.int .i64 p0)) ⟨w.heap.size, 1, none⟩ (.int .i64 p1)) = w6 at *
    obtain ⟨sf2a, sf2b, sf2c, sf2d⟩ := pa_1.open2
    obtain ⟨sg2a, sg2b⟩ := Box.put2 pa_1 (.int .i64 a0)
    refine reg_call 7 ?_ (by kernel_rfl) ?_ (fun K hK => ?_)
    rotate_left 1
    · simp only [List.getElem?_toArray, List.getElem?_cons_succ, List.getElem?_cons_zero]; exact rfl
    go_simp
    have hB_2 := below_setAll hB_1 (g := w.heap.size + 1) (by omega) [.int .i64 a0, .int .i64 a1]
    have pp_2 := pp_1.farAll (g' := w.heap.size + 1) (by omega) [.int .i64 a0, .int .i64 a1]
    have pb_2 := pb_1.farAll (g' := w.heap.size + 1) (by omega) [.int .i64 a0, .int .i64 a1]
    have pa_2 := pa_1.setAll [.int .i64 a0, .int .i64 a1] rfl
    simp only [setAll, Nat.zero_add] at hB_2 pp_2 pa_2 pb_2
    clear sf2a sf2b sf2c sf2d sg2a sg2b
    clear hB_1 pp_1 pb_1 pa_1
    refine hK.out _ _ trivial (fun hHeld => ?_)
    clear hK K
    try simp only [Act.put]
    try simp only [List.setIfInBounds_toArray, List.set_cons_zero, List.set_cons_succ]
    generalize (World.setCell (World.setCell w6 ⟨w.heap.size + 1, 0, none⟩ (.int .i64 a0)) ⟨w.heap.size + 1, 1, none⟩ (.int .i64 a1)) = w7 at *
    obtain ⟨sf3a, sf3b, sf3c, sf3d⟩ := pb_2.open2
    obtain ⟨sg3a, sg3b⟩ := Box.put2 pb_2 (.int .i64 b0)
    refine reg_call 8 ?_ (by kernel_rfl) ?_ (fun K hK => ?_)
    rotate_left 1
    · simp only [List.getElem?_toArray, List.getElem?_cons_succ, List.getElem?_cons_zero]; exact rfl
    go_simp
    have hB_3 := below_setAll hB_2 (g := w.heap.size + 1 + 1) (by omega) [.int .i64 b0, .int .i64 b1]
    have pp_3 := pp_2.farAll (g' := w.heap.size + 1 + 1) (by omega) [.int .i64 b0, .int .i64 b1]
    have pa_3 := pa_2.farAll (g' := w.heap.size + 1 + 1) (by omega) [.int .i64 b0, .int .i64 b1]
    have pb_3 := pb_2.setAll [.int .i64 b0, .int .i64 b1] rfl
    simp only [setAll, Nat.zero_add] at hB_3 pp_3 pa_3 pb_3
    clear sf3a sf3b sf3c sf3d sg3a sg3b
    clear hB_2 pp_2 pa_2 pb_2
    refine hK.out _ _ trivial (fun hHeld => ?_)
    clear hK K
    try simp only [Act.put]
    try simp only [List.setIfInBounds_toArray, List.set_cons_zero, List.set_cons_succ]
    generalize (World.setCell (World.setCell w7 ⟨w.heap.size + 1 + 1, 0, none⟩ (.int .i64 b0)) ⟨w.heap.size + 1 + 1, 1, none⟩ (.int .i64 b1)) = w8 at *
    refine wpAnyH_done (by kernel_rfl) ?_ _
    refine NoPanic.normal ?_
    obtain ⟨ppe0, ppe1, ppe2, ppe3⟩ := pp_3.open2
    obtain ⟨pae0, pae1, pae2, pae3⟩ := pa_3.open2
    obtain ⟨pbe0, pbe1, pbe2, pbe3⟩ := pb_3.open2
    go_wp2
    clear ppe0 ppe1 ppe2 ppe3 pae0 pae1 pae2 pae3 pbe0 pbe1 pbe2 pbe3
    have hWj_0 := Below.refl w8.heap.size w8
    have hsj : w.heap.size ≤ w8.heap.size := hB_3.size
    have hljpp := pp_3.lt
    have hljpa := pa_3.lt
    have hljpb := pb_3.lt
    have hB_4 := hB_3.drew'
    have pp_4 := pp_3.drew
    have pa_4 := pa_3.drew
    have pb_4 := pb_3.drew
    have hWj_1 := hWj_0.drew'
    clear hB_3 pp_3 pa_3 pb_3 hWj_0
    obtain ⟨FFj, hFFj⟩ : ∃ F : World → Prop, ∀ w', F w' ↔ (Below w.heap.size w w' ∧ Box w' (w.heap.size) [.int .i64 p0, .int .i64 p1] ∧ Box w' (w.heap.size + 1) [.int .i64 a0, .int .i64 a1] ∧ Box w' (w.heap.size + 1 + 1) [.int .i64 b0, .int .i64 b1] ∧ Below w8.heap.size w8 w') := ⟨_, fun _ => Iff.rfl⟩
    have cFj : ∀ {w' w'' : World}, FFj w' → Below w'.heap.size w' w'' → FFj w'' := by
      intro w' w'' h hb
      obtain ⟨y0, y1, y2, y3, y4⟩ := (hFFj _).1 h
      exact (hFFj _).2 ⟨y0.trans (hb.mono y0.size), y1.below hb, y2.below hb, y3.below hb, y4.trans (hb.mono y4.size)⟩
    have mFj : ∀ {w' : World}, FFj w' → w8.heap.size ≤ w'.heap.size := by
      intro w' h
      obtain ⟨y0, y1, y2, y3, y4⟩ := (hFFj _).1 h
      exact y4.size
    have sFj : ∀ {w' : World}, FFj w' → (w'.cell? ⟨w.heap.size, 0, none⟩ = some (.int .i64 p0) ∧ w'.cell? ⟨w.heap.size, 1, none⟩ = some (.int .i64 p1) ∧ w'.cell? ⟨w.heap.size + 1, 0, none⟩ = some (.int .i64 a0) ∧ w'.cell? ⟨w.heap.size + 1, 1, none⟩ = some (.int .i64 a1) ∧ w'.cell? ⟨w.heap.size + 1 + 1, 0, none⟩ = some (.int .i64 b0) ∧ w'.cell? ⟨w.heap.size + 1 + 1, 1, none⟩ = some (.int .i64 b1)) := by
      intro w' h
      obtain ⟨y0, y1, y2, y3, y4⟩ := (hFFj _).1 h
      exact ⟨y1.c0, y1.c1, y2.c0, y2.c1, y3.c0, y3.c1⟩
    have zF : FFj w8.drew := (hFFj _).2 ⟨hB_4, pp_4, pa_4, pb_4, hWj_1⟩
    clear hB_4 pp_4 pa_4 pb_4 hWj_1
    refine wp_region_noPanic ?_
    refine wp_region_held_drew (S := fun w' => w'.cell? ⟨w.heap.size, 0, none⟩ = some (.int .i64 p0) ∧ w'.cell? ⟨w.heap.size, 1, none⟩ = some (.int .i64 p1) ∧ w'.cell? ⟨w.heap.size + 1, 0, none⟩ = some (.int .i64 a0) ∧ w'.cell? ⟨w.heap.size + 1, 1, none⟩ = some (.int .i64 a1) ∧ w'.cell? ⟨w.heap.size + 1 + 1, 0, none⟩ = some (.int .i64 b0) ∧ w'.cell? ⟨w.heap.size + 1 + 1, 1, none⟩ = some (.int .i64 b1)) (by kernel_rfl) (sFj zF) (fun hHeld => ?_)
    refine reg_take 0 ?_ ?_ ?_ (by kernel_rfl) (by kernel_rfl) (by kernel_rfl) (fun _ _ _ h => h) ?_ ?_ (by assumption) ?_
    rotate_left 2
    · simp only [List.getElem?_toArray, List.getElem?_cons_zero]; exact rfl
    · rfl
    · intro w hSw; (try dsimp only at hSw); go_simp; try with_reducible rfl
    try simp only [Act.put]
    try simp only [List.setIfInBounds_toArray, List.set_cons_zero, List.set_cons_succ]
    refine reg_take 1 ?_ ?_ ?_ (by kernel_rfl) (by kernel_rfl) (by kernel_rfl) (fun _ _ _ h => h) ?_ ?_ (by assumption) ?_
    rotate_left 2
    · simp only [List.getElem?_toArray, List.getElem?_cons_succ, List.getElem?_cons_zero]; exact rfl
    · rfl
    · intro w hSw; (try dsimp only at hSw); go_simp; try with_reducible rfl
    try simp only [Act.put]
    try simp only [List.setIfInBounds_toArray, List.set_cons_zero, List.set_cons_succ]
    refine reg_take 3 ?_ ?_ ?_ (by kernel_rfl) (by kernel_rfl) (by kernel_rfl) (fun _ _ _ h => h) ?_ ?_ (by assumption) ?_
    rotate_left 2
    · simp only [List.getElem?_toArray, List.getElem?_cons_succ, List.getElem?_cons_zero]; exact rfl
    · rfl
    · intro w hSw; (try dsimp only at hSw); go_simp; try with_reducible rfl
    try simp only [Act.put]
    try simp only [List.setIfInBounds_toArray, List.set_cons_zero, List.set_cons_succ]
    refine reg_take 4 ?_ ?_ ?_ (by kernel_rfl) (by kernel_rfl) (by kernel_rfl) (fun _ _ _ h => h) ?_ ?_ (by assumption) ?_
    rotate_left 2
    · simp only [List.getElem?_toArray, List.getElem?_cons_succ, List.getElem?_cons_zero]; exact rfl
    · rfl
    · intro w hSw; (try dsimp only at hSw); go_simp; try with_reducible rfl
    try simp only [Act.put]
    try simp only [List.setIfInBounds_toArray, List.set_cons_zero, List.set_cons_succ]
    refine reg_take 6 ?_ ?_ ?_ (by kernel_rfl) (by kernel_rfl) (by kernel_rfl) (fun _ _ _ h => h) ?_ ?_ (by assumption) ?_
    rotate_left 2
    · simp only [List.getElem?_toArray, List.getElem?_cons_succ, List.getElem?_cons_zero]; exact rfl
    · rfl
    · intro w hSw; (try dsimp only at hSw); go_simp; try with_reducible rfl
    try simp only [Act.put]
    try simp only [List.setIfInBounds_toArray, List.set_cons_zero, List.set_cons_succ]
    refine reg_take 7 ?_ ?_ ?_ (by kernel_rfl) (by kernel_rfl) (by kernel_rfl) (fun _ _ _ h => h) ?_ ?_ (by assumption) ?_
    rotate_left 2
    · simp only [List.getElem?_toArray, List.getElem?_cons_succ, List.getElem?_cons_zero]; exact rfl
    · rfl
    · intro w hSw; (try dsimp only at hSw); go_simp; try with_reducible rfl
    try simp only [Act.put]
    try simp only [List.setIfInBounds_toArray, List.set_cons_zero, List.set_cons_succ]
    refine reg_grab (fun WWj aj hWW hAA => ?_)
    rw [hWW]
    have HAj := Lib.hid hAA; clear hWW hAA hHeld
    obtain ⟨IVj, hIVj⟩ : ∃ IV : Array Bool → Act → World → Prop, ∀ l a w', IV l a w' ↔ ∃ (k : Nat) (bb0 bb1 bb2 : Bool) (v0_ v1_ v2_ p0_ p1_ p2_ : Value) (gq1 gq2 gq3 : Nat), k ≤ 3 ∧ l = #[true, true, decide (1 ≤ k), true, true, decide (2 ≤ k), true, true, decide (3 ≤ k), bb0, bb1, bb2, false, false, false] ∧ a = ((((((aj.put (some 22) v0_).put (some 25) v1_).put (some 28) v2_).put (some 7) p0_).put (some 8) p1_).put (some 9) p2_) ∧ FFj w' ∧ (1 ≤ k → RNum w' v0_ (5) (X)) ∧ (2 ≤ k → RNum w' v1_ (5) (Y)) ∧ (3 ≤ k → RNum w' v2_ (5) (Z)) ∧ (bb0 = true → p0_ = .pointer (some ⟨gq1, 0, none⟩) ∧ Box w' gq1 [.bool false, .slice none 0 0] ∧ w8.heap.size ≤ gq1) ∧ (bb1 = true → p1_ = .pointer (some ⟨gq2, 0, none⟩) ∧ Box w' gq2 [.bool false, .slice none 0 0] ∧ w8.heap.size ≤ gq2) ∧ (bb2 = true → p2_ = .pointer (some ⟨gq3, 0, none⟩) ∧ Box w' gq3 [.bool false, .slice none 0 0] ∧ w8.heap.size ≤ gq3) ∧ (bb0 = true → bb1 = true → gq1 ≠ gq2) ∧ (bb0 = true → bb2 = true → gq1 ≠ gq3) ∧ (bb1 = true → bb2 = true → gq2 ≠ gq3) := ⟨_, fun _ _ _ => Iff.rfl⟩
    refine wpAnyH_until IVj ?_ _ _ _ _ ((hIVj _ _ _).2 ⟨0, false, false, false, (aj.tmps.getD 22 undef), (aj.tmps.getD 25 undef), (aj.tmps.getD 28 undef), (aj.tmps.getD 7 undef), (aj.tmps.getD 8 undef), (aj.tmps.getD 9 undef), 0, 0, 0, Nat.zero_le _, rfl, (by simp only [put_same]), zF, (fun h => absurd h (by omega)), (fun h => absurd h (by omega)), (fun h => absurd h (by omega)), (fun h => by cases h), (fun h => by cases h), (fun h => by cases h), (fun h => by cases h), (fun h => by cases h), (fun h => by cases h)⟩) (by kernel_rfl)
    clear zF
    intro ll aa w9 hI
    obtain ⟨k, bb0, bb1, bb2, v0_, v1_, v2_, p0_, p1_, p2_, gq1, gq2, gq3, hk, rfl, rfl, zF, rr1, rr2, rr3, zz0, zz1, zz2, n0_1, n0_2, n1_2⟩ := (hIVj _ _ _).1 hI
    clear hI
    by_cases hL : k = 3 ∧ bb0 = true ∧ bb1 = true ∧ bb2 = true
    · left
      obtain ⟨rfl, rfl, rfl, rfl⟩ := hL
      have f1_0 := rr1 (by omega)
      obtain ⟨m1, o1, n1, c1, rfl⟩ := f1_0.shape
      have f2_0 := rr2 (by omega)
      obtain ⟨m2, o2, n2, c2, rfl⟩ := f2_0.shape
      have f3_0 := rr3 (by omega)
      obtain ⟨m3, o3, n3, c3, rfl⟩ := f3_0.shape
      obtain ⟨rfl, q1_0, hgq1⟩ := zz0 rfl
      obtain ⟨rfl, q2_0, hgq2⟩ := zz1 rfl
      obtain ⟨rfl, q3_0, hgq3⟩ := zz2 rfl
      have hnq1q2 := n0_1 rfl rfl
      have hnq1q3 := n0_2 rfl rfl
      have hnq2q3 := n1_2 rfl rfl
      clear hk rr1 rr2 rr3 zz0 zz1 zz2 n0_1 n0_2 n1_2
      show wpAnyH _ _ _ _ _ 3 _ _ _
      rw [HAj.out]
      try simp only [Act.put]
      try simp only [List.setIfInBounds_toArray, List.set_cons_zero, List.set_cons_succ]
      obtain ⟨hB_0, pp_0, pa_0, pb_0, hWj_0⟩ := (hFFj _).1 zF
      clear zF
      clear hWj_0
      obtain ⟨sf4a, sf4b, sf4c, sf4d⟩ := q1_0.open2
      obtain ⟨sg4a, sg4b⟩ := Box.put2 q1_0 (.bool m1)
      refine reg_call 12 ?_ (by kernel_rfl) ?_ (fun K hK => ?_)
      rotate_left 1
      · simp only [List.getElem?_toArray, List.getElem?_cons_succ, List.getElem?_cons_zero]; exact rfl
      go_simp
      have hB_1 := below_setAll hB_0 (g := gq1) (by omega) [.bool m1, .slice o1 n1 c1]
      have pp_1 := pp_0.farAll (g' := gq1) (by omega) [.bool m1, .slice o1 n1 c1]
      have pa_1 := pa_0.farAll (g' := gq1) (by omega) [.bool m1, .slice o1 n1 c1]
      have pb_1 := pb_0.farAll (g' := gq1) (by omega) [.bool m1, .slice o1 n1 c1]
      have f1_1 := f1_0.setAll q1_0 (noWord2 _ _ _ _) [.bool m1, .slice o1 n1 c1] rfl
      have f2_1 := f2_0.setAll q1_0 (noWord2 _ _ _ _) [.bool m1, .slice o1 n1 c1] rfl
      have f3_1 := f3_0.setAll q1_0 (noWord2 _ _ _ _) [.bool m1, .slice o1 n1 c1] rfl
      have q2_1 := q2_0.farAll (g' := gq1) (by omega) [.bool m1, .slice o1 n1 c1]
      have q3_1 := q3_0.farAll (g' := gq1) (by omega) [.bool m1, .slice o1 n1 c1]
      have q1_1 := q1_0.setAll [.bool m1, .slice o1 n1 c1] rfl
      simp only [setAll, Nat.zero_add] at hB_1 pp_1 pa_1 pb_1 f1_1 f2_1 f3_1 q1_1 q2_1 q3_1
      clear sf4a sf4b sf4c sf4d sg4a sg4b
      clear hB_0 pp_0 pa_0 pb_0 f1_0 f2_0 f3_0 q2_0 q3_0 q1_0
      refine hK.out _ _ ⟨pp_1.c0, pp_1.c1, pa_1.c0, pa_1.c1, pb_1.c0, pb_1.c1⟩ (fun hHeld => ?_)
      clear hK K
      try simp only [Act.put]
      try simp only [List.setIfInBounds_toArray, List.set_cons_zero, List.set_cons_succ]
      generalize (World.setCell (World.setCell w9 ⟨gq1, 0, none⟩ (.bool m1)) ⟨gq1, 1, none⟩ (.slice o1 n1 c1)) = w10 at *
      obtain ⟨sf5a, sf5b, sf5c, sf5d⟩ := q2_1.open2
      obtain ⟨sg5a, sg5b⟩ := Box.put2 q2_1 (.bool m2)
      refine reg_call 13 ?_ (by kernel_rfl) ?_ (fun K hK => ?_)
      rotate_left 1
      · simp only [List.getElem?_toArray, List.getElem?_cons_succ, List.getElem?_cons_zero]; exact rfl
      go_simp
      have hB_2 := below_setAll hB_1 (g := gq2) (by omega) [.bool m2, .slice o2 n2 c2]
      have pp_2 := pp_1.farAll (g' := gq2) (by omega) [.bool m2, .slice o2 n2 c2]
      have pa_2 := pa_1.farAll (g' := gq2) (by omega) [.bool m2, .slice o2 n2 c2]
      have pb_2 := pb_1.farAll (g' := gq2) (by omega) [.bool m2, .slice o2 n2 c2]
      have f1_2 := f1_1.setAll q2_1 (noWord2 _ _ _ _) [.bool m2, .slice o2 n2 c2] rfl
      have f2_2 := f2_1.setAll q2_1 (noWord2 _ _ _ _) [.bool m2, .slice o2 n2 c2] rfl
      have f3_2 := f3_1.setAll q2_1 (noWord2 _ _ _ _) [.bool m2, .slice o2 n2 c2] rfl
      have q1_2 := q1_1.farAll (g' := gq2) (by omega) [.bool m2, .slice o2 n2 c2]
      have q3_2 := q3_1.farAll (g' := gq2) (by omega) [.bool m2, .slice o2 n2 c2]
      have q2_2 := q2_1.setAll [.bool m2, .slice o2 n2 c2] rfl
      simp only [setAll, Nat.zero_add] at hB_2 pp_2 pa_2 pb_2 f1_2 f2_2 f3_2 q1_2 q2_2 q3_2
      clear sf5a sf5b sf5c sf5d sg5a sg5b
      clear hB_1 pp_1 pa_1 pb_1 f1_1 f2_1 f3_1 q1_1 q3_1 q2_1
      refine hK.out _ _ ⟨pp_2.c0, pp_2.c1, pa_2.c0, pa_2.c1, pb_2.c0, pb_2.c1⟩ (fun hHeld => ?_)
      clear hK K
      try simp only [Act.put]
      try simp only [List.setIfInBounds_toArray, List.set_cons_zero, List.set_cons_succ]
      generalize (World.setCell (World.setCell w10 ⟨gq2, 0, none⟩ (.bool m2)) ⟨gq2, 1, none⟩ (.slice o2 n2 c2)) = w11 at *
      obtain ⟨sf6a, sf6b, sf6c, sf6d⟩ := q3_2.open2
      obtain ⟨sg6a, sg6b⟩ := Box.put2 q3_2 (.bool m3)
      refine reg_call 14 ?_ (by kernel_rfl) ?_ (fun K hK => ?_)
      rotate_left 1
      · simp only [List.getElem?_toArray, List.getElem?_cons_succ, List.getElem?_cons_zero]; exact rfl
      go_simp
      have hB_3 := below_setAll hB_2 (g := gq3) (by omega) [.bool m3, .slice o3 n3 c3]
      have pp_3 := pp_2.farAll (g' := gq3) (by omega) [.bool m3, .slice o3 n3 c3]
      have pa_3 := pa_2.farAll (g' := gq3) (by omega) [.bool m3, .slice o3 n3 c3]
      have pb_3 := pb_2.farAll (g' := gq3) (by omega) [.bool m3, .slice o3 n3 c3]
      have f1_3 := f1_2.setAll q3_2 (noWord2 _ _ _ _) [.bool m3, .slice o3 n3 c3] rfl
      have f2_3 := f2_2.setAll q3_2 (noWord2 _ _ _ _) [.bool m3, .slice o3 n3 c3] rfl
      have f3_3 := f3_2.setAll q3_2 (noWord2 _ _ _ _) [.bool m3, .slice o3 n3 c3] rfl
      have q1_3 := q1_2.farAll (g' := gq3) (by omega) [.bool m3, .slice o3 n3 c3]
      have q2_3 := q2_2.farAll (g' := gq3) (by omega) [.bool m3, .slice o3 n3 c3]
      have q3_3 := q3_2.setAll [.bool m3, .slice o3 n3 c3] rfl
      simp only [setAll, Nat.zero_add] at hB_3 pp_3 pa_3 pb_3 f1_3 f2_3 f3_3 q1_3 q2_3 q3_3
      clear sf6a sf6b sf6c sf6d sg6a sg6b
      clear hB_2 pp_2 pa_2 pb_2 f1_2 f2_2 f3_2 q1_2 q2_2 q3_2
      refine hK.out _ _ ⟨pp_3.c0, pp_3.c1, pa_3.c0, pa_3.c1, pb_3.c0, pb_3.c1⟩ (fun hHeld => ?_)
      clear hK K
      try simp only [Act.put]
      try simp only [List.setIfInBounds_toArray, List.set_cons_zero, List.set_cons_succ]
      generalize (World.setCell (World.setCell w11 ⟨gq3, 0, none⟩ (.bool m3)) ⟨gq3, 1, none⟩ (.slice o3 n3 c3)) = w12 at *
      refine wpAnyH_done (by kernel_rfl) ?_ _
      refine NoPanic.normal ?_
      obtain ⟨ppe0, ppe1, ppe2, ppe3⟩ := pp_3.open2
      obtain ⟨pae0, pae1, pae2, pae3⟩ := pa_3.open2
      obtain ⟨pbe0, pbe1, pbe2, pbe3⟩ := pb_3.open2
      obtain ⟨q1e0, q1e1, q1e2, q1e3⟩ := q1_3.open2
      obtain ⟨q2e0, q2e1, q2e2, q2e3⟩ := q2_3.open2
      obtain ⟨q3e0, q3e1, q3e2, q3e3⟩ := q3_3.open2
      go_wp2
      clear ppe0 ppe1 ppe2 ppe3 pae0 pae1 pae2 pae3 pbe0 pbe1 pbe2 pbe3 q1e0 q1e1 q1e2 q1e3 q2e0 q2e1 q2e2 q2e3 q3e0 q3e1 q3e2 q3e3
      have hWk_0 := Below.refl w12.heap.size w12
      have hsk : w.heap.size ≤ w12.heap.size := hB_3.size
      have hlkpp := pp_3.lt
      have hlkpa := pa_3.lt
      have hlkpb := pb_3.lt
      have hlkq1 := q1_3.lt
      have hlkq2 := q2_3.lt
      have hlkq3 := q3_3.lt
      have hB_4 := hB_3.drew'
      have pp_4 := pp_3.drew
      have pa_4 := pa_3.drew
      have pb_4 := pb_3.drew
      have f1_4 := f1_3.drew
      have f2_4 := f2_3.drew
      have f3_4 := f3_3.drew
      have q1_4 := q1_3.drew
      have q2_4 := q2_3.drew
      have q3_4 := q3_3.drew
      have hWk_1 := hWk_0.drew'
      clear hB_3 pp_3 pa_3 pb_3 f1_3 f2_3 f3_3 q1_3 q2_3 q3_3 hWk_0
      obtain ⟨FFk, hFFk⟩ : ∃ F : World → Prop, ∀ w', F w' ↔ (Below w.heap.size w w' ∧ Box w' (w.heap.size) [.int .i64 p0, .int .i64 p1] ∧ Box w' (w.heap.size + 1) [.int .i64 a0, .int .i64 a1] ∧ Box w' (w.heap.size + 1 + 1) [.int .i64 b0, .int .i64 b1] ∧ RNum w' (.agg #[.bool m1, .slice o1 n1 c1]) (5) (X) ∧ RNum w' (.agg #[.bool m2, .slice o2 n2 c2]) (5) (Y) ∧ RNum w' (.agg #[.bool m3, .slice o3 n3 c3]) (5) (Z) ∧ Box w' (gq1) [.bool m1, .slice o1 n1 c1] ∧ Box w' (gq2) [.bool m2, .slice o2 n2 c2] ∧ Box w' (gq3) [.bool m3, .slice o3 n3 c3] ∧ Below w12.heap.size w12 w') := ⟨_, fun _ => Iff.rfl⟩
      have cFk : ∀ {w' w'' : World}, FFk w' → Below w'.heap.size w' w'' → FFk w'' := by
        intro w' w'' h hb
        obtain ⟨y0, y1, y2, y3, y4, y5, y6, y7, y8, y9, y10⟩ := (hFFk _).1 h
        exact (hFFk _).2 ⟨y0.trans (hb.mono y0.size), y1.below hb, y2.below hb, y3.below hb, y4.below hb, y5.below hb, y6.below hb, y7.below hb, y8.below hb, y9.below hb, y10.trans (hb.mono y10.size)⟩
      have mFk : ∀ {w' : World}, FFk w' → w12.heap.size ≤ w'.heap.size := by
        intro w' h
        obtain ⟨y0, y1, y2, y3, y4, y5, y6, y7, y8, y9, y10⟩ := (hFFk _).1 h
        exact y10.size
      have sFk : ∀ {w' : World}, FFk w' → (w'.cell? ⟨gq1, 0, none⟩ = some (.bool m1) ∧ w'.cell? ⟨gq1, 1, none⟩ = some (.slice o1 n1 c1) ∧ w'.cell? ⟨gq2, 0, none⟩ = some (.bool m2) ∧ w'.cell? ⟨gq2, 1, none⟩ = some (.slice o2 n2 c2) ∧ w'.cell? ⟨gq3, 0, none⟩ = some (.bool m3) ∧ w'.cell? ⟨gq3, 1, none⟩ = some (.slice o3 n3 c3)) := by
        intro w' h
        obtain ⟨y0, y1, y2, y3, y4, y5, y6, y7, y8, y9, y10⟩ := (hFFk _).1 h
        exact ⟨y7.c0, y7.c1, y8.c0, y8.c1, y9.c0, y9.c1⟩
      have zF : FFk w12.drew := (hFFk _).2 ⟨hB_4, pp_4, pa_4, pb_4, f1_4, f2_4, f3_4, q1_4, q2_4, q3_4, hWk_1⟩
      clear hB_4 pp_4 pa_4 pb_4 f1_4 f2_4 f3_4 q1_4 q2_4 q3_4 hWk_1
      refine wp_region_noPanic ?_
      refine wp_region_held_drew (S := fun w' => w'.cell? ⟨gq1, 0, none⟩ = some (.bool m1) ∧ w'.cell? ⟨gq1, 1, none⟩ = some (.slice o1 n1 c1) ∧ w'.cell? ⟨gq2, 0, none⟩ = some (.bool m2) ∧ w'.cell? ⟨gq2, 1, none⟩ = some (.slice o2 n2 c2) ∧ w'.cell? ⟨gq3, 0, none⟩ = some (.bool m3) ∧ w'.cell? ⟨gq3, 1, none⟩ = some (.slice o3 n3 c3)) (by kernel_rfl) (sFk zF) (fun hHeld => ?_)
      refine reg_take 0 ?_ ?_ ?_ (by kernel_rfl) (by kernel_rfl) (by kernel_rfl) (fun _ _ _ h => h) ?_ ?_ (by assumption) ?_
      rotate_left 2
      · simp only [List.getElem?_toArray, List.getElem?_cons_zero]; exact rfl
      · rfl
      · intro w hSw; (try dsimp only at hSw); go_simp; try with_reducible rfl
      try simp only [Act.put]
      try simp only [List.setIfInBounds_toArray, List.set_cons_zero, List.set_cons_succ]
      refine reg_take 1 ?_ ?_ ?_ (by kernel_rfl) (by kernel_rfl) (by kernel_rfl) (fun _ _ _ h => h) ?_ ?_ (by assumption) ?_
      rotate_left 2
      · simp only [List.getElem?_toArray, List.getElem?_cons_succ, List.getElem?_cons_zero]; exact rfl
      · rfl
      · intro w hSw; (try dsimp only at hSw); go_simp; try with_reducible rfl
      try simp only [Act.put]
      try simp only [List.setIfInBounds_toArray, List.set_cons_zero, List.set_cons_succ]
      refine reg_take 3 ?_ ?_ ?_ (by kernel_rfl) (by kernel_rfl) (by kernel_rfl) (fun _ _ _ h => h) ?_ ?_ (by assumption) ?_
      rotate_left 2
      · simp only [List.getElem?_toArray, List.getElem?_cons_succ, List.getElem?_cons_zero]; exact rfl
      · rfl
      · intro w hSw; (try dsimp only at hSw); go_simp; try with_reducible rfl
      try simp only [Act.put]
      try simp only [List.setIfInBounds_toArray, List.set_cons_zero, List.set_cons_succ]
      refine reg_grab (fun WWk ak hWW hAA => ?_)
      rw [hWW]
      have HAk := Lib.hid hAA; clear hWW hAA hHeld
      obtain ⟨IVk, hIVk⟩ : ∃ IV : Array Bool → Act → World → Prop, ∀ l a w', IV l a w' ↔ ∃ (k : Nat) (bb0 : Bool) (v0_ v1_ p0_ : Value) (gq5 : Nat), k ≤ 2 ∧ l = #[true, true, decide (1 ≤ k), true, decide (2 ≤ k), bb0, false] ∧ a = (((ak.put (some 31) v0_).put (some 33) v1_).put (some 10) p0_) ∧ FFk w' ∧ (1 ≤ k → RNum w' v0_ (6) (Z - X)) ∧ (2 ≤ k → RNum w' v1_ (7) (Z - X - Y)) ∧ (bb0 = true → p0_ = .pointer (some ⟨gq5, 0, none⟩) ∧ Box w' gq5 [.bool false, .slice none 0 0] ∧ w12.heap.size ≤ gq5) := ⟨_, fun _ _ _ => Iff.rfl⟩
      refine wpAnyH_until IVk ?_ _ _ _ _ ((hIVk _ _ _).2 ⟨0, false, (ak.tmps.getD 31 undef), (ak.tmps.getD 33 undef), (ak.tmps.getD 10 undef), 0, Nat.zero_le _, rfl, (by simp only [put_same]), zF, (fun h => absurd h (by omega)), (fun h => absurd h (by omega)), (fun h => by cases h)⟩) (by kernel_rfl)
      clear zF
      intro ll aa w13 hI
      obtain ⟨k, bb0, v0_, v1_, p0_, gq5, hk, rfl, rfl, zF, rr1, rr2, zz0⟩ := (hIVk _ _ _).1 hI
      clear hI
      by_cases hL : k = 2 ∧ bb0 = true
      · left
        obtain ⟨rfl, rfl⟩ := hL
        have f4_0 := rr1 (by omega)
        obtain ⟨m4, o4, n4, c4, rfl⟩ := f4_0.shape
        have f5_0 := rr2 (by omega)
        obtain ⟨m5, o5, n5, c5, rfl⟩ := f5_0.shape
        obtain ⟨rfl, q5_0, hgq5⟩ := zz0 rfl
        clear hk rr1 rr2 zz0
        show wpAnyH _ _ _ _ _ 1 _ _ _
        rw [HAk.out]
        try simp only [Act.put]
        try simp only [List.setIfInBounds_toArray, List.set_cons_zero, List.set_cons_succ]
        obtain ⟨hB_0, pp_0, pa_0, pb_0, f1_0, f2_0, f3_0, q1_0, q2_0, q3_0, hWk_0⟩ := (hFFk _).1 zF
        clear zF
        clear hWk_0
        obtain ⟨sf7a, sf7b, sf7c, sf7d⟩ := q5_0.open2
        obtain ⟨sg7a, sg7b⟩ := Box.put2 q5_0 (.bool m5)
        refine reg_call 6 ?_ (by kernel_rfl) ?_ (fun K hK => ?_)
        rotate_left 1
        · simp only [List.getElem?_toArray, List.getElem?_cons_succ, List.getElem?_cons_zero]; exact rfl
        go_simp
        have hB_1 := below_setAll hB_0 (g := gq5) (by omega) [.bool m5, .slice o5 n5 c5]
        have pp_1 := pp_0.farAll (g' := gq5) (by omega) [.bool m5, .slice o5 n5 c5]
        have pa_1 := pa_0.farAll (g' := gq5) (by omega) [.bool m5, .slice o5 n5 c5]
        have pb_1 := pb_0.farAll (g' := gq5) (by omega) [.bool m5, .slice o5 n5 c5]
        have f1_1 := f1_0.setAll q5_0 (noWord2 _ _ _ _) [.bool m5, .slice o5 n5 c5] rfl
        have f2_1 := f2_0.setAll q5_0 (noWord2 _ _ _ _) [.bool m5, .slice o5 n5 c5] rfl
        have f3_1 := f3_0.setAll q5_0 (noWord2 _ _ _ _) [.bool m5, .slice o5 n5 c5] rfl
        have q1_1 := q1_0.farAll (g' := gq5) (by omega) [.bool m5, .slice o5 n5 c5]
        have q2_1 := q2_0.farAll (g' := gq5) (by omega) [.bool m5, .slice o5 n5 c5]
        have q3_1 := q3_0.farAll (g' := gq5) (by omega) [.bool m5, .slice o5 n5 c5]
        have f4_1 := f4_0.setAll q5_0 (noWord2 _ _ _ _) [.bool m5, .slice o5 n5 c5] rfl
        have f5_1 := f5_0.setAll q5_0 (noWord2 _ _ _ _) [.bool m5, .slice o5 n5 c5] rfl
        have q5_1 := q5_0.setAll [.bool m5, .slice o5 n5 c5] rfl
        simp only [setAll, Nat.zero_add] at hB_1 pp_1 pa_1 pb_1 f1_1 f2_1 f3_1 q1_1 q2_1 q3_1 f4_1 f5_1 q5_1
        clear sf7a sf7b sf7c sf7d sg7a sg7b
        clear hB_0 pp_0 pa_0 pb_0 f1_0 f2_0 f3_0 q1_0 q2_0 q3_0 f4_0 f5_0 q5_0
        refine hK.out _ _ ⟨q1_1.c0, q1_1.c1, q2_1.c0, q2_1.c1, q3_1.c0, q3_1.c1⟩ (fun hHeld => ?_)
        clear hK K
        try simp only [Act.put]
        try simp only [List.setIfInBounds_toArray, List.set_cons_zero, List.set_cons_succ]
        generalize (World.setCell (World.setCell w13 ⟨gq5, 0, none⟩ (.bool m5)) ⟨gq5, 1, none⟩ (.slice o5 n5 c5)) = w14 at *
        refine wpAnyH_done (by kernel_rfl) ?_ _
        refine NoPanic.normal ?_
        clear f4_1
        rw [E1.out] at f5_1
        obtain ⟨ppe0, ppe1, ppe2, ppe3⟩ := pp_1.open2
        obtain ⟨pae0, pae1, pae2, pae3⟩ := pa_1.open2
        obtain ⟨pbe0, pbe1, pbe2, pbe3⟩ := pb_1.open2
        obtain ⟨q1e0, q1e1, q1e2, q1e3⟩ := q1_1.open2
        obtain ⟨q2e0, q2e1, q2e2, q2e3⟩ := q2_1.open2
        obtain ⟨q3e0, q3e1, q3e2, q3e3⟩ := q3_1.open2
        obtain ⟨q5e0, q5e1, q5e2, q5e3⟩ := q5_1.open2
        have g1 := G1.out
        go_wp2
        clear ppe0 ppe1 ppe2 ppe3 pae0 pae1 pae2 pae3 pbe0 pbe1 pbe2 pbe3 q1e0 q1e1 q1e2 q1e3 q2e0 q2e1 q2e2 q2e3 q3e0 q3e1 q3e2 q3e3 q5e0 q5e1 q5e2 q5e3
        have hB_2 := hB_1.drew'
        have pp_2 := pp_1.drew
        have pa_2 := pa_1.drew
        have pb_2 := pb_1.drew
        have f1_2 := f1_1.drew
        have f2_2 := f2_1.drew
        have f3_2 := f3_1.drew
        have q1_2 := q1_1.drew
        have q2_2 := q2_1.drew
        have q3_2 := q3_1.drew
        have f5_2 := f5_1.drew
        have q5_2 := q5_1.drew
        refine wp_region_noPanic ?_
        refine wp_region_held_drew (S := fun w' => w'.cell? ⟨gq5, 0, none⟩ = some (.bool m5) ∧ w'.cell? ⟨gq5, 1, none⟩ = some (.slice o5 n5 c5)) (by kernel_rfl) (⟨q5_2.c0, q5_2.c1⟩) (fun hHeld => ?_)
        refine reg_take 0 ?_ ?_ ?_ (by kernel_rfl) (by kernel_rfl) (by kernel_rfl) (fun _ _ _ h => h) ?_ ?_ (by assumption) ?_
        rotate_left 2
        · simp only [List.getElem?_toArray, List.getElem?_cons_zero]; exact rfl
        · rfl
        · intro w hSw; (try dsimp only at hSw); go_simp; try with_reducible rfl
        try simp only [Act.put]
        try simp only [List.setIfInBounds_toArray, List.set_cons_zero, List.set_cons_succ]
        refine reg_call 1 ?_ (by kernel_rfl) ?_ (fun K hK => ?_)
        rotate_left 1
        · simp only [List.getElem?_toArray, List.getElem?_cons_succ, List.getElem?_cons_zero]; exact rfl
        go_simp
        refine (Sign_named _ 7 D s _ (by omega) f5_2.num HS.out).mono ?_
        rintro e w15 ⟨rfl, hb15⟩
        have hB_3 := hB_2.trans (hb15.mono hB_2.size)
        have pp_3 := pp_2.below hb15
        have pa_3 := pa_2.below hb15
        have pb_3 := pb_2.below hb15
        have f1_3 := f1_2.below hb15
        have f2_3 := f2_2.below hb15
        have f3_3 := f3_2.below hb15
        have q1_3 := q1_2.below hb15
        have q2_3 := q2_2.below hb15
        have q3_3 := q3_2.below hb15
        have f5_3 := f5_2.below hb15
        have q5_3 := q5_2.below hb15
        clear hb15 hB_2 pp_2 pa_2 pb_2 f1_2 f2_2 f3_2 q1_2 q2_2 q3_2 f5_2 q5_2
        go_wp2_with fail
        refine hK.out _ _ ⟨q5_3.c0, q5_3.c1⟩ (fun hHeld => ?_)
        clear hK K
        try simp only [Act.put]
        try simp only [List.setIfInBounds_toArray, List.set_cons_zero, List.set_cons_succ]
        refine reg_take 2 ?_ ?_ ?_ (by kernel_rfl) (by kernel_rfl) (by kernel_rfl) (fun _ _ _ h => h) ?_ ?_ (by assumption) ?_
        rotate_left 2
        · simp only [List.getElem?_toArray, List.getElem?_cons_succ, List.getElem?_cons_zero]; exact rfl
        · rfl
        · intro w hSw; (try dsimp only at hSw); go_simp; try with_reducible rfl
        try simp only [Act.put]
        try simp only [List.setIfInBounds_toArray, List.set_cons_zero, List.set_cons_succ]
        refine reg_take 3 ?_ ?_ ?_ (by kernel_rfl) (by kernel_rfl) (by kernel_rfl) (fun _ _ _ h => h) ?_ ?_ (by assumption) ?_
        rotate_left 2
        · simp only [List.getElem?_toArray, List.getElem?_cons_succ, List.getElem?_cons_zero]; exact rfl
        · rfl
        · intro w hSw; (try dsimp only at hSw); go_simp; try with_reducible rfl
        try simp only [Act.put]
        try simp only [List.setIfInBounds_toArray, List.set_cons_zero, List.set_cons_succ]
        refine reg_skip 4 ?_ ?_ (by kernel_rfl) (by kernel_rfl) (by kernel_rfl) (fun _ _ _ h => h) ?_ (by assumption) ?_
        rotate_left 1
        · simp only [List.getElem?_toArray, List.getElem?_cons_succ, List.getElem?_cons_zero]; exact rfl
        · rfl
        try simp only [Act.put]
        try simp only [List.setIfInBounds_toArray, List.set_cons_zero, List.set_cons_succ]
        refine reg_skip 5 ?_ ?_ (by kernel_rfl) (by kernel_rfl) (by kernel_rfl) (fun _ _ _ h => h) ?_ (by assumption) ?_
        rotate_left 1
        · simp only [List.getElem?_toArray, List.getElem?_cons_succ, List.getElem?_cons_zero]; exact rfl
        · rfl
        try simp only [Act.put]
        try simp only [List.setIfInBounds_toArray, List.set_cons_zero, List.set_cons_succ]
        refine reg_skip 6 ?_ ?_ (by kernel_rfl) (by kernel_rfl) (by kernel_rfl) (fun _ _ _ h => h) ?_ (by assumption) ?_
        rotate_left 1
        · simp only [List.getElem?_toArray, List.getElem?_cons_succ, List.getElem?_cons_zero]; exact rfl
        · rfl
        try simp only [Act.put]
        try simp only [List.setIfInBounds_toArray, List.set_cons_zero, List.set_cons_succ]
        refine reg_skip 7 ?_ ?_ (by kernel_rfl) (by kernel_rfl) (by kernel_rfl) (fun _ _ _ h => h) ?_ (by assumption) ?_
        rotate_left 1
        · simp only [List.getElem?_toArray, List.getElem?_cons_succ, List.getElem?_cons_zero]; exact rfl
        · rfl
        try simp only [Act.put]
        try simp only [List.setIfInBounds_toArray, List.set_cons_zero, List.set_cons_succ]
        refine reg_skip 8 ?_ ?_ (by kernel_rfl) (by kernel_rfl) (by kernel_rfl) (fun _ _ _ h => h) ?_ (by assumption) ?_
        rotate_left 1
        · simp only [List.getElem?_toArray, List.getElem?_cons_succ, List.getElem?_cons_zero]; exact rfl
        · rfl
        try simp only [Act.put]
        try simp only [List.setIfInBounds_toArray, List.set_cons_zero, List.set_cons_succ]
        refine reg_skip 9 ?_ ?_ (by kernel_rfl) (by kernel_rfl) (by kernel_rfl) (fun _ _ _ h => h) ?_ (by assumption) ?_
        rotate_left 1
        · simp only [List.getElem?_toArray, List.getElem?_cons_succ, List.getElem?_cons_zero]; exact rfl
        · rfl
        try simp only [Act.put]
        try simp only [List.setIfInBounds_toArray, List.set_cons_zero, List.set_cons_succ]
        refine reg_skip 10 ?_ ?_ (by kernel_rfl) (by kernel_rfl) (by kernel_rfl) (fun _ _ _ h => h) ?_ (by assumption) ?_
        rotate_left 1
        · simp only [List.getElem?_toArray, List.getElem?_cons_succ, List.getElem?_cons_zero]; exact rfl
        · rfl
        try simp only [Act.put]
        try simp only [List.setIfInBounds_toArray, List.set_cons_zero, List.set_cons_succ]
        refine reg_skip 11 ?_ ?_ (by kernel_rfl) (by kernel_rfl) (by kernel_rfl) (fun _ _ _ h => h) ?_ (by assumption) ?_
        rotate_left 1
        · simp only [List.getElem?_toArray, List.getElem?_cons_succ, List.getElem?_cons_zero]; exact rfl
        · rfl
        try simp only [Act.put]
        try simp only [List.setIfInBounds_toArray, List.set_cons_zero, List.set_cons_succ]
        refine reg_skip 12 ?_ ?_ (by kernel_rfl) (by kernel_rfl) (by kernel_rfl) (fun _ _ _ h => h) ?_ (by assumption) ?_
        rotate_left 1
        · simp only [List.getElem?_toArray, List.getElem?_cons_succ, List.getElem?_cons_zero]; exact rfl
        · rfl
        try simp only [Act.put]
        try simp only [List.setIfInBounds_toArray, List.set_cons_zero, List.set_cons_succ]
        refine reg_skip 13 ?_ ?_ (by kernel_rfl) (by kernel_rfl) (by kernel_rfl) (fun _ _ _ h => h) ?_ (by assumption) ?_
        rotate_left 1
        · simp only [List.getElem?_toArray, List.getElem?_cons_succ, List.getElem?_cons_zero]; exact rfl
        · rfl
        try simp only [Act.put]
        try simp only [List.setIfInBounds_toArray, List.set_cons_zero, List.set_cons_succ]
        refine reg_take 14 ?_ ?_ ?_ (by kernel_rfl) (by kernel_rfl) (by kernel_rfl) (fun _ _ _ h => h) ?_ ?_ (by assumption) ?_
        rotate_left 2
        · simp only [List.getElem?_toArray, List.getElem?_cons_succ, List.getElem?_cons_zero]; exact rfl
        · rfl
        · intro w hSw; (try dsimp only at hSw); go_simp; try with_reducible rfl
        try simp only [Act.put]
        try simp only [List.setIfInBounds_toArray, List.set_cons_zero, List.set_cons_succ]
        refine reg_take 15 ?_ ?_ ?_ (by kernel_rfl) (by kernel_rfl) (by kernel_rfl) (fun _ _ _ h => h) ?_ ?_ (by assumption) ?_
        rotate_left 2
        · simp only [List.getElem?_toArray, List.getElem?_cons_succ, List.getElem?_cons_zero]; exact rfl
        · rfl
        · intro w hSw; (try dsimp only at hSw); go_simp; try with_reducible rfl
        try simp only [Act.put]
        try simp only [List.setIfInBounds_toArray, List.set_cons_zero, List.set_cons_succ]
        refine wpAnyH_done (by kernel_rfl) ?_ _
        refine NoPanic.normal ?_
        obtain ⟨ppe0, ppe1, ppe2, ppe3⟩ := pp_3.open2
        obtain ⟨pae0, pae1, pae2, pae3⟩ := pa_3.open2
        obtain ⟨pbe0, pbe1, pbe2, pbe3⟩ := pb_3.open2
        obtain ⟨q1e0, q1e1, q1e2, q1e3⟩ := q1_3.open2
        obtain ⟨q2e0, q2e1, q2e2, q2e3⟩ := q2_3.open2
        obtain ⟨q3e0, q3e1, q3e2, q3e3⟩ := q3_3.open2
        go_wp2
        clear ppe0 ppe1 ppe2 ppe3 pae0 pae1 pae2 pae3 pbe0 pbe1 pbe2 pbe3 q1e0 q1e1 q1e2 q1e3 q2e0 q2e1 q2e2 q2e3 q3e0 q3e1 q3e2 q3e3
        have hB_4 := hB_3.drew'
        have pp_4 := pp_3.drew
        have pa_4 := pa_3.drew
        have pb_4 := pb_3.drew
        have f1_4 := f1_3.drew
        have f2_4 := f2_3.drew
        have f3_4 := f3_3.drew
        have q1_4 := q1_3.drew
        have q2_4 := q2_3.drew
        have q3_4 := q3_3.drew
        have f5_4 := f5_3.drew
        have q5_4 := q5_3.drew
        refine wp_region_noPanic ?_
        refine wp_region_held_drew (S := fun w' => w'.cell? ⟨w.heap.size, 0, none⟩ = some (.int .i64 p0) ∧ w'.cell? ⟨w.heap.size, 1, none⟩ = some (.int .i64 p1) ∧ w'.cell? ⟨w.heap.size + 1, 0, none⟩ = some (.int .i64 a0) ∧ w'.cell? ⟨w.heap.size + 1, 1, none⟩ = some (.int .i64 a1) ∧ w'.cell? ⟨w.heap.size + 1 + 1, 0, none⟩ = some (.int .i64 b0) ∧ w'.cell? ⟨w.heap.size + 1 + 1, 1, none⟩ = some (.int .i64 b1) ∧ w'.cell? ⟨gq3, 0, none⟩ = some (.bool m3) ∧ w'.cell? ⟨gq3, 1, none⟩ = some (.slice o3 n3 c3)) (by kernel_rfl) (⟨pp_4.c0, pp_4.c1, pa_4.c0, pa_4.c1, pb_4.c0, pb_4.c1, q3_4.c0, q3_4.c1⟩) (fun hHeld => ?_)
        refine reg_take 0 ?_ ?_ ?_ (by kernel_rfl) (by kernel_rfl) (by kernel_rfl) (fun _ _ _ h => h) ?_ ?_ (by assumption) ?_
        rotate_left 2
        · simp only [List.getElem?_toArray, List.getElem?_cons_zero]; exact rfl
        · rfl
        · intro w hSw; (try dsimp only at hSw); go_simp; try with_reducible rfl
        try simp only [Act.put]
        try simp only [List.setIfInBounds_toArray, List.set_cons_zero, List.set_cons_succ]
        refine reg_take 1 ?_ ?_ ?_ (by kernel_rfl) (by kernel_rfl) (by kernel_rfl) (fun _ _ _ h => h) ?_ ?_ (by assumption) ?_
        rotate_left 2
        · simp only [List.getElem?_toArray, List.getElem?_cons_succ, List.getElem?_cons_zero]; exact rfl
        · rfl
        · intro w hSw; (try dsimp only at hSw); go_simp; try with_reducible rfl
        try simp only [Act.put]
        try simp only [List.setIfInBounds_toArray, List.set_cons_zero, List.set_cons_succ]
        refine reg_take 2 ?_ ?_ ?_ (by kernel_rfl) (by kernel_rfl) (by kernel_rfl) (fun _ _ _ h => h) ?_ ?_ (by assumption) ?_
        rotate_left 2
        · simp only [List.getElem?_toArray, List.getElem?_cons_succ, List.getElem?_cons_zero]; exact rfl
        · rfl
        · intro w hSw; (try dsimp only at hSw); go_simp; try with_reducible rfl
        try simp only [Act.put]
        try simp only [List.setIfInBounds_toArray, List.set_cons_zero, List.set_cons_succ]
        refine reg_take 4 ?_ ?_ ?_ (by kernel_rfl) (by kernel_rfl) (by kernel_rfl) (fun _ _ _ h => h) ?_ ?_ (by assumption) ?_
        rotate_left 2
        · simp only [List.getElem?_toArray, List.getElem?_cons_succ, List.getElem?_cons_zero]; exact rfl
        · rfl
        · intro w hSw; (try dsimp only at hSw); go_simp; try with_reducible rfl
        try simp only [Act.put]
        try simp only [List.setIfInBounds_toArray, List.set_cons_zero, List.set_cons_succ]
        refine reg_call 3 ?_ (by kernel_rfl) ?_ (fun K hK => ?_)
        rotate_left 1
        · simp only [List.getElem?_toArray, List.getElem?_cons_succ, List.getElem?_cons_zero]; exact rfl
        go_simp
        refine (K5.out _).mono ?_
        rintro e w16 ⟨rfl, hb16⟩
        have hB_5 := hB_4.trans (hb16.mono hB_4.size)
        have pp_5 := pp_4.below hb16
        have pa_5 := pa_4.below hb16
        have pb_5 := pb_4.below hb16
        have f1_5 := f1_4.below hb16
        have f2_5 := f2_4.below hb16
        have f3_5 := f3_4.below hb16
        have q1_5 := q1_4.below hb16
        have q2_5 := q2_4.below hb16
        have q3_5 := q3_4.below hb16
        have f5_5 := f5_4.below hb16
        have q5_5 := q5_4.below hb16
        clear hb16 hB_4 pp_4 pa_4 pb_4 f1_4 f2_4 f3_4 q1_4 q2_4 q3_4 f5_4 q5_4
        go_wp2_with fail
        refine hK.out _ _ ⟨pp_5.c0, pp_5.c1, pa_5.c0, pa_5.c1, pb_5.c0, pb_5.c1, q3_5.c0, q3_5.c1⟩ (fun hHeld => ?_)
        clear hK K
        try simp only [Act.put]
        try simp only [List.setIfInBounds_toArray, List.set_cons_zero, List.set_cons_succ]
        refine reg_take 5 ?_ ?_ ?_ (by kernel_rfl) (by kernel_rfl) (by kernel_rfl) (fun _ _ _ h => h) ?_ ?_ (by assumption) ?_
        rotate_left 2
        · simp only [List.getElem?_toArray, List.getElem?_cons_succ, List.getElem?_cons_zero]; exact rfl
        · rfl
        · intro w hSw; (try dsimp only at hSw); go_simp; try with_reducible rfl
        try simp only [Act.put]
        try simp only [List.setIfInBounds_toArray, List.set_cons_zero, List.set_cons_succ]
        refine reg_take 6 ?_ ?_ ?_ (by kernel_rfl) (by kernel_rfl) (by kernel_rfl) (fun _ _ _ h => h) ?_ ?_ (by assumption) ?_
        rotate_left 2
        · simp only [List.getElem?_toArray, List.getElem?_cons_succ, List.getElem?_cons_zero]; exact rfl
        · rfl
        · intro w hSw; (try dsimp only at hSw); go_simp; try with_reducible rfl
        try simp only [Act.put]
        try simp only [List.setIfInBounds_toArray, List.set_cons_zero, List.set_cons_succ]
        refine reg_take 7 ?_ ?_ ?_ (by kernel_rfl) (by kernel_rfl) (by kernel_rfl) (fun _ _ _ h => h) ?_ ?_ (by assumption) ?_
        rotate_left 2
        · simp only [List.getElem?_toArray, List.getElem?_cons_succ, List.getElem?_cons_zero]; exact rfl
        · rfl
        · intro w hSw; (try dsimp only at hSw); go_simp; try with_reducible rfl
        try simp only [Act.put]
        try simp only [List.setIfInBounds_toArray, List.set_cons_zero, List.set_cons_succ]
        refine reg_take 8 ?_ ?_ ?_ (by kernel_rfl) (by kernel_rfl) (by kernel_rfl) (fun _ _ _ h => h) ?_ ?_ (by assumption) ?_
        rotate_left 2
        · simp only [List.getElem?_toArray, List.getElem?_cons_succ, List.getElem?_cons_zero]; exact rfl
        · rfl
        · intro w hSw; (try dsimp only at hSw); go_simp; try with_reducible rfl
        try simp only [Act.put]
        try simp only [List.setIfInBounds_toArray, List.set_cons_zero, List.set_cons_succ]
        refine reg_take 9 ?_ ?_ ?_ (by kernel_rfl) (by kernel_rfl) (by kernel_rfl) (fun _ _ _ h => h) ?_ ?_ (by assumption) ?_
        rotate_left 2
        · simp only [List.getElem?_toArray, List.getElem?_cons_succ, List.getElem?_cons_zero]; exact rfl
        · rfl
        · intro w hSw; (try dsimp only at hSw); go_simp; try with_reducible rfl
        try simp only [Act.put]
        try simp only [List.setIfInBounds_toArray, List.set_cons_zero, List.set_cons_succ]
        refine reg_take 11 ?_ ?_ ?_ (by kernel_rfl) (by kernel_rfl) (by kernel_rfl) (fun _ _ _ h => h) ?_ ?_ (by assumption) ?_
        rotate_left 2
        · simp only [List.getElem?_toArray, List.getElem?_cons_succ, List.getElem?_cons_zero]; exact rfl
        · rfl
        · intro w hSw; (try dsimp only at hSw); go_simp; try with_reducible rfl
        try simp only [Act.put]
        try simp only [List.setIfInBounds_toArray, List.set_cons_zero, List.set_cons_succ]
        refine reg_call 10 ?_ (by kernel_rfl) ?_ (fun K hK => ?_)
        rotate_left 1
        · simp only [List.getElem?_toArray, List.getElem?_cons_succ, List.getElem?_cons_zero]; exact rfl
        go_simp
        refine (K6.out _).mono ?_
        rintro e w17 ⟨rfl, hb17⟩
        have hB_6 := hB_5.trans (hb17.mono hB_5.size)
        have pp_6 := pp_5.below hb17
        have pa_6 := pa_5.below hb17
        have pb_6 := pb_5.below hb17
        have f1_6 := f1_5.below hb17
        have f2_6 := f2_5.below hb17
        have f3_6 := f3_5.below hb17
        have q1_6 := q1_5.below hb17
        have q2_6 := q2_5.below hb17
        have q3_6 := q3_5.below hb17
        have f5_6 := f5_5.below hb17
        have q5_6 := q5_5.below hb17
        clear hb17 hB_5 pp_5 pa_5 pb_5 f1_5 f2_5 f3_5 q1_5 q2_5 q3_5 f5_5 q5_5
        go_wp2_with fail
        refine hK.out _ _ ⟨pp_6.c0, pp_6.c1, pa_6.c0, pa_6.c1, pb_6.c0, pb_6.c1, q3_6.c0, q3_6.c1⟩ (fun hHeld => ?_)
        clear hK K
        try simp only [Act.put]
        try simp only [List.setIfInBounds_toArray, List.set_cons_zero, List.set_cons_succ]
        refine reg_take 12 ?_ ?_ ?_ (by kernel_rfl) (by kernel_rfl) (by kernel_rfl) (fun _ _ _ h => h) ?_ ?_ (by assumption) ?_
        rotate_left 2
        · simp only [List.getElem?_toArray, List.getElem?_cons_succ, List.getElem?_cons_zero]; exact rfl
        · rfl
        · intro w hSw; (try dsimp only at hSw); go_simp; try with_reducible rfl
        try simp only [Act.put]
        try simp only [List.setIfInBounds_toArray, List.set_cons_zero, List.set_cons_succ]
        refine reg_take 13 ?_ ?_ ?_ (by kernel_rfl) (by kernel_rfl) (by kernel_rfl) (fun _ _ _ h => h) ?_ ?_ (by assumption) ?_
        rotate_left 2
        · simp only [List.getElem?_toArray, List.getElem?_cons_succ, List.getElem?_cons_zero]; exact rfl
        · rfl
        · intro w hSw; (try dsimp only at hSw); go_simp; try with_reducible rfl
        try simp only [Act.put]
        try simp only [List.setIfInBounds_toArray, List.set_cons_zero, List.set_cons_succ]
        refine reg_take 14 ?_ ?_ ?_ (by kernel_rfl) (by kernel_rfl) (by kernel_rfl) (fun _ _ _ h => h) ?_ ?_ (by assumption) ?_
        rotate_left 2
        · simp only [List.getElem?_toArray, List.getElem?_cons_succ, List.getElem?_cons_zero]; exact rfl
        · rfl
        · intro w hSw; (try dsimp only at hSw); go_simp; try with_reducible rfl
        try simp only [Act.put]
        try simp only [List.setIfInBounds_toArray, List.set_cons_zero, List.set_cons_succ]
        refine reg_take 15 ?_ ?_ ?_ (by kernel_rfl) (by kernel_rfl) (by kernel_rfl) (fun _ _ _ h => h) ?_ ?_ (by assumption) ?_
        rotate_left 2
        · simp only [List.getElem?_toArray, List.getElem?_cons_succ, List.getElem?_cons_zero]; exact rfl
        · rfl
        · intro w hSw; (try dsimp only at hSw); go_simp; try with_reducible rfl
        try simp only [Act.put]
        try simp only [List.setIfInBounds_toArray, List.set_cons_zero, List.set_cons_succ]
        refine reg_take 16 ?_ ?_ ?_ (by kernel_rfl) (by kernel_rfl) (by kernel_rfl) (fun _ _ _ h => h) ?_ ?_ (by assumption) ?_
        rotate_left 2
        · simp only [List.getElem?_toArray, List.getElem?_cons_succ, List.getElem?_cons_zero]; exact rfl
        · rfl
        · intro w hSw; (try dsimp only at hSw); go_simp; try with_reducible rfl
        try simp only [Act.put]
        try simp only [List.setIfInBounds_toArray, List.set_cons_zero, List.set_cons_succ]
        refine reg_take 17 ?_ ?_ ?_ (by kernel_rfl) (by kernel_rfl) (by kernel_rfl) (fun _ _ _ h => h) ?_ ?_ (by assumption) ?_
        rotate_left 2
        · simp only [List.getElem?_toArray, List.getElem?_cons_succ, List.getElem?_cons_zero]; exact rfl
        · rfl
        · intro w hSw; (try dsimp only at hSw); go_simp; try with_reducible rfl
        try simp only [Act.put]
        try simp only [List.setIfInBounds_toArray, List.set_cons_zero, List.set_cons_succ]
        refine reg_take 19 ?_ ?_ ?_ (by kernel_rfl) (by kernel_rfl) (by kernel_rfl) (fun _ _ _ h => h) ?_ ?_ (by assumption) ?_
        rotate_left 2
        · simp only [List.getElem?_toArray, List.getElem?_cons_succ, List.getElem?_cons_zero]; exact rfl
        · rfl
        · intro w hSw; (try dsimp only at hSw); go_simp; try with_reducible rfl
        try simp only [Act.put]
        try simp only [List.setIfInBounds_toArray, List.set_cons_zero, List.set_cons_succ]
        refine reg_call 18 ?_ (by kernel_rfl) ?_ (fun K hK => ?_)
        rotate_left 1
        · simp only [List.getElem?_toArray, List.getElem?_cons_succ, List.getElem?_cons_zero]; exact rfl
        go_simp
        refine (K7.out _).mono ?_
        rintro e w18 ⟨rfl, hb18⟩
        have hB_7 := hB_6.trans (hb18.mono hB_6.size)
        have pp_7 := pp_6.below hb18
        have pa_7 := pa_6.below hb18
        have pb_7 := pb_6.below hb18
        have f1_7 := f1_6.below hb18
        have f2_7 := f2_6.below hb18
        have f3_7 := f3_6.below hb18
        have q1_7 := q1_6.below hb18
        have q2_7 := q2_6.below hb18
        have q3_7 := q3_6.below hb18
        have f5_7 := f5_6.below hb18
        have q5_7 := q5_6.below hb18
        clear hb18 hB_6 pp_6 pa_6 pb_6 f1_6 f2_6 f3_6 q1_6 q2_6 q3_6 f5_6 q5_6
        go_wp2_with fail
        refine hK.out _ _ ⟨pp_7.c0, pp_7.c1, pa_7.c0, pa_7.c1, pb_7.c0, pb_7.c1, q3_7.c0, q3_7.c1⟩ (fun hHeld => ?_)
        clear hK K
        try simp only [Act.put]
        try simp only [List.setIfInBounds_toArray, List.set_cons_zero, List.set_cons_succ]
        refine reg_take 20 ?_ ?_ ?_ (by kernel_rfl) (by kernel_rfl) (by kernel_rfl) (fun _ _ _ h => h) ?_ ?_ (by assumption) ?_
        rotate_left 2
        · simp only [List.getElem?_toArray, List.getElem?_cons_succ, List.getElem?_cons_zero]; exact rfl
        · rfl
        · intro w hSw; (try dsimp only at hSw); go_simp; try with_reducible rfl
        try simp only [Act.put]
        try simp only [List.setIfInBounds_toArray, List.set_cons_zero, List.set_cons_succ]
        refine reg_skip 21 ?_ ?_ (by kernel_rfl) (by kernel_rfl) (by kernel_rfl) (fun _ _ _ h => h) ?_ (by assumption) ?_
        rotate_left 1
        · simp only [List.getElem?_toArray, List.getElem?_cons_succ, List.getElem?_cons_zero]; exact rfl
        · rfl
        try simp only [Act.put]
        try simp only [List.setIfInBounds_toArray, List.set_cons_zero, List.set_cons_succ]
        refine reg_skip 22 ?_ ?_ (by kernel_rfl) (by kernel_rfl) (by kernel_rfl) (fun _ _ _ h => h) ?_ (by assumption) ?_
        rotate_left 1
        · simp only [List.getElem?_toArray, List.getElem?_cons_succ, List.getElem?_cons_zero]; exact rfl
        · rfl
        try simp only [Act.put]
        try simp only [List.setIfInBounds_toArray, List.set_cons_zero, List.set_cons_succ]
        refine reg_skip 23 ?_ ?_ (by kernel_rfl) (by kernel_rfl) (by kernel_rfl) (fun _ _ _ h => h) ?_ (by assumption) ?_
        rotate_left 1
        · simp only [List.getElem?_toArray, List.getElem?_cons_succ, List.getElem?_cons_zero]; exact rfl
        · rfl
        try simp only [Act.put]
        try simp only [List.setIfInBounds_toArray, List.set_cons_zero, List.set_cons_succ]
        refine reg_take 24 ?_ ?_ ?_ (by kernel_rfl) (by kernel_rfl) (by kernel_rfl) (fun _ _ _ h => h) ?_ ?_ (by assumption) ?_
        rotate_left 2
        · simp only [List.getElem?_toArray, List.getElem?_cons_succ, List.getElem?_cons_zero]; exact rfl
        · rfl
        · intro w hSw; (try dsimp only at hSw); go_simp; try with_reducible rfl
        try simp only [Act.put]
        try simp only [List.setIfInBounds_toArray, List.set_cons_zero, List.set_cons_succ]
        refine reg_take 25 ?_ ?_ ?_ (by kernel_rfl) (by kernel_rfl) (by kernel_rfl) (fun _ _ _ h => h) ?_ ?_ (by assumption) ?_
        rotate_left 2
        · simp only [List.getElem?_toArray, List.getElem?_cons_succ, List.getElem?_cons_zero]; exact rfl
        · rfl
        · intro w hSw; (try dsimp only at hSw); go_simp; try with_reducible rfl
        try simp only [Act.put]
        try simp only [List.setIfInBounds_toArray, List.set_cons_zero, List.set_cons_succ]
        refine reg_skip 26 ?_ ?_ (by kernel_rfl) (by kernel_rfl) (by kernel_rfl) (fun _ _ _ h => h) ?_ (by assumption) ?_
        rotate_left 1
        · simp only [List.getElem?_toArray, List.getElem?_cons_succ, List.getElem?_cons_zero]; exact rfl
        · rfl
        try simp only [Act.put]
        try simp only [List.setIfInBounds_toArray, List.set_cons_zero, List.set_cons_succ]
        refine reg_skip 27 ?_ ?_ (by kernel_rfl) (by kernel_rfl) (by kernel_rfl) (fun _ _ _ h => h) ?_ (by assumption) ?_
        rotate_left 1
        · simp only [List.getElem?_toArray, List.getElem?_cons_succ, List.getElem?_cons_zero]; exact rfl
        · rfl
        try simp only [Act.put]
        try simp only [List.setIfInBounds_toArray, List.set_cons_zero, List.set_cons_succ]
        refine reg_skip 28 ?_ ?_ (by kernel_rfl) (by kernel_rfl) (by kernel_rfl) (fun _ _ _ h => h) ?_ (by assumption) ?_
        rotate_left 1
        · simp only [List.getElem?_toArray, List.getElem?_cons_succ, List.getElem?_cons_zero]; exact rfl
        · rfl
        try simp only [Act.put]
        try simp only [List.setIfInBounds_toArray, List.set_cons_zero, List.set_cons_succ]
        refine reg_take 29 ?_ ?_ ?_ (by kernel_rfl) (by kernel_rfl) (by kernel_rfl) (fun _ _ _ h => h) ?_ ?_ (by assumption) ?_
        rotate_left 2
        · simp only [List.getElem?_toArray, List.getElem?_cons_succ, List.getElem?_cons_zero]; exact rfl
        · rfl
        · intro w hSw; (try dsimp only at hSw); go_simp; try with_reducible rfl
        try simp only [Act.put]
        try simp only [List.setIfInBounds_toArray, List.set_cons_zero, List.set_cons_succ]
        refine reg_take 30 ?_ ?_ ?_ (by kernel_rfl) (by kernel_rfl) (by kernel_rfl) (fun _ _ _ h => h) ?_ ?_ (by assumption) ?_
        rotate_left 2
        · simp only [List.getElem?_toArray, List.getElem?_cons_succ, List.getElem?_cons_zero]; exact rfl
        · rfl
        · intro w hSw; (try dsimp only at hSw); go_simp; try with_reducible rfl
        try simp only [Act.put]
        try simp only [List.setIfInBounds_toArray, List.set_cons_zero, List.set_cons_succ]
        refine reg_take 31 ?_ ?_ ?_ (by kernel_rfl) (by kernel_rfl) (by kernel_rfl) (fun _ _ _ h => h) ?_ ?_ (by assumption) ?_
        rotate_left 2
        · simp only [List.getElem?_toArray, List.getElem?_cons_succ, List.getElem?_cons_zero]; exact rfl
        · rfl
        · intro w hSw; (try dsimp only at hSw); go_simp; try with_reducible rfl
        try simp only [Act.put]
        try simp only [List.setIfInBounds_toArray, List.set_cons_zero, List.set_cons_succ]
        refine reg_take 32 ?_ ?_ ?_ (by kernel_rfl) (by kernel_rfl) (by kernel_rfl) (fun _ _ _ h => h) ?_ ?_ (by assumption) ?_
        rotate_left 2
        · simp only [List.getElem?_toArray, List.getElem?_cons_succ, List.getElem?_cons_zero]; exact rfl
        · rfl
        · intro w hSw; (try dsimp only at hSw); go_simp; try with_reducible rfl
        try simp only [Act.put]
        try simp only [List.setIfInBounds_toArray, List.set_cons_zero, List.set_cons_succ]
        refine reg_take 33 ?_ ?_ ?_ (by kernel_rfl) (by kernel_rfl) (by kernel_rfl) (fun _ _ _ h => h) ?_ ?_ (by assumption) ?_
        rotate_left 2
        · simp only [List.getElem?_toArray, List.getElem?_cons_succ, List.getElem?_cons_zero]; exact rfl
        · rfl
        · intro w hSw; (try dsimp only at hSw); go_simp; try with_reducible rfl
        try simp only [Act.put]
        try simp only [List.setIfInBounds_toArray, List.set_cons_zero, List.set_cons_succ]
        refine reg_take 34 ?_ ?_ ?_ (by kernel_rfl) (by kernel_rfl) (by kernel_rfl) (fun _ _ _ h => h) ?_ ?_ (by assumption) ?_
        rotate_left 2
        · simp only [List.getElem?_toArray, List.getElem?_cons_succ, List.getElem?_cons_zero]; exact rfl
        · rfl
        · intro w hSw; (try dsimp only at hSw); go_simp; try with_reducible rfl
        try simp only [Act.put]
        try simp only [List.setIfInBounds_toArray, List.set_cons_zero, List.set_cons_succ]
        refine reg_take 36 ?_ ?_ ?_ (by kernel_rfl) (by kernel_rfl) (by kernel_rfl) (fun _ _ _ h => h) ?_ ?_ (by assumption) ?_
        rotate_left 2
        · simp only [List.getElem?_toArray, List.getElem?_cons_succ, List.getElem?_cons_zero]; exact rfl
        · rfl
        · intro w hSw; (try dsimp only at hSw); go_simp; try with_reducible rfl
        try simp only [Act.put]
        try simp only [List.setIfInBounds_toArray, List.set_cons_zero, List.set_cons_succ]
        refine reg_call 35 ?_ (by kernel_rfl) ?_ (fun K hK => ?_)
        rotate_left 1
        · simp only [List.getElem?_toArray, List.getElem?_cons_succ, List.getElem?_cons_zero]; exact rfl
        go_simp
        refine (K4.out _).mono ?_
        rintro e w19 ⟨m10, o10, n10, c10, rfl, f10_0, hb19⟩
        have hB_8 := hB_7.trans (hb19.mono hB_7.size)
        have pp_8 := pp_7.below hb19
        have pa_8 := pa_7.below hb19
        have pb_8 := pb_7.below hb19
        have f1_8 := f1_7.below hb19
        have f2_8 := f2_7.below hb19
        have f3_8 := f3_7.below hb19
        have q1_8 := q1_7.below hb19
        have q2_8 := q2_7.below hb19
        have q3_8 := q3_7.below hb19
        have f5_8 := f5_7.below hb19
        have q5_8 := q5_7.below hb19
        clear hb19 hB_7 pp_7 pa_7 pb_7 f1_7 f2_7 f3_7 q1_7 q2_7 q3_7 f5_7 q5_7
        go_wp2_with fail
        refine hK.out _ _ ⟨pp_8.c0, pp_8.c1, pa_8.c0, pa_8.c1, pb_8.c0, pb_8.c1, q3_8.c0, q3_8.c1⟩ (fun hHeld => ?_)
        clear hK K
        try simp only [Act.put]
        try simp only [List.setIfInBounds_toArray, List.set_cons_zero, List.set_cons_succ]
        refine reg_call 37 ?_ (by kernel_rfl) ?_ (fun K hK => ?_)
        rotate_left 1
        · simp only [List.getElem?_toArray, List.getElem?_cons_succ, List.getElem?_cons_zero]; exact rfl
        go_simp
        refine (Cmp_named _ _ 2 5 _ _ 0 _ (by omega) (by omega) f10_0.num f3_8.num (icmp_self _)).mono ?_
        rintro e w20 ⟨rfl, hb20⟩
        have hB_9 := hB_8.trans (hb20.mono hB_8.size)
        have pp_9 := pp_8.below hb20
        have pa_9 := pa_8.below hb20
        have pb_9 := pb_8.below hb20
        have f1_9 := f1_8.below hb20
        have f2_9 := f2_8.below hb20
        have f3_9 := f3_8.below hb20
        have q1_9 := q1_8.below hb20
        have q2_9 := q2_8.below hb20
        have q3_9 := q3_8.below hb20
        have f5_9 := f5_8.below hb20
        have q5_9 := q5_8.below hb20
        have f10_1 := f10_0.below hb20
        clear hb20 hB_8 pp_8 pa_8 pb_8 f1_8 f2_8 f3_8 q1_8 q2_8 q3_8 f5_8 q5_8 f10_0
        go_wp2_with fail
        refine hK.out _ _ ⟨pp_9.c0, pp_9.c1, pa_9.c0, pa_9.c1, pb_9.c0, pb_9.c1, q3_9.c0, q3_9.c1⟩ (fun hHeld => ?_)
        clear hK K
        try simp only [Act.put]
        try simp only [List.setIfInBounds_toArray, List.set_cons_zero, List.set_cons_succ]
        refine reg_take 38 ?_ ?_ ?_ (by kernel_rfl) (by kernel_rfl) (by kernel_rfl) (fun _ _ _ h => h) ?_ ?_ (by assumption) ?_
        rotate_left 2
        · simp only [List.getElem?_toArray, List.getElem?_cons_succ, List.getElem?_cons_zero]; exact rfl
        · rfl
        · intro w hSw; (try dsimp only at hSw); go_simp; try with_reducible rfl
        try simp only [Act.put]
        try simp only [List.setIfInBounds_toArray, List.set_cons_zero, List.set_cons_succ]
        refine reg_take 39 ?_ ?_ ?_ (by kernel_rfl) (by kernel_rfl) (by kernel_rfl) (fun _ _ _ h => h) ?_ ?_ (by assumption) ?_
        rotate_left 2
        · simp only [List.getElem?_toArray, List.getElem?_cons_succ, List.getElem?_cons_zero]; exact rfl
        · rfl
        · intro w hSw; (try dsimp only at hSw); go_simp; try with_reducible rfl
        try simp only [Act.put]
        try simp only [List.setIfInBounds_toArray, List.set_cons_zero, List.set_cons_succ]
        refine reg_take 40 ?_ ?_ ?_ (by kernel_rfl) (by kernel_rfl) (by kernel_rfl) (fun _ _ _ h => h) ?_ ?_ (by assumption) ?_
        rotate_left 2
        · simp only [List.getElem?_toArray, List.getElem?_cons_succ, List.getElem?_cons_zero]; exact rfl
        · rfl
        · intro w hSw; (try dsimp only at hSw); go_simp; try with_reducible rfl
        try simp only [Act.put]
        try simp only [List.setIfInBounds_toArray, List.set_cons_zero, List.set_cons_succ]
        refine wpAnyH_done (by kernel_rfl) ?_ _
        refine NoPanic.normal ?_
        go_wp2
        go_ret
        exact ⟨rfl, hB_9⟩
      · right
        refine ⟨?_, fun i hi => ?_⟩
        · clear zF rr1 rr2 zz0
          obtain rfl | rfl | rfl : k = 0 ∨ k = 1 ∨ k = 2 := by omega
          all_goals cases bb0
          all_goals first | exact absurd ⟨rfl, rfl⟩ hL | exact of_decide_eq_true (by kernel_rfl)
        have hd : (k = 0 ∧ i = 2) ∨ (k = 1 ∧ i = 4) ∨ (bb0 = false ∧ i = 5) := by
          clear zF rr1 rr2 zz0
          revert i
          obtain rfl | rfl | rfl : k = 0 ∨ k = 1 ∨ k = 2 := by omega
          all_goals cases bb0
          all_goals first | exact absurd ⟨rfl, rfl⟩ hL | exact of_decide_eq_true (by kernel_rfl)
        clear hi hL
        rcases hd with ⟨rfl, rfl⟩ | ⟨rfl, rfl⟩ | ⟨rfl, rfl⟩
        · obtain ⟨-, -, -, -, f1_0, -, f3_0, -, -, -, -⟩ := (hFFk _).1 zF
          refine step_of 2 ?_ ?_ (fun K hK => ?_)
          rotate_left 1
          · simp only [List.getElem?_toArray, List.getElem?_cons_succ, List.getElem?_cons_zero]; exact rfl
          rw [HAk.out]
          try simp only [Act.put]
          try simp only [List.setIfInBounds_toArray, List.set_cons_zero, List.set_cons_succ]
          go_simp
          refine (nSub_any _ _ 5 5 _ _ _ (by omega) (by omega) f3_0.num f1_0.num).mono ?_
          rintro e w21 ⟨m4, o4, n4, c4, rfl, f4_0, hb⟩
          go_wp2_with fail
          refine hK.out _ _ (sFk (cFk zF hb)) ?_
          exact (hIVk _ _ _).2 ⟨1, bb0, (.agg #[.bool m4, .slice o4 n4 c4]), v1_, p0_, gq5, (by omega), rfl, (by simp only [HAk.out, Act.put, List.setIfInBounds_toArray, List.set_cons_zero, List.set_cons_succ]), (cFk zF hb), (fun _ => f4_0), (fun h => absurd h (by omega)), (fun h => ⟨(zz0 h).1, (zz0 h).2.1.below hb, (zz0 h).2.2⟩)⟩
        · obtain ⟨-, -, -, -, -, f2_0, -, -, -, -, -⟩ := (hFFk _).1 zF
          have f4_0 := rr1 (by omega)
          refine step_of 4 ?_ ?_ (fun K hK => ?_)
          rotate_left 1
          · simp only [List.getElem?_toArray, List.getElem?_cons_succ, List.getElem?_cons_zero]; exact rfl
          rw [HAk.out]
          try simp only [Act.put]
          try simp only [List.setIfInBounds_toArray, List.set_cons_zero, List.set_cons_succ]
          go_simp
          refine (nSub_any _ _ 6 5 _ _ _ (by omega) (by omega) f4_0.num f2_0.num).mono ?_
          rintro e w22 ⟨m5, o5, n5, c5, rfl, f5_0, hb⟩
          go_wp2_with fail
          refine hK.out _ _ (sFk (cFk zF hb)) ?_
          exact (hIVk _ _ _).2 ⟨2, bb0, v0_, (.agg #[.bool m5, .slice o5 n5 c5]), p0_, gq5, (by omega), rfl, (by simp only [HAk.out, Act.put, List.setIfInBounds_toArray, List.set_cons_zero, List.set_cons_succ]), (cFk zF hb), (fun _ => (rr1 (by omega)).below hb), (fun _ => f5_0), (fun h => ⟨(zz0 h).1, (zz0 h).2.1.below hb, (zz0 h).2.2⟩)⟩
        · refine step_of 5 ?_ ?_ (fun K hK => ?_)
          rotate_left 1
          · simp only [List.getElem?_toArray, List.getElem?_cons_succ, List.getElem?_cons_zero]; exact rfl
          rw [HAk.out]
          try simp only [Act.put]
          try simp only [List.setIfInBounds_toArray, List.set_cons_zero, List.set_cons_succ]
          go_simp
          have hgn := mFk zF
          obtain ⟨wn, hwn, q5_0, hb, -⟩ := new_box w13 _ rfl [.bool false, .slice none 0 0] 29
          rw [hwn]
          refine hK.out _ _ (sFk (cFk zF hb)) ?_
          exact (hIVk _ _ _).2 ⟨k, true, v0_, v1_, (.pointer (some ⟨w13.heap.size, 0, none⟩)), w13.heap.size, hk, rfl, (by simp only [HAk.out, Act.put, List.setIfInBounds_toArray, List.set_cons_zero, List.set_cons_succ]), (cFk zF hb), (fun h => (rr1 h).below hb), (fun h => (rr2 h).below hb), (fun _ => ⟨rfl, q5_0, hgn⟩)⟩
    · right
      refine ⟨?_, fun i hi => ?_⟩
      · clear zF rr1 rr2 rr3 zz0 zz1 zz2 n0_1 n0_2 n1_2
        obtain rfl | rfl | rfl | rfl : k = 0 ∨ k = 1 ∨ k = 2 ∨ k = 3 := by omega
        all_goals cases bb0
        all_goals cases bb1
        all_goals cases bb2
        all_goals first | exact absurd ⟨rfl, rfl, rfl, rfl⟩ hL | exact of_decide_eq_true (by kernel_rfl)
      have hd : (k = 0 ∧ i = 2) ∨ (k = 1 ∧ i = 5) ∨ (k = 2 ∧ i = 8) ∨ (bb0 = false ∧ i = 9) ∨ (bb1 = false ∧ i = 10) ∨ (bb2 = false ∧ i = 11) := by
        clear zF rr1 rr2 rr3 zz0 zz1 zz2 n0_1 n0_2 n1_2
        revert i
        obtain rfl | rfl | rfl | rfl : k = 0 ∨ k = 1 ∨ k = 2 ∨ k = 3 := by omega
        all_goals cases bb0
        all_goals cases bb1
        all_goals cases bb2
        all_goals first | exact absurd ⟨rfl, rfl, rfl, rfl⟩ hL | exact of_decide_eq_true (by kernel_rfl)
      clear hi hL
      rcases hd with ⟨rfl, rfl⟩ | ⟨rfl, rfl⟩ | ⟨rfl, rfl⟩ | ⟨rfl, rfl⟩ | ⟨rfl, rfl⟩ | ⟨rfl, rfl⟩
      · refine step_of 2 ?_ ?_ (fun K hK => ?_)
        rotate_left 1
        · simp only [List.getElem?_toArray, List.getElem?_cons_succ, List.getElem?_cons_zero]; exact rfl
        rw [HAj.out]
        try simp only [Act.put]
        try simp only [List.setIfInBounds_toArray, List.set_cons_zero, List.set_cons_succ]
        go_simp
        refine (K1.out _).mono ?_
        rintro e w23 ⟨m1, o1, n1, c1, rfl, f1_0, hb⟩
        go_wp2_with fail
        refine hK.out _ _ (sFj (cFj zF hb)) ?_
        exact (hIVj _ _ _).2 ⟨1, bb0, bb1, bb2, (.agg #[.bool m1, .slice o1 n1 c1]), v1_, v2_, p0_, p1_, p2_, gq1, gq2, gq3, (by omega), rfl, (by simp only [HAj.out, Act.put, List.setIfInBounds_toArray, List.set_cons_zero, List.set_cons_succ]), (cFj zF hb), (fun _ => f1_0), (fun h => absurd h (by omega)), (fun h => absurd h (by omega)), (fun h => ⟨(zz0 h).1, (zz0 h).2.1.below hb, (zz0 h).2.2⟩), (fun h => ⟨(zz1 h).1, (zz1 h).2.1.below hb, (zz1 h).2.2⟩), (fun h => ⟨(zz2 h).1, (zz2 h).2.1.below hb, (zz2 h).2.2⟩), n0_1, n0_2, n1_2⟩
      · refine step_of 5 ?_ ?_ (fun K hK => ?_)
        rotate_left 1
        · simp only [List.getElem?_toArray, List.getElem?_cons_succ, List.getElem?_cons_zero]; exact rfl
        rw [HAj.out]
        try simp only [Act.put]
        try simp only [List.setIfInBounds_toArray, List.set_cons_zero, List.set_cons_succ]
        go_simp
        refine (K2.out _).mono ?_
        rintro e w24 ⟨m2, o2, n2, c2, rfl, f2_0, hb⟩
        go_wp2_with fail
        refine hK.out _ _ (sFj (cFj zF hb)) ?_
        exact (hIVj _ _ _).2 ⟨2, bb0, bb1, bb2, v0_, (.agg #[.bool m2, .slice o2 n2 c2]), v2_, p0_, p1_, p2_, gq1, gq2, gq3, (by omega), rfl, (by simp only [HAj.out, Act.put, List.setIfInBounds_toArray, List.set_cons_zero, List.set_cons_succ]), (cFj zF hb), (fun _ => (rr1 (by omega)).below hb), (fun _ => f2_0), (fun h => absurd h (by omega)), (fun h => ⟨(zz0 h).1, (zz0 h).2.1.below hb, (zz0 h).2.2⟩), (fun h => ⟨(zz1 h).1, (zz1 h).2.1.below hb, (zz1 h).2.2⟩), (fun h => ⟨(zz2 h).1, (zz2 h).2.1.below hb, (zz2 h).2.2⟩), n0_1, n0_2, n1_2⟩
      · refine step_of 8 ?_ ?_ (fun K hK => ?_)
        rotate_left 1
        · simp only [List.getElem?_toArray, List.getElem?_cons_succ, List.getElem?_cons_zero]; exact rfl
        rw [HAj.out]
        try simp only [Act.put]
        try simp only [List.setIfInBounds_toArray, List.set_cons_zero, List.set_cons_succ]
        go_simp
        refine (K3.out _).mono ?_
        rintro e w25 ⟨m3, o3, n3, c3, rfl, f3_0, hb⟩
        go_wp2_with fail
        refine hK.out _ _ (sFj (cFj zF hb)) ?_
        exact (hIVj _ _ _).2 ⟨3, bb0, bb1, bb2, v0_, v1_, (.agg #[.bool m3, .slice o3 n3 c3]), p0_, p1_, p2_, gq1, gq2, gq3, (by omega), rfl, (by simp only [HAj.out, Act.put, List.setIfInBounds_toArray, List.set_cons_zero, List.set_cons_succ]), (cFj zF hb), (fun _ => (rr1 (by omega)).below hb), (fun _ => (rr2 (by omega)).below hb), (fun _ => f3_0), (fun h => ⟨(zz0 h).1, (zz0 h).2.1.below hb, (zz0 h).2.2⟩), (fun h => ⟨(zz1 h).1, (zz1 h).2.1.below hb, (zz1 h).2.2⟩), (fun h => ⟨(zz2 h).1, (zz2 h).2.1.below hb, (zz2 h).2.2⟩), n0_1, n0_2, n1_2⟩
      · refine step_of 9 ?_ ?_ (fun K hK => ?_)
        rotate_left 1
        · simp only [List.getElem?_toArray, List.getElem?_cons_succ, List.getElem?_cons_zero]; exact rfl
        rw [HAj.out]
        try simp only [Act.put]
        try simp only [List.setIfInBounds_toArray, List.set_cons_zero, List.set_cons_succ]
        go_simp
        have hgn := mFj zF
        have hl1 : bb1 = true → gq2 < w9.heap.size := fun h => (zz1 h).2.1.lt
        have hl2 : bb2 = true → gq3 < w9.heap.size := fun h => (zz2 h).2.1.lt
        obtain ⟨wn, hwn, q1_0, hb, -⟩ := new_box w9 _ rfl [.bool false, .slice none 0 0] 29
        rw [hwn]
        refine hK.out _ _ (sFj (cFj zF hb)) ?_
        exact (hIVj _ _ _).2 ⟨k, true, bb1, bb2, v0_, v1_, v2_, (.pointer (some ⟨w9.heap.size, 0, none⟩)), p1_, p2_, w9.heap.size, gq2, gq3, hk, rfl, (by simp only [HAj.out, Act.put, List.setIfInBounds_toArray, List.set_cons_zero, List.set_cons_succ]), (cFj zF hb), (fun h => (rr1 h).below hb), (fun h => (rr2 h).below hb), (fun h => (rr3 h).below hb), (fun _ => ⟨rfl, q1_0, hgn⟩), (fun h => ⟨(zz1 h).1, (zz1 h).2.1.below hb, (zz1 h).2.2⟩), (fun h => ⟨(zz2 h).1, (zz2 h).2.1.below hb, (zz2 h).2.2⟩), (fun _ h => by have := hl1 h; omega), (fun _ h => by have := hl2 h; omega), n1_2⟩
      · refine step_of 10 ?_ ?_ (fun K hK => ?_)
        rotate_left 1
        · simp only [List.getElem?_toArray, List.getElem?_cons_succ, List.getElem?_cons_zero]; exact rfl
        rw [HAj.out]
        try simp only [Act.put]
        try simp only [List.setIfInBounds_toArray, List.set_cons_zero, List.set_cons_succ]
        go_simp
        have hgn := mFj zF
        have hl0 : bb0 = true → gq1 < w9.heap.size := fun h => (zz0 h).2.1.lt
        have hl2 : bb2 = true → gq3 < w9.heap.size := fun h => (zz2 h).2.1.lt
        obtain ⟨wn, hwn, q2_0, hb, -⟩ := new_box w9 _ rfl [.bool false, .slice none 0 0] 29
        rw [hwn]
        refine hK.out _ _ (sFj (cFj zF hb)) ?_
        exact (hIVj _ _ _).2 ⟨k, bb0, true, bb2, v0_, v1_, v2_, p0_, (.pointer (some ⟨w9.heap.size, 0, none⟩)), p2_, gq1, w9.heap.size, gq3, hk, rfl, (by simp only [HAj.out, Act.put, List.setIfInBounds_toArray, List.set_cons_zero, List.set_cons_succ]), (cFj zF hb), (fun h => (rr1 h).below hb), (fun h => (rr2 h).below hb), (fun h => (rr3 h).below hb), (fun h => ⟨(zz0 h).1, (zz0 h).2.1.below hb, (zz0 h).2.2⟩), (fun _ => ⟨rfl, q2_0, hgn⟩), (fun h => ⟨(zz2 h).1, (zz2 h).2.1.below hb, (zz2 h).2.2⟩), (fun h _ => by have := hl0 h; omega), n0_2, (fun _ h => by have := hl2 h; omega)⟩
      · refine step_of 11 ?_ ?_ (fun K hK => ?_)
        rotate_left 1
        · simp only [List.getElem?_toArray, List.getElem?_cons_succ, List.getElem?_cons_zero]; exact rfl
        rw [HAj.out]
        try simp only [Act.put]
        try simp only [List.setIfInBounds_toArray, List.set_cons_zero, List.set_cons_succ]
        go_simp
        have hgn := mFj zF
        have hl0 : bb0 = true → gq1 < w9.heap.size := fun h => (zz0 h).2.1.lt
        have hl1 : bb1 = true → gq2 < w9.heap.size := fun h => (zz1 h).2.1.lt
        obtain ⟨wn, hwn, q3_0, hb, -⟩ := new_box w9 _ rfl [.bool false, .slice none 0 0] 29
        rw [hwn]
        refine hK.out _ _ (sFj (cFj zF hb)) ?_
        exact (hIVj _ _ _).2 ⟨k, bb0, bb1, true, v0_, v1_, v2_, p0_, p1_, (.pointer (some ⟨w9.heap.size, 0, none⟩)), gq1, gq2, w9.heap.size, hk, rfl, (by simp only [HAj.out, Act.put, List.setIfInBounds_toArray, List.set_cons_zero, List.set_cons_succ]), (cFj zF hb), (fun h => (rr1 h).below hb), (fun h => (rr2 h).below hb), (fun h => (rr3 h).below hb), (fun h => ⟨(zz0 h).1, (zz0 h).2.1.below hb, (zz0 h).2.2⟩), (fun h => ⟨(zz1 h).1, (zz1 h).2.1.below hb, (zz1 h).2.2⟩), (fun _ => ⟨rfl, q3_0, hgn⟩), n0_1, (fun h _ => by have := hl0 h; omega), (fun h _ => by have := hl1 h; omega)⟩
  · right
    refine ⟨?_, fun i hi => ?_⟩
    · clear zF rr1 rr2 rr3 zz0 zz1 zz2
      obtain rfl | rfl | rfl | rfl : k = 0 ∨ k = 1 ∨ k = 2 ∨ k = 3 := by omega
      all_goals cases bb0
      all_goals cases bb1
      all_goals cases bb2
      all_goals first | exact absurd ⟨rfl, rfl, rfl, rfl⟩ hL | exact absurd (dp0_0 (by decide)) (by decide) | exact absurd (dp1_1 (by decide)) (by decide) | exact absurd (dp2_2 (by decide)) (by decide) | exact of_decide_eq_true (by kernel_rfl)
    have hd : (k = 0 ∧ bb0 = true ∧ i = 1) ∨ (k = 1 ∧ bb1 = true ∧ i = 3) ∨ (k = 2 ∧ bb2 = true ∧ i = 5) ∨ (bb0 = false ∧ i = 0) ∨ (bb1 = false ∧ i = 2) ∨ (bb2 = false ∧ i = 4) := by
      clear zF rr1 rr2 rr3 zz0 zz1 zz2
      revert i
      obtain rfl | rfl | rfl | rfl : k = 0 ∨ k = 1 ∨ k = 2 ∨ k = 3 := by omega
      all_goals cases bb0
      all_goals cases bb1
      all_goals cases bb2
      all_goals first | exact absurd ⟨rfl, rfl, rfl, rfl⟩ hL | exact absurd (dp0_0 (by decide)) (by decide) | exact absurd (dp1_1 (by decide)) (by decide) | exact absurd (dp2_2 (by decide)) (by decide) | exact of_decide_eq_true (by kernel_rfl)
    clear hi hL
    rcases hd with ⟨rfl, rfl, rfl⟩ | ⟨rfl, rfl, rfl⟩ | ⟨rfl, rfl, rfl⟩ | ⟨rfl, rfl⟩ | ⟨rfl, rfl⟩ | ⟨rfl, rfl⟩
    · obtain rfl := zz0 rfl
      refine step_of 1 ?_ ?_ (fun K hK => ?_)
      rotate_left 1
      · simp only [List.getElem?_toArray, List.getElem?_cons_succ, List.getElem?_cons_zero]; exact rfl
      rw [HAi.out]
      try simp only [Act.put]
      try simp only [List.setIfInBounds_toArray, List.set_cons_zero, List.set_cons_succ]
      go_simp
      refine (T0.out _).mono ?_
      rintro e w26 ⟨rfl, hb⟩
      go_wp2_with fail
      refine hK.out _ _ (sFi (cFi zF hb)) ?_
      exact (hIVi _ _ _).2 ⟨1, true, bb1, bb2, (.agg #[.int .i64 p0, .int .i64 p1]), v1_, v2_, _, p1_, p2_, (by omega), rfl, (by simp only [HAi.out, Act.put, List.setIfInBounds_toArray, List.set_cons_zero, List.set_cons_succ]), (cFi zF hb), (fun _ => rfl), (fun h => absurd h (by omega)), (fun h => absurd h (by omega)), (fun _ => rfl), zz1, zz2, (fun _ => rfl), (fun h => absurd h (by omega)), (fun h => absurd h (by omega))⟩
    · obtain rfl := rr1 (by omega)
      obtain rfl := dp0_0 (by omega)
      obtain rfl := zz0 rfl
      obtain rfl := zz1 rfl
      refine step_of 3 ?_ ?_ (fun K hK => ?_)
      rotate_left 1
      · simp only [List.getElem?_toArray, List.getElem?_cons_succ, List.getElem?_cons_zero]; exact rfl
      rw [HAi.out]
      try simp only [Act.put]
      try simp only [List.setIfInBounds_toArray, List.set_cons_zero, List.set_cons_succ]
      go_simp
      refine (T1.out _).mono ?_
      rintro e w27 ⟨rfl, hb⟩
      go_wp2_with fail
      refine hK.out _ _ (sFi (cFi zF hb)) ?_
      exact (hIVi _ _ _).2 ⟨2, true, true, bb2, _, (.agg #[.int .i64 a0, .int .i64 a1]), v2_, _, _, p2_, (by omega), rfl, (by simp only [HAi.out, Act.put, List.setIfInBounds_toArray, List.set_cons_zero, List.set_cons_succ]), (cFi zF hb), (fun _ => rfl), (fun _ => rfl), (fun h => absurd h (by omega)), (fun _ => rfl), (fun _ => rfl), zz2, (fun _ => rfl), (fun _ => rfl), (fun h => absurd h (by omega))⟩
    · obtain rfl := rr1 (by omega)
      obtain rfl := rr2 (by omega)
      obtain rfl := dp0_0 (by omega)
      obtain rfl := dp1_1 (by omega)
      obtain rfl := zz0 rfl
      obtain rfl := zz1 rfl
      obtain rfl := zz2 rfl
      refine step_of 5 ?_ ?_ (fun K hK => ?_)
      rotate_left 1
      · simp only [List.getElem?_toArray, List.getElem?_cons_succ, List.getElem?_cons_zero]; exact rfl
      rw [HAi.out]
      try simp only [Act.put]
      try simp only [List.setIfInBounds_toArray, List.set_cons_zero, List.set_cons_succ]
      go_simp
      refine (T2.out _).mono ?_
      rintro e w28 ⟨rfl, hb⟩
      go_wp2_with fail
      refine hK.out _ _ (sFi (cFi zF hb)) ?_
      exact (hIVi _ _ _).2 ⟨3, true, true, true, _, _, (.agg #[.int .i64 b0, .int .i64 b1]), _, _, _, (by omega), rfl, (by simp only [HAi.out, Act.put, List.setIfInBounds_toArray, List.set_cons_zero, List.set_cons_succ]), (cFi zF hb), (fun _ => rfl), (fun _ => rfl), (fun _ => rfl), (fun _ => rfl), (fun _ => rfl), (fun _ => rfl), (fun _ => rfl), (fun _ => rfl), (fun _ => rfl)⟩
    · obtain ⟨-, pp_0, -, -, -⟩ := (hFFi _).1 zF
      obtain ⟨ppe0, ppe1, ppe2, ppe3⟩ := pp_0.open2
      refine step_of 0 ?_ ?_ (fun K hK => ?_)
      rotate_left 1
      · simp only [List.getElem?_toArray, List.getElem?_cons_zero]; exact rfl
      rw [HAi.out]
      try simp only [Act.put]
      try simp only [List.setIfInBounds_toArray, List.set_cons_zero, List.set_cons_succ]
      go_simp
      refine hK.out _ _ (sFi zF) ?_
      exact (hIVi _ _ _).2 ⟨k, true, bb1, bb2, v0_, v1_, v2_, (.agg #[.int .i64 x0, .int .i64 x1]), p1_, p2_, hk, rfl, (by simp only [HAi.out, Act.put, List.setIfInBounds_toArray, List.set_cons_zero, List.set_cons_succ]), zF, rr1, rr2, rr3, (fun _ => rfl), zz1, zz2, (fun _ => rfl), dp1_1, dp2_2⟩
    · obtain ⟨-, -, pa_0, -, -⟩ := (hFFi _).1 zF
      obtain ⟨pae0, pae1, pae2, pae3⟩ := pa_0.open2
      refine step_of 2 ?_ ?_ (fun K hK => ?_)
      rotate_left 1
      · simp only [List.getElem?_toArray, List.getElem?_cons_succ, List.getElem?_cons_zero]; exact rfl
      rw [HAi.out]
      try simp only [Act.put]
      try simp only [List.setIfInBounds_toArray, List.set_cons_zero, List.set_cons_succ]
      go_simp
      refine hK.out _ _ (sFi zF) ?_
      exact (hIVi _ _ _).2 ⟨k, bb0, true, bb2, v0_, v1_, v2_, p0_, (.agg #[.int .i64 y0, .int .i64 y1]), p2_, hk, rfl, (by simp only [HAi.out, Act.put, List.setIfInBounds_toArray, List.set_cons_zero, List.set_cons_succ]), zF, rr1, rr2, rr3, zz0, (fun _ => rfl), zz2, dp0_0, (fun _ => rfl), dp2_2⟩
    · obtain ⟨-, -, -, pb_0, -⟩ := (hFFi _).1 zF
      obtain ⟨pbe0, pbe1, pbe2, pbe3⟩ := pb_0.open2
      refine step_of 4 ?_ ?_ (fun K hK => ?_)
      rotate_left 1
      · simp only [List.getElem?_toArray, List.getElem?_cons_succ, List.getElem?_cons_zero]; exact rfl
      rw [HAi.out]
      try simp only [Act.put]
      try simp only [List.setIfInBounds_toArray, List.set_cons_zero, List.set_cons_succ]
      go_simp
      refine hK.out _ _ (sFi zF) ?_
      exact (hIVi _ _ _).2 ⟨k, bb0, bb1, true, v0_, v1_, v2_, p0_, p1_, (.agg #[.int .i64 z0, .int .i64 z1]), hk, rfl, (by simp only [HAi.out, Act.put, List.setIfInBounds_toArray, List.set_cons_zero, List.set_cons_succ]), zF, rr1, rr2, rr3, zz0, zz1, (fun _ => rfl), dp0_0, dp1_1, (fun _ => rfl)⟩
set_option maxRecDepth 100000 in
set_option maxHeartbeats 16000000 in
theorem PredOns_w_no (x0 x1 y0 y1 z0 z1 p0 p1 a0 a1 b0 b1 : Int) (X Y Z D s c : Int) (t0 : ∀ w, Calls Try.prog 10 #[.agg #[.int .i64 x0, .int .i64 x1]] w fun e w' => e = .returned (.agg #[.int .i64 p0, .int .i64 p1]) ∧ Below w.heap.size w w') (t1 : ∀ w, Calls Try.prog 10 #[.agg #[.int .i64 y0, .int .i64 y1]] w fun e w' => e = .returned (.agg #[.int .i64 a0, .int .i64 a1]) ∧ Below w.heap.size w w') (t2 : ∀ w, Calls Try.prog 10 #[.agg #[.int .i64 z0, .int .i64 z1]] w fun e w' => e = .returned (.agg #[.int .i64 b0, .int .i64 b1]) ∧ Below w.heap.size w w') (k1 : ∀ w, Calls Try.prog 19 #[.agg #[.int .i64 a0, .int .i64 a1], .agg #[.int .i64 p0, .int .i64 p1]] w fun e w' => AnsNum w w' e 5 X) (k2 : ∀ w, Calls Try.prog 19 #[.agg #[.int .i64 p0, .int .i64 p1], .agg #[.int .i64 b0, .int .i64 b1]] w fun e w' => AnsNum w w' e 5 Y) (k3 : ∀ w, Calls Try.prog 19 #[.agg #[.int .i64 a0, .int .i64 a1], .agg #[.int .i64 b0, .int .i64 b1]] w fun e w' => AnsNum w w' e 5 Z) (k4 : ∀ w, Calls Try.prog 25 #[.agg #[.int .i64 a0, .int .i64 a1], .agg #[.int .i64 b0, .int .i64 b1]] w fun e w' => AnsNum w w' e 2 Z) (k5 : ∀ w, Calls Try.prog 23 #[.agg #[.int .i64 p0, .int .i64 p1], .agg #[.int .i64 a0, .int .i64 a1], .agg #[.int .i64 b0, .int .i64 b1]] w fun e w' => e = .returned (.bool false) ∧ Below w.heap.size w w') (k6 : ∀ w, Calls Try.prog 23 #[.agg #[.int .i64 p0, .int .i64 p1], .agg #[.int .i64 b0, .int .i64 b1], .agg #[.int .i64 a0, .int .i64 a1]] w fun e w' => e = .returned (.bool false) ∧ Below w.heap.size w w') (k7 : ∀ w, Calls Try.prog 24 #[.agg #[.int .i64 p0, .int .i64 p1], .agg #[.int .i64 a0, .int .i64 a1], .agg #[.int .i64 b0, .int .i64 b1]] w fun e w' => e = .returned (.bool false) ∧ Below w.heap.size w w') (e1 : Z - X - Y = D) (hs : D.sign = s) (g1 : decide (0 ≤ s) = true) (hc : icmp (D * D) (4 * (X * Y)) = c) (g2 : (c == 0) = false) (g3 : decide (c = 0) = false) (w : World) :
    Calls Try.prog 6 #[.agg #[.int .i64 x0, .int .i64 x1], .agg #[.int .i64 y0, .int .i64 y1], .agg #[.int .i64 z0, .int .i64 z1]] w fun e w' => e = .returned (.bool true) ∧ Below w.heap.size w w' := by
  have hB_0 := Below.refl w.heap.size w
  have T0 := Lib.hid t0; have T1 := Lib.hid t1; have T2 := Lib.hid t2; have K1 := Lib.hid k1; have K2 := Lib.hid k2; have K3 := Lib.hid k3; have K4 := Lib.hid k4; have K5 := Lib.hid k5; have K6 := Lib.hid k6; have K7 := Lib.hid k7; have E1 := Lib.hid e1; have HS := Lib.hid hs; have G1 := Lib.hid g1; have HC := Lib.hid hc; have G2 := Lib.hid g2; have G3 := Lib.hid g3
  clear t0 t1 t2 k1 k2 k3 k4 k5 k6 k7 e1 hs g1 hc g2 g3
  obtain ⟨w1, hw1, pp_0, hb1, hs1⟩ := new_box w (w.heap.size) rfl [.int .i64 x0, .int .i64 x1] 23
  have hb1' : Below w.heap.size w w1 := hb1.mono (by omega)
  clear hb1
  have hB_1 := hB_0.trans (hb1'.mono hB_0.size)
  clear hb1' hB_0
  obtain ⟨w2, hw2, pa_0, hb2, hs2⟩ := new_box w1 (w.heap.size + 1) hs1 [.int .i64 y0, .int .i64 y1] 23
  have hb2' : Below w1.heap.size w1 w2 := hb2.mono (by omega)
  clear hb2
  have hB_2 := hB_1.trans (hb2'.mono hB_1.size)
  have pp_1 := pp_0.below hb2'
  clear hb2' hB_1 pp_0
  obtain ⟨w3, hw3, pb_0, hb3, hs3⟩ := new_box w2 (w.heap.size + 1 + 1) hs2 [.int .i64 z0, .int .i64 z1] 23
  have hb3' : Below w2.heap.size w2 w3 := hb3.mono (by omega)
  clear hb3
  have hB_3 := hB_2.trans (hb3'.mono hB_2.size)
  have pp_2 := pp_1.below hb3'
  have pa_1 := pa_0.below hb3'
  clear hb3' hB_2 pp_1 pa_0
  go_enter Try.func6, Try.ntmps6
  obtain ⟨ppe0, ppe1, ppe2, ppe3⟩ := pp_2.open2
  obtain ⟨pae0, pae1, pae2, pae3⟩ := pa_1.open2
  obtain ⟨pbe0, pbe1, pbe2, pbe3⟩ := pb_0.open2
  go_wp2_with fail
  refine (pfit_any _).mono ?_
  rintro e w4 ⟨rfl, hb4⟩
  clear ppe0 ppe1 ppe2 ppe3 pae0 pae1 pae2 pae3 pbe0 pbe1 pbe2 pbe3
  have hB_4 := hB_3.trans (hb4.mono hB_3.size)
  have pp_3 := pp_2.below hb4
  have pa_2 := pa_1.below hb4
  have pb_1 := pb_0.below hb4
  clear hb4 hB_3 pp_2 pa_1 pb_0
  obtain ⟨ppe0, ppe1, ppe2, ppe3⟩ := pp_3.open2
  obtain ⟨pae0, pae1, pae2, pae3⟩ := pa_2.open2
  obtain ⟨pbe0, pbe1, pbe2, pbe3⟩ := pb_1.open2
  go_wp2
  clear ppe0 ppe1 ppe2 ppe3 pae0 pae1 pae2 pae3 pbe0 pbe1 pbe2 pbe3
  have hWi_0 := Below.refl w4.heap.size w4
  have hsi : w.heap.size ≤ w4.heap.size := hB_4.size
  have hlipp := pp_3.lt
  have hlipa := pa_2.lt
  have hlipb := pb_1.lt
  have hB_5 := hB_4.drew'
  have pp_4 := pp_3.drew
  have pa_3 := pa_2.drew
  have pb_2 := pb_1.drew
  have hWi_1 := hWi_0.drew'
  clear hB_4 pp_3 pa_2 pb_1 hWi_0
  obtain ⟨FFi, hFFi⟩ : ∃ F : World → Prop, ∀ w', F w' ↔ (Below w.heap.size w w' ∧ Box w' (w.heap.size) [.int .i64 x0, .int .i64 x1] ∧ Box w' (w.heap.size + 1) [.int .i64 y0, .int .i64 y1] ∧ Box w' (w.heap.size + 1 + 1) [.int .i64 z0, .int .i64 z1] ∧ Below w4.heap.size w4 w') := ⟨_, fun _ => Iff.rfl⟩
  have cFi : ∀ {w' w'' : World}, FFi w' → Below w'.heap.size w' w'' → FFi w'' := by
    intro w' w'' h hb
    obtain ⟨y0, y1, y2, y3, y4⟩ := (hFFi _).1 h
    exact (hFFi _).2 ⟨y0.trans (hb.mono y0.size), y1.below hb, y2.below hb, y3.below hb, y4.trans (hb.mono y4.size)⟩
  have mFi : ∀ {w' : World}, FFi w' → w4.heap.size ≤ w'.heap.size := by
    intro w' h
    obtain ⟨y0, y1, y2, y3, y4⟩ := (hFFi _).1 h
    exact y4.size
  have sFi : ∀ {w' : World}, FFi w' → (True) := by
    intro w' h
    obtain ⟨y0, y1, y2, y3, y4⟩ := (hFFi _).1 h
    exact trivial
  have zF : FFi w4.drew := (hFFi _).2 ⟨hB_5, pp_4, pa_3, pb_2, hWi_1⟩
  clear hB_5 pp_4 pa_3 pb_2 hWi_1
  refine wp_region_noPanic ?_
  refine wp_region_held_drew (S := fun w' => True) (by kernel_rfl) (sFi zF) (fun hHeld => ?_)
  refine reg_grab (fun WWi ai hWW hAA => ?_)
  rw [hWW]
  have HAi := Lib.hid hAA; clear hWW hAA hHeld
  obtain ⟨IVi, hIVi⟩ : ∃ IV : Array Bool → Act → World → Prop, ∀ l a w', IV l a w' ↔ ∃ (k : Nat) (bb0 bb1 bb2 : Bool) (v0_ v1_ v2_ p0_ p1_ p2_ : Value), k ≤ 3 ∧ l = #[bb0, decide (1 ≤ k), bb1, decide (2 ≤ k), bb2, decide (3 ≤ k), false, false, false] ∧ a = ((((((ai.put (some 15) v0_).put (some 17) v1_).put (some 19) v2_).put (some 14) p0_).put (some 16) p1_).put (some 18) p2_) ∧ FFi w' ∧ (1 ≤ k → v0_ = .agg #[.int .i64 p0, .int .i64 p1]) ∧ (2 ≤ k → v1_ = .agg #[.int .i64 a0, .int .i64 a1]) ∧ (3 ≤ k → v2_ = .agg #[.int .i64 b0, .int .i64 b1]) ∧ (bb0 = true → p0_ = .agg #[.int .i64 x0, .int .i64 x1]) ∧ (bb1 = true → p1_ = .agg #[.int .i64 y0, .int .i64 y1]) ∧ (bb2 = true → p2_ = .agg #[.int .i64 z0, .int .i64 z1]) ∧ (1 ≤ k → bb0 = true) ∧ (2 ≤ k → bb1 = true) ∧ (3 ≤ k → bb2 = true) := ⟨_, fun _ _ _ => Iff.rfl⟩
  refine wpAnyH_until IVi ?_ _ _ _ _ ((hIVi _ _ _).2 ⟨0, false, false, false, (ai.tmps.getD 15 undef), (ai.tmps.getD 17 undef), (ai.tmps.getD 19 undef), (ai.tmps.getD 14 undef), (ai.tmps.getD 16 undef), (ai.tmps.getD 18 undef), Nat.zero_le _, rfl, (by simp only [put_same]), zF, (fun h => absurd h (by omega)), (fun h => absurd h (by omega)), (fun h => absurd h (by omega)), (fun h => by cases h), (fun h => by cases h), (fun h => by cases h), (fun h => absurd h (by omega)), (fun h => absurd h (by omega)), (fun h => absurd h (by omega))⟩) (by kernel_rfl)
  clear zF
  intro ll aa w5 hI
  obtain ⟨k, bb0, bb1, bb2, v0_, v1_, v2_, p0_, p1_, p2_, hk, rfl, rfl, zF, rr1, rr2, rr3, zz0, zz1, zz2, dp0_0, dp1_1, dp2_2⟩ := (hIVi _ _ _).1 hI
  clear hI
  by_cases hL : k = 3 ∧ bb0 = true ∧ bb1 = true ∧ bb2 = true
  · left
    obtain ⟨rfl, rfl, rfl, rfl⟩ := hL
    obtain rfl := rr1 (by omega)
    obtain rfl := rr2 (by omega)
    obtain rfl := rr3 (by omega)
    obtain rfl := zz0 rfl
    obtain rfl := zz1 rfl
    obtain rfl := zz2 rfl
    clear hk dp0_0 dp1_1 dp2_2
    show wpAnyH _ _ _ _ _ 3 _ _ _
    rw [HAi.out]
    try simp only [Act.put]
    try simp only [List.setIfInBounds_toArray, List.set_cons_zero, List.set_cons_succ]
    obtain ⟨hB_0, pp_0, pa_0, pb_0, hWi_0⟩ := (hFFi _).1 zF
    clear zF
    clear hWi_0
    obtain ⟨sf1a, sf1b, sf1c, sf1d⟩ := pp_0.open2
    obtain ⟨sg1a, sg1b⟩ := Box.put2 pp_0 (.int .i64 p0)
    refine reg_call 6 ?_ (by kernel_rfl) ?_ (fun K hK => ?_)
    rotate_left 1
    · simp only [List.getElem?_toArray, List.getElem?_cons_succ, List.getElem?_cons_zero]; exact rfl
    go_simp
    have hB_1 := below_setAll hB_0 (g := w.heap.size) (by omega) [.int .i64 p0, .int .i64 p1]
    have pa_1 := pa_0.farAll (g' := w.heap.size) (by omega) [.int .i64 p0, .int .i64 p1]
    have pb_1 := pb_0.farAll (g' := w.heap.size) (by omega) [.int .i64 p0, .int .i64 p1]
    have pp_1 := pp_0.setAll [.int .i64 p0, .int .i64 p1] rfl
    simp only [setAll, Nat.zero_add] at hB_1 pp_1 pa_1 pb_1
    clear sf1a sf1b sf1c sf1d sg1a sg1b
    clear hB_0 pa_0 pb_0 pp_0
    refine hK.out _ _ trivial (fun hHeld => ?_)
    clear hK K
    try simp only [Act.put]
    try simp only [List.setIfInBounds_toArray, List.set_cons_zero, List.set_cons_succ]
    generalize (World.setCell (World.setCell w5 ⟨w.heap.size, 0, none⟩ (.int .i64 p0)) ⟨w.heap.size, 1, none⟩ (.int .i64 p1)) = w6 at *
    obtain ⟨sf2a, sf2b, sf2c, sf2d⟩ := pa_1.open2
    obtain ⟨sg2a, sg2b⟩ := Box.put2 pa_1 (.int .i64 a0)
    refine reg_call 7 ?_ (by kernel_rfl) ?_ (fun K hK => ?_)
    rotate_left 1
    · simp only [List.getElem?_toArray, List.getElem?_cons_succ, List.getElem?_cons_zero]; exact rfl
    go_simp
    have hB_2 := below_setAll hB_1 (g := w.heap.size + 1) (by omega) [.int .i64 a0, .int .i64 a1]
    have pp_2 := pp_1.farAll (g' := w.heap.size + 1) (by omega) [.int .i64 a0, .int .i64 a1]
    have pb_2 := pb_1.farAll (g' := w.heap.size + 1) (by omega) [.int .i64 a0, .int .i64 a1]
    have pa_2 := pa_1.setAll [.int .i64 a0, .int .i64 a1] rfl
    simp only [setAll, Nat.zero_add] at hB_2 pp_2 pa_2 pb_2
    clear sf2a sf2b sf2c sf2d sg2a sg2b
    clear hB_1 pp_1 pb_1 pa_1
    refine hK.out _ _ trivial (fun hHeld => ?_)
    clear hK K
    try simp only [Act.put]
    try simp only [List.setIfInBounds_toArray, List.set_cons_zero, List.set_cons_succ]
    generalize (World.setCell (World.setCell w6 ⟨w.heap.size + 1, 0, none⟩ (.int .i64 a0)) ⟨w.heap.size + 1, 1, none⟩ (.int .i64 a1)) = w7 at *
    obtain ⟨sf3a, sf3b, sf3c, sf3d⟩ := pb_2.open2
    obtain ⟨sg3a, sg3b⟩ := Box.put2 pb_2 (.int .i64 b0)
    refine reg_call 8 ?_ (by kernel_rfl) ?_ (fun K hK => ?_)
    rotate_left 1
    · simp only [List.getElem?_toArray, List.getElem?_cons_succ, List.getElem?_cons_zero]; exact rfl
    go_simp
    have hB_3 := below_setAll hB_2 (g := w.heap.size + 1 + 1) (by omega) [.int .i64 b0, .int .i64 b1]
    have pp_3 := pp_2.farAll (g' := w.heap.size + 1 + 1) (by omega) [.int .i64 b0, .int .i64 b1]
    have pa_3 := pa_2.farAll (g' := w.heap.size + 1 + 1) (by omega) [.int .i64 b0, .int .i64 b1]
    have pb_3 := pb_2.setAll [.int .i64 b0, .int .i64 b1] rfl
    simp only [setAll, Nat.zero_add] at hB_3 pp_3 pa_3 pb_3
    clear sf3a sf3b sf3c sf3d sg3a sg3b
    clear hB_2 pp_2 pa_2 pb_2
    refine hK.out _ _ trivial (fun hHeld => ?_)
    clear hK K
    try simp only [Act.put]
    try simp only [List.setIfInBounds_toArray, List.set_cons_zero, List.set_cons_succ]
    generalize (World.setCell (World.setCell w7 ⟨w.heap.size + 1 + 1, 0, none⟩ (.int .i64 b0)) ⟨w.heap.size + 1 + 1, 1, none⟩ (.int .i64 b1)) = w8 at *
    refine wpAnyH_done (by kernel_rfl) ?_ _
    refine NoPanic.normal ?_
    obtain ⟨ppe0, ppe1, ppe2, ppe3⟩ := pp_3.open2
    obtain ⟨pae0, pae1, pae2, pae3⟩ := pa_3.open2
    obtain ⟨pbe0, pbe1, pbe2, pbe3⟩ := pb_3.open2
    go_wp2
    clear ppe0 ppe1 ppe2 ppe3 pae0 pae1 pae2 pae3 pbe0 pbe1 pbe2 pbe3
    have hWj_0 := Below.refl w8.heap.size w8
    have hsj : w.heap.size ≤ w8.heap.size := hB_3.size
    have hljpp := pp_3.lt
    have hljpa := pa_3.lt
    have hljpb := pb_3.lt
    have hB_4 := hB_3.drew'
    have pp_4 := pp_3.drew
    have pa_4 := pa_3.drew
    have pb_4 := pb_3.drew
    have hWj_1 := hWj_0.drew'
    clear hB_3 pp_3 pa_3 pb_3 hWj_0
    obtain ⟨FFj, hFFj⟩ : ∃ F : World → Prop, ∀ w', F w' ↔ (Below w.heap.size w w' ∧ Box w' (w.heap.size) [.int .i64 p0, .int .i64 p1] ∧ Box w' (w.heap.size + 1) [.int .i64 a0, .int .i64 a1] ∧ Box w' (w.heap.size + 1 + 1) [.int .i64 b0, .int .i64 b1] ∧ Below w8.heap.size w8 w') := ⟨_, fun _ => Iff.rfl⟩
    have cFj : ∀ {w' w'' : World}, FFj w' → Below w'.heap.size w' w'' → FFj w'' := by
      intro w' w'' h hb
      obtain ⟨y0, y1, y2, y3, y4⟩ := (hFFj _).1 h
      exact (hFFj _).2 ⟨y0.trans (hb.mono y0.size), y1.below hb, y2.below hb, y3.below hb, y4.trans (hb.mono y4.size)⟩
    have mFj : ∀ {w' : World}, FFj w' → w8.heap.size ≤ w'.heap.size := by
      intro w' h
      obtain ⟨y0, y1, y2, y3, y4⟩ := (hFFj _).1 h
      exact y4.size
    have sFj : ∀ {w' : World}, FFj w' → (w'.cell? ⟨w.heap.size, 0, none⟩ = some (.int .i64 p0) ∧ w'.cell? ⟨w.heap.size, 1, none⟩ = some (.int .i64 p1) ∧ w'.cell? ⟨w.heap.size + 1, 0, none⟩ = some (.int .i64 a0) ∧ w'.cell? ⟨w.heap.size + 1, 1, none⟩ = some (.int .i64 a1) ∧ w'.cell? ⟨w.heap.size + 1 + 1, 0, none⟩ = some (.int .i64 b0) ∧ w'.cell? ⟨w.heap.size + 1 + 1, 1, none⟩ = some (.int .i64 b1)) := by
      intro w' h
      obtain ⟨y0, y1, y2, y3, y4⟩ := (hFFj _).1 h
      exact ⟨y1.c0, y1.c1, y2.c0, y2.c1, y3.c0, y3.c1⟩
    have zF : FFj w8.drew := (hFFj _).2 ⟨hB_4, pp_4, pa_4, pb_4, hWj_1⟩
    clear hB_4 pp_4 pa_4 pb_4 hWj_1
    refine wp_region_noPanic ?_
    refine wp_region_held_drew (S := fun w' => w'.cell? ⟨w.heap.size, 0, none⟩ = some (.int .i64 p0) ∧ w'.cell? ⟨w.heap.size, 1, none⟩ = some (.int .i64 p1) ∧ w'.cell? ⟨w.heap.size + 1, 0, none⟩ = some (.int .i64 a0) ∧ w'.cell? ⟨w.heap.size + 1, 1, none⟩ = some (.int .i64 a1) ∧ w'.cell? ⟨w.heap.size + 1 + 1, 0, none⟩ = some (.int .i64 b0) ∧ w'.cell? ⟨w.heap.size + 1 + 1, 1, none⟩ = some (.int .i64 b1)) (by kernel_rfl) (sFj zF) (fun hHeld => ?_)
    refine reg_take 0 ?_ ?_ ?_ (by kernel_rfl) (by kernel_rfl) (by kernel_rfl) (fun _ _ _ h => h) ?_ ?_ (by assumption) ?_
    rotate_left 2
    · simp only [List.getElem?_toArray, List.getElem?_cons_zero]; exact rfl
    · rfl
    · intro w hSw; (try dsimp only at hSw); go_simp; try with_reducible rfl
    try simp only [Act.put]
    try simp only [List.setIfInBounds_toArray, List.set_cons_zero, List.set_cons_succ]
    refine reg_take 1 ?_ ?_ ?_ (by kernel_rfl) (by kernel_rfl) (by kernel_rfl) (fun _ _ _ h => h) ?_ ?_ (by assumption) ?_
    rotate_left 2
    · simp only [List.getElem?_toArray, List.getElem?_cons_succ, List.getElem?_cons_zero]; exact rfl
    · rfl
    · intro w hSw; (try dsimp only at hSw); go_simp; try with_reducible rfl
    try simp only [Act.put]
    try simp only [List.setIfInBounds_toArray, List.set_cons_zero, List.set_cons_succ]
    refine reg_take 3 ?_ ?_ ?_ (by kernel_rfl) (by kernel_rfl) (by kernel_rfl) (fun _ _ _ h => h) ?_ ?_ (by assumption) ?_
    rotate_left 2
    · simp only [List.getElem?_toArray, List.getElem?_cons_succ, List.getElem?_cons_zero]; exact rfl
    · rfl
    · intro w hSw; (try dsimp only at hSw); go_simp; try with_reducible rfl
    try simp only [Act.put]
    try simp only [List.setIfInBounds_toArray, List.set_cons_zero, List.set_cons_succ]
    refine reg_take 4 ?_ ?_ ?_ (by kernel_rfl) (by kernel_rfl) (by kernel_rfl) (fun _ _ _ h => h) ?_ ?_ (by assumption) ?_
    rotate_left 2
    · simp only [List.getElem?_toArray, List.getElem?_cons_succ, List.getElem?_cons_zero]; exact rfl
    · rfl
    · intro w hSw; (try dsimp only at hSw); go_simp; try with_reducible rfl
    try simp only [Act.put]
    try simp only [List.setIfInBounds_toArray, List.set_cons_zero, List.set_cons_succ]
    refine reg_take 6 ?_ ?_ ?_ (by kernel_rfl) (by kernel_rfl) (by kernel_rfl) (fun _ _ _ h => h) ?_ ?_ (by assumption) ?_
    rotate_left 2
    · simp only [List.getElem?_toArray, List.getElem?_cons_succ, List.getElem?_cons_zero]; exact rfl
    · rfl
    · intro w hSw; (try dsimp only at hSw); go_simp; try with_reducible rfl
    try simp only [Act.put]
    try simp only [List.setIfInBounds_toArray, List.set_cons_zero, List.set_cons_succ]
    refine reg_take 7 ?_ ?_ ?_ (by kernel_rfl) (by kernel_rfl) (by kernel_rfl) (fun _ _ _ h => h) ?_ ?_ (by assumption) ?_
    rotate_left 2
    · simp only [List.getElem?_toArray, List.getElem?_cons_succ, List.getElem?_cons_zero]; exact rfl
    · rfl
    · intro w hSw; (try dsimp only at hSw); go_simp; try with_reducible rfl
    try simp only [Act.put]
    try simp only [List.setIfInBounds_toArray, List.set_cons_zero, List.set_cons_succ]
    refine reg_grab (fun WWj aj hWW hAA => ?_)
    rw [hWW]
    have HAj := Lib.hid hAA; clear hWW hAA hHeld
    obtain ⟨IVj, hIVj⟩ : ∃ IV : Array Bool → Act → World → Prop, ∀ l a w', IV l a w' ↔ ∃ (k : Nat) (bb0 bb1 bb2 : Bool) (v0_ v1_ v2_ p0_ p1_ p2_ : Value) (gq1 gq2 gq3 : Nat), k ≤ 3 ∧ l = #[true, true, decide (1 ≤ k), true, true, decide (2 ≤ k), true, true, decide (3 ≤ k), bb0, bb1, bb2, false, false, false] ∧ a = ((((((aj.put (some 22) v0_).put (some 25) v1_).put (some 28) v2_).put (some 7) p0_).put (some 8) p1_).put (some 9) p2_) ∧ FFj w' ∧ (1 ≤ k → RNum w' v0_ (5) (X)) ∧ (2 ≤ k → RNum w' v1_ (5) (Y)) ∧ (3 ≤ k → RNum w' v2_ (5) (Z)) ∧ (bb0 = true → p0_ = .pointer (some ⟨gq1, 0, none⟩) ∧ Box w' gq1 [.bool false, .slice none 0 0] ∧ w8.heap.size ≤ gq1) ∧ (bb1 = true → p1_ = .pointer (some ⟨gq2, 0, none⟩) ∧ Box w' gq2 [.bool false, .slice none 0 0] ∧ w8.heap.size ≤ gq2) ∧ (bb2 = true → p2_ = .pointer (some ⟨gq3, 0, none⟩) ∧ Box w' gq3 [.bool false, .slice none 0 0] ∧ w8.heap.size ≤ gq3) ∧ (bb0 = true → bb1 = true → gq1 ≠ gq2) ∧ (bb0 = true → bb2 = true → gq1 ≠ gq3) ∧ (bb1 = true → bb2 = true → gq2 ≠ gq3) := ⟨_, fun _ _ _ => Iff.rfl⟩
    refine wpAnyH_until IVj ?_ _ _ _ _ ((hIVj _ _ _).2 ⟨0, false, false, false, (aj.tmps.getD 22 undef), (aj.tmps.getD 25 undef), (aj.tmps.getD 28 undef), (aj.tmps.getD 7 undef), (aj.tmps.getD 8 undef), (aj.tmps.getD 9 undef), 0, 0, 0, Nat.zero_le _, rfl, (by simp only [put_same]), zF, (fun h => absurd h (by omega)), (fun h => absurd h (by omega)), (fun h => absurd h (by omega)), (fun h => by cases h), (fun h => by cases h), (fun h => by cases h), (fun h => by cases h), (fun h => by cases h), (fun h => by cases h)⟩) (by kernel_rfl)
    clear zF
    intro ll aa w9 hI
    obtain ⟨k, bb0, bb1, bb2, v0_, v1_, v2_, p0_, p1_, p2_, gq1, gq2, gq3, hk, rfl, rfl, zF, rr1, rr2, rr3, zz0, zz1, zz2, n0_1, n0_2, n1_2⟩ := (hIVj _ _ _).1 hI
    clear hI
    by_cases hL : k = 3 ∧ bb0 = true ∧ bb1 = true ∧ bb2 = true
    · left
      obtain ⟨rfl, rfl, rfl, rfl⟩ := hL
      have f1_0 := rr1 (by omega)
      obtain ⟨m1, o1, n1, c1, rfl⟩ := f1_0.shape
      have f2_0 := rr2 (by omega)
      obtain ⟨m2, o2, n2, c2, rfl⟩ := f2_0.shape
      have f3_0 := rr3 (by omega)
      obtain ⟨m3, o3, n3, c3, rfl⟩ := f3_0.shape
      obtain ⟨rfl, q1_0, hgq1⟩ := zz0 rfl
      obtain ⟨rfl, q2_0, hgq2⟩ := zz1 rfl
      obtain ⟨rfl, q3_0, hgq3⟩ := zz2 rfl
      have hnq1q2 := n0_1 rfl rfl
      have hnq1q3 := n0_2 rfl rfl
      have hnq2q3 := n1_2 rfl rfl
      clear hk rr1 rr2 rr3 zz0 zz1 zz2 n0_1 n0_2 n1_2
      show wpAnyH _ _ _ _ _ 3 _ _ _
      rw [HAj.out]
      try simp only [Act.put]
      try simp only [List.setIfInBounds_toArray, List.set_cons_zero, List.set_cons_succ]
      obtain ⟨hB_0, pp_0, pa_0, pb_0, hWj_0⟩ := (hFFj _).1 zF
      clear zF
      clear hWj_0
      obtain ⟨sf4a, sf4b, sf4c, sf4d⟩ := q1_0.open2
      obtain ⟨sg4a, sg4b⟩ := Box.put2 q1_0 (.bool m1)
      refine reg_call 12 ?_ (by kernel_rfl) ?_ (fun K hK => ?_)
      rotate_left 1
      · simp only [List.getElem?_toArray, List.getElem?_cons_succ, List.getElem?_cons_zero]; exact rfl
      go_simp
      have hB_1 := below_setAll hB_0 (g := gq1) (by omega) [.bool m1, .slice o1 n1 c1]
      have pp_1 := pp_0.farAll (g' := gq1) (by omega) [.bool m1, .slice o1 n1 c1]
      have pa_1 := pa_0.farAll (g' := gq1) (by omega) [.bool m1, .slice o1 n1 c1]
      have pb_1 := pb_0.farAll (g' := gq1) (by omega) [.bool m1, .slice o1 n1 c1]
      have f1_1 := f1_0.setAll q1_0 (noWord2 _ _ _ _) [.bool m1, .slice o1 n1 c1] rfl
      have f2_1 := f2_0.setAll q1_0 (noWord2 _ _ _ _) [.bool m1, .slice o1 n1 c1] rfl
      have f3_1 := f3_0.setAll q1_0 (noWord2 _ _ _ _) [.bool m1, .slice o1 n1 c1] rfl
      have q2_1 := q2_0.farAll (g' := gq1) (by omega) [.bool m1, .slice o1 n1 c1]
      have q3_1 := q3_0.farAll (g' := gq1) (by omega) [.bool m1, .slice o1 n1 c1]
      have q1_1 := q1_0.setAll [.bool m1, .slice o1 n1 c1] rfl
      simp only [setAll, Nat.zero_add] at hB_1 pp_1 pa_1 pb_1 f1_1 f2_1 f3_1 q1_1 q2_1 q3_1
      clear sf4a sf4b sf4c sf4d sg4a sg4b
      clear hB_0 pp_0 pa_0 pb_0 f1_0 f2_0 f3_0 q2_0 q3_0 q1_0
      refine hK.out _ _ ⟨pp_1.c0, pp_1.c1, pa_1.c0, pa_1.c1, pb_1.c0, pb_1.c1⟩ (fun hHeld => ?_)
      clear hK K
      try simp only [Act.put]
      try simp only [List.setIfInBounds_toArray, List.set_cons_zero, List.set_cons_succ]
      generalize (World.setCell (World.setCell w9 ⟨gq1, 0, none⟩ (.bool m1)) ⟨gq1, 1, none⟩ (.slice o1 n1 c1)) = w10 at *
      obtain ⟨sf5a, sf5b, sf5c, sf5d⟩ := q2_1.open2
      obtain ⟨sg5a, sg5b⟩ := Box.put2 q2_1 (.bool m2)
      refine reg_call 13 ?_ (by kernel_rfl) ?_ (fun K hK => ?_)
      rotate_left 1
      · simp only [List.getElem?_toArray, List.getElem?_cons_succ, List.getElem?_cons_zero]; exact rfl
      go_simp
      have hB_2 := below_setAll hB_1 (g := gq2) (by omega) [.bool m2, .slice o2 n2 c2]
      have pp_2 := pp_1.farAll (g' := gq2) (by omega) [.bool m2, .slice o2 n2 c2]
      have pa_2 := pa_1.farAll (g' := gq2) (by omega) [.bool m2, .slice o2 n2 c2]
      have pb_2 := pb_1.farAll (g' := gq2) (by omega) [.bool m2, .slice o2 n2 c2]
      have f1_2 := f1_1.setAll q2_1 (noWord2 _ _ _ _) [.bool m2, .slice o2 n2 c2] rfl
      have f2_2 := f2_1.setAll q2_1 (noWord2 _ _ _ _) [.bool m2, .slice o2 n2 c2] rfl
      have f3_2 := f3_1.setAll q2_1 (noWord2 _ _ _ _) [.bool m2, .slice o2 n2 c2] rfl
      have q1_2 := q1_1.farAll (g' := gq2) (by omega) [.bool m2, .slice o2 n2 c2]
      have q3_2 := q3_1.farAll (g' := gq2) (by omega) [.bool m2, .slice o2 n2 c2]
      have q2_2 := q2_1.setAll [.bool m2, .slice o2 n2 c2] rfl
      simp only [setAll, Nat.zero_add] at hB_2 pp_2 pa_2 pb_2 f1_2 f2_2 f3_2 q1_2 q2_2 q3_2
      clear sf5a sf5b sf5c sf5d sg5a sg5b
      clear hB_1 pp_1 pa_1 pb_1 f1_1 f2_1 f3_1 q1_1 q3_1 q2_1
      refine hK.out _ _ ⟨pp_2.c0, pp_2.c1, pa_2.c0, pa_2.c1, pb_2.c0, pb_2.c1⟩ (fun hHeld => ?_)
      clear hK K
      try simp only [Act.put]
      try simp only [List.setIfInBounds_toArray, List.set_cons_zero, List.set_cons_succ]
      generalize (World.setCell (World.setCell w10 ⟨gq2, 0, none⟩ (.bool m2)) ⟨gq2, 1, none⟩ (.slice o2 n2 c2)) = w11 at *
      obtain ⟨sf6a, sf6b, sf6c, sf6d⟩ := q3_2.open2
      obtain ⟨sg6a, sg6b⟩ := Box.put2 q3_2 (.bool m3)
      refine reg_call 14 ?_ (by kernel_rfl) ?_ (fun K hK => ?_)
      rotate_left 1
      · simp only [List.getElem?_toArray, List.getElem?_cons_succ, List.getElem?_cons_zero]; exact rfl
      go_simp
      have hB_3 := below_setAll hB_2 (g := gq3) (by omega) [.bool m3, .slice o3 n3 c3]
      have pp_3 := pp_2.farAll (g' := gq3) (by omega) [.bool m3, .slice o3 n3 c3]
      have pa_3 := pa_2.farAll (g' := gq3) (by omega) [.bool m3, .slice o3 n3 c3]
      have pb_3 := pb_2.farAll (g' := gq3) (by omega) [.bool m3, .slice o3 n3 c3]
      have f1_3 := f1_2.setAll q3_2 (noWord2 _ _ _ _) [.bool m3, .slice o3 n3 c3] rfl
      have f2_3 := f2_2.setAll q3_2 (noWord2 _ _ _ _) [.bool m3, .slice o3 n3 c3] rfl
      have f3_3 := f3_2.setAll q3_2 (noWord2 _ _ _ _) [.bool m3, .slice o3 n3 c3] rfl
      have q1_3 := q1_2.farAll (g' := gq3) (by omega) [.bool m3, .slice o3 n3 c3]
      have q2_3 := q2_2.farAll (g' := gq3) (by omega) [.bool m3, .slice o3 n3 c3]
      have q3_3 := q3_2.setAll [.bool m3, .slice o3 n3 c3] rfl
      simp only [setAll, Nat.zero_add] at hB_3 pp_3 pa_3 pb_3 f1_3 f2_3 f3_3 q1_3 q2_3 q3_3
      clear sf6a sf6b sf6c sf6d sg6a sg6b
      clear hB_2 pp_2 pa_2 pb_2 f1_2 f2_2 f3_2 q1_2 q2_2 q3_2
      refine hK.out _ _ ⟨pp_3.c0, pp_3.c1, pa_3.c0, pa_3.c1, pb_3.c0, pb_3.c1⟩ (fun hHeld => ?_)
      clear hK K
      try simp only [Act.put]
      try simp only [List.setIfInBounds_toArray, List.set_cons_zero, List.set_cons_succ]
      generalize (World.setCell (World.setCell w11 ⟨gq3, 0, none⟩ (.bool m3)) ⟨gq3, 1, none⟩ (.slice o3 n3 c3)) = w12 at *
      refine wpAnyH_done (by kernel_rfl) ?_ _
      refine NoPanic.normal ?_
      obtain ⟨ppe0, ppe1, ppe2, ppe3⟩ := pp_3.open2
      obtain ⟨pae0, pae1, pae2, pae3⟩ := pa_3.open2
      obtain ⟨pbe0, pbe1, pbe2, pbe3⟩ := pb_3.open2
      obtain ⟨q1e0, q1e1, q1e2, q1e3⟩ := q1_3.open2
      obtain ⟨q2e0, q2e1, q2e2, q2e3⟩ := q2_3.open2
      obtain ⟨q3e0, q3e1, q3e2, q3e3⟩ := q3_3.open2
      go_wp2
      clear ppe0 ppe1 ppe2 ppe3 pae0 pae1 pae2 pae3 pbe0 pbe1 pbe2 pbe3 q1e0 q1e1 q1e2 q1e3 q2e0 q2e1 q2e2 q2e3 q3e0 q3e1 q3e2 q3e3
      have hWk_0 := Below.refl w12.heap.size w12
      have hsk : w.heap.size ≤ w12.heap.size := hB_3.size
      have hlkpp := pp_3.lt
      have hlkpa := pa_3.lt
      have hlkpb := pb_3.lt
      have hlkq1 := q1_3.lt
      have hlkq2 := q2_3.lt
      have hlkq3 := q3_3.lt
      have hB_4 := hB_3.drew'
      have pp_4 := pp_3.drew
      have pa_4 := pa_3.drew
      have pb_4 := pb_3.drew
      have f1_4 := f1_3.drew
      have f2_4 := f2_3.drew
      have f3_4 := f3_3.drew
      have q1_4 := q1_3.drew
      have q2_4 := q2_3.drew
      have q3_4 := q3_3.drew
      have hWk_1 := hWk_0.drew'
      clear hB_3 pp_3 pa_3 pb_3 f1_3 f2_3 f3_3 q1_3 q2_3 q3_3 hWk_0
      obtain ⟨FFk, hFFk⟩ : ∃ F : World → Prop, ∀ w', F w' ↔ (Below w.heap.size w w' ∧ Box w' (w.heap.size) [.int .i64 p0, .int .i64 p1] ∧ Box w' (w.heap.size + 1) [.int .i64 a0, .int .i64 a1] ∧ Box w' (w.heap.size + 1 + 1) [.int .i64 b0, .int .i64 b1] ∧ RNum w' (.agg #[.bool m1, .slice o1 n1 c1]) (5) (X) ∧ RNum w' (.agg #[.bool m2, .slice o2 n2 c2]) (5) (Y) ∧ RNum w' (.agg #[.bool m3, .slice o3 n3 c3]) (5) (Z) ∧ Box w' (gq1) [.bool m1, .slice o1 n1 c1] ∧ Box w' (gq2) [.bool m2, .slice o2 n2 c2] ∧ Box w' (gq3) [.bool m3, .slice o3 n3 c3] ∧ Below w12.heap.size w12 w') := ⟨_, fun _ => Iff.rfl⟩
      have cFk : ∀ {w' w'' : World}, FFk w' → Below w'.heap.size w' w'' → FFk w'' := by
        intro w' w'' h hb
        obtain ⟨y0, y1, y2, y3, y4, y5, y6, y7, y8, y9, y10⟩ := (hFFk _).1 h
        exact (hFFk _).2 ⟨y0.trans (hb.mono y0.size), y1.below hb, y2.below hb, y3.below hb, y4.below hb, y5.below hb, y6.below hb, y7.below hb, y8.below hb, y9.below hb, y10.trans (hb.mono y10.size)⟩
      have mFk : ∀ {w' : World}, FFk w' → w12.heap.size ≤ w'.heap.size := by
        intro w' h
        obtain ⟨y0, y1, y2, y3, y4, y5, y6, y7, y8, y9, y10⟩ := (hFFk _).1 h
        exact y10.size
      have sFk : ∀ {w' : World}, FFk w' → (w'.cell? ⟨gq1, 0, none⟩ = some (.bool m1) ∧ w'.cell? ⟨gq1, 1, none⟩ = some (.slice o1 n1 c1) ∧ w'.cell? ⟨gq2, 0, none⟩ = some (.bool m2) ∧ w'.cell? ⟨gq2, 1, none⟩ = some (.slice o2 n2 c2) ∧ w'.cell? ⟨gq3, 0, none⟩ = some (.bool m3) ∧ w'.cell? ⟨gq3, 1, none⟩ = some (.slice o3 n3 c3)) := by
        intro w' h
        obtain ⟨y0, y1, y2, y3, y4, y5, y6, y7, y8, y9, y10⟩ := (hFFk _).1 h
        exact ⟨y7.c0, y7.c1, y8.c0, y8.c1, y9.c0, y9.c1⟩
      have zF : FFk w12.drew := (hFFk _).2 ⟨hB_4, pp_4, pa_4, pb_4, f1_4, f2_4, f3_4, q1_4, q2_4, q3_4, hWk_1⟩
      clear hB_4 pp_4 pa_4 pb_4 f1_4 f2_4 f3_4 q1_4 q2_4 q3_4 hWk_1
      refine wp_region_noPanic ?_
      refine wp_region_held_drew (S := fun w' => w'.cell? ⟨gq1, 0, none⟩ = some (.bool m1) ∧ w'.cell? ⟨gq1, 1, none⟩ = some (.slice o1 n1 c1) ∧ w'.cell? ⟨gq2, 0, none⟩ = some (.bool m2) ∧ w'.cell? ⟨gq2, 1, none⟩ = some (.slice o2 n2 c2) ∧ w'.cell? ⟨gq3, 0, none⟩ = some (.bool m3) ∧ w'.cell? ⟨gq3, 1, none⟩ = some (.slice o3 n3 c3)) (by kernel_rfl) (sFk zF) (fun hHeld => ?_)
      refine reg_take 0 ?_ ?_ ?_ (by kernel_rfl) (by kernel_rfl) (by kernel_rfl) (fun _ _ _ h => h) ?_ ?_ (by assumption) ?_
      rotate_left 2
      · simp only [List.getElem?_toArray, List.getElem?_cons_zero]; exact rfl
      · rfl
      · intro w hSw; (try dsimp only at hSw); go_simp; try with_reducible rfl
      try simp only [Act.put]
      try simp only [List.setIfInBounds_toArray, List.set_cons_zero, List.set_cons_succ]
      refine reg_take 1 ?_ ?_ ?_ (by kernel_rfl) (by kernel_rfl) (by kernel_rfl) (fun _ _ _ h => h) ?_ ?_ (by assumption) ?_
      rotate_left 2
      · simp only [List.getElem?_toArray, List.getElem?_cons_succ, List.getElem?_cons_zero]; exact rfl
      · rfl
      · intro w hSw; (try dsimp only at hSw); go_simp; try with_reducible rfl
      try simp only [Act.put]
      try simp only [List.setIfInBounds_toArray, List.set_cons_zero, List.set_cons_succ]
      refine reg_take 3 ?_ ?_ ?_ (by kernel_rfl) (by kernel_rfl) (by kernel_rfl) (fun _ _ _ h => h) ?_ ?_ (by assumption) ?_
      rotate_left 2
      · simp only [List.getElem?_toArray, List.getElem?_cons_succ, List.getElem?_cons_zero]; exact rfl
      · rfl
      · intro w hSw; (try dsimp only at hSw); go_simp; try with_reducible rfl
      try simp only [Act.put]
      try simp only [List.setIfInBounds_toArray, List.set_cons_zero, List.set_cons_succ]
      refine reg_grab (fun WWk ak hWW hAA => ?_)
      rw [hWW]
      have HAk := Lib.hid hAA; clear hWW hAA hHeld
      obtain ⟨IVk, hIVk⟩ : ∃ IV : Array Bool → Act → World → Prop, ∀ l a w', IV l a w' ↔ ∃ (k : Nat) (bb0 : Bool) (v0_ v1_ p0_ : Value) (gq5 : Nat), k ≤ 2 ∧ l = #[true, true, decide (1 ≤ k), true, decide (2 ≤ k), bb0, false] ∧ a = (((ak.put (some 31) v0_).put (some 33) v1_).put (some 10) p0_) ∧ FFk w' ∧ (1 ≤ k → RNum w' v0_ (6) (Z - X)) ∧ (2 ≤ k → RNum w' v1_ (7) (Z - X - Y)) ∧ (bb0 = true → p0_ = .pointer (some ⟨gq5, 0, none⟩) ∧ Box w' gq5 [.bool false, .slice none 0 0] ∧ w12.heap.size ≤ gq5) := ⟨_, fun _ _ _ => Iff.rfl⟩
      refine wpAnyH_until IVk ?_ _ _ _ _ ((hIVk _ _ _).2 ⟨0, false, (ak.tmps.getD 31 undef), (ak.tmps.getD 33 undef), (ak.tmps.getD 10 undef), 0, Nat.zero_le _, rfl, (by simp only [put_same]), zF, (fun h => absurd h (by omega)), (fun h => absurd h (by omega)), (fun h => by cases h)⟩) (by kernel_rfl)
      clear zF
      intro ll aa w13 hI
      obtain ⟨k, bb0, v0_, v1_, p0_, gq5, hk, rfl, rfl, zF, rr1, rr2, zz0⟩ := (hIVk _ _ _).1 hI
      clear hI
      by_cases hL : k = 2 ∧ bb0 = true
      · left
        obtain ⟨rfl, rfl⟩ := hL
        have f4_0 := rr1 (by omega)
        obtain ⟨m4, o4, n4, c4, rfl⟩ := f4_0.shape
        have f5_0 := rr2 (by omega)
        obtain ⟨m5, o5, n5, c5, rfl⟩ := f5_0.shape
        obtain ⟨rfl, q5_0, hgq5⟩ := zz0 rfl
        clear hk rr1 rr2 zz0
        show wpAnyH _ _ _ _ _ 1 _ _ _
        rw [HAk.out]
        try simp only [Act.put]
        try simp only [List.setIfInBounds_toArray, List.set_cons_zero, List.set_cons_succ]
        obtain ⟨hB_0, pp_0, pa_0, pb_0, f1_0, f2_0, f3_0, q1_0, q2_0, q3_0, hWk_0⟩ := (hFFk _).1 zF
        clear zF
        clear hWk_0
        obtain ⟨sf7a, sf7b, sf7c, sf7d⟩ := q5_0.open2
        obtain ⟨sg7a, sg7b⟩ := Box.put2 q5_0 (.bool m5)
        refine reg_call 6 ?_ (by kernel_rfl) ?_ (fun K hK => ?_)
        rotate_left 1
        · simp only [List.getElem?_toArray, List.getElem?_cons_succ, List.getElem?_cons_zero]; exact rfl
        go_simp
        have hB_1 := below_setAll hB_0 (g := gq5) (by omega) [.bool m5, .slice o5 n5 c5]
        have pp_1 := pp_0.farAll (g' := gq5) (by omega) [.bool m5, .slice o5 n5 c5]
        have pa_1 := pa_0.farAll (g' := gq5) (by omega) [.bool m5, .slice o5 n5 c5]
        have pb_1 := pb_0.farAll (g' := gq5) (by omega) [.bool m5, .slice o5 n5 c5]
        have f1_1 := f1_0.setAll q5_0 (noWord2 _ _ _ _) [.bool m5, .slice o5 n5 c5] rfl
        have f2_1 := f2_0.setAll q5_0 (noWord2 _ _ _ _) [.bool m5, .slice o5 n5 c5] rfl
        have f3_1 := f3_0.setAll q5_0 (noWord2 _ _ _ _) [.bool m5, .slice o5 n5 c5] rfl
        have q1_1 := q1_0.farAll (g' := gq5) (by omega) [.bool m5, .slice o5 n5 c5]
        have q2_1 := q2_0.farAll (g' := gq5) (by omega) [.bool m5, .slice o5 n5 c5]
        have q3_1 := q3_0.farAll (g' := gq5) (by omega) [.bool m5, .slice o5 n5 c5]
        have f4_1 := f4_0.setAll q5_0 (noWord2 _ _ _ _) [.bool m5, .slice o5 n5 c5] rfl
        have f5_1 := f5_0.setAll q5_0 (noWord2 _ _ _ _) [.bool m5, .slice o5 n5 c5] rfl
        have q5_1 := q5_0.setAll [.bool m5, .slice o5 n5 c5] rfl
        simp only [setAll, Nat.zero_add] at hB_1 pp_1 pa_1 pb_1 f1_1 f2_1 f3_1 q1_1 q2_1 q3_1 f4_1 f5_1 q5_1
        clear sf7a sf7b sf7c sf7d sg7a sg7b
        clear hB_0 pp_0 pa_0 pb_0 f1_0 f2_0 f3_0 q1_0 q2_0 q3_0 f4_0 f5_0 q5_0
        refine hK.out _ _ ⟨q1_1.c0, q1_1.c1, q2_1.c0, q2_1.c1, q3_1.c0, q3_1.c1⟩ (fun hHeld => ?_)
        clear hK K
        try simp only [Act.put]
        try simp only [List.setIfInBounds_toArray, List.set_cons_zero, List.set_cons_succ]
        generalize (World.setCell (World.setCell w13 ⟨gq5, 0, none⟩ (.bool m5)) ⟨gq5, 1, none⟩ (.slice o5 n5 c5)) = w14 at *
        refine wpAnyH_done (by kernel_rfl) ?_ _
        refine NoPanic.normal ?_
        clear f4_1
        rw [E1.out] at f5_1
        obtain ⟨ppe0, ppe1, ppe2, ppe3⟩ := pp_1.open2
        obtain ⟨pae0, pae1, pae2, pae3⟩ := pa_1.open2
        obtain ⟨pbe0, pbe1, pbe2, pbe3⟩ := pb_1.open2
        obtain ⟨q1e0, q1e1, q1e2, q1e3⟩ := q1_1.open2
        obtain ⟨q2e0, q2e1, q2e2, q2e3⟩ := q2_1.open2
        obtain ⟨q3e0, q3e1, q3e2, q3e3⟩ := q3_1.open2
        obtain ⟨q5e0, q5e1, q5e2, q5e3⟩ := q5_1.open2
        have g1 := G1.out
        go_wp2
        have g2 := G2.out; have g3 := G3.out
        clear ppe0 ppe1 ppe2 ppe3 pae0 pae1 pae2 pae3 pbe0 pbe1 pbe2 pbe3 q1e0 q1e1 q1e2 q1e3 q2e0 q2e1 q2e2 q2e3 q3e0 q3e1 q3e2 q3e3 q5e0 q5e1 q5e2 q5e3
        have hB_2 := hB_1.drew'
        have pp_2 := pp_1.drew
        have pa_2 := pa_1.drew
        have pb_2 := pb_1.drew
        have f1_2 := f1_1.drew
        have f2_2 := f2_1.drew
        have f3_2 := f3_1.drew
        have q1_2 := q1_1.drew
        have q2_2 := q2_1.drew
        have q3_2 := q3_1.drew
        have f5_2 := f5_1.drew
        have q5_2 := q5_1.drew
        clear hB_1 pp_1 pa_1 pb_1 f1_1 f2_1 f3_1 q1_1 q2_1 q3_1 f5_1 q5_1
        go_region_held3 (fun w' => w'.cell? ⟨gq1, 0, none⟩ = some (.bool m1) ∧ w'.cell? ⟨gq1, 1, none⟩ = some (.slice o1 n1 c1) ∧ w'.cell? ⟨gq2, 0, none⟩ = some (.bool m2) ∧ w'.cell? ⟨gq2, 1, none⟩ = some (.slice o2 n2 c2) ∧ w'.cell? ⟨gq5, 0, none⟩ = some (.bool m5) ∧ w'.cell? ⟨gq5, 1, none⟩ = some (.slice o5 n5 c5))
          (first | with_reducible exact ⟨q1_2.c0, q1_2.c1, q2_2.c0, q2_2.c1, q5_2.c0, q5_2.c1⟩ | with_reducible exact ⟨q1_3.c0, q1_3.c1, q2_3.c0, q2_3.c1, q5_3.c0, q5_3.c1⟩ | with_reducible exact ⟨q1_4.c0, q1_4.c1, q2_4.c0, q2_4.c1, q5_4.c0, q5_4.c1⟩ | with_reducible exact ⟨q1_5.c0, q1_5.c1, q2_5.c0, q2_5.c1, q5_5.c0, q5_5.c1⟩ | with_reducible exact ⟨q1_6.c0, q1_6.c1, q2_6.c0, q2_6.c1, q5_6.c0, q5_6.c1⟩ | with_reducible exact ⟨q1_7.c0, q1_7.c1, q2_7.c0, q2_7.c1, q5_7.c0, q5_7.c1⟩ | with_reducible exact ⟨q1_8.c0, q1_8.c1, q2_8.c0, q2_8.c1, q5_8.c0, q5_8.c1⟩ | fail)
          (first
            | (go_at_call 16; (with_reducible refine (Sign_named _ 7 D s _ (by omega) f5_2.num HS.out).mono ?_); rintro e w15 ⟨rfl, hb15⟩; have hB_3 := hB_2.trans (hb15.mono hB_2.size); have pp_3 := pp_2.below hb15; have pa_3 := pa_2.below hb15; have pb_3 := pb_2.below hb15; have f1_3 := f1_2.below hb15; have f2_3 := f2_2.below hb15; have f3_3 := f3_2.below hb15; have q1_3 := q1_2.below hb15; have q2_3 := q2_2.below hb15; have q3_3 := q3_2.below hb15; have f5_3 := f5_2.below hb15; have q5_3 := q5_2.below hb15; clear hb15 hB_2 pp_2 pa_2 pb_2 f1_2 f2_2 f3_2 q1_2 q2_2 q3_2 f5_2 q5_2)
            | (go_at_call 21; (with_reducible refine (nMul_any _ _ 7 7 _ _ _ (by omega) (by omega) f5_3.num f5_3.num).mono ?_); rintro e w16 ⟨m6, o6, n6, c6, rfl, f6_0, hb16⟩; have hB_4 := hB_3.trans (hb16.mono hB_3.size); have pp_4 := pp_3.below hb16; have pa_4 := pa_3.below hb16; have pb_4 := pb_3.below hb16; have f1_4 := f1_3.below hb16; have f2_4 := f2_3.below hb16; have f3_4 := f3_3.below hb16; have q1_4 := q1_3.below hb16; have q2_4 := q2_3.below hb16; have q3_4 := q3_3.below hb16; have f5_4 := f5_3.below hb16; have q5_4 := q5_3.below hb16; clear hb16 hB_3 pp_3 pa_3 pb_3 f1_3 f2_3 f3_3 q1_3 q2_3 q3_3 f5_3 q5_3)
            | (go_at_call 22; (with_reducible refine (nOf_any 4 (by omega) (by omega) _).mono ?_); rintro e w17 ⟨m7, o7, n7, c7, rfl, f7_0, hb17⟩; have hB_5 := hB_4.trans (hb17.mono hB_4.size); have pp_5 := pp_4.below hb17; have pa_5 := pa_4.below hb17; have pb_5 := pb_4.below hb17; have f1_5 := f1_4.below hb17; have f2_5 := f2_4.below hb17; have f3_5 := f3_4.below hb17; have q1_5 := q1_4.below hb17; have q2_5 := q2_4.below hb17; have q3_5 := q3_4.below hb17; have f5_5 := f5_4.below hb17; have q5_5 := q5_4.below hb17; have f6_1 := f6_0.below hb17; clear hb17 hB_4 pp_4 pa_4 pb_4 f1_4 f2_4 f3_4 q1_4 q2_4 q3_4 f5_4 q5_4 f6_0)
            | (go_at_call 21; (with_reducible refine (nMul_any _ _ 5 5 _ _ _ (by omega) (by omega) f1_5.num f2_5.num).mono ?_); rintro e w18 ⟨m8, o8, n8, c8, rfl, f8_0, hb18⟩; have hB_6 := hB_5.trans (hb18.mono hB_5.size); have pp_6 := pp_5.below hb18; have pa_6 := pa_5.below hb18; have pb_6 := pb_5.below hb18; have f1_6 := f1_5.below hb18; have f2_6 := f2_5.below hb18; have f3_6 := f3_5.below hb18; have q1_6 := q1_5.below hb18; have q2_6 := q2_5.below hb18; have q3_6 := q3_5.below hb18; have f5_6 := f5_5.below hb18; have q5_6 := q5_5.below hb18; have f6_2 := f6_1.below hb18; have f7_1 := f7_0.below hb18; clear hb18 hB_5 pp_5 pa_5 pb_5 f1_5 f2_5 f3_5 q1_5 q2_5 q3_5 f5_5 q5_5 f6_1 f7_0)
            | (go_at_call 21; (with_reducible refine (nMul_any _ _ 1 10 _ _ _ (by omega) (by omega) f7_1.num f8_0.num).mono ?_); rintro e w19 ⟨m9, o9, n9, c9, rfl, f9_0, hb19⟩; have hB_7 := hB_6.trans (hb19.mono hB_6.size); have pp_7 := pp_6.below hb19; have pa_7 := pa_6.below hb19; have pb_7 := pb_6.below hb19; have f1_7 := f1_6.below hb19; have f2_7 := f2_6.below hb19; have f3_7 := f3_6.below hb19; have q1_7 := q1_6.below hb19; have q2_7 := q2_6.below hb19; have q3_7 := q3_6.below hb19; have f5_7 := f5_6.below hb19; have q5_7 := q5_6.below hb19; have f6_3 := f6_2.below hb19; have f7_2 := f7_1.below hb19; have f8_1 := f8_0.below hb19; clear hb19 hB_6 pp_6 pa_6 pb_6 f1_6 f2_6 f3_6 q1_6 q2_6 q3_6 f5_6 q5_6 f6_2 f7_1 f8_0)
            | (go_at_call 13; (with_reducible refine (Cmp_named _ _ 14 11 _ _ c _ (by omega) (by omega) f6_3.num f9_0.num HC.out).mono ?_); rintro e w20 ⟨rfl, hb20⟩; have hB_8 := hB_7.trans (hb20.mono hB_7.size); have pp_8 := pp_7.below hb20; have pa_8 := pa_7.below hb20; have pb_8 := pb_7.below hb20; have f1_8 := f1_7.below hb20; have f2_8 := f2_7.below hb20; have f3_8 := f3_7.below hb20; have q1_8 := q1_7.below hb20; have q2_8 := q2_7.below hb20; have q3_8 := q3_7.below hb20; have f5_8 := f5_7.below hb20; have q5_8 := q5_7.below hb20; have f6_4 := f6_3.below hb20; have f7_3 := f7_2.below hb20; have f8_2 := f8_1.below hb20; have f9_1 := f9_0.below hb20; clear hb20 hB_7 pp_7 pa_7 pb_7 f1_7 f2_7 f3_7 q1_7 q2_7 q3_7 f5_7 q5_7 f6_3 f7_2 f8_1 f9_0))
        clear f6_4
        clear f7_3
        clear f8_2
        clear f9_1
        obtain ⟨ppe0, ppe1, ppe2, ppe3⟩ := pp_8.open2
        obtain ⟨pae0, pae1, pae2, pae3⟩ := pa_8.open2
        obtain ⟨pbe0, pbe1, pbe2, pbe3⟩ := pb_8.open2
        obtain ⟨q1e0, q1e1, q1e2, q1e3⟩ := q1_8.open2
        obtain ⟨q2e0, q2e1, q2e2, q2e3⟩ := q2_8.open2
        obtain ⟨q3e0, q3e1, q3e2, q3e3⟩ := q3_8.open2
        go_wp2
        clear ppe0 ppe1 ppe2 ppe3 pae0 pae1 pae2 pae3 pbe0 pbe1 pbe2 pbe3 q1e0 q1e1 q1e2 q1e3 q2e0 q2e1 q2e2 q2e3 q3e0 q3e1 q3e2 q3e3
        have hB_9 := hB_8.drew'
        have pp_9 := pp_8.drew
        have pa_9 := pa_8.drew
        have pb_9 := pb_8.drew
        have f1_9 := f1_8.drew
        have f2_9 := f2_8.drew
        have f3_9 := f3_8.drew
        have q1_9 := q1_8.drew
        have q2_9 := q2_8.drew
        have q3_9 := q3_8.drew
        have f5_9 := f5_8.drew
        have q5_9 := q5_8.drew
        refine wp_region_noPanic ?_
        refine wp_region_held_drew (S := fun w' => w'.cell? ⟨w.heap.size, 0, none⟩ = some (.int .i64 p0) ∧ w'.cell? ⟨w.heap.size, 1, none⟩ = some (.int .i64 p1) ∧ w'.cell? ⟨w.heap.size + 1, 0, none⟩ = some (.int .i64 a0) ∧ w'.cell? ⟨w.heap.size + 1, 1, none⟩ = some (.int .i64 a1) ∧ w'.cell? ⟨w.heap.size + 1 + 1, 0, none⟩ = some (.int .i64 b0) ∧ w'.cell? ⟨w.heap.size + 1 + 1, 1, none⟩ = some (.int .i64 b1) ∧ w'.cell? ⟨gq3, 0, none⟩ = some (.bool m3) ∧ w'.cell? ⟨gq3, 1, none⟩ = some (.slice o3 n3 c3)) (by kernel_rfl) (⟨pp_9.c0, pp_9.c1, pa_9.c0, pa_9.c1, pb_9.c0, pb_9.c1, q3_9.c0, q3_9.c1⟩) (fun hHeld => ?_)
        refine reg_take 0 ?_ ?_ ?_ (by kernel_rfl) (by kernel_rfl) (by kernel_rfl) (fun _ _ _ h => h) ?_ ?_ (by assumption) ?_
        rotate_left 2
        · simp only [List.getElem?_toArray, List.getElem?_cons_zero]; exact rfl
        · rfl
        · intro w hSw; (try dsimp only at hSw); go_simp; try with_reducible rfl
        try simp only [Act.put]
        try simp only [List.setIfInBounds_toArray, List.set_cons_zero, List.set_cons_succ]
        refine reg_take 1 ?_ ?_ ?_ (by kernel_rfl) (by kernel_rfl) (by kernel_rfl) (fun _ _ _ h => h) ?_ ?_ (by assumption) ?_
        rotate_left 2
        · simp only [List.getElem?_toArray, List.getElem?_cons_succ, List.getElem?_cons_zero]; exact rfl
        · rfl
        · intro w hSw; (try dsimp only at hSw); go_simp; try with_reducible rfl
        try simp only [Act.put]
        try simp only [List.setIfInBounds_toArray, List.set_cons_zero, List.set_cons_succ]
        refine reg_take 2 ?_ ?_ ?_ (by kernel_rfl) (by kernel_rfl) (by kernel_rfl) (fun _ _ _ h => h) ?_ ?_ (by assumption) ?_
        rotate_left 2
        · simp only [List.getElem?_toArray, List.getElem?_cons_succ, List.getElem?_cons_zero]; exact rfl
        · rfl
        · intro w hSw; (try dsimp only at hSw); go_simp; try with_reducible rfl
        try simp only [Act.put]
        try simp only [List.setIfInBounds_toArray, List.set_cons_zero, List.set_cons_succ]
        refine reg_take 4 ?_ ?_ ?_ (by kernel_rfl) (by kernel_rfl) (by kernel_rfl) (fun _ _ _ h => h) ?_ ?_ (by assumption) ?_
        rotate_left 2
        · simp only [List.getElem?_toArray, List.getElem?_cons_succ, List.getElem?_cons_zero]; exact rfl
        · rfl
        · intro w hSw; (try dsimp only at hSw); go_simp; try with_reducible rfl
        try simp only [Act.put]
        try simp only [List.setIfInBounds_toArray, List.set_cons_zero, List.set_cons_succ]
        refine reg_call 3 ?_ (by kernel_rfl) ?_ (fun K hK => ?_)
        rotate_left 1
        · simp only [List.getElem?_toArray, List.getElem?_cons_succ, List.getElem?_cons_zero]; exact rfl
        go_simp
        refine (K5.out _).mono ?_
        rintro e w21 ⟨rfl, hb21⟩
        have hB_10 := hB_9.trans (hb21.mono hB_9.size)
        have pp_10 := pp_9.below hb21
        have pa_10 := pa_9.below hb21
        have pb_10 := pb_9.below hb21
        have f1_10 := f1_9.below hb21
        have f2_10 := f2_9.below hb21
        have f3_10 := f3_9.below hb21
        have q1_10 := q1_9.below hb21
        have q2_10 := q2_9.below hb21
        have q3_10 := q3_9.below hb21
        have f5_10 := f5_9.below hb21
        have q5_10 := q5_9.below hb21
        clear hb21 hB_9 pp_9 pa_9 pb_9 f1_9 f2_9 f3_9 q1_9 q2_9 q3_9 f5_9 q5_9
        go_wp2_with fail
        refine hK.out _ _ ⟨pp_10.c0, pp_10.c1, pa_10.c0, pa_10.c1, pb_10.c0, pb_10.c1, q3_10.c0, q3_10.c1⟩ (fun hHeld => ?_)
        clear hK K
        try simp only [Act.put]
        try simp only [List.setIfInBounds_toArray, List.set_cons_zero, List.set_cons_succ]
        refine reg_take 5 ?_ ?_ ?_ (by kernel_rfl) (by kernel_rfl) (by kernel_rfl) (fun _ _ _ h => h) ?_ ?_ (by assumption) ?_
        rotate_left 2
        · simp only [List.getElem?_toArray, List.getElem?_cons_succ, List.getElem?_cons_zero]; exact rfl
        · rfl
        · intro w hSw; (try dsimp only at hSw); go_simp; try with_reducible rfl
        try simp only [Act.put]
        try simp only [List.setIfInBounds_toArray, List.set_cons_zero, List.set_cons_succ]
        refine reg_take 6 ?_ ?_ ?_ (by kernel_rfl) (by kernel_rfl) (by kernel_rfl) (fun _ _ _ h => h) ?_ ?_ (by assumption) ?_
        rotate_left 2
        · simp only [List.getElem?_toArray, List.getElem?_cons_succ, List.getElem?_cons_zero]; exact rfl
        · rfl
        · intro w hSw; (try dsimp only at hSw); go_simp; try with_reducible rfl
        try simp only [Act.put]
        try simp only [List.setIfInBounds_toArray, List.set_cons_zero, List.set_cons_succ]
        refine reg_take 7 ?_ ?_ ?_ (by kernel_rfl) (by kernel_rfl) (by kernel_rfl) (fun _ _ _ h => h) ?_ ?_ (by assumption) ?_
        rotate_left 2
        · simp only [List.getElem?_toArray, List.getElem?_cons_succ, List.getElem?_cons_zero]; exact rfl
        · rfl
        · intro w hSw; (try dsimp only at hSw); go_simp; try with_reducible rfl
        try simp only [Act.put]
        try simp only [List.setIfInBounds_toArray, List.set_cons_zero, List.set_cons_succ]
        refine reg_take 8 ?_ ?_ ?_ (by kernel_rfl) (by kernel_rfl) (by kernel_rfl) (fun _ _ _ h => h) ?_ ?_ (by assumption) ?_
        rotate_left 2
        · simp only [List.getElem?_toArray, List.getElem?_cons_succ, List.getElem?_cons_zero]; exact rfl
        · rfl
        · intro w hSw; (try dsimp only at hSw); go_simp; try with_reducible rfl
        try simp only [Act.put]
        try simp only [List.setIfInBounds_toArray, List.set_cons_zero, List.set_cons_succ]
        refine reg_take 9 ?_ ?_ ?_ (by kernel_rfl) (by kernel_rfl) (by kernel_rfl) (fun _ _ _ h => h) ?_ ?_ (by assumption) ?_
        rotate_left 2
        · simp only [List.getElem?_toArray, List.getElem?_cons_succ, List.getElem?_cons_zero]; exact rfl
        · rfl
        · intro w hSw; (try dsimp only at hSw); go_simp; try with_reducible rfl
        try simp only [Act.put]
        try simp only [List.setIfInBounds_toArray, List.set_cons_zero, List.set_cons_succ]
        refine reg_take 11 ?_ ?_ ?_ (by kernel_rfl) (by kernel_rfl) (by kernel_rfl) (fun _ _ _ h => h) ?_ ?_ (by assumption) ?_
        rotate_left 2
        · simp only [List.getElem?_toArray, List.getElem?_cons_succ, List.getElem?_cons_zero]; exact rfl
        · rfl
        · intro w hSw; (try dsimp only at hSw); go_simp; try with_reducible rfl
        try simp only [Act.put]
        try simp only [List.setIfInBounds_toArray, List.set_cons_zero, List.set_cons_succ]
        refine reg_call 10 ?_ (by kernel_rfl) ?_ (fun K hK => ?_)
        rotate_left 1
        · simp only [List.getElem?_toArray, List.getElem?_cons_succ, List.getElem?_cons_zero]; exact rfl
        go_simp
        refine (K6.out _).mono ?_
        rintro e w22 ⟨rfl, hb22⟩
        have hB_11 := hB_10.trans (hb22.mono hB_10.size)
        have pp_11 := pp_10.below hb22
        have pa_11 := pa_10.below hb22
        have pb_11 := pb_10.below hb22
        have f1_11 := f1_10.below hb22
        have f2_11 := f2_10.below hb22
        have f3_11 := f3_10.below hb22
        have q1_11 := q1_10.below hb22
        have q2_11 := q2_10.below hb22
        have q3_11 := q3_10.below hb22
        have f5_11 := f5_10.below hb22
        have q5_11 := q5_10.below hb22
        clear hb22 hB_10 pp_10 pa_10 pb_10 f1_10 f2_10 f3_10 q1_10 q2_10 q3_10 f5_10 q5_10
        go_wp2_with fail
        refine hK.out _ _ ⟨pp_11.c0, pp_11.c1, pa_11.c0, pa_11.c1, pb_11.c0, pb_11.c1, q3_11.c0, q3_11.c1⟩ (fun hHeld => ?_)
        clear hK K
        try simp only [Act.put]
        try simp only [List.setIfInBounds_toArray, List.set_cons_zero, List.set_cons_succ]
        refine reg_take 12 ?_ ?_ ?_ (by kernel_rfl) (by kernel_rfl) (by kernel_rfl) (fun _ _ _ h => h) ?_ ?_ (by assumption) ?_
        rotate_left 2
        · simp only [List.getElem?_toArray, List.getElem?_cons_succ, List.getElem?_cons_zero]; exact rfl
        · rfl
        · intro w hSw; (try dsimp only at hSw); go_simp; try with_reducible rfl
        try simp only [Act.put]
        try simp only [List.setIfInBounds_toArray, List.set_cons_zero, List.set_cons_succ]
        refine reg_take 13 ?_ ?_ ?_ (by kernel_rfl) (by kernel_rfl) (by kernel_rfl) (fun _ _ _ h => h) ?_ ?_ (by assumption) ?_
        rotate_left 2
        · simp only [List.getElem?_toArray, List.getElem?_cons_succ, List.getElem?_cons_zero]; exact rfl
        · rfl
        · intro w hSw; (try dsimp only at hSw); go_simp; try with_reducible rfl
        try simp only [Act.put]
        try simp only [List.setIfInBounds_toArray, List.set_cons_zero, List.set_cons_succ]
        refine reg_take 14 ?_ ?_ ?_ (by kernel_rfl) (by kernel_rfl) (by kernel_rfl) (fun _ _ _ h => h) ?_ ?_ (by assumption) ?_
        rotate_left 2
        · simp only [List.getElem?_toArray, List.getElem?_cons_succ, List.getElem?_cons_zero]; exact rfl
        · rfl
        · intro w hSw; (try dsimp only at hSw); go_simp; try with_reducible rfl
        try simp only [Act.put]
        try simp only [List.setIfInBounds_toArray, List.set_cons_zero, List.set_cons_succ]
        refine reg_take 15 ?_ ?_ ?_ (by kernel_rfl) (by kernel_rfl) (by kernel_rfl) (fun _ _ _ h => h) ?_ ?_ (by assumption) ?_
        rotate_left 2
        · simp only [List.getElem?_toArray, List.getElem?_cons_succ, List.getElem?_cons_zero]; exact rfl
        · rfl
        · intro w hSw; (try dsimp only at hSw); go_simp; try with_reducible rfl
        try simp only [Act.put]
        try simp only [List.setIfInBounds_toArray, List.set_cons_zero, List.set_cons_succ]
        refine reg_take 16 ?_ ?_ ?_ (by kernel_rfl) (by kernel_rfl) (by kernel_rfl) (fun _ _ _ h => h) ?_ ?_ (by assumption) ?_
        rotate_left 2
        · simp only [List.getElem?_toArray, List.getElem?_cons_succ, List.getElem?_cons_zero]; exact rfl
        · rfl
        · intro w hSw; (try dsimp only at hSw); go_simp; try with_reducible rfl
        try simp only [Act.put]
        try simp only [List.setIfInBounds_toArray, List.set_cons_zero, List.set_cons_succ]
        refine reg_take 17 ?_ ?_ ?_ (by kernel_rfl) (by kernel_rfl) (by kernel_rfl) (fun _ _ _ h => h) ?_ ?_ (by assumption) ?_
        rotate_left 2
        · simp only [List.getElem?_toArray, List.getElem?_cons_succ, List.getElem?_cons_zero]; exact rfl
        · rfl
        · intro w hSw; (try dsimp only at hSw); go_simp; try with_reducible rfl
        try simp only [Act.put]
        try simp only [List.setIfInBounds_toArray, List.set_cons_zero, List.set_cons_succ]
        refine reg_take 19 ?_ ?_ ?_ (by kernel_rfl) (by kernel_rfl) (by kernel_rfl) (fun _ _ _ h => h) ?_ ?_ (by assumption) ?_
        rotate_left 2
        · simp only [List.getElem?_toArray, List.getElem?_cons_succ, List.getElem?_cons_zero]; exact rfl
        · rfl
        · intro w hSw; (try dsimp only at hSw); go_simp; try with_reducible rfl
        try simp only [Act.put]
        try simp only [List.setIfInBounds_toArray, List.set_cons_zero, List.set_cons_succ]
        refine reg_call 18 ?_ (by kernel_rfl) ?_ (fun K hK => ?_)
        rotate_left 1
        · simp only [List.getElem?_toArray, List.getElem?_cons_succ, List.getElem?_cons_zero]; exact rfl
        go_simp
        refine (K7.out _).mono ?_
        rintro e w23 ⟨rfl, hb23⟩
        have hB_12 := hB_11.trans (hb23.mono hB_11.size)
        have pp_12 := pp_11.below hb23
        have pa_12 := pa_11.below hb23
        have pb_12 := pb_11.below hb23
        have f1_12 := f1_11.below hb23
        have f2_12 := f2_11.below hb23
        have f3_12 := f3_11.below hb23
        have q1_12 := q1_11.below hb23
        have q2_12 := q2_11.below hb23
        have q3_12 := q3_11.below hb23
        have f5_12 := f5_11.below hb23
        have q5_12 := q5_11.below hb23
        clear hb23 hB_11 pp_11 pa_11 pb_11 f1_11 f2_11 f3_11 q1_11 q2_11 q3_11 f5_11 q5_11
        go_wp2_with fail
        refine hK.out _ _ ⟨pp_12.c0, pp_12.c1, pa_12.c0, pa_12.c1, pb_12.c0, pb_12.c1, q3_12.c0, q3_12.c1⟩ (fun hHeld => ?_)
        clear hK K
        try simp only [Act.put]
        try simp only [List.setIfInBounds_toArray, List.set_cons_zero, List.set_cons_succ]
        refine reg_take 20 ?_ ?_ ?_ (by kernel_rfl) (by kernel_rfl) (by kernel_rfl) (fun _ _ _ h => h) ?_ ?_ (by assumption) ?_
        rotate_left 2
        · simp only [List.getElem?_toArray, List.getElem?_cons_succ, List.getElem?_cons_zero]; exact rfl
        · rfl
        · intro w hSw; (try dsimp only at hSw); go_simp; try with_reducible rfl
        try simp only [Act.put]
        try simp only [List.setIfInBounds_toArray, List.set_cons_zero, List.set_cons_succ]
        refine reg_skip 21 ?_ ?_ (by kernel_rfl) (by kernel_rfl) (by kernel_rfl) (fun _ _ _ h => h) ?_ (by assumption) ?_
        rotate_left 1
        · simp only [List.getElem?_toArray, List.getElem?_cons_succ, List.getElem?_cons_zero]; exact rfl
        · rfl
        try simp only [Act.put]
        try simp only [List.setIfInBounds_toArray, List.set_cons_zero, List.set_cons_succ]
        refine reg_skip 22 ?_ ?_ (by kernel_rfl) (by kernel_rfl) (by kernel_rfl) (fun _ _ _ h => h) ?_ (by assumption) ?_
        rotate_left 1
        · simp only [List.getElem?_toArray, List.getElem?_cons_succ, List.getElem?_cons_zero]; exact rfl
        · rfl
        try simp only [Act.put]
        try simp only [List.setIfInBounds_toArray, List.set_cons_zero, List.set_cons_succ]
        refine reg_skip 23 ?_ ?_ (by kernel_rfl) (by kernel_rfl) (by kernel_rfl) (fun _ _ _ h => h) ?_ (by assumption) ?_
        rotate_left 1
        · simp only [List.getElem?_toArray, List.getElem?_cons_succ, List.getElem?_cons_zero]; exact rfl
        · rfl
        try simp only [Act.put]
        try simp only [List.setIfInBounds_toArray, List.set_cons_zero, List.set_cons_succ]
        refine reg_take 24 ?_ ?_ ?_ (by kernel_rfl) (by kernel_rfl) (by kernel_rfl) (fun _ _ _ h => h) ?_ ?_ (by assumption) ?_
        rotate_left 2
        · simp only [List.getElem?_toArray, List.getElem?_cons_succ, List.getElem?_cons_zero]; exact rfl
        · rfl
        · intro w hSw; (try dsimp only at hSw); go_simp; try with_reducible rfl
        try simp only [Act.put]
        try simp only [List.setIfInBounds_toArray, List.set_cons_zero, List.set_cons_succ]
        refine reg_take 25 ?_ ?_ ?_ (by kernel_rfl) (by kernel_rfl) (by kernel_rfl) (fun _ _ _ h => h) ?_ ?_ (by assumption) ?_
        rotate_left 2
        · simp only [List.getElem?_toArray, List.getElem?_cons_succ, List.getElem?_cons_zero]; exact rfl
        · rfl
        · intro w hSw; (try dsimp only at hSw); go_simp; try with_reducible rfl
        try simp only [Act.put]
        try simp only [List.setIfInBounds_toArray, List.set_cons_zero, List.set_cons_succ]
        refine reg_skip 26 ?_ ?_ (by kernel_rfl) (by kernel_rfl) (by kernel_rfl) (fun _ _ _ h => h) ?_ (by assumption) ?_
        rotate_left 1
        · simp only [List.getElem?_toArray, List.getElem?_cons_succ, List.getElem?_cons_zero]; exact rfl
        · rfl
        try simp only [Act.put]
        try simp only [List.setIfInBounds_toArray, List.set_cons_zero, List.set_cons_succ]
        refine reg_skip 27 ?_ ?_ (by kernel_rfl) (by kernel_rfl) (by kernel_rfl) (fun _ _ _ h => h) ?_ (by assumption) ?_
        rotate_left 1
        · simp only [List.getElem?_toArray, List.getElem?_cons_succ, List.getElem?_cons_zero]; exact rfl
        · rfl
        try simp only [Act.put]
        try simp only [List.setIfInBounds_toArray, List.set_cons_zero, List.set_cons_succ]
        refine reg_skip 28 ?_ ?_ (by kernel_rfl) (by kernel_rfl) (by kernel_rfl) (fun _ _ _ h => h) ?_ (by assumption) ?_
        rotate_left 1
        · simp only [List.getElem?_toArray, List.getElem?_cons_succ, List.getElem?_cons_zero]; exact rfl
        · rfl
        try simp only [Act.put]
        try simp only [List.setIfInBounds_toArray, List.set_cons_zero, List.set_cons_succ]
        refine reg_take 29 ?_ ?_ ?_ (by kernel_rfl) (by kernel_rfl) (by kernel_rfl) (fun _ _ _ h => h) ?_ ?_ (by assumption) ?_
        rotate_left 2
        · simp only [List.getElem?_toArray, List.getElem?_cons_succ, List.getElem?_cons_zero]; exact rfl
        · rfl
        · intro w hSw; (try dsimp only at hSw); go_simp; try with_reducible rfl
        try simp only [Act.put]
        try simp only [List.setIfInBounds_toArray, List.set_cons_zero, List.set_cons_succ]
        refine reg_take 30 ?_ ?_ ?_ (by kernel_rfl) (by kernel_rfl) (by kernel_rfl) (fun _ _ _ h => h) ?_ ?_ (by assumption) ?_
        rotate_left 2
        · simp only [List.getElem?_toArray, List.getElem?_cons_succ, List.getElem?_cons_zero]; exact rfl
        · rfl
        · intro w hSw; (try dsimp only at hSw); go_simp; try with_reducible rfl
        try simp only [Act.put]
        try simp only [List.setIfInBounds_toArray, List.set_cons_zero, List.set_cons_succ]
        refine reg_take 31 ?_ ?_ ?_ (by kernel_rfl) (by kernel_rfl) (by kernel_rfl) (fun _ _ _ h => h) ?_ ?_ (by assumption) ?_
        rotate_left 2
        · simp only [List.getElem?_toArray, List.getElem?_cons_succ, List.getElem?_cons_zero]; exact rfl
        · rfl
        · intro w hSw; (try dsimp only at hSw); go_simp; try with_reducible rfl
        try simp only [Act.put]
        try simp only [List.setIfInBounds_toArray, List.set_cons_zero, List.set_cons_succ]
        refine reg_take 32 ?_ ?_ ?_ (by kernel_rfl) (by kernel_rfl) (by kernel_rfl) (fun _ _ _ h => h) ?_ ?_ (by assumption) ?_
        rotate_left 2
        · simp only [List.getElem?_toArray, List.getElem?_cons_succ, List.getElem?_cons_zero]; exact rfl
        · rfl
        · intro w hSw; (try dsimp only at hSw); go_simp; try with_reducible rfl
        try simp only [Act.put]
        try simp only [List.setIfInBounds_toArray, List.set_cons_zero, List.set_cons_succ]
        refine reg_take 33 ?_ ?_ ?_ (by kernel_rfl) (by kernel_rfl) (by kernel_rfl) (fun _ _ _ h => h) ?_ ?_ (by assumption) ?_
        rotate_left 2
        · simp only [List.getElem?_toArray, List.getElem?_cons_succ, List.getElem?_cons_zero]; exact rfl
        · rfl
        · intro w hSw; (try dsimp only at hSw); go_simp; try with_reducible rfl
        try simp only [Act.put]
        try simp only [List.setIfInBounds_toArray, List.set_cons_zero, List.set_cons_succ]
        refine reg_take 34 ?_ ?_ ?_ (by kernel_rfl) (by kernel_rfl) (by kernel_rfl) (fun _ _ _ h => h) ?_ ?_ (by assumption) ?_
        rotate_left 2
        · simp only [List.getElem?_toArray, List.getElem?_cons_succ, List.getElem?_cons_zero]; exact rfl
        · rfl
        · intro w hSw; (try dsimp only at hSw); go_simp; try with_reducible rfl
        try simp only [Act.put]
        try simp only [List.setIfInBounds_toArray, List.set_cons_zero, List.set_cons_succ]
        refine reg_take 36 ?_ ?_ ?_ (by kernel_rfl) (by kernel_rfl) (by kernel_rfl) (fun _ _ _ h => h) ?_ ?_ (by assumption) ?_
        rotate_left 2
        · simp only [List.getElem?_toArray, List.getElem?_cons_succ, List.getElem?_cons_zero]; exact rfl
        · rfl
        · intro w hSw; (try dsimp only at hSw); go_simp; try with_reducible rfl
        try simp only [Act.put]
        try simp only [List.setIfInBounds_toArray, List.set_cons_zero, List.set_cons_succ]
        refine reg_call 35 ?_ (by kernel_rfl) ?_ (fun K hK => ?_)
        rotate_left 1
        · simp only [List.getElem?_toArray, List.getElem?_cons_succ, List.getElem?_cons_zero]; exact rfl
        go_simp
        refine (K4.out _).mono ?_
        rintro e w24 ⟨m10, o10, n10, c10, rfl, f10_0, hb24⟩
        have hB_13 := hB_12.trans (hb24.mono hB_12.size)
        have pp_13 := pp_12.below hb24
        have pa_13 := pa_12.below hb24
        have pb_13 := pb_12.below hb24
        have f1_13 := f1_12.below hb24
        have f2_13 := f2_12.below hb24
        have f3_13 := f3_12.below hb24
        have q1_13 := q1_12.below hb24
        have q2_13 := q2_12.below hb24
        have q3_13 := q3_12.below hb24
        have f5_13 := f5_12.below hb24
        have q5_13 := q5_12.below hb24
        clear hb24 hB_12 pp_12 pa_12 pb_12 f1_12 f2_12 f3_12 q1_12 q2_12 q3_12 f5_12 q5_12
        go_wp2_with fail
        refine hK.out _ _ ⟨pp_13.c0, pp_13.c1, pa_13.c0, pa_13.c1, pb_13.c0, pb_13.c1, q3_13.c0, q3_13.c1⟩ (fun hHeld => ?_)
        clear hK K
        try simp only [Act.put]
        try simp only [List.setIfInBounds_toArray, List.set_cons_zero, List.set_cons_succ]
        refine reg_call 37 ?_ (by kernel_rfl) ?_ (fun K hK => ?_)
        rotate_left 1
        · simp only [List.getElem?_toArray, List.getElem?_cons_succ, List.getElem?_cons_zero]; exact rfl
        go_simp
        refine (Cmp_named _ _ 2 5 _ _ 0 _ (by omega) (by omega) f10_0.num f3_13.num (icmp_self _)).mono ?_
        rintro e w25 ⟨rfl, hb25⟩
        have hB_14 := hB_13.trans (hb25.mono hB_13.size)
        have pp_14 := pp_13.below hb25
        have pa_14 := pa_13.below hb25
        have pb_14 := pb_13.below hb25
        have f1_14 := f1_13.below hb25
        have f2_14 := f2_13.below hb25
        have f3_14 := f3_13.below hb25
        have q1_14 := q1_13.below hb25
        have q2_14 := q2_13.below hb25
        have q3_14 := q3_13.below hb25
        have f5_14 := f5_13.below hb25
        have q5_14 := q5_13.below hb25
        have f10_1 := f10_0.below hb25
        clear hb25 hB_13 pp_13 pa_13 pb_13 f1_13 f2_13 f3_13 q1_13 q2_13 q3_13 f5_13 q5_13 f10_0
        go_wp2_with fail
        refine hK.out _ _ ⟨pp_14.c0, pp_14.c1, pa_14.c0, pa_14.c1, pb_14.c0, pb_14.c1, q3_14.c0, q3_14.c1⟩ (fun hHeld => ?_)
        clear hK K
        try simp only [Act.put]
        try simp only [List.setIfInBounds_toArray, List.set_cons_zero, List.set_cons_succ]
        refine reg_take 38 ?_ ?_ ?_ (by kernel_rfl) (by kernel_rfl) (by kernel_rfl) (fun _ _ _ h => h) ?_ ?_ (by assumption) ?_
        rotate_left 2
        · simp only [List.getElem?_toArray, List.getElem?_cons_succ, List.getElem?_cons_zero]; exact rfl
        · rfl
        · intro w hSw; (try dsimp only at hSw); go_simp; try with_reducible rfl
        try simp only [Act.put]
        try simp only [List.setIfInBounds_toArray, List.set_cons_zero, List.set_cons_succ]
        refine reg_take 39 ?_ ?_ ?_ (by kernel_rfl) (by kernel_rfl) (by kernel_rfl) (fun _ _ _ h => h) ?_ ?_ (by assumption) ?_
        rotate_left 2
        · simp only [List.getElem?_toArray, List.getElem?_cons_succ, List.getElem?_cons_zero]; exact rfl
        · rfl
        · intro w hSw; (try dsimp only at hSw); go_simp; try with_reducible rfl
        try simp only [Act.put]
        try simp only [List.setIfInBounds_toArray, List.set_cons_zero, List.set_cons_succ]
        refine reg_take 40 ?_ ?_ ?_ (by kernel_rfl) (by kernel_rfl) (by kernel_rfl) (fun _ _ _ h => h) ?_ ?_ (by assumption) ?_
        rotate_left 2
        · simp only [List.getElem?_toArray, List.getElem?_cons_succ, List.getElem?_cons_zero]; exact rfl
        · rfl
        · intro w hSw; (try dsimp only at hSw); go_simp; try with_reducible rfl
        try simp only [Act.put]
        try simp only [List.setIfInBounds_toArray, List.set_cons_zero, List.set_cons_succ]
        refine wpAnyH_done (by kernel_rfl) ?_ _
        refine NoPanic.normal ?_
        go_wp2
        go_ret
        exact ⟨rfl, hB_14⟩
      · right
        refine ⟨?_, fun i hi => ?_⟩
        · clear zF rr1 rr2 zz0
          obtain rfl | rfl | rfl : k = 0 ∨ k = 1 ∨ k = 2 := by omega
          all_goals cases bb0
          all_goals first | exact absurd ⟨rfl, rfl⟩ hL | exact of_decide_eq_true (by kernel_rfl)
        have hd : (k = 0 ∧ i = 2) ∨ (k = 1 ∧ i = 4) ∨ (bb0 = false ∧ i = 5) := by
          clear zF rr1 rr2 zz0
          revert i
          obtain rfl | rfl | rfl : k = 0 ∨ k = 1 ∨ k = 2 := by omega
          all_goals cases bb0
          all_goals first | exact absurd ⟨rfl, rfl⟩ hL | exact of_decide_eq_true (by kernel_rfl)
        clear hi hL
        rcases hd with ⟨rfl, rfl⟩ | ⟨rfl, rfl⟩ | ⟨rfl, rfl⟩
        · obtain ⟨-, -, -, -, f1_0, -, f3_0, -, -, -, -⟩ := (hFFk _).1 zF
          refine step_of 2 ?_ ?_ (fun K hK => ?_)
          rotate_left 1
          · simp only [List.getElem?_toArray, List.getElem?_cons_succ, List.getElem?_cons_zero]; exact rfl
          rw [HAk.out]
          try simp only [Act.put]
          try simp only [List.setIfInBounds_toArray, List.set_cons_zero, List.set_cons_succ]
          go_simp
          refine (nSub_any _ _ 5 5 _ _ _ (by omega) (by omega) f3_0.num f1_0.num).mono ?_
          rintro e w26 ⟨m4, o4, n4, c4, rfl, f4_0, hb⟩
          go_wp2_with fail
          refine hK.out _ _ (sFk (cFk zF hb)) ?_
          exact (hIVk _ _ _).2 ⟨1, bb0, (.agg #[.bool m4, .slice o4 n4 c4]), v1_, p0_, gq5, (by omega), rfl, (by simp only [HAk.out, Act.put, List.setIfInBounds_toArray, List.set_cons_zero, List.set_cons_succ]), (cFk zF hb), (fun _ => f4_0), (fun h => absurd h (by omega)), (fun h => ⟨(zz0 h).1, (zz0 h).2.1.below hb, (zz0 h).2.2⟩)⟩
        · obtain ⟨-, -, -, -, -, f2_0, -, -, -, -, -⟩ := (hFFk _).1 zF
          have f4_0 := rr1 (by omega)
          refine step_of 4 ?_ ?_ (fun K hK => ?_)
          rotate_left 1
          · simp only [List.getElem?_toArray, List.getElem?_cons_succ, List.getElem?_cons_zero]; exact rfl
          rw [HAk.out]
          try simp only [Act.put]
          try simp only [List.setIfInBounds_toArray, List.set_cons_zero, List.set_cons_succ]
          go_simp
          refine (nSub_any _ _ 6 5 _ _ _ (by omega) (by omega) f4_0.num f2_0.num).mono ?_
          rintro e w27 ⟨m5, o5, n5, c5, rfl, f5_0, hb⟩
          go_wp2_with fail
          refine hK.out _ _ (sFk (cFk zF hb)) ?_
          exact (hIVk _ _ _).2 ⟨2, bb0, v0_, (.agg #[.bool m5, .slice o5 n5 c5]), p0_, gq5, (by omega), rfl, (by simp only [HAk.out, Act.put, List.setIfInBounds_toArray, List.set_cons_zero, List.set_cons_succ]), (cFk zF hb), (fun _ => (rr1 (by omega)).below hb), (fun _ => f5_0), (fun h => ⟨(zz0 h).1, (zz0 h).2.1.below hb, (zz0 h).2.2⟩)⟩
        · refine step_of 5 ?_ ?_ (fun K hK => ?_)
          rotate_left 1
          · simp only [List.getElem?_toArray, List.getElem?_cons_succ, List.getElem?_cons_zero]; exact rfl
          rw [HAk.out]
          try simp only [Act.put]
          try simp only [List.setIfInBounds_toArray, List.set_cons_zero, List.set_cons_succ]
          go_simp
          have hgn := mFk zF
          obtain ⟨wn, hwn, q5_0, hb, -⟩ := new_box w13 _ rfl [.bool false, .slice none 0 0] 29
          rw [hwn]
          refine hK.out _ _ (sFk (cFk zF hb)) ?_
          exact (hIVk _ _ _).2 ⟨k, true, v0_, v1_, (.pointer (some ⟨w13.heap.size, 0, none⟩)), w13.heap.size, hk, rfl, (by simp only [HAk.out, Act.put, List.setIfInBounds_toArray, List.set_cons_zero, List.set_cons_succ]), (cFk zF hb), (fun h => (rr1 h).below hb), (fun h => (rr2 h).below hb), (fun _ => ⟨rfl, q5_0, hgn⟩)⟩
    · right
      refine ⟨?_, fun i hi => ?_⟩
      · clear zF rr1 rr2 rr3 zz0 zz1 zz2 n0_1 n0_2 n1_2
        obtain rfl | rfl | rfl | rfl : k = 0 ∨ k = 1 ∨ k = 2 ∨ k = 3 := by omega
        all_goals cases bb0
        all_goals cases bb1
        all_goals cases bb2
        all_goals first | exact absurd ⟨rfl, rfl, rfl, rfl⟩ hL | exact of_decide_eq_true (by kernel_rfl)
      have hd : (k = 0 ∧ i = 2) ∨ (k = 1 ∧ i = 5) ∨ (k = 2 ∧ i = 8) ∨ (bb0 = false ∧ i = 9) ∨ (bb1 = false ∧ i = 10) ∨ (bb2 = false ∧ i = 11) := by
        clear zF rr1 rr2 rr3 zz0 zz1 zz2 n0_1 n0_2 n1_2
        revert i
        obtain rfl | rfl | rfl | rfl : k = 0 ∨ k = 1 ∨ k = 2 ∨ k = 3 := by omega
        all_goals cases bb0
        all_goals cases bb1
        all_goals cases bb2
        all_goals first | exact absurd ⟨rfl, rfl, rfl, rfl⟩ hL | exact of_decide_eq_true (by kernel_rfl)
      clear hi hL
      rcases hd with ⟨rfl, rfl⟩ | ⟨rfl, rfl⟩ | ⟨rfl, rfl⟩ | ⟨rfl, rfl⟩ | ⟨rfl, rfl⟩ | ⟨rfl, rfl⟩
      · refine step_of 2 ?_ ?_ (fun K hK => ?_)
        rotate_left 1
        · simp only [List.getElem?_toArray, List.getElem?_cons_succ, List.getElem?_cons_zero]; exact rfl
        rw [HAj.out]
        try simp only [Act.put]
        try simp only [List.setIfInBounds_toArray, List.set_cons_zero, List.set_cons_succ]
        go_simp
        refine (K1.out _).mono ?_
        rintro e w28 ⟨m1, o1, n1, c1, rfl, f1_0, hb⟩
        go_wp2_with fail
        refine hK.out _ _ (sFj (cFj zF hb)) ?_
        exact (hIVj _ _ _).2 ⟨1, bb0, bb1, bb2, (.agg #[.bool m1, .slice o1 n1 c1]), v1_, v2_, p0_, p1_, p2_, gq1, gq2, gq3, (by omega), rfl, (by simp only [HAj.out, Act.put, List.setIfInBounds_toArray, List.set_cons_zero, List.set_cons_succ]), (cFj zF hb), (fun _ => f1_0), (fun h => absurd h (by omega)), (fun h => absurd h (by omega)), (fun h => ⟨(zz0 h).1, (zz0 h).2.1.below hb, (zz0 h).2.2⟩), (fun h => ⟨(zz1 h).1, (zz1 h).2.1.below hb, (zz1 h).2.2⟩), (fun h => ⟨(zz2 h).1, (zz2 h).2.1.below hb, (zz2 h).2.2⟩), n0_1, n0_2, n1_2⟩
      · refine step_of 5 ?_ ?_ (fun K hK => ?_)
        rotate_left 1
        · simp only [List.getElem?_toArray, List.getElem?_cons_succ, List.getElem?_cons_zero]; exact rfl
        rw [HAj.out]
        try simp only [Act.put]
        try simp only [List.setIfInBounds_toArray, List.set_cons_zero, List.set_cons_succ]
        go_simp
        refine (K2.out _).mono ?_
        rintro e w29 ⟨m2, o2, n2, c2, rfl, f2_0, hb⟩
        go_wp2_with fail
        refine hK.out _ _ (sFj (cFj zF hb)) ?_
        exact (hIVj _ _ _).2 ⟨2, bb0, bb1, bb2, v0_, (.agg #[.bool m2, .slice o2 n2 c2]), v2_, p0_, p1_, p2_, gq1, gq2, gq3, (by omega), rfl, (by simp only [HAj.out, Act.put, List.setIfInBounds_toArray, List.set_cons_zero, List.set_cons_succ]), (cFj zF hb), (fun _ => (rr1 (by omega)).below hb), (fun _ => f2_0), (fun h => absurd h (by omega)), (fun h => ⟨(zz0 h).1, (zz0 h).2.1.below hb, (zz0 h).2.2⟩), (fun h => ⟨(zz1 h).1, (zz1 h).2.1.below hb, (zz1 h).2.2⟩), (fun h => ⟨(zz2 h).1, (zz2 h).2.1.below hb, (zz2 h).2.2⟩), n0_1, n0_2, n1_2⟩
      · refine step_of 8 ?_ ?_ (fun K hK => ?_)
        rotate_left 1
        · simp only [List.getElem?_toArray, List.getElem?_cons_succ, List.getElem?_cons_zero]; exact rfl
        rw [HAj.out]
        try simp only [Act.put]
        try simp only [List.setIfInBounds_toArray, List.set_cons_zero, List.set_cons_succ]
        go_simp
        refine (K3.out _).mono ?_
        rintro e w30 ⟨m3, o3, n3, c3, rfl, f3_0, hb⟩
        go_wp2_with fail
        refine hK.out _ _ (sFj (cFj zF hb)) ?_
        exact (hIVj _ _ _).2 ⟨3, bb0, bb1, bb2, v0_, v1_, (.agg #[.bool m3, .slice o3 n3 c3]), p0_, p1_, p2_, gq1, gq2, gq3, (by omega), rfl, (by simp only [HAj.out, Act.put, List.setIfInBounds_toArray, List.set_cons_zero, List.set_cons_succ]), (cFj zF hb), (fun _ => (rr1 (by omega)).below hb), (fun _ => (rr2 (by omega)).below hb), (fun _ => f3_0), (fun h => ⟨(zz0 h).1, (zz0 h).2.1.below hb, (zz0 h).2.2⟩), (fun h => ⟨(zz1 h).1, (zz1 h).2.1.below hb, (zz1 h).2.2⟩), (fun h => ⟨(zz2 h).1, (zz2 h).2.1.below hb, (zz2 h).2.2⟩), n0_1, n0_2, n1_2⟩
      · refine step_of 9 ?_ ?_ (fun K hK => ?_)
        rotate_left 1
        · simp only [List.getElem?_toArray, List.getElem?_cons_succ, List.getElem?_cons_zero]; exact rfl
        rw [HAj.out]
        try simp only [Act.put]
        try simp only [List.setIfInBounds_toArray, List.set_cons_zero, List.set_cons_succ]
        go_simp
        have hgn := mFj zF
        have hl1 : bb1 = true → gq2 < w9.heap.size := fun h => (zz1 h).2.1.lt
        have hl2 : bb2 = true → gq3 < w9.heap.size := fun h => (zz2 h).2.1.lt
        obtain ⟨wn, hwn, q1_0, hb, -⟩ := new_box w9 _ rfl [.bool false, .slice none 0 0] 29
        rw [hwn]
        refine hK.out _ _ (sFj (cFj zF hb)) ?_
        exact (hIVj _ _ _).2 ⟨k, true, bb1, bb2, v0_, v1_, v2_, (.pointer (some ⟨w9.heap.size, 0, none⟩)), p1_, p2_, w9.heap.size, gq2, gq3, hk, rfl, (by simp only [HAj.out, Act.put, List.setIfInBounds_toArray, List.set_cons_zero, List.set_cons_succ]), (cFj zF hb), (fun h => (rr1 h).below hb), (fun h => (rr2 h).below hb), (fun h => (rr3 h).below hb), (fun _ => ⟨rfl, q1_0, hgn⟩), (fun h => ⟨(zz1 h).1, (zz1 h).2.1.below hb, (zz1 h).2.2⟩), (fun h => ⟨(zz2 h).1, (zz2 h).2.1.below hb, (zz2 h).2.2⟩), (fun _ h => by have := hl1 h; omega), (fun _ h => by have := hl2 h; omega), n1_2⟩
      · refine step_of 10 ?_ ?_ (fun K hK => ?_)
        rotate_left 1
        · simp only [List.getElem?_toArray, List.getElem?_cons_succ, List.getElem?_cons_zero]; exact rfl
        rw [HAj.out]
        try simp only [Act.put]
        try simp only [List.setIfInBounds_toArray, List.set_cons_zero, List.set_cons_succ]
        go_simp
        have hgn := mFj zF
        have hl0 : bb0 = true → gq1 < w9.heap.size := fun h => (zz0 h).2.1.lt
        have hl2 : bb2 = true → gq3 < w9.heap.size := fun h => (zz2 h).2.1.lt
        obtain ⟨wn, hwn, q2_0, hb, -⟩ := new_box w9 _ rfl [.bool false, .slice none 0 0] 29
        rw [hwn]
        refine hK.out _ _ (sFj (cFj zF hb)) ?_
        exact (hIVj _ _ _).2 ⟨k, bb0, true, bb2, v0_, v1_, v2_, p0_, (.pointer (some ⟨w9.heap.size, 0, none⟩)), p2_, gq1, w9.heap.size, gq3, hk, rfl, (by simp only [HAj.out, Act.put, List.setIfInBounds_toArray, List.set_cons_zero, List.set_cons_succ]), (cFj zF hb), (fun h => (rr1 h).below hb), (fun h => (rr2 h).below hb), (fun h => (rr3 h).below hb), (fun h => ⟨(zz0 h).1, (zz0 h).2.1.below hb, (zz0 h).2.2⟩), (fun _ => ⟨rfl, q2_0, hgn⟩), (fun h => ⟨(zz2 h).1, (zz2 h).2.1.below hb, (zz2 h).2.2⟩), (fun h _ => by have := hl0 h; omega), n0_2, (fun _ h => by have := hl2 h; omega)⟩
      · refine step_of 11 ?_ ?_ (fun K hK => ?_)
        rotate_left 1
        · simp only [List.getElem?_toArray, List.getElem?_cons_succ, List.getElem?_cons_zero]; exact rfl
        rw [HAj.out]
        try simp only [Act.put]
        try simp only [List.setIfInBounds_toArray, List.set_cons_zero, List.set_cons_succ]
        go_simp
        have hgn := mFj zF
        have hl0 : bb0 = true → gq1 < w9.heap.size := fun h => (zz0 h).2.1.lt
        have hl1 : bb1 = true → gq2 < w9.heap.size := fun h => (zz1 h).2.1.lt
        obtain ⟨wn, hwn, q3_0, hb, -⟩ := new_box w9 _ rfl [.bool false, .slice none 0 0] 29
        rw [hwn]
        refine hK.out _ _ (sFj (cFj zF hb)) ?_
        exact (hIVj _ _ _).2 ⟨k, bb0, bb1, true, v0_, v1_, v2_, p0_, p1_, (.pointer (some ⟨w9.heap.size, 0, none⟩)), gq1, gq2, w9.heap.size, hk, rfl, (by simp only [HAj.out, Act.put, List.setIfInBounds_toArray, List.set_cons_zero, List.set_cons_succ]), (cFj zF hb), (fun h => (rr1 h).below hb), (fun h => (rr2 h).below hb), (fun h => (rr3 h).below hb), (fun h => ⟨(zz0 h).1, (zz0 h).2.1.below hb, (zz0 h).2.2⟩), (fun h => ⟨(zz1 h).1, (zz1 h).2.1.below hb, (zz1 h).2.2⟩), (fun _ => ⟨rfl, q3_0, hgn⟩), n0_1, (fun h _ => by have := hl0 h; omega), (fun h _ => by have := hl1 h; omega)⟩
  · right
    refine ⟨?_, fun i hi => ?_⟩
    · clear zF rr1 rr2 rr3 zz0 zz1 zz2
      obtain rfl | rfl | rfl | rfl : k = 0 ∨ k = 1 ∨ k = 2 ∨ k = 3 := by omega
      all_goals cases bb0
      all_goals cases bb1
      all_goals cases bb2
      all_goals first | exact absurd ⟨rfl, rfl, rfl, rfl⟩ hL | exact absurd (dp0_0 (by decide)) (by decide) | exact absurd (dp1_1 (by decide)) (by decide) | exact absurd (dp2_2 (by decide)) (by decide) | exact of_decide_eq_true (by kernel_rfl)
    have hd : (k = 0 ∧ bb0 = true ∧ i = 1) ∨ (k = 1 ∧ bb1 = true ∧ i = 3) ∨ (k = 2 ∧ bb2 = true ∧ i = 5) ∨ (bb0 = false ∧ i = 0) ∨ (bb1 = false ∧ i = 2) ∨ (bb2 = false ∧ i = 4) := by
      clear zF rr1 rr2 rr3 zz0 zz1 zz2
      revert i
      obtain rfl | rfl | rfl | rfl : k = 0 ∨ k = 1 ∨ k = 2 ∨ k = 3 := by omega
      all_goals cases bb0
      all_goals cases bb1
      all_goals cases bb2
      all_goals first | exact absurd ⟨rfl, rfl, rfl, rfl⟩ hL | exact absurd (dp0_0 (by decide)) (by decide) | exact absurd (dp1_1 (by decide)) (by decide) | exact absurd (dp2_2 (by decide)) (by decide) | exact of_decide_eq_true (by kernel_rfl)
    clear hi hL
    rcases hd with ⟨rfl, rfl, rfl⟩ | ⟨rfl, rfl, rfl⟩ | ⟨rfl, rfl, rfl⟩ | ⟨rfl, rfl⟩ | ⟨rfl, rfl⟩ | ⟨rfl, rfl⟩
    · obtain rfl := zz0 rfl
      refine step_of 1 ?_ ?_ (fun K hK => ?_)
      rotate_left 1
      · simp only [List.getElem?_toArray, List.getElem?_cons_succ, List.getElem?_cons_zero]; exact rfl
      rw [HAi.out]
      try simp only [Act.put]
      try simp only [List.setIfInBounds_toArray, List.set_cons_zero, List.set_cons_succ]
      go_simp
      refine (T0.out _).mono ?_
      rintro e w31 ⟨rfl, hb⟩
      go_wp2_with fail
      refine hK.out _ _ (sFi (cFi zF hb)) ?_
      exact (hIVi _ _ _).2 ⟨1, true, bb1, bb2, (.agg #[.int .i64 p0, .int .i64 p1]), v1_, v2_, _, p1_, p2_, (by omega), rfl, (by simp only [HAi.out, Act.put, List.setIfInBounds_toArray, List.set_cons_zero, List.set_cons_succ]), (cFi zF hb), (fun _ => rfl), (fun h => absurd h (by omega)), (fun h => absurd h (by omega)), (fun _ => rfl), zz1, zz2, (fun _ => rfl), (fun h => absurd h (by omega)), (fun h => absurd h (by omega))⟩
    · obtain rfl := rr1 (by omega)
      obtain rfl := dp0_0 (by omega)
      obtain rfl := zz0 rfl
      obtain rfl := zz1 rfl
      refine step_of 3 ?_ ?_ (fun K hK => ?_)
      rotate_left 1
      · simp only [List.getElem?_toArray, List.getElem?_cons_succ, List.getElem?_cons_zero]; exact rfl
      rw [HAi.out]
      try simp only [Act.put]
      try simp only [List.setIfInBounds_toArray, List.set_cons_zero, List.set_cons_succ]
      go_simp
      refine (T1.out _).mono ?_
      rintro e w32 ⟨rfl, hb⟩
      go_wp2_with fail
      refine hK.out _ _ (sFi (cFi zF hb)) ?_
      exact (hIVi _ _ _).2 ⟨2, true, true, bb2, _, (.agg #[.int .i64 a0, .int .i64 a1]), v2_, _, _, p2_, (by omega), rfl, (by simp only [HAi.out, Act.put, List.setIfInBounds_toArray, List.set_cons_zero, List.set_cons_succ]), (cFi zF hb), (fun _ => rfl), (fun _ => rfl), (fun h => absurd h (by omega)), (fun _ => rfl), (fun _ => rfl), zz2, (fun _ => rfl), (fun _ => rfl), (fun h => absurd h (by omega))⟩
    · obtain rfl := rr1 (by omega)
      obtain rfl := rr2 (by omega)
      obtain rfl := dp0_0 (by omega)
      obtain rfl := dp1_1 (by omega)
      obtain rfl := zz0 rfl
      obtain rfl := zz1 rfl
      obtain rfl := zz2 rfl
      refine step_of 5 ?_ ?_ (fun K hK => ?_)
      rotate_left 1
      · simp only [List.getElem?_toArray, List.getElem?_cons_succ, List.getElem?_cons_zero]; exact rfl
      rw [HAi.out]
      try simp only [Act.put]
      try simp only [List.setIfInBounds_toArray, List.set_cons_zero, List.set_cons_succ]
      go_simp
      refine (T2.out _).mono ?_
      rintro e w33 ⟨rfl, hb⟩
      go_wp2_with fail
      refine hK.out _ _ (sFi (cFi zF hb)) ?_
      exact (hIVi _ _ _).2 ⟨3, true, true, true, _, _, (.agg #[.int .i64 b0, .int .i64 b1]), _, _, _, (by omega), rfl, (by simp only [HAi.out, Act.put, List.setIfInBounds_toArray, List.set_cons_zero, List.set_cons_succ]), (cFi zF hb), (fun _ => rfl), (fun _ => rfl), (fun _ => rfl), (fun _ => rfl), (fun _ => rfl), (fun _ => rfl), (fun _ => rfl), (fun _ => rfl), (fun _ => rfl)⟩
    · obtain ⟨-, pp_0, -, -, -⟩ := (hFFi _).1 zF
      obtain ⟨ppe0, ppe1, ppe2, ppe3⟩ := pp_0.open2
      refine step_of 0 ?_ ?_ (fun K hK => ?_)
      rotate_left 1
      · simp only [List.getElem?_toArray, List.getElem?_cons_zero]; exact rfl
      rw [HAi.out]
      try simp only [Act.put]
      try simp only [List.setIfInBounds_toArray, List.set_cons_zero, List.set_cons_succ]
      go_simp
      refine hK.out _ _ (sFi zF) ?_
      exact (hIVi _ _ _).2 ⟨k, true, bb1, bb2, v0_, v1_, v2_, (.agg #[.int .i64 x0, .int .i64 x1]), p1_, p2_, hk, rfl, (by simp only [HAi.out, Act.put, List.setIfInBounds_toArray, List.set_cons_zero, List.set_cons_succ]), zF, rr1, rr2, rr3, (fun _ => rfl), zz1, zz2, (fun _ => rfl), dp1_1, dp2_2⟩
    · obtain ⟨-, -, pa_0, -, -⟩ := (hFFi _).1 zF
      obtain ⟨pae0, pae1, pae2, pae3⟩ := pa_0.open2
      refine step_of 2 ?_ ?_ (fun K hK => ?_)
      rotate_left 1
      · simp only [List.getElem?_toArray, List.getElem?_cons_succ, List.getElem?_cons_zero]; exact rfl
      rw [HAi.out]
      try simp only [Act.put]
      try simp only [List.setIfInBounds_toArray, List.set_cons_zero, List.set_cons_succ]
      go_simp
      refine hK.out _ _ (sFi zF) ?_
      exact (hIVi _ _ _).2 ⟨k, bb0, true, bb2, v0_, v1_, v2_, p0_, (.agg #[.int .i64 y0, .int .i64 y1]), p2_, hk, rfl, (by simp only [HAi.out, Act.put, List.setIfInBounds_toArray, List.set_cons_zero, List.set_cons_succ]), zF, rr1, rr2, rr3, zz0, (fun _ => rfl), zz2, dp0_0, (fun _ => rfl), dp2_2⟩
    · obtain ⟨-, -, -, pb_0, -⟩ := (hFFi _).1 zF
      obtain ⟨pbe0, pbe1, pbe2, pbe3⟩ := pb_0.open2
      refine step_of 4 ?_ ?_ (fun K hK => ?_)
      rotate_left 1
      · simp only [List.getElem?_toArray, List.getElem?_cons_succ, List.getElem?_cons_zero]; exact rfl
      rw [HAi.out]
      try simp only [Act.put]
      try simp only [List.setIfInBounds_toArray, List.set_cons_zero, List.set_cons_succ]
      go_simp
      refine hK.out _ _ (sFi zF) ?_
      exact (hIVi _ _ _).2 ⟨k, bb0, bb1, true, v0_, v1_, v2_, p0_, p1_, (.agg #[.int .i64 z0, .int .i64 z1]), hk, rfl, (by simp only [HAi.out, Act.put, List.setIfInBounds_toArray, List.set_cons_zero, List.set_cons_succ]), zF, rr1, rr2, rr3, zz0, zz1, (fun _ => rfl), dp0_0, dp1_1, (fun _ => rfl)⟩
end Go.Proofs.Ytjciefoademlnaa
