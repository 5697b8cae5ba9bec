/- The statement PredCrosses, walked. -/
import Derived.Test.YtjciefoademlnaaPartj
namespace Go.Proofs.Ytjciefoademlnaa
open Go.RowKit Go.MagM
set_option maxRecDepth 100000 in
set_option maxHeartbeats 64000000 in
theorem PredCrosses_w (x0 x1 y0 y1 z0 z1 t0 t1 a0 a1 b0 b1 v0 v1 u0 u1 : Int) (s0_ s1_ s2_ s3_ q1 q2 : Int) (c1 c2 o0 o1 o2 o3 cc mm : Bool) (tm0 : ∀ w, Calls Try.prog 10 #[.agg #[.int .i64 x0, .int .i64 x1]] w fun e w' => e = .returned (.agg #[.int .i64 a0, .int .i64 a1]) ∧ Below w.heap.size w w') (tm1 : ∀ w, Calls Try.prog 10 #[.agg #[.int .i64 y0, .int .i64 y1]] w fun e w' => e = .returned (.agg #[.int .i64 b0, .int .i64 b1]) ∧ Below w.heap.size w w') (tm2 : ∀ w, Calls Try.prog 10 #[.agg #[.int .i64 z0, .int .i64 z1]] w fun e w' => e = .returned (.agg #[.int .i64 v0, .int .i64 v1]) ∧ Below w.heap.size w w') (tm3 : ∀ w, Calls Try.prog 10 #[.agg #[.int .i64 t0, .int .i64 t1]] w fun e w' => e = .returned (.agg #[.int .i64 u0, .int .i64 u1]) ∧ Below w.heap.size w w') (sd0 : ∀ w, Calls Try.prog 26 #[.agg #[.int .i64 a0, .int .i64 a1], .agg #[.int .i64 b0, .int .i64 b1], .agg #[.int .i64 v0, .int .i64 v1]] w fun e w' => e = .returned (.int .i64 s0_) ∧ Below w.heap.size w w') (sd1 : ∀ w, Calls Try.prog 26 #[.agg #[.int .i64 a0, .int .i64 a1], .agg #[.int .i64 b0, .int .i64 b1], .agg #[.int .i64 u0, .int .i64 u1]] w fun e w' => e = .returned (.int .i64 s1_) ∧ Below w.heap.size w w') (sd2 : ∀ w, Calls Try.prog 26 #[.agg #[.int .i64 v0, .int .i64 v1], .agg #[.int .i64 u0, .int .i64 u1], .agg #[.int .i64 a0, .int .i64 a1]] w fun e w' => e = .returned (.int .i64 s2_) ∧ Below w.heap.size w w') (sd3 : ∀ w, Calls Try.prog 26 #[.agg #[.int .i64 v0, .int .i64 v1], .agg #[.int .i64 u0, .int .i64 u1], .agg #[.int .i64 b0, .int .i64 b1]] w fun e w' => e = .returned (.int .i64 s3_) ∧ Below w.heap.size w w') (on0 : ∀ w, Calls Try.prog 23 #[.agg #[.int .i64 a0, .int .i64 a1], .agg #[.int .i64 v0, .int .i64 v1], .agg #[.int .i64 u0, .int .i64 u1]] w fun e w' => e = .returned (.bool o0) ∧ Below w.heap.size w w') (on1 : ∀ w, Calls Try.prog 23 #[.agg #[.int .i64 b0, .int .i64 b1], .agg #[.int .i64 v0, .int .i64 v1], .agg #[.int .i64 u0, .int .i64 u1]] w fun e w' => e = .returned (.bool o1) ∧ Below w.heap.size w w') (on2 : ∀ w, Calls Try.prog 23 #[.agg #[.int .i64 v0, .int .i64 v1], .agg #[.int .i64 a0, .int .i64 a1], .agg #[.int .i64 b0, .int .i64 b1]] w fun e w' => e = .returned (.bool o2) ∧ Below w.heap.size w w') (on3 : ∀ w, Calls Try.prog 23 #[.agg #[.int .i64 u0, .int .i64 u1], .agg #[.int .i64 a0, .int .i64 a1], .agg #[.int .i64 b0, .int .i64 b1]] w fun e w' => e = .returned (.bool o3) ∧ Below w.heap.size w w') (cr1 : ∀ w, Calls Try.prog 27 #[.agg #[.int .i64 a0, .int .i64 a1], .agg #[.int .i64 b0, .int .i64 b1], .agg #[.int .i64 v0, .int .i64 v1], .agg #[.int .i64 u0, .int .i64 u1]] w fun e w' => e = .returned (.bool cc) ∧ Below w.heap.size w w') (cr2 : ∀ w, Calls Try.prog 27 #[.agg #[.int .i64 u0, .int .i64 u1], .agg #[.int .i64 v0, .int .i64 v1], .agg #[.int .i64 b0, .int .i64 b1], .agg #[.int .i64 a0, .int .i64 a1]] w fun e w' => e = .returned (.bool cc) ∧ Below w.heap.size w w') (me1 : ∀ w, Calls Try.prog 28 #[.agg #[.int .i64 a0, .int .i64 a1], .agg #[.int .i64 b0, .int .i64 b1], .agg #[.int .i64 v0, .int .i64 v1], .agg #[.int .i64 u0, .int .i64 u1]] w fun e w' => e = .returned (.bool mm) ∧ Below w.heap.size w w') (me2 : ∀ w, Calls Try.prog 28 #[.agg #[.int .i64 v0, .int .i64 v1], .agg #[.int .i64 u0, .int .i64 u1], .agg #[.int .i64 a0, .int .i64 a1], .agg #[.int .i64 b0, .int .i64 b1]] w fun e w' => e = .returned (.bool mm) ∧ Below w.heap.size w w') (e1 : IntKind.i64.wrap (s0_ * s1_) = q1) (e2 : IntKind.i64.wrap (s2_ * s3_) = q2) (g1 : decide (q1 < 0) = c1) (g2 : decide (q2 < 0) = c2) (hc : (c1 && c2) = cc) (hm : (cc || o0 || o1 || o2 || o3) = mm) (w : World) :
    Calls Try.prog 7 #[.agg #[.int .i64 x0, .int .i64 x1, .int .i64 y0, .int .i64 y1, .int .i64 z0, .int .i64 z1, .int .i64 t0, .int .i64 t1]] w fun e w' => e = .returned (.bool true) ∧ Below w.heap.size w w' := by
  have hB_0 := Below.refl w.heap.size w
  have TM0 := Lib.hid tm0; have TM1 := Lib.hid tm1; have TM2 := Lib.hid tm2; have TM3 := Lib.hid tm3; have SD0 := Lib.hid sd0; have SD1 := Lib.hid sd1; have SD2 := Lib.hid sd2; have SD3 := Lib.hid sd3; have ON0 := Lib.hid on0; have ON1 := Lib.hid on1; have ON2 := Lib.hid on2; have ON3 := Lib.hid on3; have CR1 := Lib.hid cr1; have CR2 := Lib.hid cr2; have ME1 := Lib.hid me1; have ME2 := Lib.hid me2; have E1 := Lib.hid e1; have E2 := Lib.hid e2; have G1 := Lib.hid g1; have G2 := Lib.hid g2
  clear tm0 tm1 tm2 tm3 sd0 sd1 sd2 sd3 on0 on1 on2 on3 cr1 cr2 me1 me2 e1 e2 g1 g2
  obtain ⟨w1, hw1, pl_0, hb1, hs1⟩ := new_box w (w.heap.size) rfl [.int .i64 x0, .int .i64 x1, .int .i64 y0, .int .i64 y1, .int .i64 z0, .int .i64 z1, .int .i64 t0, .int .i64 t1] 37
  have hb1' : Below w.heap.size w w1 := hb1.mono (by omega)
  clear hb1
  have hB_1 := hB_0.trans (hb1'.mono hB_0.size)
  clear hb1' hB_0
  go_enter Try.func7, Try.ntmps7
  obtain ⟨ple0, ple1, ple2, ple3, ple4, ple5, ple6, ple7, ple8, ple9, ple10, ple11, ple12, ple13, ple14, ple15⟩ := pl_0.open8
  go_wp2_with fail
  refine (pfit_any _).mono ?_
  rintro e w2 ⟨rfl, hb2⟩
  clear ple0 ple1 ple2 ple3 ple4 ple5 ple6 ple7 ple8 ple9 ple10 ple11 ple12 ple13 ple14 ple15
  have hB_2 := hB_1.trans (hb2.mono hB_1.size)
  have pl_1 := pl_0.below hb2
  clear hb2 hB_1 pl_0
  obtain ⟨ple0, ple1, ple2, ple3, ple4, ple5, ple6, ple7, ple8, ple9, ple10, ple11, ple12, ple13, ple14, ple15⟩ := pl_1.open8
  go_wp2
  clear ple0 ple1 ple2 ple3 ple4 ple5 ple6 ple7 ple8 ple9 ple10 ple11 ple12 ple13 ple14 ple15
  have hWi_0 := Below.refl w2.heap.size w2
  have hsi : w.heap.size ≤ w2.heap.size := hB_2.size
  have hlipl := pl_1.lt
  have hB_3 := hB_2.drew'
  have pl_2 := pl_1.drew
  have hWi_1 := hWi_0.drew'
  clear hB_2 pl_1 hWi_0
  obtain ⟨FFi, hFFi⟩ : ∃ F : World → Prop, ∀ w', F w' ↔ (Below w.heap.size w w' ∧ Box w' (w.heap.size) [.int .i64 x0, .int .i64 x1, .int .i64 y0, .int .i64 y1, .int .i64 z0, .int .i64 z1, .int .i64 t0, .int .i64 t1] ∧ Below w2.heap.size w2 w') := ⟨_, fun _ => Iff.rfl⟩
  have cFi : ∀ {w' w'' : World}, FFi w' → Below w'.heap.size w' w'' → FFi w'' := by
    intro w' w'' h hb
    obtain ⟨y0, y1, y2⟩ := (hFFi _).1 h
    exact (hFFi _).2 ⟨y0.trans (hb.mono y0.size), y1.below hb, y2.trans (hb.mono y2.size)⟩
  have mFi : ∀ {w' : World}, FFi w' → w2.heap.size ≤ w'.heap.size := by
    intro w' h
    obtain ⟨y0, y1, y2⟩ := (hFFi _).1 h
    exact y2.size
  have sFi : ∀ {w' : World}, FFi w' → (w'.cell? ⟨w.heap.size, 0, none⟩ = some (.int .i64 x0) ∧ w'.cell? ⟨w.heap.size, 1, none⟩ = some (.int .i64 x1) ∧ w'.cell? ⟨w.heap.size, 2, none⟩ = some (.int .i64 y0) ∧ w'.cell? ⟨w.heap.size, 3, none⟩ = some (.int .i64 y1) ∧ w'.cell? ⟨w.heap.size, 4, none⟩ = some (.int .i64 z0) ∧ w'.cell? ⟨w.heap.size, 5, none⟩ = some (.int .i64 z1) ∧ w'.cell? ⟨w.heap.size, 6, none⟩ = some (.int .i64 t0) ∧ w'.cell? ⟨w.heap.size, 7, none⟩ = some (.int .i64 t1)) := by
    intro w' h
    obtain ⟨y0, y1, y2⟩ := (hFFi _).1 h
    exact ⟨y1.c0, y1.c1, y1.c2, y1.c3, y1.c4, y1.c5, y1.c6, y1.c7⟩
  have zF : FFi w2.drew := (hFFi _).2 ⟨hB_3, pl_2, hWi_1⟩
  clear hB_3 pl_2 hWi_1
  refine wp_region_noPanic ?_
  refine wp_region_held_drew (S := fun w' => w'.cell? ⟨w.heap.size, 0, none⟩ = some (.int .i64 x0) ∧ w'.cell? ⟨w.heap.size, 1, none⟩ = some (.int .i64 x1) ∧ w'.cell? ⟨w.heap.size, 2, none⟩ = some (.int .i64 y0) ∧ w'.cell? ⟨w.heap.size, 3, none⟩ = some (.int .i64 y1) ∧ w'.cell? ⟨w.heap.size, 4, none⟩ = some (.int .i64 z0) ∧ w'.cell? ⟨w.heap.size, 5, none⟩ = some (.int .i64 z1) ∧ w'.cell? ⟨w.heap.size, 6, none⟩ = some (.int .i64 t0) ∧ w'.cell? ⟨w.heap.size, 7, none⟩ = some (.int .i64 t1)) (by kernel_rfl) (sFi zF) (fun hHeld => ?_)
  refine reg_take 0 ?_ ?_ ?_ (by kernel_rfl) (by kernel_rfl) (by kernel_rfl) (fun _ _ _ h => h) ?_ ?_ (by assumption) ?_
  rotate_left 2
  · simp only [List.getElem?_toArray, List.getElem?_cons_zero]; exact rfl
  · rfl
  · intro w hSw; (try dsimp only at hSw); go_simp; try with_reducible rfl
  try simp only [Act.put]
  try simp only [List.setIfInBounds_toArray, List.set_cons_zero, List.set_cons_succ]
  refine reg_take 1 ?_ ?_ ?_ (by kernel_rfl) (by kernel_rfl) (by kernel_rfl) (fun _ _ _ h => h) ?_ ?_ (by assumption) ?_
  rotate_left 2
  · simp only [List.getElem?_toArray, List.getElem?_cons_succ, List.getElem?_cons_zero]; exact rfl
  · rfl
  · intro w hSw; (try dsimp only at hSw); go_simp; try with_reducible rfl
  try simp only [Act.put]
  try simp only [List.setIfInBounds_toArray, List.set_cons_zero, List.set_cons_succ]
  refine reg_take 3 ?_ ?_ ?_ (by kernel_rfl) (by kernel_rfl) (by kernel_rfl) (fun _ _ _ h => h) ?_ ?_ (by assumption) ?_
  rotate_left 2
  · simp only [List.getElem?_toArray, List.getElem?_cons_succ, List.getElem?_cons_zero]; exact rfl
  · rfl
  · intro w hSw; (try dsimp only at hSw); go_simp; try with_reducible rfl
  try simp only [Act.put]
  try simp only [List.setIfInBounds_toArray, List.set_cons_zero, List.set_cons_succ]
  refine reg_take 4 ?_ ?_ ?_ (by kernel_rfl) (by kernel_rfl) (by kernel_rfl) (fun _ _ _ h => h) ?_ ?_ (by assumption) ?_
  rotate_left 2
  · simp only [List.getElem?_toArray, List.getElem?_cons_succ, List.getElem?_cons_zero]; exact rfl
  · rfl
  · intro w hSw; (try dsimp only at hSw); go_simp; try with_reducible rfl
  try simp only [Act.put]
  try simp only [List.setIfInBounds_toArray, List.set_cons_zero, List.set_cons_succ]
  refine reg_take 6 ?_ ?_ ?_ (by kernel_rfl) (by kernel_rfl) (by kernel_rfl) (fun _ _ _ h => h) ?_ ?_ (by assumption) ?_
  rotate_left 2
  · simp only [List.getElem?_toArray, List.getElem?_cons_succ, List.getElem?_cons_zero]; exact rfl
  · rfl
  · intro w hSw; (try dsimp only at hSw); go_simp; try with_reducible rfl
  try simp only [Act.put]
  try simp only [List.setIfInBounds_toArray, List.set_cons_zero, List.set_cons_succ]
  refine reg_take 7 ?_ ?_ ?_ (by kernel_rfl) (by kernel_rfl) (by kernel_rfl) (fun _ _ _ h => h) ?_ ?_ (by assumption) ?_
  rotate_left 2
  · simp only [List.getElem?_toArray, List.getElem?_cons_succ, List.getElem?_cons_zero]; exact rfl
  · rfl
  · intro w hSw; (try dsimp only at hSw); go_simp; try with_reducible rfl
  try simp only [Act.put]
  try simp only [List.setIfInBounds_toArray, List.set_cons_zero, List.set_cons_succ]
  refine reg_take 9 ?_ ?_ ?_ (by kernel_rfl) (by kernel_rfl) (by kernel_rfl) (fun _ _ _ h => h) ?_ ?_ (by assumption) ?_
  rotate_left 2
  · simp only [List.getElem?_toArray, List.getElem?_cons_succ, List.getElem?_cons_zero]; exact rfl
  · rfl
  · intro w hSw; (try dsimp only at hSw); go_simp; try with_reducible rfl
  try simp only [Act.put]
  try simp only [List.setIfInBounds_toArray, List.set_cons_zero, List.set_cons_succ]
  refine reg_take 10 ?_ ?_ ?_ (by kernel_rfl) (by kernel_rfl) (by kernel_rfl) (fun _ _ _ h => h) ?_ ?_ (by assumption) ?_
  rotate_left 2
  · simp only [List.getElem?_toArray, List.getElem?_cons_succ, List.getElem?_cons_zero]; exact rfl
  · rfl
  · intro w hSw; (try dsimp only at hSw); go_simp; try with_reducible rfl
  try simp only [Act.put]
  try simp only [List.setIfInBounds_toArray, List.set_cons_zero, List.set_cons_succ]
  refine reg_grab (fun WWi ai hWW hAA => ?_)
  rw [hWW]
  have HAi := Lib.hid hAA; clear hWW hAA hHeld
  obtain ⟨IVi, hIVi⟩ : ∃ IV : Array Bool → Act → World → Prop, ∀ l a w', IV l a w' ↔ ∃ (k : Nat) (bb0 bb1 bb2 bb3 : Bool) (v0_ v1_ v2_ v3_ p0_ p1_ p2_ p3_ : Value) (gpa gpb gpv gpu : Nat), k ≤ 4 ∧ l = #[true, true, decide (1 ≤ k), true, true, decide (2 ≤ k), true, true, decide (3 ≤ k), true, true, decide (4 ≤ k), bb0, bb1, bb2, bb3, false, false, false, false] ∧ a = ((((((((ai.put (some 14) v0_).put (some 17) v1_).put (some 20) v2_).put (some 23) v3_).put (some 3) p0_).put (some 4) p1_).put (some 5) p2_).put (some 6) p3_) ∧ FFi w' ∧ (1 ≤ k → v0_ = .agg #[.int .i64 a0, .int .i64 a1]) ∧ (2 ≤ k → v1_ = .agg #[.int .i64 b0, .int .i64 b1]) ∧ (3 ≤ k → v2_ = .agg #[.int .i64 v0, .int .i64 v1]) ∧ (4 ≤ k → v3_ = .agg #[.int .i64 u0, .int .i64 u1]) ∧ (bb0 = true → p0_ = .pointer (some ⟨gpa, 0, none⟩) ∧ Box w' gpa [.int .i64 0, .int .i64 0] ∧ w2.heap.size ≤ gpa) ∧ (bb1 = true → p1_ = .pointer (some ⟨gpb, 0, none⟩) ∧ Box w' gpb [.int .i64 0, .int .i64 0] ∧ w2.heap.size ≤ gpb) ∧ (bb2 = true → p2_ = .pointer (some ⟨gpv, 0, none⟩) ∧ Box w' gpv [.int .i64 0, .int .i64 0] ∧ w2.heap.size ≤ gpv) ∧ (bb3 = true → p3_ = .pointer (some ⟨gpu, 0, none⟩) ∧ Box w' gpu [.int .i64 0, .int .i64 0] ∧ w2.heap.size ≤ gpu) ∧ (bb0 = true → bb1 = true → gpa ≠ gpb) ∧ (bb0 = true → bb2 = true → gpa ≠ gpv) ∧ (bb0 = true → bb3 = true → gpa ≠ gpu) ∧ (bb1 = true → bb2 = true → gpb ≠ gpv) ∧ (bb1 = true → bb3 = true → gpb ≠ gpu) ∧ (bb2 = true → bb3 = true → gpv ≠ gpu) := ⟨_, fun _ _ _ => Iff.rfl⟩
  refine wpAnyH_until IVi ?_ _ _ _ _ ((hIVi _ _ _).2 ⟨0, false, false, false, false, (ai.tmps.getD 14 undef), (ai.tmps.getD 17 undef), (ai.tmps.getD 20 undef), (ai.tmps.getD 23 undef), (ai.tmps.getD 3 undef), (ai.tmps.getD 4 undef), (ai.tmps.getD 5 undef), (ai.tmps.getD 6 undef), 0, 0, 0, 0, Nat.zero_le _, rfl, (by simp only [put_same]), zF, (fun h => absurd h (by omega)), (fun h => absurd h (by omega)), (fun h => absurd h (by omega)), (fun h => absurd h (by omega)), (fun h => by cases h), (fun h => by cases h), (fun h => by cases h), (fun h => by cases h), (fun h => by cases h), (fun h => by cases h), (fun h => by cases h), (fun h => by cases h), (fun h => by cases h), (fun h => by cases h)⟩) (by kernel_rfl)
  clear zF
  intro ll aa w3 hI
  obtain ⟨k, bb0, bb1, bb2, bb3, v0_, v1_, v2_, v3_, p0_, p1_, p2_, p3_, gpa, gpb, gpv, gpu, hk, rfl, rfl, zF, rr1, rr2, rr3, rr4, zz0, zz1, zz2, zz3, n0_1, n0_2, n0_3, n1_2, n1_3, n2_3⟩ := (hIVi _ _ _).1 hI
  clear hI
  by_cases hL : k = 4 ∧ bb0 = true ∧ bb1 = true ∧ bb2 = true ∧ bb3 = true
  · left
    obtain ⟨rfl, rfl, rfl, rfl, rfl⟩ := hL
    obtain rfl := rr1 (by omega)
    obtain rfl := rr2 (by omega)
    obtain rfl := rr3 (by omega)
    obtain rfl := rr4 (by omega)
    obtain ⟨rfl, pa_0, hgpa⟩ := zz0 rfl
    obtain ⟨rfl, pb_0, hgpb⟩ := zz1 rfl
    obtain ⟨rfl, pv_0, hgpv⟩ := zz2 rfl
    obtain ⟨rfl, pu_0, hgpu⟩ := zz3 rfl
    have hnpapb := n0_1 rfl rfl
    have hnpapv := n0_2 rfl rfl
    have hnpapu := n0_3 rfl rfl
    have hnpbpv := n1_2 rfl rfl
    have hnpbpu := n1_3 rfl rfl
    have hnpvpu := n2_3 rfl rfl
    clear hk zz0 zz1 zz2 zz3 n0_1 n0_2 n0_3 n1_2 n1_3 n2_3
    show wpAnyH _ _ _ _ _ 4 _ _ _
    rw [HAi.out]
    try simp only [Act.put]
    try simp only [List.setIfInBounds_toArray, List.set_cons_zero, List.set_cons_succ]
    obtain ⟨hB_0, pl_0, hWi_0⟩ := (hFFi _).1 zF
    clear zF
    clear hWi_0
    obtain ⟨sf1a, sf1b, sf1c, sf1d⟩ := pa_0.open2
    obtain ⟨sg1a, sg1b⟩ := Box.put2 pa_0 (.int .i64 a0)
    refine reg_call 16 ?_ (by kernel_rfl) ?_ (fun K hK => ?_)
    rotate_left 1
    · simp only [List.getElem?_toArray, List.getElem?_cons_succ, List.getElem?_cons_zero]; exact rfl
    go_simp
    have hB_1 := below_setAll hB_0 (g := gpa) (by omega) [.int .i64 a0, .int .i64 a1]
    have pl_1 := pl_0.farAll (g' := gpa) (by omega) [.int .i64 a0, .int .i64 a1]
    have pb_1 := pb_0.farAll (g' := gpa) (by omega) [.int .i64 a0, .int .i64 a1]
    have pv_1 := pv_0.farAll (g' := gpa) (by omega) [.int .i64 a0, .int .i64 a1]
    have pu_1 := pu_0.farAll (g' := gpa) (by omega) [.int .i64 a0, .int .i64 a1]
    have pa_1 := pa_0.setAll [.int .i64 a0, .int .i64 a1] rfl
    simp only [setAll, Nat.zero_add] at hB_1 pl_1 pa_1 pb_1 pv_1 pu_1
    clear sf1a sf1b sf1c sf1d sg1a sg1b
    clear hB_0 pl_0 pb_0 pv_0 pu_0 pa_0
    refine hK.out _ _ ⟨pl_1.c0, pl_1.c1, pl_1.c2, pl_1.c3, pl_1.c4, pl_1.c5, pl_1.c6, pl_1.c7⟩ (fun hHeld => ?_)
    clear hK K
    try simp only [Act.put]
    try simp only [List.setIfInBounds_toArray, List.set_cons_zero, List.set_cons_succ]
    generalize (World.setCell (World.setCell w3 ⟨gpa, 0, none⟩ (.int .i64 a0)) ⟨gpa, 1, none⟩ (.int .i64 a1)) = w4 at *
    obtain ⟨sf2a, sf2b, sf2c, sf2d⟩ := pb_1.open2
    obtain ⟨sg2a, sg2b⟩ := Box.put2 pb_1 (.int .i64 b0)
    refine reg_call 17 ?_ (by kernel_rfl) ?_ (fun K hK => ?_)
    rotate_left 1
    · simp only [List.getElem?_toArray, List.getElem?_cons_succ, List.getElem?_cons_zero]; exact rfl
    go_simp
    have hB_2 := below_setAll hB_1 (g := gpb) (by omega) [.int .i64 b0, .int .i64 b1]
    have pl_2 := pl_1.farAll (g' := gpb) (by omega) [.int .i64 b0, .int .i64 b1]
    have pa_2 := pa_1.farAll (g' := gpb) (by omega) [.int .i64 b0, .int .i64 b1]
    have pv_2 := pv_1.farAll (g' := gpb) (by omega) [.int .i64 b0, .int .i64 b1]
    have pu_2 := pu_1.farAll (g' := gpb) (by omega) [.int .i64 b0, .int .i64 b1]
    have pb_2 := pb_1.setAll [.int .i64 b0, .int .i64 b1] rfl
    simp only [setAll, Nat.zero_add] at hB_2 pl_2 pa_2 pb_2 pv_2 pu_2
    clear sf2a sf2b sf2c sf2d sg2a sg2b
    clear hB_1 pl_1 pa_1 pv_1 pu_1 pb_1
    refine hK.out _ _ ⟨pl_2.c0, pl_2.c1, pl_2.c2, pl_2.c3, pl_2.c4, pl_2.c5, pl_2.c6, pl_2.c7⟩ (fun hHeld => ?_)
    clear hK K
    try simp only [Act.put]
    try simp only [List.setIfInBounds_toArray, List.set_cons_zero, List.set_cons_succ]
    generalize (World.setCell (World.setCell w4 ⟨gpb, 0, none⟩ (.int .i64 b0)) ⟨gpb, 1, none⟩ (.int .i64 b1)) = w5 at *
    obtain ⟨sf3a, sf3b, sf3c, sf3d⟩ := pv_2.open2
    obtain ⟨sg3a, sg3b⟩ := Box.put2 pv_2 (.int .i64 v0)
    refine reg_call 18 ?_ (by kernel_rfl) ?_ (fun K hK => ?_)
    rotate_left 1
    · simp only [List.getElem?_toArray, List.getElem?_cons_succ, List.getElem?_cons_zero]; exact rfl
    go_simp
    have hB_3 := below_setAll hB_2 (g := gpv) (by omega) [.int .i64 v0, .int .i64 v1]
    have pl_3 := pl_2.farAll (g' := gpv) (by omega) [.int .i64 v0, .int .i64 v1]
    have pa_3 := pa_2.farAll (g' := gpv) (by omega) [.int .i64 v0, .int .i64 v1]
    have pb_3 := pb_2.farAll (g' := gpv) (by omega) [.int .i64 v0, .int .i64 v1]
    have pu_3 := pu_2.farAll (g' := gpv) (by omega) [.int .i64 v0, .int .i64 v1]
    have pv_3 := pv_2.setAll [.int .i64 v0, .int .i64 v1] rfl
    simp only [setAll, Nat.zero_add] at hB_3 pl_3 pa_3 pb_3 pv_3 pu_3
    clear sf3a sf3b sf3c sf3d sg3a sg3b
    clear hB_2 pl_2 pa_2 pb_2 pu_2 pv_2
    refine hK.out _ _ ⟨pl_3.c0, pl_3.c1, pl_3.c2, pl_3.c3, pl_3.c4, pl_3.c5, pl_3.c6, pl_3.c7⟩ (fun hHeld => ?_)
    clear hK K
    try simp only [Act.put]
    try simp only [List.setIfInBounds_toArray, List.set_cons_zero, List.set_cons_succ]
    generalize (World.setCell (World.setCell w5 ⟨gpv, 0, none⟩ (.int .i64 v0)) ⟨gpv, 1, none⟩ (.int .i64 v1)) = w6 at *
    obtain ⟨sf4a, sf4b, sf4c, sf4d⟩ := pu_3.open2
    obtain ⟨sg4a, sg4b⟩ := Box.put2 pu_3 (.int .i64 u0)
    refine reg_call 19 ?_ (by kernel_rfl) ?_ (fun K hK => ?_)
    rotate_left 1
    · simp only [List.getElem?_toArray, List.getElem?_cons_succ, List.getElem?_cons_zero]; exact rfl
    go_simp
    have hB_4 := below_setAll hB_3 (g := gpu) (by omega) [.int .i64 u0, .int .i64 u1]
    have pl_4 := pl_3.farAll (g' := gpu) (by omega) [.int .i64 u0, .int .i64 u1]
    have pa_4 := pa_3.farAll (g' := gpu) (by omega) [.int .i64 u0, .int .i64 u1]
    have pb_4 := pb_3.farAll (g' := gpu) (by omega) [.int .i64 u0, .int .i64 u1]
    have pv_4 := pv_3.farAll (g' := gpu) (by omega) [.int .i64 u0, .int .i64 u1]
    have pu_4 := pu_3.setAll [.int .i64 u0, .int .i64 u1] rfl
    simp only [setAll, Nat.zero_add] at hB_4 pl_4 pa_4 pb_4 pv_4 pu_4
    clear sf4a sf4b sf4c sf4d sg4a sg4b
    clear hB_3 pl_3 pa_3 pb_3 pv_3 pu_3
    refine hK.out _ _ ⟨pl_4.c0, pl_4.c1, pl_4.c2, pl_4.c3, pl_4.c4, pl_4.c5, pl_4.c6, pl_4.c7⟩ (fun hHeld => ?_)
    clear hK K
    try simp only [Act.put]
    try simp only [List.setIfInBounds_toArray, List.set_cons_zero, List.set_cons_succ]
    generalize (World.setCell (World.setCell w6 ⟨gpu, 0, none⟩ (.int .i64 u0)) ⟨gpu, 1, none⟩ (.int .i64 u1)) = w7 at *
    refine wpAnyH_done (by kernel_rfl) ?_ _
    refine NoPanic.normal ?_
    clear pl_4
    obtain ⟨pae0, pae1, pae2, pae3⟩ := pa_4.open2
    obtain ⟨pbe0, pbe1, pbe2, pbe3⟩ := pb_4.open2
    obtain ⟨pve0, pve1, pve2, pve3⟩ := pv_4.open2
    obtain ⟨pue0, pue1, pue2, pue3⟩ := pu_4.open2
    have e1 := E1.out; have e2 := E2.out
    go_wp2
    cases c1
    · have g1 := G1.out
      clear pae0 pae1 pae2 pae3 pbe0 pbe1 pbe2 pbe3 pve0 pve1 pve2 pve3 pue0 pue1 pue2 pue3
      have hB_5 := hB_4.drew'
      have pa_5 := pa_4.drew
      have pb_5 := pb_4.drew
      have pv_5 := pv_4.drew
      have pu_5 := pu_4.drew
      refine wp_region_noPanic ?_
      refine wp_region_held_drew (S := fun w' => w'.cell? ⟨gpa, 0, none⟩ = some (.int .i64 a0) ∧ w'.cell? ⟨gpa, 1, none⟩ = some (.int .i64 a1) ∧ w'.cell? ⟨gpb, 0, none⟩ = some (.int .i64 b0) ∧ w'.cell? ⟨gpb, 1, none⟩ = some (.int .i64 b1) ∧ w'.cell? ⟨gpv, 0, none⟩ = some (.int .i64 v0) ∧ w'.cell? ⟨gpv, 1, none⟩ = some (.int .i64 v1) ∧ w'.cell? ⟨gpu, 0, none⟩ = some (.int .i64 u0) ∧ w'.cell? ⟨gpu, 1, none⟩ = some (.int .i64 u1)) (by kernel_rfl) (⟨pa_5.c0, pa_5.c1, pb_5.c0, pb_5.c1, pv_5.c0, pv_5.c1, pu_5.c0, pu_5.c1⟩) (fun hHeld => ?_)
      refine reg_take 0 ?_ ?_ ?_ (by kernel_rfl) (by kernel_rfl) (by kernel_rfl) (fun _ _ _ h => h) ?_ ?_ (by assumption) ?_
      rotate_left 2
      · simp only [List.getElem?_toArray, List.getElem?_cons_zero]; exact rfl
      · rfl
      · intro w hSw; (try dsimp only at hSw); go_simp; try with_reducible rfl
      try simp only [Act.put]
      try simp only [List.setIfInBounds_toArray, List.set_cons_zero, List.set_cons_succ]
      refine reg_take 1 ?_ ?_ ?_ (by kernel_rfl) (by kernel_rfl) (by kernel_rfl) (fun _ _ _ h => h) ?_ ?_ (by assumption) ?_
      rotate_left 2
      · simp only [List.getElem?_toArray, List.getElem?_cons_succ, List.getElem?_cons_zero]; exact rfl
      · rfl
      · intro w hSw; (try dsimp only at hSw); go_simp; try with_reducible rfl
      try simp only [Act.put]
      try simp only [List.setIfInBounds_toArray, List.set_cons_zero, List.set_cons_succ]
      refine reg_take 2 ?_ ?_ ?_ (by kernel_rfl) (by kernel_rfl) (by kernel_rfl) (fun _ _ _ h => h) ?_ ?_ (by assumption) ?_
      rotate_left 2
      · simp only [List.getElem?_toArray, List.getElem?_cons_succ, List.getElem?_cons_zero]; exact rfl
      · rfl
      · intro w hSw; (try dsimp only at hSw); go_simp; try with_reducible rfl
      try simp only [Act.put]
      try simp only [List.setIfInBounds_toArray, List.set_cons_zero, List.set_cons_succ]
      refine reg_take 3 ?_ ?_ ?_ (by kernel_rfl) (by kernel_rfl) (by kernel_rfl) (fun _ _ _ h => h) ?_ ?_ (by assumption) ?_
      rotate_left 2
      · simp only [List.getElem?_toArray, List.getElem?_cons_succ, List.getElem?_cons_zero]; exact rfl
      · rfl
      · intro w hSw; (try dsimp only at hSw); go_simp; try with_reducible rfl
      try simp only [Act.put]
      try simp only [List.setIfInBounds_toArray, List.set_cons_zero, List.set_cons_succ]
      refine reg_take 5 ?_ ?_ ?_ (by kernel_rfl) (by kernel_rfl) (by kernel_rfl) (fun _ _ _ h => h) ?_ ?_ (by assumption) ?_
      rotate_left 2
      · simp only [List.getElem?_toArray, List.getElem?_cons_succ, List.getElem?_cons_zero]; exact rfl
      · rfl
      · intro w hSw; (try dsimp only at hSw); go_simp; try with_reducible rfl
      try simp only [Act.put]
      try simp only [List.setIfInBounds_toArray, List.set_cons_zero, List.set_cons_succ]
      refine reg_take 6 ?_ ?_ ?_ (by kernel_rfl) (by kernel_rfl) (by kernel_rfl) (fun _ _ _ h => h) ?_ ?_ (by assumption) ?_
      rotate_left 2
      · simp only [List.getElem?_toArray, List.getElem?_cons_succ, List.getElem?_cons_zero]; exact rfl
      · rfl
      · intro w hSw; (try dsimp only at hSw); go_simp; try with_reducible rfl
      try simp only [Act.put]
      try simp only [List.setIfInBounds_toArray, List.set_cons_zero, List.set_cons_succ]
      refine reg_take 7 ?_ ?_ ?_ (by kernel_rfl) (by kernel_rfl) (by kernel_rfl) (fun _ _ _ h => h) ?_ ?_ (by assumption) ?_
      rotate_left 2
      · simp only [List.getElem?_toArray, List.getElem?_cons_succ, List.getElem?_cons_zero]; exact rfl
      · rfl
      · intro w hSw; (try dsimp only at hSw); go_simp; try with_reducible rfl
      try simp only [Act.put]
      try simp only [List.setIfInBounds_toArray, List.set_cons_zero, List.set_cons_succ]
      refine reg_take 8 ?_ ?_ ?_ (by kernel_rfl) (by kernel_rfl) (by kernel_rfl) (fun _ _ _ h => h) ?_ ?_ (by assumption) ?_
      rotate_left 2
      · simp only [List.getElem?_toArray, List.getElem?_cons_succ, List.getElem?_cons_zero]; exact rfl
      · rfl
      · intro w hSw; (try dsimp only at hSw); go_simp; try with_reducible rfl
      try simp only [Act.put]
      try simp only [List.setIfInBounds_toArray, List.set_cons_zero, List.set_cons_succ]
      refine reg_call 4 ?_ (by kernel_rfl) ?_ (fun K hK => ?_)
      rotate_left 1
      · simp only [List.getElem?_toArray, List.getElem?_cons_succ, List.getElem?_cons_zero]; exact rfl
      go_simp
      refine (SD0.out _).mono ?_
      rintro e w8 ⟨rfl, hb8⟩
      have hB_6 := hB_5.trans (hb8.mono hB_5.size)
      have pa_6 := pa_5.below hb8
      have pb_6 := pb_5.below hb8
      have pv_6 := pv_5.below hb8
      have pu_6 := pu_5.below hb8
      clear hb8 hB_5 pa_5 pb_5 pv_5 pu_5
      go_wp2_with fail
      refine hK.out _ _ ⟨pa_6.c0, pa_6.c1, pb_6.c0, pb_6.c1, pv_6.c0, pv_6.c1, pu_6.c0, pu_6.c1⟩ (fun hHeld => ?_)
      clear hK K
      try simp only [Act.put]
      try simp only [List.setIfInBounds_toArray, List.set_cons_zero, List.set_cons_succ]
      refine reg_call 9 ?_ (by kernel_rfl) ?_ (fun K hK => ?_)
      rotate_left 1
      · simp only [List.getElem?_toArray, List.getElem?_cons_succ, List.getElem?_cons_zero]; exact rfl
      go_simp
      refine (SD1.out _).mono ?_
      rintro e w9 ⟨rfl, hb9⟩
      have hB_7 := hB_6.trans (hb9.mono hB_6.size)
      have pa_7 := pa_6.below hb9
      have pb_7 := pb_6.below hb9
      have pv_7 := pv_6.below hb9
      have pu_7 := pu_6.below hb9
      clear hb9 hB_6 pa_6 pb_6 pv_6 pu_6
      go_wp2_with fail
      refine hK.out _ _ ⟨pa_7.c0, pa_7.c1, pb_7.c0, pb_7.c1, pv_7.c0, pv_7.c1, pu_7.c0, pu_7.c1⟩ (fun hHeld => ?_)
      clear hK K
      try simp only [Act.put]
      try simp only [List.setIfInBounds_toArray, List.set_cons_zero, List.set_cons_succ]
      refine reg_take 10 ?_ ?_ ?_ (by kernel_rfl) (by kernel_rfl) (by kernel_rfl) (fun _ _ _ h => h) ?_ ?_ (by assumption) ?_
      rotate_left 2
      · simp only [List.getElem?_toArray, List.getElem?_cons_succ, List.getElem?_cons_zero]; exact rfl
      · rfl
      · intro w hSw; (try dsimp only at hSw); go_simp; try with_reducible rfl
      try simp only [Act.put]
      try simp only [List.setIfInBounds_toArray, List.set_cons_zero, List.set_cons_succ]
      refine reg_take 11 ?_ ?_ ?_ (by kernel_rfl) (by kernel_rfl) (by kernel_rfl) (fun _ _ _ h => h) ?_ ?_ (by assumption) ?_
      rotate_left 2
      · simp only [List.getElem?_toArray, List.getElem?_cons_succ, List.getElem?_cons_zero]; exact rfl
      · rfl
      · intro w hSw; (try dsimp only at hSw); go_simp; try with_reducible rfl
      try simp only [Act.put]
      try simp only [List.setIfInBounds_toArray, List.set_cons_zero, List.set_cons_succ]
      refine reg_take 12 ?_ ?_ ?_ (by kernel_rfl) (by kernel_rfl) (by kernel_rfl) (fun _ _ _ h => h) ?_ ?_ (by assumption) ?_
      rotate_left 2
      · simp only [List.getElem?_toArray, List.getElem?_cons_succ, List.getElem?_cons_zero]; exact rfl
      · rfl
      · intro w hSw; (try dsimp only at hSw); go_simp; try with_reducible rfl
      try simp only [Act.put]
      try simp only [List.setIfInBounds_toArray, List.set_cons_zero, List.set_cons_succ]
      refine reg_skip 13 ?_ ?_ (by kernel_rfl) (by kernel_rfl) (by kernel_rfl) (fun _ _ _ h => h) ?_ (by assumption) ?_
      rotate_left 1
      · simp only [List.getElem?_toArray, List.getElem?_cons_succ, List.getElem?_cons_zero]; exact rfl
      · rfl
      try simp only [Act.put]
      try simp only [List.setIfInBounds_toArray, List.set_cons_zero, List.set_cons_succ]
      refine reg_skip 14 ?_ ?_ (by kernel_rfl) (by kernel_rfl) (by kernel_rfl) (fun _ _ _ h => h) ?_ (by assumption) ?_
      rotate_left 1
      · simp only [List.getElem?_toArray, List.getElem?_cons_succ, List.getElem?_cons_zero]; exact rfl
      · rfl
      try simp only [Act.put]
      try simp only [List.setIfInBounds_toArray, List.set_cons_zero, List.set_cons_succ]
      refine reg_skip 15 ?_ ?_ (by kernel_rfl) (by kernel_rfl) (by kernel_rfl) (fun _ _ _ h => h) ?_ (by assumption) ?_
      rotate_left 1
      · simp only [List.getElem?_toArray, List.getElem?_cons_succ, List.getElem?_cons_zero]; exact rfl
      · rfl
      try simp only [Act.put]
      try simp only [List.setIfInBounds_toArray, List.set_cons_zero, List.set_cons_succ]
      refine reg_skip 16 ?_ ?_ (by kernel_rfl) (by kernel_rfl) (by kernel_rfl) (fun _ _ _ h => h) ?_ (by assumption) ?_
      rotate_left 1
      · simp only [List.getElem?_toArray, List.getElem?_cons_succ, List.getElem?_cons_zero]; exact rfl
      · rfl
      try simp only [Act.put]
      try simp only [List.setIfInBounds_toArray, List.set_cons_zero, List.set_cons_succ]
      refine reg_skip 17 ?_ ?_ (by kernel_rfl) (by kernel_rfl) (by kernel_rfl) (fun _ _ _ h => h) ?_ (by assumption) ?_
      rotate_left 1
      · simp only [List.getElem?_toArray, List.getElem?_cons_succ, List.getElem?_cons_zero]; exact rfl
      · rfl
      try simp only [Act.put]
      try simp only [List.setIfInBounds_toArray, List.set_cons_zero, List.set_cons_succ]
      refine reg_skip 18 ?_ ?_ (by kernel_rfl) (by kernel_rfl) (by kernel_rfl) (fun _ _ _ h => h) ?_ (by assumption) ?_
      rotate_left 1
      · simp only [List.getElem?_toArray, List.getElem?_cons_succ, List.getElem?_cons_zero]; exact rfl
      · rfl
      try simp only [Act.put]
      try simp only [List.setIfInBounds_toArray, List.set_cons_zero, List.set_cons_succ]
      refine reg_skip 19 ?_ ?_ (by kernel_rfl) (by kernel_rfl) (by kernel_rfl) (fun _ _ _ h => h) ?_ (by assumption) ?_
      rotate_left 1
      · simp only [List.getElem?_toArray, List.getElem?_cons_succ, List.getElem?_cons_zero]; exact rfl
      · rfl
      try simp only [Act.put]
      try simp only [List.setIfInBounds_toArray, List.set_cons_zero, List.set_cons_succ]
      refine reg_skip 20 ?_ ?_ (by kernel_rfl) (by kernel_rfl) (by kernel_rfl) (fun _ _ _ h => h) ?_ (by assumption) ?_
      rotate_left 1
      · simp only [List.getElem?_toArray, List.getElem?_cons_succ, List.getElem?_cons_zero]; exact rfl
      · rfl
      try simp only [Act.put]
      try simp only [List.setIfInBounds_toArray, List.set_cons_zero, List.set_cons_succ]
      refine reg_skip 21 ?_ ?_ (by kernel_rfl) (by kernel_rfl) (by kernel_rfl) (fun _ _ _ h => h) ?_ (by assumption) ?_
      rotate_left 1
      · simp only [List.getElem?_toArray, List.getElem?_cons_succ, List.getElem?_cons_zero]; exact rfl
      · rfl
      try simp only [Act.put]
      try simp only [List.setIfInBounds_toArray, List.set_cons_zero, List.set_cons_succ]
      refine reg_skip 22 ?_ ?_ (by kernel_rfl) (by kernel_rfl) (by kernel_rfl) (fun _ _ _ h => h) ?_ (by assumption) ?_
      rotate_left 1
      · simp only [List.getElem?_toArray, List.getElem?_cons_succ, List.getElem?_cons_zero]; exact rfl
      · rfl
      try simp only [Act.put]
      try simp only [List.setIfInBounds_toArray, List.set_cons_zero, List.set_cons_succ]
      refine reg_skip 23 ?_ ?_ (by kernel_rfl) (by kernel_rfl) (by kernel_rfl) (fun _ _ _ h => h) ?_ (by assumption) ?_
      rotate_left 1
      · simp only [List.getElem?_toArray, List.getElem?_cons_succ, List.getElem?_cons_zero]; exact rfl
      · rfl
      try simp only [Act.put]
      try simp only [List.setIfInBounds_toArray, List.set_cons_zero, List.set_cons_succ]
      refine reg_skip 24 ?_ ?_ (by kernel_rfl) (by kernel_rfl) (by kernel_rfl) (fun _ _ _ h => h) ?_ (by assumption) ?_
      rotate_left 1
      · simp only [List.getElem?_toArray, List.getElem?_cons_succ, List.getElem?_cons_zero]; exact rfl
      · rfl
      try simp only [Act.put]
      try simp only [List.setIfInBounds_toArray, List.set_cons_zero, List.set_cons_succ]
      refine reg_take 25 ?_ ?_ ?_ (by kernel_rfl) (by kernel_rfl) (by kernel_rfl) (fun _ _ _ h => h) ?_ ?_ (by assumption) ?_
      rotate_left 2
      · simp only [List.getElem?_toArray, List.getElem?_cons_succ, List.getElem?_cons_zero]; exact rfl
      · rfl
      · intro w hSw; (try dsimp only at hSw); go_simp; try with_reducible rfl
      try simp only [Act.put]
      try simp only [List.setIfInBounds_toArray, List.set_cons_zero, List.set_cons_succ]
      refine reg_take 26 ?_ ?_ ?_ (by kernel_rfl) (by kernel_rfl) (by kernel_rfl) (fun _ _ _ h => h) ?_ ?_ (by assumption) ?_
      rotate_left 2
      · simp only [List.getElem?_toArray, List.getElem?_cons_succ, List.getElem?_cons_zero]; exact rfl
      · rfl
      · intro w hSw; (try dsimp only at hSw); go_simp; try with_reducible rfl
      try simp only [Act.put]
      try simp only [List.setIfInBounds_toArray, List.set_cons_zero, List.set_cons_succ]
      refine wpAnyH_done (by kernel_rfl) ?_ _
      refine NoPanic.normal ?_
      clear e1 e2 g1
      obtain rfl : cc = false := hc.symm.trans rfl
      obtain ⟨pae0, pae1, pae2, pae3⟩ := pa_7.open2
      obtain ⟨pbe0, pbe1, pbe2, pbe3⟩ := pb_7.open2
      obtain ⟨pve0, pve1, pve2, pve3⟩ := pv_7.open2
      obtain ⟨pue0, pue1, pue2, pue3⟩ := pu_7.open2
      cases o0
      · go_wp2_with fail
        refine (ON0.out _).mono ?_
        rintro e w10 ⟨rfl, hb10⟩
        clear pae0 pae1 pae2 pae3 pbe0 pbe1 pbe2 pbe3 pve0 pve1 pve2 pve3 pue0 pue1 pue2 pue3
        have hB_8 := hB_7.trans (hb10.mono hB_7.size)
        have pa_8 := pa_7.below hb10
        have pb_8 := pb_7.below hb10
        have pv_8 := pv_7.below hb10
        have pu_8 := pu_7.below hb10
        clear hb10 hB_7 pa_7 pb_7 pv_7 pu_7
        obtain ⟨pae0, pae1, pae2, pae3⟩ := pa_8.open2
        obtain ⟨pbe0, pbe1, pbe2, pbe3⟩ := pb_8.open2
        obtain ⟨pve0, pve1, pve2, pve3⟩ := pv_8.open2
        obtain ⟨pue0, pue1, pue2, pue3⟩ := pu_8.open2
        cases o1
        · go_wp2_with fail
          refine (ON1.out _).mono ?_
          rintro e w11 ⟨rfl, hb11⟩
          clear pae0 pae1 pae2 pae3 pbe0 pbe1 pbe2 pbe3 pve0 pve1 pve2 pve3 pue0 pue1 pue2 pue3
          have hB_9 := hB_8.trans (hb11.mono hB_8.size)
          have pa_9 := pa_8.below hb11
          have pb_9 := pb_8.below hb11
          have pv_9 := pv_8.below hb11
          have pu_9 := pu_8.below hb11
          clear hb11 hB_8 pa_8 pb_8 pv_8 pu_8
          obtain ⟨pae0, pae1, pae2, pae3⟩ := pa_9.open2
          obtain ⟨pbe0, pbe1, pbe2, pbe3⟩ := pb_9.open2
          obtain ⟨pve0, pve1, pve2, pve3⟩ := pv_9.open2
          obtain ⟨pue0, pue1, pue2, pue3⟩ := pu_9.open2
          cases o2
          · go_wp2_with fail
            refine (ON2.out _).mono ?_
            rintro e w12 ⟨rfl, hb12⟩
            clear pae0 pae1 pae2 pae3 pbe0 pbe1 pbe2 pbe3 pve0 pve1 pve2 pve3 pue0 pue1 pue2 pue3
            have hB_10 := hB_9.trans (hb12.mono hB_9.size)
            have pa_10 := pa_9.below hb12
            have pb_10 := pb_9.below hb12
            have pv_10 := pv_9.below hb12
            have pu_10 := pu_9.below hb12
            clear hb12 hB_9 pa_9 pb_9 pv_9 pu_9
            obtain ⟨pae0, pae1, pae2, pae3⟩ := pa_10.open2
            obtain ⟨pbe0, pbe1, pbe2, pbe3⟩ := pb_10.open2
            obtain ⟨pve0, pve1, pve2, pve3⟩ := pv_10.open2
            obtain ⟨pue0, pue1, pue2, pue3⟩ := pu_10.open2
            go_wp2_with fail
            refine (ON3.out _).mono ?_
            rintro e w13 ⟨rfl, hb13⟩
            clear pae0 pae1 pae2 pae3 pbe0 pbe1 pbe2 pbe3 pve0 pve1 pve2 pve3 pue0 pue1 pue2 pue3
            have hB_11 := hB_10.trans (hb13.mono hB_10.size)
            have pa_11 := pa_10.below hb13
            have pb_11 := pb_10.below hb13
            have pv_11 := pv_10.below hb13
            have pu_11 := pu_10.below hb13
            clear hb13 hB_10 pa_10 pb_10 pv_10 pu_10
            obtain ⟨pae0, pae1, pae2, pae3⟩ := pa_11.open2
            obtain ⟨pbe0, pbe1, pbe2, pbe3⟩ := pb_11.open2
            obtain ⟨pve0, pve1, pve2, pve3⟩ := pv_11.open2
            obtain ⟨pue0, pue1, pue2, pue3⟩ := pu_11.open2
            obtain rfl : mm = o3 := hm.symm.trans rfl
            go_wp2_with fail
            refine (CR1.out _).mono ?_
            rintro e w14 ⟨rfl, hb14⟩
            clear pae0 pae1 pae2 pae3 pbe0 pbe1 pbe2 pbe3 pve0 pve1 pve2 pve3 pue0 pue1 pue2 pue3
            have hB_12 := hB_11.trans (hb14.mono hB_11.size)
            have pa_12 := pa_11.below hb14
            have pb_12 := pb_11.below hb14
            have pv_12 := pv_11.below hb14
            have pu_12 := pu_11.below hb14
            clear hb14 hB_11 pa_11 pb_11 pv_11 pu_11
            obtain ⟨pae0, pae1, pae2, pae3⟩ := pa_12.open2
            obtain ⟨pbe0, pbe1, pbe2, pbe3⟩ := pb_12.open2
            obtain ⟨pve0, pve1, pve2, pve3⟩ := pv_12.open2
            obtain ⟨pue0, pue1, pue2, pue3⟩ := pu_12.open2
            go_wp2_with fail
            refine (CR2.out _).mono ?_
            rintro e w15 ⟨rfl, hb15⟩
            clear pae0 pae1 pae2 pae3 pbe0 pbe1 pbe2 pbe3 pve0 pve1 pve2 pve3 pue0 pue1 pue2 pue3
            have hB_13 := hB_12.trans (hb15.mono hB_12.size)
            have pa_13 := pa_12.below hb15
            have pb_13 := pb_12.below hb15
            have pv_13 := pv_12.below hb15
            have pu_13 := pu_12.below hb15
            clear hb15 hB_12 pa_12 pb_12 pv_12 pu_12
            obtain ⟨pae0, pae1, pae2, pae3⟩ := pa_13.open2
            obtain ⟨pbe0, pbe1, pbe2, pbe3⟩ := pb_13.open2
            obtain ⟨pve0, pve1, pve2, pve3⟩ := pv_13.open2
            obtain ⟨pue0, pue1, pue2, pue3⟩ := pu_13.open2
            go_wp2_with fail
            refine (ME1.out _).mono ?_
            rintro e w16 ⟨rfl, hb16⟩
            clear pae0 pae1 pae2 pae3 pbe0 pbe1 pbe2 pbe3 pve0 pve1 pve2 pve3 pue0 pue1 pue2 pue3
            have hB_14 := hB_13.trans (hb16.mono hB_13.size)
            have pa_14 := pa_13.below hb16
            have pb_14 := pb_13.below hb16
            have pv_14 := pv_13.below hb16
            have pu_14 := pu_13.below hb16
            clear hb16 hB_13 pa_13 pb_13 pv_13 pu_13
            obtain ⟨pae0, pae1, pae2, pae3⟩ := pa_14.open2
            obtain ⟨pbe0, pbe1, pbe2, pbe3⟩ := pb_14.open2
            obtain ⟨pve0, pve1, pve2, pve3⟩ := pv_14.open2
            obtain ⟨pue0, pue1, pue2, pue3⟩ := pu_14.open2
            go_wp2_with fail
            refine (ME2.out _).mono ?_
            rintro e w17 ⟨rfl, hb17⟩
            clear pae0 pae1 pae2 pae3 pbe0 pbe1 pbe2 pbe3 pve0 pve1 pve2 pve3 pue0 pue1 pue2 pue3
            have hB_15 := hB_14.trans (hb17.mono hB_14.size)
            have pa_15 := pa_14.below hb17
            have pb_15 := pb_14.below hb17
            have pv_15 := pv_14.below hb17
            have pu_15 := pu_14.below hb17
            clear hb17 hB_14 pa_14 pb_14 pv_14 pu_14
            obtain ⟨pae0, pae1, pae2, pae3⟩ := pa_15.open2
            obtain ⟨pbe0, pbe1, pbe2, pbe3⟩ := pb_15.open2
            obtain ⟨pve0, pve1, pve2, pve3⟩ := pv_15.open2
            obtain ⟨pue0, pue1, pue2, pue3⟩ := pu_15.open2
            go_wp2
            go_ret
            exact ⟨rfl, hB_15⟩
          · go_wp2_with fail
            refine (ON2.out _).mono ?_
            rintro e w12 ⟨rfl, hb12⟩
            clear pae0 pae1 pae2 pae3 pbe0 pbe1 pbe2 pbe3 pve0 pve1 pve2 pve3 pue0 pue1 pue2 pue3
            have hB_10 := hB_9.trans (hb12.mono hB_9.size)
            have pa_10 := pa_9.below hb12
            have pb_10 := pb_9.below hb12
            have pv_10 := pv_9.below hb12
            have pu_10 := pu_9.below hb12
            clear hb12 hB_9 pa_9 pb_9 pv_9 pu_9
            obtain ⟨pae0, pae1, pae2, pae3⟩ := pa_10.open2
            obtain ⟨pbe0, pbe1, pbe2, pbe3⟩ := pb_10.open2
            obtain ⟨pve0, pve1, pve2, pve3⟩ := pv_10.open2
            obtain ⟨pue0, pue1, pue2, pue3⟩ := pu_10.open2
            obtain rfl : mm = true := hm.symm.trans rfl
            go_wp2_with fail
            refine (CR1.out _).mono ?_
            rintro e w13 ⟨rfl, hb13⟩
            clear pae0 pae1 pae2 pae3 pbe0 pbe1 pbe2 pbe3 pve0 pve1 pve2 pve3 pue0 pue1 pue2 pue3
            have hB_11 := hB_10.trans (hb13.mono hB_10.size)
            have pa_11 := pa_10.below hb13
            have pb_11 := pb_10.below hb13
            have pv_11 := pv_10.below hb13
            have pu_11 := pu_10.below hb13
            clear hb13 hB_10 pa_10 pb_10 pv_10 pu_10
            obtain ⟨pae0, pae1, pae2, pae3⟩ := pa_11.open2
            obtain ⟨pbe0, pbe1, pbe2, pbe3⟩ := pb_11.open2
            obtain ⟨pve0, pve1, pve2, pve3⟩ := pv_11.open2
            obtain ⟨pue0, pue1, pue2, pue3⟩ := pu_11.open2
            go_wp2_with fail
            refine (CR2.out _).mono ?_
            rintro e w14 ⟨rfl, hb14⟩
            clear pae0 pae1 pae2 pae3 pbe0 pbe1 pbe2 pbe3 pve0 pve1 pve2 pve3 pue0 pue1 pue2 pue3
            have hB_12 := hB_11.trans (hb14.mono hB_11.size)
            have pa_12 := pa_11.below hb14
            have pb_12 := pb_11.below hb14
            have pv_12 := pv_11.below hb14
            have pu_12 := pu_11.below hb14
            clear hb14 hB_11 pa_11 pb_11 pv_11 pu_11
            obtain ⟨pae0, pae1, pae2, pae3⟩ := pa_12.open2
            obtain ⟨pbe0, pbe1, pbe2, pbe3⟩ := pb_12.open2
            obtain ⟨pve0, pve1, pve2, pve3⟩ := pv_12.open2
            obtain ⟨pue0, pue1, pue2, pue3⟩ := pu_12.open2
            go_wp2_with fail
            refine (ME1.out _).mono ?_
            rintro e w15 ⟨rfl, hb15⟩
            clear pae0 pae1 pae2 pae3 pbe0 pbe1 pbe2 pbe3 pve0 pve1 pve2 pve3 pue0 pue1 pue2 pue3
            have hB_13 := hB_12.trans (hb15.mono hB_12.size)
            have pa_13 := pa_12.below hb15
            have pb_13 := pb_12.below hb15
            have pv_13 := pv_12.below hb15
            have pu_13 := pu_12.below hb15
            clear hb15 hB_12 pa_12 pb_12 pv_12 pu_12
            obtain ⟨pae0, pae1, pae2, pae3⟩ := pa_13.open2
            obtain ⟨pbe0, pbe1, pbe2, pbe3⟩ := pb_13.open2
            obtain ⟨pve0, pve1, pve2, pve3⟩ := pv_13.open2
            obtain ⟨pue0, pue1, pue2, pue3⟩ := pu_13.open2
            go_wp2_with fail
            refine (ME2.out _).mono ?_
            rintro e w16 ⟨rfl, hb16⟩
            clear pae0 pae1 pae2 pae3 pbe0 pbe1 pbe2 pbe3 pve0 pve1 pve2 pve3 pue0 pue1 pue2 pue3
            have hB_14 := hB_13.trans (hb16.mono hB_13.size)
            have pa_14 := pa_13.below hb16
            have pb_14 := pb_13.below hb16
            have pv_14 := pv_13.below hb16
            have pu_14 := pu_13.below hb16
            clear hb16 hB_13 pa_13 pb_13 pv_13 pu_13
            obtain ⟨pae0, pae1, pae2, pae3⟩ := pa_14.open2
            obtain ⟨pbe0, pbe1, pbe2, pbe3⟩ := pb_14.open2
            obtain ⟨pve0, pve1, pve2, pve3⟩ := pv_14.open2
            obtain ⟨pue0, pue1, pue2, pue3⟩ := pu_14.open2
            go_wp2
            go_ret
            exact ⟨rfl, hB_14⟩
        · go_wp2_with fail
          refine (ON1.out _).mono ?_
          rintro e w11 ⟨rfl, hb11⟩
          clear pae0 pae1 pae2 pae3 pbe0 pbe1 pbe2 pbe3 pve0 pve1 pve2 pve3 pue0 pue1 pue2 pue3
          have hB_9 := hB_8.trans (hb11.mono hB_8.size)
          have pa_9 := pa_8.below hb11
          have pb_9 := pb_8.below hb11
          have pv_9 := pv_8.below hb11
          have pu_9 := pu_8.below hb11
          clear hb11 hB_8 pa_8 pb_8 pv_8 pu_8
          obtain ⟨pae0, pae1, pae2, pae3⟩ := pa_9.open2
          obtain ⟨pbe0, pbe1, pbe2, pbe3⟩ := pb_9.open2
          obtain ⟨pve0, pve1, pve2, pve3⟩ := pv_9.open2
          obtain ⟨pue0, pue1, pue2, pue3⟩ := pu_9.open2
          obtain rfl : mm = true := hm.symm.trans rfl
          go_wp2_with fail
          refine (CR1.out _).mono ?_
          rintro e w12 ⟨rfl, hb12⟩
          clear pae0 pae1 pae2 pae3 pbe0 pbe1 pbe2 pbe3 pve0 pve1 pve2 pve3 pue0 pue1 pue2 pue3
          have hB_10 := hB_9.trans (hb12.mono hB_9.size)
          have pa_10 := pa_9.below hb12
          have pb_10 := pb_9.below hb12
          have pv_10 := pv_9.below hb12
          have pu_10 := pu_9.below hb12
          clear hb12 hB_9 pa_9 pb_9 pv_9 pu_9
          obtain ⟨pae0, pae1, pae2, pae3⟩ := pa_10.open2
          obtain ⟨pbe0, pbe1, pbe2, pbe3⟩ := pb_10.open2
          obtain ⟨pve0, pve1, pve2, pve3⟩ := pv_10.open2
          obtain ⟨pue0, pue1, pue2, pue3⟩ := pu_10.open2
          go_wp2_with fail
          refine (CR2.out _).mono ?_
          rintro e w13 ⟨rfl, hb13⟩
          clear pae0 pae1 pae2 pae3 pbe0 pbe1 pbe2 pbe3 pve0 pve1 pve2 pve3 pue0 pue1 pue2 pue3
          have hB_11 := hB_10.trans (hb13.mono hB_10.size)
          have pa_11 := pa_10.below hb13
          have pb_11 := pb_10.below hb13
          have pv_11 := pv_10.below hb13
          have pu_11 := pu_10.below hb13
          clear hb13 hB_10 pa_10 pb_10 pv_10 pu_10
          obtain ⟨pae0, pae1, pae2, pae3⟩ := pa_11.open2
          obtain ⟨pbe0, pbe1, pbe2, pbe3⟩ := pb_11.open2
          obtain ⟨pve0, pve1, pve2, pve3⟩ := pv_11.open2
          obtain ⟨pue0, pue1, pue2, pue3⟩ := pu_11.open2
          go_wp2_with fail
          refine (ME1.out _).mono ?_
          rintro e w14 ⟨rfl, hb14⟩
          clear pae0 pae1 pae2 pae3 pbe0 pbe1 pbe2 pbe3 pve0 pve1 pve2 pve3 pue0 pue1 pue2 pue3
          have hB_12 := hB_11.trans (hb14.mono hB_11.size)
          have pa_12 := pa_11.below hb14
          have pb_12 := pb_11.below hb14
          have pv_12 := pv_11.below hb14
          have pu_12 := pu_11.below hb14
          clear hb14 hB_11 pa_11 pb_11 pv_11 pu_11
          obtain ⟨pae0, pae1, pae2, pae3⟩ := pa_12.open2
          obtain ⟨pbe0, pbe1, pbe2, pbe3⟩ := pb_12.open2
          obtain ⟨pve0, pve1, pve2, pve3⟩ := pv_12.open2
          obtain ⟨pue0, pue1, pue2, pue3⟩ := pu_12.open2
          go_wp2_with fail
          refine (ME2.out _).mono ?_
          rintro e w15 ⟨rfl, hb15⟩
          clear pae0 pae1 pae2 pae3 pbe0 pbe1 pbe2 pbe3 pve0 pve1 pve2 pve3 pue0 pue1 pue2 pue3
          have hB_13 := hB_12.trans (hb15.mono hB_12.size)
          have pa_13 := pa_12.below hb15
          have pb_13 := pb_12.below hb15
          have pv_13 := pv_12.below hb15
          have pu_13 := pu_12.below hb15
          clear hb15 hB_12 pa_12 pb_12 pv_12 pu_12
          obtain ⟨pae0, pae1, pae2, pae3⟩ := pa_13.open2
          obtain ⟨pbe0, pbe1, pbe2, pbe3⟩ := pb_13.open2
          obtain ⟨pve0, pve1, pve2, pve3⟩ := pv_13.open2
          obtain ⟨pue0, pue1, pue2, pue3⟩ := pu_13.open2
          go_wp2
          go_ret
          exact ⟨rfl, hB_13⟩
      · go_wp2_with fail
        refine (ON0.out _).mono ?_
        rintro e w10 ⟨rfl, hb10⟩
        clear pae0 pae1 pae2 pae3 pbe0 pbe1 pbe2 pbe3 pve0 pve1 pve2 pve3 pue0 pue1 pue2 pue3
        have hB_8 := hB_7.trans (hb10.mono hB_7.size)
        have pa_8 := pa_7.below hb10
        have pb_8 := pb_7.below hb10
        have pv_8 := pv_7.below hb10
        have pu_8 := pu_7.below hb10
        clear hb10 hB_7 pa_7 pb_7 pv_7 pu_7
        obtain ⟨pae0, pae1, pae2, pae3⟩ := pa_8.open2
        obtain ⟨pbe0, pbe1, pbe2, pbe3⟩ := pb_8.open2
        obtain ⟨pve0, pve1, pve2, pve3⟩ := pv_8.open2
        obtain ⟨pue0, pue1, pue2, pue3⟩ := pu_8.open2
        obtain rfl : mm = true := hm.symm.trans rfl
        go_wp2_with fail
        refine (CR1.out _).mono ?_
        rintro e w11 ⟨rfl, hb11⟩
        clear pae0 pae1 pae2 pae3 pbe0 pbe1 pbe2 pbe3 pve0 pve1 pve2 pve3 pue0 pue1 pue2 pue3
        have hB_9 := hB_8.trans (hb11.mono hB_8.size)
        have pa_9 := pa_8.below hb11
        have pb_9 := pb_8.below hb11
        have pv_9 := pv_8.below hb11
        have pu_9 := pu_8.below hb11
        clear hb11 hB_8 pa_8 pb_8 pv_8 pu_8
        obtain ⟨pae0, pae1, pae2, pae3⟩ := pa_9.open2
        obtain ⟨pbe0, pbe1, pbe2, pbe3⟩ := pb_9.open2
        obtain ⟨pve0, pve1, pve2, pve3⟩ := pv_9.open2
        obtain ⟨pue0, pue1, pue2, pue3⟩ := pu_9.open2
        go_wp2_with fail
        refine (CR2.out _).mono ?_
        rintro e w12 ⟨rfl, hb12⟩
        clear pae0 pae1 pae2 pae3 pbe0 pbe1 pbe2 pbe3 pve0 pve1 pve2 pve3 pue0 pue1 pue2 pue3
        have hB_10 := hB_9.trans (hb12.mono hB_9.size)
        have pa_10 := pa_9.below hb12
        have pb_10 := pb_9.below hb12
        have pv_10 := pv_9.below hb12
        have pu_10 := pu_9.below hb12
        clear hb12 hB_9 pa_9 pb_9 pv_9 pu_9
        obtain ⟨pae0, pae1, pae2, pae3⟩ := pa_10.open2
        obtain ⟨pbe0, pbe1, pbe2, pbe3⟩ := pb_10.open2
        obtain ⟨pve0, pve1, pve2, pve3⟩ := pv_10.open2
        obtain ⟨pue0, pue1, pue2, pue3⟩ := pu_10.open2
        go_wp2_with fail
        refine (ME1.out _).mono ?_
        rintro e w13 ⟨rfl, hb13⟩
        clear pae0 pae1 pae2 pae3 pbe0 pbe1 pbe2 pbe3 pve0 pve1 pve2 pve3 pue0 pue1 pue2 pue3
        have hB_11 := hB_10.trans (hb13.mono hB_10.size)
        have pa_11 := pa_10.below hb13
        have pb_11 := pb_10.below hb13
        have pv_11 := pv_10.below hb13
        have pu_11 := pu_10.below hb13
        clear hb13 hB_10 pa_10 pb_10 pv_10 pu_10
        obtain ⟨pae0, pae1, pae2, pae3⟩ := pa_11.open2
        obtain ⟨pbe0, pbe1, pbe2, pbe3⟩ := pb_11.open2
        obtain ⟨pve0, pve1, pve2, pve3⟩ := pv_11.open2
        obtain ⟨pue0, pue1, pue2, pue3⟩ := pu_11.open2
        go_wp2_with fail
        refine (ME2.out _).mono ?_
        rintro e w14 ⟨rfl, hb14⟩
        clear pae0 pae1 pae2 pae3 pbe0 pbe1 pbe2 pbe3 pve0 pve1 pve2 pve3 pue0 pue1 pue2 pue3
        have hB_12 := hB_11.trans (hb14.mono hB_11.size)
        have pa_12 := pa_11.below hb14
        have pb_12 := pb_11.below hb14
        have pv_12 := pv_11.below hb14
        have pu_12 := pu_11.below hb14
        clear hb14 hB_11 pa_11 pb_11 pv_11 pu_11
        obtain ⟨pae0, pae1, pae2, pae3⟩ := pa_12.open2
        obtain ⟨pbe0, pbe1, pbe2, pbe3⟩ := pb_12.open2
        obtain ⟨pve0, pve1, pve2, pve3⟩ := pv_12.open2
        obtain ⟨pue0, pue1, pue2, pue3⟩ := pu_12.open2
        go_wp2
        go_ret
        exact ⟨rfl, hB_12⟩
    · cases c2
      · have g1 := G1.out; have g2 := G2.out
        clear pae0 pae1 pae2 pae3 pbe0 pbe1 pbe2 pbe3 pve0 pve1 pve2 pve3 pue0 pue1 pue2 pue3
        have hB_5 := hB_4.drew'
        have pa_5 := pa_4.drew
        have pb_5 := pb_4.drew
        have pv_5 := pv_4.drew
        have pu_5 := pu_4.drew
        refine wp_region_noPanic ?_
        refine wp_region_held_drew (S := fun w' => w'.cell? ⟨gpa, 0, none⟩ = some (.int .i64 a0) ∧ w'.cell? ⟨gpa, 1, none⟩ = some (.int .i64 a1) ∧ w'.cell? ⟨gpb, 0, none⟩ = some (.int .i64 b0) ∧ w'.cell? ⟨gpb, 1, none⟩ = some (.int .i64 b1) ∧ w'.cell? ⟨gpv, 0, none⟩ = some (.int .i64 v0) ∧ w'.cell? ⟨gpv, 1, none⟩ = some (.int .i64 v1) ∧ w'.cell? ⟨gpu, 0, none⟩ = some (.int .i64 u0) ∧ w'.cell? ⟨gpu, 1, none⟩ = some (.int .i64 u1)) (by kernel_rfl) (⟨pa_5.c0, pa_5.c1, pb_5.c0, pb_5.c1, pv_5.c0, pv_5.c1, pu_5.c0, pu_5.c1⟩) (fun hHeld => ?_)
        refine reg_take 0 ?_ ?_ ?_ (by kernel_rfl) (by kernel_rfl) (by kernel_rfl) (fun _ _ _ h => h) ?_ ?_ (by assumption) ?_
        rotate_left 2
        · simp only [List.getElem?_toArray, List.getElem?_cons_zero]; exact rfl
        · rfl
        · intro w hSw; (try dsimp only at hSw); go_simp; try with_reducible rfl
        try simp only [Act.put]
        try simp only [List.setIfInBounds_toArray, List.set_cons_zero, List.set_cons_succ]
        refine reg_take 1 ?_ ?_ ?_ (by kernel_rfl) (by kernel_rfl) (by kernel_rfl) (fun _ _ _ h => h) ?_ ?_ (by assumption) ?_
        rotate_left 2
        · simp only [List.getElem?_toArray, List.getElem?_cons_succ, List.getElem?_cons_zero]; exact rfl
        · rfl
        · intro w hSw; (try dsimp only at hSw); go_simp; try with_reducible rfl
        try simp only [Act.put]
        try simp only [List.setIfInBounds_toArray, List.set_cons_zero, List.set_cons_succ]
        refine reg_take 2 ?_ ?_ ?_ (by kernel_rfl) (by kernel_rfl) (by kernel_rfl) (fun _ _ _ h => h) ?_ ?_ (by assumption) ?_
        rotate_left 2
        · simp only [List.getElem?_toArray, List.getElem?_cons_succ, List.getElem?_cons_zero]; exact rfl
        · rfl
        · intro w hSw; (try dsimp only at hSw); go_simp; try with_reducible rfl
        try simp only [Act.put]
        try simp only [List.setIfInBounds_toArray, List.set_cons_zero, List.set_cons_succ]
        refine reg_take 3 ?_ ?_ ?_ (by kernel_rfl) (by kernel_rfl) (by kernel_rfl) (fun _ _ _ h => h) ?_ ?_ (by assumption) ?_
        rotate_left 2
        · simp only [List.getElem?_toArray, List.getElem?_cons_succ, List.getElem?_cons_zero]; exact rfl
        · rfl
        · intro w hSw; (try dsimp only at hSw); go_simp; try with_reducible rfl
        try simp only [Act.put]
        try simp only [List.setIfInBounds_toArray, List.set_cons_zero, List.set_cons_succ]
        refine reg_take 5 ?_ ?_ ?_ (by kernel_rfl) (by kernel_rfl) (by kernel_rfl) (fun _ _ _ h => h) ?_ ?_ (by assumption) ?_
        rotate_left 2
        · simp only [List.getElem?_toArray, List.getElem?_cons_succ, List.getElem?_cons_zero]; exact rfl
        · rfl
        · intro w hSw; (try dsimp only at hSw); go_simp; try with_reducible rfl
        try simp only [Act.put]
        try simp only [List.setIfInBounds_toArray, List.set_cons_zero, List.set_cons_succ]
        refine reg_take 6 ?_ ?_ ?_ (by kernel_rfl) (by kernel_rfl) (by kernel_rfl) (fun _ _ _ h => h) ?_ ?_ (by assumption) ?_
        rotate_left 2
        · simp only [List.getElem?_toArray, List.getElem?_cons_succ, List.getElem?_cons_zero]; exact rfl
        · rfl
        · intro w hSw; (try dsimp only at hSw); go_simp; try with_reducible rfl
        try simp only [Act.put]
        try simp only [List.setIfInBounds_toArray, List.set_cons_zero, List.set_cons_succ]
        refine reg_take 7 ?_ ?_ ?_ (by kernel_rfl) (by kernel_rfl) (by kernel_rfl) (fun _ _ _ h => h) ?_ ?_ (by assumption) ?_
        rotate_left 2
        · simp only [List.getElem?_toArray, List.getElem?_cons_succ, List.getElem?_cons_zero]; exact rfl
        · rfl
        · intro w hSw; (try dsimp only at hSw); go_simp; try with_reducible rfl
        try simp only [Act.put]
        try simp only [List.setIfInBounds_toArray, List.set_cons_zero, List.set_cons_succ]
        refine reg_take 8 ?_ ?_ ?_ (by kernel_rfl) (by kernel_rfl) (by kernel_rfl) (fun _ _ _ h => h) ?_ ?_ (by assumption) ?_
        rotate_left 2
        · simp only [List.getElem?_toArray, List.getElem?_cons_succ, List.getElem?_cons_zero]; exact rfl
        · rfl
        · intro w hSw; (try dsimp only at hSw); go_simp; try with_reducible rfl
        try simp only [Act.put]
        try simp only [List.setIfInBounds_toArray, List.set_cons_zero, List.set_cons_succ]
        refine reg_call 4 ?_ (by kernel_rfl) ?_ (fun K hK => ?_)
        rotate_left 1
        · simp only [List.getElem?_toArray, List.getElem?_cons_succ, List.getElem?_cons_zero]; exact rfl
        go_simp
        refine (SD0.out _).mono ?_
        rintro e w8 ⟨rfl, hb8⟩
        have hB_6 := hB_5.trans (hb8.mono hB_5.size)
        have pa_6 := pa_5.below hb8
        have pb_6 := pb_5.below hb8
        have pv_6 := pv_5.below hb8
        have pu_6 := pu_5.below hb8
        clear hb8 hB_5 pa_5 pb_5 pv_5 pu_5
        go_wp2_with fail
        refine hK.out _ _ ⟨pa_6.c0, pa_6.c1, pb_6.c0, pb_6.c1, pv_6.c0, pv_6.c1, pu_6.c0, pu_6.c1⟩ (fun hHeld => ?_)
        clear hK K
        try simp only [Act.put]
        try simp only [List.setIfInBounds_toArray, List.set_cons_zero, List.set_cons_succ]
        refine reg_call 9 ?_ (by kernel_rfl) ?_ (fun K hK => ?_)
        rotate_left 1
        · simp only [List.getElem?_toArray, List.getElem?_cons_succ, List.getElem?_cons_zero]; exact rfl
        go_simp
        refine (SD1.out _).mono ?_
        rintro e w9 ⟨rfl, hb9⟩
        have hB_7 := hB_6.trans (hb9.mono hB_6.size)
        have pa_7 := pa_6.below hb9
        have pb_7 := pb_6.below hb9
        have pv_7 := pv_6.below hb9
        have pu_7 := pu_6.below hb9
        clear hb9 hB_6 pa_6 pb_6 pv_6 pu_6
        go_wp2_with fail
        refine hK.out _ _ ⟨pa_7.c0, pa_7.c1, pb_7.c0, pb_7.c1, pv_7.c0, pv_7.c1, pu_7.c0, pu_7.c1⟩ (fun hHeld => ?_)
        clear hK K
        try simp only [Act.put]
        try simp only [List.setIfInBounds_toArray, List.set_cons_zero, List.set_cons_succ]
        refine reg_take 10 ?_ ?_ ?_ (by kernel_rfl) (by kernel_rfl) (by kernel_rfl) (fun _ _ _ h => h) ?_ ?_ (by assumption) ?_
        rotate_left 2
        · simp only [List.getElem?_toArray, List.getElem?_cons_succ, List.getElem?_cons_zero]; exact rfl
        · rfl
        · intro w hSw; (try dsimp only at hSw); go_simp; try with_reducible rfl
        try simp only [Act.put]
        try simp only [List.setIfInBounds_toArray, List.set_cons_zero, List.set_cons_succ]
        refine reg_take 11 ?_ ?_ ?_ (by kernel_rfl) (by kernel_rfl) (by kernel_rfl) (fun _ _ _ h => h) ?_ ?_ (by assumption) ?_
        rotate_left 2
        · simp only [List.getElem?_toArray, List.getElem?_cons_succ, List.getElem?_cons_zero]; exact rfl
        · rfl
        · intro w hSw; (try dsimp only at hSw); go_simp; try with_reducible rfl
        try simp only [Act.put]
        try simp only [List.setIfInBounds_toArray, List.set_cons_zero, List.set_cons_succ]
        refine reg_take 12 ?_ ?_ ?_ (by kernel_rfl) (by kernel_rfl) (by kernel_rfl) (fun _ _ _ h => h) ?_ ?_ (by assumption) ?_
        rotate_left 2
        · simp only [List.getElem?_toArray, List.getElem?_cons_succ, List.getElem?_cons_zero]; exact rfl
        · rfl
        · intro w hSw; (try dsimp only at hSw); go_simp; try with_reducible rfl
        try simp only [Act.put]
        try simp only [List.setIfInBounds_toArray, List.set_cons_zero, List.set_cons_succ]
        refine reg_take 13 ?_ ?_ ?_ (by kernel_rfl) (by kernel_rfl) (by kernel_rfl) (fun _ _ _ h => h) ?_ ?_ (by assumption) ?_
        rotate_left 2
        · simp only [List.getElem?_toArray, List.getElem?_cons_succ, List.getElem?_cons_zero]; exact rfl
        · rfl
        · intro w hSw; (try dsimp only at hSw); go_simp; try with_reducible rfl
        try simp only [Act.put]
        try simp only [List.setIfInBounds_toArray, List.set_cons_zero, List.set_cons_succ]
        refine reg_take 14 ?_ ?_ ?_ (by kernel_rfl) (by kernel_rfl) (by kernel_rfl) (fun _ _ _ h => h) ?_ ?_ (by assumption) ?_
        rotate_left 2
        · simp only [List.getElem?_toArray, List.getElem?_cons_succ, List.getElem?_cons_zero]; exact rfl
        · rfl
        · intro w hSw; (try dsimp only at hSw); go_simp; try with_reducible rfl
        try simp only [Act.put]
        try simp only [List.setIfInBounds_toArray, List.set_cons_zero, List.set_cons_succ]
        refine reg_take 15 ?_ ?_ ?_ (by kernel_rfl) (by kernel_rfl) (by kernel_rfl) (fun _ _ _ h => h) ?_ ?_ (by assumption) ?_
        rotate_left 2
        · simp only [List.getElem?_toArray, List.getElem?_cons_succ, List.getElem?_cons_zero]; exact rfl
        · rfl
        · intro w hSw; (try dsimp only at hSw); go_simp; try with_reducible rfl
        try simp only [Act.put]
        try simp only [List.setIfInBounds_toArray, List.set_cons_zero, List.set_cons_succ]
        refine reg_take 16 ?_ ?_ ?_ (by kernel_rfl) (by kernel_rfl) (by kernel_rfl) (fun _ _ _ h => h) ?_ ?_ (by assumption) ?_
        rotate_left 2
        · simp only [List.getElem?_toArray, List.getElem?_cons_succ, List.getElem?_cons_zero]; exact rfl
        · rfl
        · intro w hSw; (try dsimp only at hSw); go_simp; try with_reducible rfl
        try simp only [Act.put]
        try simp only [List.setIfInBounds_toArray, List.set_cons_zero, List.set_cons_succ]
        refine reg_take 18 ?_ ?_ ?_ (by kernel_rfl) (by kernel_rfl) (by kernel_rfl) (fun _ _ _ h => h) ?_ ?_ (by assumption) ?_
        rotate_left 2
        · simp only [List.getElem?_toArray, List.getElem?_cons_succ, List.getElem?_cons_zero]; exact rfl
        · rfl
        · intro w hSw; (try dsimp only at hSw); go_simp; try with_reducible rfl
        try simp only [Act.put]
        try simp only [List.setIfInBounds_toArray, List.set_cons_zero, List.set_cons_succ]
        refine reg_take 19 ?_ ?_ ?_ (by kernel_rfl) (by kernel_rfl) (by kernel_rfl) (fun _ _ _ h => h) ?_ ?_ (by assumption) ?_
        rotate_left 2
        · simp only [List.getElem?_toArray, List.getElem?_cons_succ, List.getElem?_cons_zero]; exact rfl
        · rfl
        · intro w hSw; (try dsimp only at hSw); go_simp; try with_reducible rfl
        try simp only [Act.put]
        try simp only [List.setIfInBounds_toArray, List.set_cons_zero, List.set_cons_succ]
        refine reg_take 20 ?_ ?_ ?_ (by kernel_rfl) (by kernel_rfl) (by kernel_rfl) (fun _ _ _ h => h) ?_ ?_ (by assumption) ?_
        rotate_left 2
        · simp only [List.getElem?_toArray, List.getElem?_cons_succ, List.getElem?_cons_zero]; exact rfl
        · rfl
        · intro w hSw; (try dsimp only at hSw); go_simp; try with_reducible rfl
        try simp only [Act.put]
        try simp only [List.setIfInBounds_toArray, List.set_cons_zero, List.set_cons_succ]
        refine reg_take 21 ?_ ?_ ?_ (by kernel_rfl) (by kernel_rfl) (by kernel_rfl) (fun _ _ _ h => h) ?_ ?_ (by assumption) ?_
        rotate_left 2
        · simp only [List.getElem?_toArray, List.getElem?_cons_succ, List.getElem?_cons_zero]; exact rfl
        · rfl
        · intro w hSw; (try dsimp only at hSw); go_simp; try with_reducible rfl
        try simp only [Act.put]
        try simp only [List.setIfInBounds_toArray, List.set_cons_zero, List.set_cons_succ]
        refine reg_call 17 ?_ (by kernel_rfl) ?_ (fun K hK => ?_)
        rotate_left 1
        · simp only [List.getElem?_toArray, List.getElem?_cons_succ, List.getElem?_cons_zero]; exact rfl
        go_simp
        refine (SD2.out _).mono ?_
        rintro e w10 ⟨rfl, hb10⟩
        have hB_8 := hB_7.trans (hb10.mono hB_7.size)
        have pa_8 := pa_7.below hb10
        have pb_8 := pb_7.below hb10
        have pv_8 := pv_7.below hb10
        have pu_8 := pu_7.below hb10
        clear hb10 hB_7 pa_7 pb_7 pv_7 pu_7
        go_wp2_with fail
        refine hK.out _ _ ⟨pa_8.c0, pa_8.c1, pb_8.c0, pb_8.c1, pv_8.c0, pv_8.c1, pu_8.c0, pu_8.c1⟩ (fun hHeld => ?_)
        clear hK K
        try simp only [Act.put]
        try simp only [List.setIfInBounds_toArray, List.set_cons_zero, List.set_cons_succ]
        refine reg_call 22 ?_ (by kernel_rfl) ?_ (fun K hK => ?_)
        rotate_left 1
        · simp only [List.getElem?_toArray, List.getElem?_cons_succ, List.getElem?_cons_zero]; exact rfl
        go_simp
        refine (SD3.out _).mono ?_
        rintro e w11 ⟨rfl, hb11⟩
        have hB_9 := hB_8.trans (hb11.mono hB_8.size)
        have pa_9 := pa_8.below hb11
        have pb_9 := pb_8.below hb11
        have pv_9 := pv_8.below hb11
        have pu_9 := pu_8.below hb11
        clear hb11 hB_8 pa_8 pb_8 pv_8 pu_8
        go_wp2_with fail
        refine hK.out _ _ ⟨pa_9.c0, pa_9.c1, pb_9.c0, pb_9.c1, pv_9.c0, pv_9.c1, pu_9.c0, pu_9.c1⟩ (fun hHeld => ?_)
        clear hK K
        try simp only [Act.put]
        try simp only [List.setIfInBounds_toArray, List.set_cons_zero, List.set_cons_succ]
        refine reg_take 23 ?_ ?_ ?_ (by kernel_rfl) (by kernel_rfl) (by kernel_rfl) (fun _ _ _ h => h) ?_ ?_ (by assumption) ?_
        rotate_left 2
        · simp only [List.getElem?_toArray, List.getElem?_cons_succ, List.getElem?_cons_zero]; exact rfl
        · rfl
        · intro w hSw; (try dsimp only at hSw); go_simp; try with_reducible rfl
        try simp only [Act.put]
        try simp only [List.setIfInBounds_toArray, List.set_cons_zero, List.set_cons_succ]
        refine reg_take 24 ?_ ?_ ?_ (by kernel_rfl) (by kernel_rfl) (by kernel_rfl) (fun _ _ _ h => h) ?_ ?_ (by assumption) ?_
        rotate_left 2
        · simp only [List.getElem?_toArray, List.getElem?_cons_succ, List.getElem?_cons_zero]; exact rfl
        · rfl
        · intro w hSw; (try dsimp only at hSw); go_simp; try with_reducible rfl
        try simp only [Act.put]
        try simp only [List.setIfInBounds_toArray, List.set_cons_zero, List.set_cons_succ]
        refine reg_take 25 ?_ ?_ ?_ (by kernel_rfl) (by kernel_rfl) (by kernel_rfl) (fun _ _ _ h => h) ?_ ?_ (by assumption) ?_
        rotate_left 2
        · simp only [List.getElem?_toArray, List.getElem?_cons_succ, List.getElem?_cons_zero]; exact rfl
        · rfl
        · intro w hSw; (try dsimp only at hSw); go_simp; try with_reducible rfl
        try simp only [Act.put]
        try simp only [List.setIfInBounds_toArray, List.set_cons_zero, List.set_cons_succ]
        refine reg_take 26 ?_ ?_ ?_ (by kernel_rfl) (by kernel_rfl) (by kernel_rfl) (fun _ _ _ h => h) ?_ ?_ (by assumption) ?_
        rotate_left 2
        · simp only [List.getElem?_toArray, List.getElem?_cons_succ, List.getElem?_cons_zero]; exact rfl
        · rfl
        · intro w hSw; (try dsimp only at hSw); go_simp; try with_reducible rfl
        try simp only [Act.put]
        try simp only [List.setIfInBounds_toArray, List.set_cons_zero, List.set_cons_succ]
        refine wpAnyH_done (by kernel_rfl) ?_ _
        refine NoPanic.normal ?_
        clear e1 e2 g1 g2
        obtain rfl : cc = false := hc.symm.trans rfl
        obtain ⟨pae0, pae1, pae2, pae3⟩ := pa_9.open2
        obtain ⟨pbe0, pbe1, pbe2, pbe3⟩ := pb_9.open2
        obtain ⟨pve0, pve1, pve2, pve3⟩ := pv_9.open2
        obtain ⟨pue0, pue1, pue2, pue3⟩ := pu_9.open2
        cases o0
        · go_wp2_with fail
          refine (ON0.out _).mono ?_
          rintro e w12 ⟨rfl, hb12⟩
          clear pae0 pae1 pae2 pae3 pbe0 pbe1 pbe2 pbe3 pve0 pve1 pve2 pve3 pue0 pue1 pue2 pue3
          have hB_10 := hB_9.trans (hb12.mono hB_9.size)
          have pa_10 := pa_9.below hb12
          have pb_10 := pb_9.below hb12
          have pv_10 := pv_9.below hb12
          have pu_10 := pu_9.below hb12
          clear hb12 hB_9 pa_9 pb_9 pv_9 pu_9
          obtain ⟨pae0, pae1, pae2, pae3⟩ := pa_10.open2
          obtain ⟨pbe0, pbe1, pbe2, pbe3⟩ := pb_10.open2
          obtain ⟨pve0, pve1, pve2, pve3⟩ := pv_10.open2
          obtain ⟨pue0, pue1, pue2, pue3⟩ := pu_10.open2
          cases o1
          · go_wp2_with fail
            refine (ON1.out _).mono ?_
            rintro e w13 ⟨rfl, hb13⟩
            clear pae0 pae1 pae2 pae3 pbe0 pbe1 pbe2 pbe3 pve0 pve1 pve2 pve3 pue0 pue1 pue2 pue3
            have hB_11 := hB_10.trans (hb13.mono hB_10.size)
            have pa_11 := pa_10.below hb13
            have pb_11 := pb_10.below hb13
            have pv_11 := pv_10.below hb13
            have pu_11 := pu_10.below hb13
            clear hb13 hB_10 pa_10 pb_10 pv_10 pu_10
            obtain ⟨pae0, pae1, pae2, pae3⟩ := pa_11.open2
            obtain ⟨pbe0, pbe1, pbe2, pbe3⟩ := pb_11.open2
            obtain ⟨pve0, pve1, pve2, pve3⟩ := pv_11.open2
            obtain ⟨pue0, pue1, pue2, pue3⟩ := pu_11.open2
            cases o2
            · go_wp2_with fail
              refine (ON2.out _).mono ?_
              rintro e w14 ⟨rfl, hb14⟩
              clear pae0 pae1 pae2 pae3 pbe0 pbe1 pbe2 pbe3 pve0 pve1 pve2 pve3 pue0 pue1 pue2 pue3
              have hB_12 := hB_11.trans (hb14.mono hB_11.size)
              have pa_12 := pa_11.below hb14
              have pb_12 := pb_11.below hb14
              have pv_12 := pv_11.below hb14
              have pu_12 := pu_11.below hb14
              clear hb14 hB_11 pa_11 pb_11 pv_11 pu_11
              obtain ⟨pae0, pae1, pae2, pae3⟩ := pa_12.open2
              obtain ⟨pbe0, pbe1, pbe2, pbe3⟩ := pb_12.open2
              obtain ⟨pve0, pve1, pve2, pve3⟩ := pv_12.open2
              obtain ⟨pue0, pue1, pue2, pue3⟩ := pu_12.open2
              go_wp2_with fail
              refine (ON3.out _).mono ?_
              rintro e w15 ⟨rfl, hb15⟩
              clear pae0 pae1 pae2 pae3 pbe0 pbe1 pbe2 pbe3 pve0 pve1 pve2 pve3 pue0 pue1 pue2 pue3
              have hB_13 := hB_12.trans (hb15.mono hB_12.size)
              have pa_13 := pa_12.below hb15
              have pb_13 := pb_12.below hb15
              have pv_13 := pv_12.below hb15
              have pu_13 := pu_12.below hb15
              clear hb15 hB_12 pa_12 pb_12 pv_12 pu_12
              obtain ⟨pae0, pae1, pae2, pae3⟩ := pa_13.open2
              obtain ⟨pbe0, pbe1, pbe2, pbe3⟩ := pb_13.open2
              obtain ⟨pve0, pve1, pve2, pve3⟩ := pv_13.open2
              obtain ⟨pue0, pue1, pue2, pue3⟩ := pu_13.open2
              obtain rfl : mm = o3 := hm.symm.trans rfl
              go_wp2_with fail
              refine (CR1.out _).mono ?_
              rintro e w16 ⟨rfl, hb16⟩
              clear pae0 pae1 pae2 pae3 pbe0 pbe1 pbe2 pbe3 pve0 pve1 pve2 pve3 pue0 pue1 pue2 pue3
              have hB_14 := hB_13.trans (hb16.mono hB_13.size)
              have pa_14 := pa_13.below hb16
              have pb_14 := pb_13.below hb16
              have pv_14 := pv_13.below hb16
              have pu_14 := pu_13.below hb16
              clear hb16 hB_13 pa_13 pb_13 pv_13 pu_13
              obtain ⟨pae0, pae1, pae2, pae3⟩ := pa_14.open2
              obtain ⟨pbe0, pbe1, pbe2, pbe3⟩ := pb_14.open2
              obtain ⟨pve0, pve1, pve2, pve3⟩ := pv_14.open2
              obtain ⟨pue0, pue1, pue2, pue3⟩ := pu_14.open2
              go_wp2_with fail
              refine (CR2.out _).mono ?_
              rintro e w17 ⟨rfl, hb17⟩
              clear pae0 pae1 pae2 pae3 pbe0 pbe1 pbe2 pbe3 pve0 pve1 pve2 pve3 pue0 pue1 pue2 pue3
              have hB_15 := hB_14.trans (hb17.mono hB_14.size)
              have pa_15 := pa_14.below hb17
              have pb_15 := pb_14.below hb17
              have pv_15 := pv_14.below hb17
              have pu_15 := pu_14.below hb17
              clear hb17 hB_14 pa_14 pb_14 pv_14 pu_14
              obtain ⟨pae0, pae1, pae2, pae3⟩ := pa_15.open2
              obtain ⟨pbe0, pbe1, pbe2, pbe3⟩ := pb_15.open2
              obtain ⟨pve0, pve1, pve2, pve3⟩ := pv_15.open2
              obtain ⟨pue0, pue1, pue2, pue3⟩ := pu_15.open2
              go_wp2_with fail
              refine (ME1.out _).mono ?_
              rintro e w18 ⟨rfl, hb18⟩
              clear pae0 pae1 pae2 pae3 pbe0 pbe1 pbe2 pbe3 pve0 pve1 pve2 pve3 pue0 pue1 pue2 pue3
              have hB_16 := hB_15.trans (hb18.mono hB_15.size)
              have pa_16 := pa_15.below hb18
              have pb_16 := pb_15.below hb18
              have pv_16 := pv_15.below hb18
              have pu_16 := pu_15.below hb18
              clear hb18 hB_15 pa_15 pb_15 pv_15 pu_15
              obtain ⟨pae0, pae1, pae2, pae3⟩ := pa_16.open2
              obtain ⟨pbe0, pbe1, pbe2, pbe3⟩ := pb_16.open2
              obtain ⟨pve0, pve1, pve2, pve3⟩ := pv_16.open2
              obtain ⟨pue0, pue1, pue2, pue3⟩ := pu_16.open2
              go_wp2_with fail
              refine (ME2.out _).mono ?_
              rintro e w19 ⟨rfl, hb19⟩
              clear pae0 pae1 pae2 pae3 pbe0 pbe1 pbe2 pbe3 pve0 pve1 pve2 pve3 pue0 pue1 pue2 pue3
              have hB_17 := hB_16.trans (hb19.mono hB_16.size)
              have pa_17 := pa_16.below hb19
              have pb_17 := pb_16.below hb19
              have pv_17 := pv_16.below hb19
              have pu_17 := pu_16.below hb19
              clear hb19 hB_16 pa_16 pb_16 pv_16 pu_16
              obtain ⟨pae0, pae1, pae2, pae3⟩ := pa_17.open2
              obtain ⟨pbe0, pbe1, pbe2, pbe3⟩ := pb_17.open2
              obtain ⟨pve0, pve1, pve2, pve3⟩ := pv_17.open2
              obtain ⟨pue0, pue1, pue2, pue3⟩ := pu_17.open2
              go_wp2
              go_ret
              exact ⟨rfl, hB_17⟩
            · go_wp2_with fail
              refine (ON2.out _).mono ?_
              rintro e w14 ⟨rfl, hb14⟩
              clear pae0 pae1 pae2 pae3 pbe0 pbe1 pbe2 pbe3 pve0 pve1 pve2 pve3 pue0 pue1 pue2 pue3
              have hB_12 := hB_11.trans (hb14.mono hB_11.size)
              have pa_12 := pa_11.below hb14
              have pb_12 := pb_11.below hb14
              have pv_12 := pv_11.below hb14
              have pu_12 := pu_11.below hb14
              clear hb14 hB_11 pa_11 pb_11 pv_11 pu_11
              obtain ⟨pae0, pae1, pae2, pae3⟩ := pa_12.open2
              obtain ⟨pbe0, pbe1, pbe2, pbe3⟩ := pb_12.open2
              obtain ⟨pve0, pve1, pve2, pve3⟩ := pv_12.open2
              obtain ⟨pue0, pue1, pue2, pue3⟩ := pu_12.open2
              obtain rfl : mm = true := hm.symm.trans rfl
              go_wp2_with fail
              refine (CR1.out _).mono ?_
              rintro e w15 ⟨rfl, hb15⟩
              clear pae0 pae1 pae2 pae3 pbe0 pbe1 pbe2 pbe3 pve0 pve1 pve2 pve3 pue0 pue1 pue2 pue3
              have hB_13 := hB_12.trans (hb15.mono hB_12.size)
              have pa_13 := pa_12.below hb15
              have pb_13 := pb_12.below hb15
              have pv_13 := pv_12.below hb15
              have pu_13 := pu_12.below hb15
              clear hb15 hB_12 pa_12 pb_12 pv_12 pu_12
              obtain ⟨pae0, pae1, pae2, pae3⟩ := pa_13.open2
              obtain ⟨pbe0, pbe1, pbe2, pbe3⟩ := pb_13.open2
              obtain ⟨pve0, pve1, pve2, pve3⟩ := pv_13.open2
              obtain ⟨pue0, pue1, pue2, pue3⟩ := pu_13.open2
              go_wp2_with fail
              refine (CR2.out _).mono ?_
              rintro e w16 ⟨rfl, hb16⟩
              clear pae0 pae1 pae2 pae3 pbe0 pbe1 pbe2 pbe3 pve0 pve1 pve2 pve3 pue0 pue1 pue2 pue3
              have hB_14 := hB_13.trans (hb16.mono hB_13.size)
              have pa_14 := pa_13.below hb16
              have pb_14 := pb_13.below hb16
              have pv_14 := pv_13.below hb16
              have pu_14 := pu_13.below hb16
              clear hb16 hB_13 pa_13 pb_13 pv_13 pu_13
              obtain ⟨pae0, pae1, pae2, pae3⟩ := pa_14.open2
              obtain ⟨pbe0, pbe1, pbe2, pbe3⟩ := pb_14.open2
              obtain ⟨pve0, pve1, pve2, pve3⟩ := pv_14.open2
              obtain ⟨pue0, pue1, pue2, pue3⟩ := pu_14.open2
              go_wp2_with fail
              refine (ME1.out _).mono ?_
              rintro e w17 ⟨rfl, hb17⟩
              clear pae0 pae1 pae2 pae3 pbe0 pbe1 pbe2 pbe3 pve0 pve1 pve2 pve3 pue0 pue1 pue2 pue3
              have hB_15 := hB_14.trans (hb17.mono hB_14.size)
              have pa_15 := pa_14.below hb17
              have pb_15 := pb_14.below hb17
              have pv_15 := pv_14.below hb17
              have pu_15 := pu_14.below hb17
              clear hb17 hB_14 pa_14 pb_14 pv_14 pu_14
              obtain ⟨pae0, pae1, pae2, pae3⟩ := pa_15.open2
              obtain ⟨pbe0, pbe1, pbe2, pbe3⟩ := pb_15.open2
              obtain ⟨pve0, pve1, pve2, pve3⟩ := pv_15.open2
              obtain ⟨pue0, pue1, pue2, pue3⟩ := pu_15.open2
              go_wp2_with fail
              refine (ME2.out _).mono ?_
              rintro e w18 ⟨rfl, hb18⟩
              clear pae0 pae1 pae2 pae3 pbe0 pbe1 pbe2 pbe3 pve0 pve1 pve2 pve3 pue0 pue1 pue2 pue3
              have hB_16 := hB_15.trans (hb18.mono hB_15.size)
              have pa_16 := pa_15.below hb18
              have pb_16 := pb_15.below hb18
              have pv_16 := pv_15.below hb18
              have pu_16 := pu_15.below hb18
              clear hb18 hB_15 pa_15 pb_15 pv_15 pu_15
              obtain ⟨pae0, pae1, pae2, pae3⟩ := pa_16.open2
              obtain ⟨pbe0, pbe1, pbe2, pbe3⟩ := pb_16.open2
              obtain ⟨pve0, pve1, pve2, pve3⟩ := pv_16.open2
              obtain ⟨pue0, pue1, pue2, pue3⟩ := pu_16.open2
              go_wp2
              go_ret
              exact ⟨rfl, hB_16⟩
          · go_wp2_with fail
            refine (ON1.out _).mono ?_
            rintro e w13 ⟨rfl, hb13⟩
            clear pae0 pae1 pae2 pae3 pbe0 pbe1 pbe2 pbe3 pve0 pve1 pve2 pve3 pue0 pue1 pue2 pue3
            have hB_11 := hB_10.trans (hb13.mono hB_10.size)
            have pa_11 := pa_10.below hb13
            have pb_11 := pb_10.below hb13
            have pv_11 := pv_10.below hb13
            have pu_11 := pu_10.below hb13
            clear hb13 hB_10 pa_10 pb_10 pv_10 pu_10
            obtain ⟨pae0, pae1, pae2, pae3⟩ := pa_11.open2
            obtain ⟨pbe0, pbe1, pbe2, pbe3⟩ := pb_11.open2
            obtain ⟨pve0, pve1, pve2, pve3⟩ := pv_11.open2
            obtain ⟨pue0, pue1, pue2, pue3⟩ := pu_11.open2
            obtain rfl : mm = true := hm.symm.trans rfl
            go_wp2_with fail
            refine (CR1.out _).mono ?_
            rintro e w14 ⟨rfl, hb14⟩
            clear pae0 pae1 pae2 pae3 pbe0 pbe1 pbe2 pbe3 pve0 pve1 pve2 pve3 pue0 pue1 pue2 pue3
            have hB_12 := hB_11.trans (hb14.mono hB_11.size)
            have pa_12 := pa_11.below hb14
            have pb_12 := pb_11.below hb14
            have pv_12 := pv_11.below hb14
            have pu_12 := pu_11.below hb14
            clear hb14 hB_11 pa_11 pb_11 pv_11 pu_11
            obtain ⟨pae0, pae1, pae2, pae3⟩ := pa_12.open2
            obtain ⟨pbe0, pbe1, pbe2, pbe3⟩ := pb_12.open2
            obtain ⟨pve0, pve1, pve2, pve3⟩ := pv_12.open2
            obtain ⟨pue0, pue1, pue2, pue3⟩ := pu_12.open2
            go_wp2_with fail
            refine (CR2.out _).mono ?_
            rintro e w15 ⟨rfl, hb15⟩
            clear pae0 pae1 pae2 pae3 pbe0 pbe1 pbe2 pbe3 pve0 pve1 pve2 pve3 pue0 pue1 pue2 pue3
            have hB_13 := hB_12.trans (hb15.mono hB_12.size)
            have pa_13 := pa_12.below hb15
            have pb_13 := pb_12.below hb15
            have pv_13 := pv_12.below hb15
            have pu_13 := pu_12.below hb15
            clear hb15 hB_12 pa_12 pb_12 pv_12 pu_12
            obtain ⟨pae0, pae1, pae2, pae3⟩ := pa_13.open2
            obtain ⟨pbe0, pbe1, pbe2, pbe3⟩ := pb_13.open2
            obtain ⟨pve0, pve1, pve2, pve3⟩ := pv_13.open2
            obtain ⟨pue0, pue1, pue2, pue3⟩ := pu_13.open2
            go_wp2_with fail
            refine (ME1.out _).mono ?_
            rintro e w16 ⟨rfl, hb16⟩
            clear pae0 pae1 pae2 pae3 pbe0 pbe1 pbe2 pbe3 pve0 pve1 pve2 pve3 pue0 pue1 pue2 pue3
            have hB_14 := hB_13.trans (hb16.mono hB_13.size)
            have pa_14 := pa_13.below hb16
            have pb_14 := pb_13.below hb16
            have pv_14 := pv_13.below hb16
            have pu_14 := pu_13.below hb16
            clear hb16 hB_13 pa_13 pb_13 pv_13 pu_13
            obtain ⟨pae0, pae1, pae2, pae3⟩ := pa_14.open2
            obtain ⟨pbe0, pbe1, pbe2, pbe3⟩ := pb_14.open2
            obtain ⟨pve0, pve1, pve2, pve3⟩ := pv_14.open2
            obtain ⟨pue0, pue1, pue2, pue3⟩ := pu_14.open2
            go_wp2_with fail
            refine (ME2.out _).mono ?_
            rintro e w17 ⟨rfl, hb17⟩
            clear pae0 pae1 pae2 pae3 pbe0 pbe1 pbe2 pbe3 pve0 pve1 pve2 pve3 pue0 pue1 pue2 pue3
            have hB_15 := hB_14.trans (hb17.mono hB_14.size)
            have pa_15 := pa_14.below hb17
            have pb_15 := pb_14.below hb17
            have pv_15 := pv_14.below hb17
            have pu_15 := pu_14.below hb17
            clear hb17 hB_14 pa_14 pb_14 pv_14 pu_14
            obtain ⟨pae0, pae1, pae2, pae3⟩ := pa_15.open2
            obtain ⟨pbe0, pbe1, pbe2, pbe3⟩ := pb_15.open2
            obtain ⟨pve0, pve1, pve2, pve3⟩ := pv_15.open2
            obtain ⟨pue0, pue1, pue2, pue3⟩ := pu_15.open2
            go_wp2
            go_ret
            exact ⟨rfl, hB_15⟩
        · go_wp2_with fail
          refine (ON0.out _).mono ?_
          rintro e w12 ⟨rfl, hb12⟩
          clear pae0 pae1 pae2 pae3 pbe0 pbe1 pbe2 pbe3 pve0 pve1 pve2 pve3 pue0 pue1 pue2 pue3
          have hB_10 := hB_9.trans (hb12.mono hB_9.size)
          have pa_10 := pa_9.below hb12
          have pb_10 := pb_9.below hb12
          have pv_10 := pv_9.below hb12
          have pu_10 := pu_9.below hb12
          clear hb12 hB_9 pa_9 pb_9 pv_9 pu_9
          obtain ⟨pae0, pae1, pae2, pae3⟩ := pa_10.open2
          obtain ⟨pbe0, pbe1, pbe2, pbe3⟩ := pb_10.open2
          obtain ⟨pve0, pve1, pve2, pve3⟩ := pv_10.open2
          obtain ⟨pue0, pue1, pue2, pue3⟩ := pu_10.open2
          obtain rfl : mm = true := hm.symm.trans rfl
          go_wp2_with fail
          refine (CR1.out _).mono ?_
          rintro e w13 ⟨rfl, hb13⟩
          clear pae0 pae1 pae2 pae3 pbe0 pbe1 pbe2 pbe3 pve0 pve1 pve2 pve3 pue0 pue1 pue2 pue3
          have hB_11 := hB_10.trans (hb13.mono hB_10.size)
          have pa_11 := pa_10.below hb13
          have pb_11 := pb_10.below hb13
          have pv_11 := pv_10.below hb13
          have pu_11 := pu_10.below hb13
          clear hb13 hB_10 pa_10 pb_10 pv_10 pu_10
          obtain ⟨pae0, pae1, pae2, pae3⟩ := pa_11.open2
          obtain ⟨pbe0, pbe1, pbe2, pbe3⟩ := pb_11.open2
          obtain ⟨pve0, pve1, pve2, pve3⟩ := pv_11.open2
          obtain ⟨pue0, pue1, pue2, pue3⟩ := pu_11.open2
          go_wp2_with fail
          refine (CR2.out _).mono ?_
          rintro e w14 ⟨rfl, hb14⟩
          clear pae0 pae1 pae2 pae3 pbe0 pbe1 pbe2 pbe3 pve0 pve1 pve2 pve3 pue0 pue1 pue2 pue3
          have hB_12 := hB_11.trans (hb14.mono hB_11.size)
          have pa_12 := pa_11.below hb14
          have pb_12 := pb_11.below hb14
          have pv_12 := pv_11.below hb14
          have pu_12 := pu_11.below hb14
          clear hb14 hB_11 pa_11 pb_11 pv_11 pu_11
          obtain ⟨pae0, pae1, pae2, pae3⟩ := pa_12.open2
          obtain ⟨pbe0, pbe1, pbe2, pbe3⟩ := pb_12.open2
          obtain ⟨pve0, pve1, pve2, pve3⟩ := pv_12.open2
          obtain ⟨pue0, pue1, pue2, pue3⟩ := pu_12.open2
          go_wp2_with fail
          refine (ME1.out _).mono ?_
          rintro e w15 ⟨rfl, hb15⟩
          clear pae0 pae1 pae2 pae3 pbe0 pbe1 pbe2 pbe3 pve0 pve1 pve2 pve3 pue0 pue1 pue2 pue3
          have hB_13 := hB_12.trans (hb15.mono hB_12.size)
          have pa_13 := pa_12.below hb15
          have pb_13 := pb_12.below hb15
          have pv_13 := pv_12.below hb15
          have pu_13 := pu_12.below hb15
          clear hb15 hB_12 pa_12 pb_12 pv_12 pu_12
          obtain ⟨pae0, pae1, pae2, pae3⟩ := pa_13.open2
          obtain ⟨pbe0, pbe1, pbe2, pbe3⟩ := pb_13.open2
          obtain ⟨pve0, pve1, pve2, pve3⟩ := pv_13.open2
          obtain ⟨pue0, pue1, pue2, pue3⟩ := pu_13.open2
          go_wp2_with fail
          refine (ME2.out _).mono ?_
          rintro e w16 ⟨rfl, hb16⟩
          clear pae0 pae1 pae2 pae3 pbe0 pbe1 pbe2 pbe3 pve0 pve1 pve2 pve3 pue0 pue1 pue2 pue3
          have hB_14 := hB_13.trans (hb16.mono hB_13.size)
          have pa_14 := pa_13.below hb16
          have pb_14 := pb_13.below hb16
          have pv_14 := pv_13.below hb16
          have pu_14 := pu_13.below hb16
          clear hb16 hB_13 pa_13 pb_13 pv_13 pu_13
          obtain ⟨pae0, pae1, pae2, pae3⟩ := pa_14.open2
          obtain ⟨pbe0, pbe1, pbe2, pbe3⟩ := pb_14.open2
          obtain ⟨pve0, pve1, pve2, pve3⟩ := pv_14.open2
          obtain ⟨pue0, pue1, pue2, pue3⟩ := pu_14.open2
          go_wp2
          go_ret
          exact ⟨rfl, hB_14⟩
      · have g1 := G1.out; have g2 := G2.out
        clear pae0 pae1 pae2 pae3 pbe0 pbe1 pbe2 pbe3 pve0 pve1 pve2 pve3 pue0 pue1 pue2 pue3
        have hB_5 := hB_4.drew'
        have pa_5 := pa_4.drew
        have pb_5 := pb_4.drew
        have pv_5 := pv_4.drew
        have pu_5 := pu_4.drew
        refine wp_region_noPanic ?_
        refine wp_region_held_drew (S := fun w' => w'.cell? ⟨gpa, 0, none⟩ = some (.int .i64 a0) ∧ w'.cell? ⟨gpa, 1, none⟩ = some (.int .i64 a1) ∧ w'.cell? ⟨gpb, 0, none⟩ = some (.int .i64 b0) ∧ w'.cell? ⟨gpb, 1, none⟩ = some (.int .i64 b1) ∧ w'.cell? ⟨gpv, 0, none⟩ = some (.int .i64 v0) ∧ w'.cell? ⟨gpv, 1, none⟩ = some (.int .i64 v1) ∧ w'.cell? ⟨gpu, 0, none⟩ = some (.int .i64 u0) ∧ w'.cell? ⟨gpu, 1, none⟩ = some (.int .i64 u1)) (by kernel_rfl) (⟨pa_5.c0, pa_5.c1, pb_5.c0, pb_5.c1, pv_5.c0, pv_5.c1, pu_5.c0, pu_5.c1⟩) (fun hHeld => ?_)
        refine reg_take 0 ?_ ?_ ?_ (by kernel_rfl) (by kernel_rfl) (by kernel_rfl) (fun _ _ _ h => h) ?_ ?_ (by assumption) ?_
        rotate_left 2
        · simp only [List.getElem?_toArray, List.getElem?_cons_zero]; exact rfl
        · rfl
        · intro w hSw; (try dsimp only at hSw); go_simp; try with_reducible rfl
        try simp only [Act.put]
        try simp only [List.setIfInBounds_toArray, List.set_cons_zero, List.set_cons_succ]
        refine reg_take 1 ?_ ?_ ?_ (by kernel_rfl) (by kernel_rfl) (by kernel_rfl) (fun _ _ _ h => h) ?_ ?_ (by assumption) ?_
        rotate_left 2
        · simp only [List.getElem?_toArray, List.getElem?_cons_succ, List.getElem?_cons_zero]; exact rfl
        · rfl
        · intro w hSw; (try dsimp only at hSw); go_simp; try with_reducible rfl
        try simp only [Act.put]
        try simp only [List.setIfInBounds_toArray, List.set_cons_zero, List.set_cons_succ]
        refine reg_take 2 ?_ ?_ ?_ (by kernel_rfl) (by kernel_rfl) (by kernel_rfl) (fun _ _ _ h => h) ?_ ?_ (by assumption) ?_
        rotate_left 2
        · simp only [List.getElem?_toArray, List.getElem?_cons_succ, List.getElem?_cons_zero]; exact rfl
        · rfl
        · intro w hSw; (try dsimp only at hSw); go_simp; try with_reducible rfl
        try simp only [Act.put]
        try simp only [List.setIfInBounds_toArray, List.set_cons_zero, List.set_cons_succ]
        refine reg_take 3 ?_ ?_ ?_ (by kernel_rfl) (by kernel_rfl) (by kernel_rfl) (fun _ _ _ h => h) ?_ ?_ (by assumption) ?_
        rotate_left 2
        · simp only [List.getElem?_toArray, List.getElem?_cons_succ, List.getElem?_cons_zero]; exact rfl
        · rfl
        · intro w hSw; (try dsimp only at hSw); go_simp; try with_reducible rfl
        try simp only [Act.put]
        try simp only [List.setIfInBounds_toArray, List.set_cons_zero, List.set_cons_succ]
        refine reg_take 5 ?_ ?_ ?_ (by kernel_rfl) (by kernel_rfl) (by kernel_rfl) (fun _ _ _ h => h) ?_ ?_ (by assumption) ?_
        rotate_left 2
        · simp only [List.getElem?_toArray, List.getElem?_cons_succ, List.getElem?_cons_zero]; exact rfl
        · rfl
        · intro w hSw; (try dsimp only at hSw); go_simp; try with_reducible rfl
        try simp only [Act.put]
        try simp only [List.setIfInBounds_toArray, List.set_cons_zero, List.set_cons_succ]
        refine reg_take 6 ?_ ?_ ?_ (by kernel_rfl) (by kernel_rfl) (by kernel_rfl) (fun _ _ _ h => h) ?_ ?_ (by assumption) ?_
        rotate_left 2
        · simp only [List.getElem?_toArray, List.getElem?_cons_succ, List.getElem?_cons_zero]; exact rfl
        · rfl
        · intro w hSw; (try dsimp only at hSw); go_simp; try with_reducible rfl
        try simp only [Act.put]
        try simp only [List.setIfInBounds_toArray, List.set_cons_zero, List.set_cons_succ]
        refine reg_take 7 ?_ ?_ ?_ (by kernel_rfl) (by kernel_rfl) (by kernel_rfl) (fun _ _ _ h => h) ?_ ?_ (by assumption) ?_
        rotate_left 2
        · simp only [List.getElem?_toArray, List.getElem?_cons_succ, List.getElem?_cons_zero]; exact rfl
        · rfl
        · intro w hSw; (try dsimp only at hSw); go_simp; try with_reducible rfl
        try simp only [Act.put]
        try simp only [List.setIfInBounds_toArray, List.set_cons_zero, List.set_cons_succ]
        refine reg_take 8 ?_ ?_ ?_ (by kernel_rfl) (by kernel_rfl) (by kernel_rfl) (fun _ _ _ h => h) ?_ ?_ (by assumption) ?_
        rotate_left 2
        · simp only [List.getElem?_toArray, List.getElem?_cons_succ, List.getElem?_cons_zero]; exact rfl
        · rfl
        · intro w hSw; (try dsimp only at hSw); go_simp; try with_reducible rfl
        try simp only [Act.put]
        try simp only [List.setIfInBounds_toArray, List.set_cons_zero, List.set_cons_succ]
        refine reg_call 4 ?_ (by kernel_rfl) ?_ (fun K hK => ?_)
        rotate_left 1
        · simp only [List.getElem?_toArray, List.getElem?_cons_succ, List.getElem?_cons_zero]; exact rfl
        go_simp
        refine (SD0.out _).mono ?_
        rintro e w8 ⟨rfl, hb8⟩
        have hB_6 := hB_5.trans (hb8.mono hB_5.size)
        have pa_6 := pa_5.below hb8
        have pb_6 := pb_5.below hb8
        have pv_6 := pv_5.below hb8
        have pu_6 := pu_5.below hb8
        clear hb8 hB_5 pa_5 pb_5 pv_5 pu_5
        go_wp2_with fail
        refine hK.out _ _ ⟨pa_6.c0, pa_6.c1, pb_6.c0, pb_6.c1, pv_6.c0, pv_6.c1, pu_6.c0, pu_6.c1⟩ (fun hHeld => ?_)
        clear hK K
        try simp only [Act.put]
        try simp only [List.setIfInBounds_toArray, List.set_cons_zero, List.set_cons_succ]
        refine reg_call 9 ?_ (by kernel_rfl) ?_ (fun K hK => ?_)
        rotate_left 1
        · simp only [List.getElem?_toArray, List.getElem?_cons_succ, List.getElem?_cons_zero]; exact rfl
        go_simp
        refine (SD1.out _).mono ?_
        rintro e w9 ⟨rfl, hb9⟩
        have hB_7 := hB_6.trans (hb9.mono hB_6.size)
        have pa_7 := pa_6.below hb9
        have pb_7 := pb_6.below hb9
        have pv_7 := pv_6.below hb9
        have pu_7 := pu_6.below hb9
        clear hb9 hB_6 pa_6 pb_6 pv_6 pu_6
        go_wp2_with fail
        refine hK.out _ _ ⟨pa_7.c0, pa_7.c1, pb_7.c0, pb_7.c1, pv_7.c0, pv_7.c1, pu_7.c0, pu_7.c1⟩ (fun hHeld => ?_)
        clear hK K
        try simp only [Act.put]
        try simp only [List.setIfInBounds_toArray, List.set_cons_zero, List.set_cons_succ]
        refine reg_take 10 ?_ ?_ ?_ (by kernel_rfl) (by kernel_rfl) (by kernel_rfl) (fun _ _ _ h => h) ?_ ?_ (by assumption) ?_
        rotate_left 2
        · simp only [List.getElem?_toArray, List.getElem?_cons_succ, List.getElem?_cons_zero]; exact rfl
        · rfl
        · intro w hSw; (try dsimp only at hSw); go_simp; try with_reducible rfl
        try simp only [Act.put]
        try simp only [List.setIfInBounds_toArray, List.set_cons_zero, List.set_cons_succ]
        refine reg_take 11 ?_ ?_ ?_ (by kernel_rfl) (by kernel_rfl) (by kernel_rfl) (fun _ _ _ h => h) ?_ ?_ (by assumption) ?_
        rotate_left 2
        · simp only [List.getElem?_toArray, List.getElem?_cons_succ, List.getElem?_cons_zero]; exact rfl
        · rfl
        · intro w hSw; (try dsimp only at hSw); go_simp; try with_reducible rfl
        try simp only [Act.put]
        try simp only [List.setIfInBounds_toArray, List.set_cons_zero, List.set_cons_succ]
        refine reg_take 12 ?_ ?_ ?_ (by kernel_rfl) (by kernel_rfl) (by kernel_rfl) (fun _ _ _ h => h) ?_ ?_ (by assumption) ?_
        rotate_left 2
        · simp only [List.getElem?_toArray, List.getElem?_cons_succ, List.getElem?_cons_zero]; exact rfl
        · rfl
        · intro w hSw; (try dsimp only at hSw); go_simp; try with_reducible rfl
        try simp only [Act.put]
        try simp only [List.setIfInBounds_toArray, List.set_cons_zero, List.set_cons_succ]
        refine reg_take 13 ?_ ?_ ?_ (by kernel_rfl) (by kernel_rfl) (by kernel_rfl) (fun _ _ _ h => h) ?_ ?_ (by assumption) ?_
        rotate_left 2
        · simp only [List.getElem?_toArray, List.getElem?_cons_succ, List.getElem?_cons_zero]; exact rfl
        · rfl
        · intro w hSw; (try dsimp only at hSw); go_simp; try with_reducible rfl
        try simp only [Act.put]
        try simp only [List.setIfInBounds_toArray, List.set_cons_zero, List.set_cons_succ]
        refine reg_take 14 ?_ ?_ ?_ (by kernel_rfl) (by kernel_rfl) (by kernel_rfl) (fun _ _ _ h => h) ?_ ?_ (by assumption) ?_
        rotate_left 2
        · simp only [List.getElem?_toArray, List.getElem?_cons_succ, List.getElem?_cons_zero]; exact rfl
        · rfl
        · intro w hSw; (try dsimp only at hSw); go_simp; try with_reducible rfl
        try simp only [Act.put]
        try simp only [List.setIfInBounds_toArray, List.set_cons_zero, List.set_cons_succ]
        refine reg_take 15 ?_ ?_ ?_ (by kernel_rfl) (by kernel_rfl) (by kernel_rfl) (fun _ _ _ h => h) ?_ ?_ (by assumption) ?_
        rotate_left 2
        · simp only [List.getElem?_toArray, List.getElem?_cons_succ, List.getElem?_cons_zero]; exact rfl
        · rfl
        · intro w hSw; (try dsimp only at hSw); go_simp; try with_reducible rfl
        try simp only [Act.put]
        try simp only [List.setIfInBounds_toArray, List.set_cons_zero, List.set_cons_succ]
        refine reg_take 16 ?_ ?_ ?_ (by kernel_rfl) (by kernel_rfl) (by kernel_rfl) (fun _ _ _ h => h) ?_ ?_ (by assumption) ?_
        rotate_left 2
        · simp only [List.getElem?_toArray, List.getElem?_cons_succ, List.getElem?_cons_zero]; exact rfl
        · rfl
        · intro w hSw; (try dsimp only at hSw); go_simp; try with_reducible rfl
        try simp only [Act.put]
        try simp only [List.setIfInBounds_toArray, List.set_cons_zero, List.set_cons_succ]
        refine reg_take 18 ?_ ?_ ?_ (by kernel_rfl) (by kernel_rfl) (by kernel_rfl) (fun _ _ _ h => h) ?_ ?_ (by assumption) ?_
        rotate_left 2
        · simp only [List.getElem?_toArray, List.getElem?_cons_succ, List.getElem?_cons_zero]; exact rfl
        · rfl
        · intro w hSw; (try dsimp only at hSw); go_simp; try with_reducible rfl
        try simp only [Act.put]
        try simp only [List.setIfInBounds_toArray, List.set_cons_zero, List.set_cons_succ]
        refine reg_take 19 ?_ ?_ ?_ (by kernel_rfl) (by kernel_rfl) (by kernel_rfl) (fun _ _ _ h => h) ?_ ?_ (by assumption) ?_
        rotate_left 2
        · simp only [List.getElem?_toArray, List.getElem?_cons_succ, List.getElem?_cons_zero]; exact rfl
        · rfl
        · intro w hSw; (try dsimp only at hSw); go_simp; try with_reducible rfl
        try simp only [Act.put]
        try simp only [List.setIfInBounds_toArray, List.set_cons_zero, List.set_cons_succ]
        refine reg_take 20 ?_ ?_ ?_ (by kernel_rfl) (by kernel_rfl) (by kernel_rfl) (fun _ _ _ h => h) ?_ ?_ (by assumption) ?_
        rotate_left 2
        · simp only [List.getElem?_toArray, List.getElem?_cons_succ, List.getElem?_cons_zero]; exact rfl
        · rfl
        · intro w hSw; (try dsimp only at hSw); go_simp; try with_reducible rfl
        try simp only [Act.put]
        try simp only [List.setIfInBounds_toArray, List.set_cons_zero, List.set_cons_succ]
        refine reg_take 21 ?_ ?_ ?_ (by kernel_rfl) (by kernel_rfl) (by kernel_rfl) (fun _ _ _ h => h) ?_ ?_ (by assumption) ?_
        rotate_left 2
        · simp only [List.getElem?_toArray, List.getElem?_cons_succ, List.getElem?_cons_zero]; exact rfl
        · rfl
        · intro w hSw; (try dsimp only at hSw); go_simp; try with_reducible rfl
        try simp only [Act.put]
        try simp only [List.setIfInBounds_toArray, List.set_cons_zero, List.set_cons_succ]
        refine reg_call 17 ?_ (by kernel_rfl) ?_ (fun K hK => ?_)
        rotate_left 1
        · simp only [List.getElem?_toArray, List.getElem?_cons_succ, List.getElem?_cons_zero]; exact rfl
        go_simp
        refine (SD2.out _).mono ?_
        rintro e w10 ⟨rfl, hb10⟩
        have hB_8 := hB_7.trans (hb10.mono hB_7.size)
        have pa_8 := pa_7.below hb10
        have pb_8 := pb_7.below hb10
        have pv_8 := pv_7.below hb10
        have pu_8 := pu_7.below hb10
        clear hb10 hB_7 pa_7 pb_7 pv_7 pu_7
        go_wp2_with fail
        refine hK.out _ _ ⟨pa_8.c0, pa_8.c1, pb_8.c0, pb_8.c1, pv_8.c0, pv_8.c1, pu_8.c0, pu_8.c1⟩ (fun hHeld => ?_)
        clear hK K
        try simp only [Act.put]
        try simp only [List.setIfInBounds_toArray, List.set_cons_zero, List.set_cons_succ]
        refine reg_call 22 ?_ (by kernel_rfl) ?_ (fun K hK => ?_)
        rotate_left 1
        · simp only [List.getElem?_toArray, List.getElem?_cons_succ, List.getElem?_cons_zero]; exact rfl
        go_simp
        refine (SD3.out _).mono ?_
        rintro e w11 ⟨rfl, hb11⟩
        have hB_9 := hB_8.trans (hb11.mono hB_8.size)
        have pa_9 := pa_8.below hb11
        have pb_9 := pb_8.below hb11
        have pv_9 := pv_8.below hb11
        have pu_9 := pu_8.below hb11
        clear hb11 hB_8 pa_8 pb_8 pv_8 pu_8
        go_wp2_with fail
        refine hK.out _ _ ⟨pa_9.c0, pa_9.c1, pb_9.c0, pb_9.c1, pv_9.c0, pv_9.c1, pu_9.c0, pu_9.c1⟩ (fun hHeld => ?_)
        clear hK K
        try simp only [Act.put]
        try simp only [List.setIfInBounds_toArray, List.set_cons_zero, List.set_cons_succ]
        refine reg_take 23 ?_ ?_ ?_ (by kernel_rfl) (by kernel_rfl) (by kernel_rfl) (fun _ _ _ h => h) ?_ ?_ (by assumption) ?_
        rotate_left 2
        · simp only [List.getElem?_toArray, List.getElem?_cons_succ, List.getElem?_cons_zero]; exact rfl
        · rfl
        · intro w hSw; (try dsimp only at hSw); go_simp; try with_reducible rfl
        try simp only [Act.put]
        try simp only [List.setIfInBounds_toArray, List.set_cons_zero, List.set_cons_succ]
        refine reg_take 24 ?_ ?_ ?_ (by kernel_rfl) (by kernel_rfl) (by kernel_rfl) (fun _ _ _ h => h) ?_ ?_ (by assumption) ?_
        rotate_left 2
        · simp only [List.getElem?_toArray, List.getElem?_cons_succ, List.getElem?_cons_zero]; exact rfl
        · rfl
        · intro w hSw; (try dsimp only at hSw); go_simp; try with_reducible rfl
        try simp only [Act.put]
        try simp only [List.setIfInBounds_toArray, List.set_cons_zero, List.set_cons_succ]
        refine reg_take 25 ?_ ?_ ?_ (by kernel_rfl) (by kernel_rfl) (by kernel_rfl) (fun _ _ _ h => h) ?_ ?_ (by assumption) ?_
        rotate_left 2
        · simp only [List.getElem?_toArray, List.getElem?_cons_succ, List.getElem?_cons_zero]; exact rfl
        · rfl
        · intro w hSw; (try dsimp only at hSw); go_simp; try with_reducible rfl
        try simp only [Act.put]
        try simp only [List.setIfInBounds_toArray, List.set_cons_zero, List.set_cons_succ]
        refine reg_take 26 ?_ ?_ ?_ (by kernel_rfl) (by kernel_rfl) (by kernel_rfl) (fun _ _ _ h => h) ?_ ?_ (by assumption) ?_
        rotate_left 2
        · simp only [List.getElem?_toArray, List.getElem?_cons_succ, List.getElem?_cons_zero]; exact rfl
        · rfl
        · intro w hSw; (try dsimp only at hSw); go_simp; try with_reducible rfl
        try simp only [Act.put]
        try simp only [List.setIfInBounds_toArray, List.set_cons_zero, List.set_cons_succ]
        refine wpAnyH_done (by kernel_rfl) ?_ _
        refine NoPanic.normal ?_
        clear e1 e2 g1 g2
        obtain rfl : cc = true := hc.symm.trans rfl
        obtain ⟨pae0, pae1, pae2, pae3⟩ := pa_9.open2
        obtain ⟨pbe0, pbe1, pbe2, pbe3⟩ := pb_9.open2
        obtain ⟨pve0, pve1, pve2, pve3⟩ := pv_9.open2
        obtain ⟨pue0, pue1, pue2, pue3⟩ := pu_9.open2
        obtain rfl : mm = true := hm.symm.trans rfl
        go_wp2_with fail
        refine (CR1.out _).mono ?_
        rintro e w12 ⟨rfl, hb12⟩
        clear pae0 pae1 pae2 pae3 pbe0 pbe1 pbe2 pbe3 pve0 pve1 pve2 pve3 pue0 pue1 pue2 pue3
        have hB_10 := hB_9.trans (hb12.mono hB_9.size)
        have pa_10 := pa_9.below hb12
        have pb_10 := pb_9.below hb12
        have pv_10 := pv_9.below hb12
        have pu_10 := pu_9.below hb12
        clear hb12 hB_9 pa_9 pb_9 pv_9 pu_9
        obtain ⟨pae0, pae1, pae2, pae3⟩ := pa_10.open2
        obtain ⟨pbe0, pbe1, pbe2, pbe3⟩ := pb_10.open2
        obtain ⟨pve0, pve1, pve2, pve3⟩ := pv_10.open2
        obtain ⟨pue0, pue1, pue2, pue3⟩ := pu_10.open2
        go_wp2_with fail
        refine (CR2.out _).mono ?_
        rintro e w13 ⟨rfl, hb13⟩
        clear pae0 pae1 pae2 pae3 pbe0 pbe1 pbe2 pbe3 pve0 pve1 pve2 pve3 pue0 pue1 pue2 pue3
        have hB_11 := hB_10.trans (hb13.mono hB_10.size)
        have pa_11 := pa_10.below hb13
        have pb_11 := pb_10.below hb13
        have pv_11 := pv_10.below hb13
        have pu_11 := pu_10.below hb13
        clear hb13 hB_10 pa_10 pb_10 pv_10 pu_10
        obtain ⟨pae0, pae1, pae2, pae3⟩ := pa_11.open2
        obtain ⟨pbe0, pbe1, pbe2, pbe3⟩ := pb_11.open2
        obtain ⟨pve0, pve1, pve2, pve3⟩ := pv_11.open2
        obtain ⟨pue0, pue1, pue2, pue3⟩ := pu_11.open2
        go_wp2_with fail
        refine (ME1.out _).mono ?_
        rintro e w14 ⟨rfl, hb14⟩
        clear pae0 pae1 pae2 pae3 pbe0 pbe1 pbe2 pbe3 pve0 pve1 pve2 pve3 pue0 pue1 pue2 pue3
        have hB_12 := hB_11.trans (hb14.mono hB_11.size)
        have pa_12 := pa_11.below hb14
        have pb_12 := pb_11.below hb14
        have pv_12 := pv_11.below hb14
        have pu_12 := pu_11.below hb14
        clear hb14 hB_11 pa_11 pb_11 pv_11 pu_11
        obtain ⟨pae0, pae1, pae2, pae3⟩ := pa_12.open2
        obtain ⟨pbe0, pbe1, pbe2, pbe3⟩ := pb_12.open2
        obtain ⟨pve0, pve1, pve2, pve3⟩ := pv_12.open2
        obtain ⟨pue0, pue1, pue2, pue3⟩ := pu_12.open2
        go_wp2_with fail
        refine (ME2.out _).mono ?_
        rintro e w15 ⟨rfl, hb15⟩
        clear pae0 pae1 pae2 pae3 pbe0 pbe1 pbe2 pbe3 pve0 pve1 pve2 pve3 pue0 pue1 pue2 pue3
        have hB_13 := hB_12.trans (hb15.mono hB_12.size)
        have pa_13 := pa_12.below hb15
        have pb_13 := pb_12.below hb15
        have pv_13 := pv_12.below hb15
        have pu_13 := pu_12.below hb15
        clear hb15 hB_12 pa_12 pb_12 pv_12 pu_12
        obtain ⟨pae0, pae1, pae2, pae3⟩ := pa_13.open2
        obtain ⟨pbe0, pbe1, pbe2, pbe3⟩ := pb_13.open2
        obtain ⟨pve0, pve1, pve2, pve3⟩ := pv_13.open2
        obtain ⟨pue0, pue1, pue2, pue3⟩ := pu_13.open2
        go_wp2
        go_ret
        exact ⟨rfl, hB_13⟩
  · right
    refine ⟨?_, fun i hi => ?_⟩
    · clear zF rr1 rr2 rr3 rr4 zz0 zz1 zz2 zz3 n0_1 n0_2 n0_3 n1_2 n1_3 n2_3
      obtain rfl | rfl | rfl | rfl | rfl : k = 0 ∨ k = 1 ∨ k = 2 ∨ k = 3 ∨ k = 4 := by omega
      all_goals cases bb0
      all_goals cases bb1
      all_goals cases bb2
      all_goals cases bb3
      all_goals first | exact absurd ⟨rfl, rfl, rfl, rfl, rfl⟩ hL | exact of_decide_eq_true (by kernel_rfl)
    have hd : (k = 0 ∧ i = 2) ∨ (k = 1 ∧ i = 5) ∨ (k = 2 ∧ i = 8) ∨ (k = 3 ∧ i = 11) ∨ (bb0 = false ∧ i = 12) ∨ (bb1 = false ∧ i = 13) ∨ (bb2 = false ∧ i = 14) ∨ (bb3 = false ∧ i = 15) := by
      clear zF rr1 rr2 rr3 rr4 zz0 zz1 zz2 zz3 n0_1 n0_2 n0_3 n1_2 n1_3 n2_3
      revert i
      obtain rfl | rfl | rfl | rfl | rfl : k = 0 ∨ k = 1 ∨ k = 2 ∨ k = 3 ∨ k = 4 := by omega
      all_goals cases bb0
      all_goals cases bb1
      all_goals cases bb2
      all_goals cases bb3
      all_goals first | exact absurd ⟨rfl, rfl, rfl, rfl, rfl⟩ hL | exact of_decide_eq_true (by kernel_rfl)
    clear hi hL
    rcases hd with ⟨rfl, rfl⟩ | ⟨rfl, rfl⟩ | ⟨rfl, rfl⟩ | ⟨rfl, rfl⟩ | ⟨rfl, rfl⟩ | ⟨rfl, rfl⟩ | ⟨rfl, rfl⟩ | ⟨rfl, rfl⟩
    · refine step_of 2 ?_ ?_ (fun K hK => ?_)
      rotate_left 1
      · simp only [List.getElem?_toArray, List.getElem?_cons_succ, List.getElem?_cons_zero]; exact rfl
      rw [HAi.out]
      try simp only [Act.put]
      try simp only [List.setIfInBounds_toArray, List.set_cons_zero, List.set_cons_succ]
      go_simp
      refine (TM0.out _).mono ?_
      rintro e w8 ⟨rfl, hb⟩
      go_wp2_with fail
      refine hK.out _ _ (sFi (cFi zF hb)) ?_
      exact (hIVi _ _ _).2 ⟨1, bb0, bb1, bb2, bb3, (.agg #[.int .i64 a0, .int .i64 a1]), v1_, v2_, v3_, p0_, p1_, p2_, p3_, gpa, gpb, gpv, gpu, (by omega), rfl, (by simp only [HAi.out, Act.put, List.setIfInBounds_toArray, List.set_cons_zero, List.set_cons_succ]), (cFi zF hb), (fun _ => rfl), (fun h => absurd h (by omega)), (fun h => absurd h (by omega)), (fun h => absurd h (by omega)), (fun h => ⟨(zz0 h).1, (zz0 h).2.1.below hb, (zz0 h).2.2⟩), (fun h => ⟨(zz1 h).1, (zz1 h).2.1.below hb, (zz1 h).2.2⟩), (fun h => ⟨(zz2 h).1, (zz2 h).2.1.below hb, (zz2 h).2.2⟩), (fun h => ⟨(zz3 h).1, (zz3 h).2.1.below hb, (zz3 h).2.2⟩), n0_1, n0_2, n0_3, n1_2, n1_3, n2_3⟩
    · obtain rfl := rr1 (by omega)
      refine step_of 5 ?_ ?_ (fun K hK => ?_)
      rotate_left 1
      · simp only [List.getElem?_toArray, List.getElem?_cons_succ, List.getElem?_cons_zero]; exact rfl
      rw [HAi.out]
      try simp only [Act.put]
      try simp only [List.setIfInBounds_toArray, List.set_cons_zero, List.set_cons_succ]
      go_simp
      refine (TM1.out _).mono ?_
      rintro e w9 ⟨rfl, hb⟩
      go_wp2_with fail
      refine hK.out _ _ (sFi (cFi zF hb)) ?_
      exact (hIVi _ _ _).2 ⟨2, bb0, bb1, bb2, bb3, _, (.agg #[.int .i64 b0, .int .i64 b1]), v2_, v3_, p0_, p1_, p2_, p3_, gpa, gpb, gpv, gpu, (by omega), rfl, (by simp only [HAi.out, Act.put, List.setIfInBounds_toArray, List.set_cons_zero, List.set_cons_succ]), (cFi zF hb), (fun _ => rfl), (fun _ => rfl), (fun h => absurd h (by omega)), (fun h => absurd h (by omega)), (fun h => ⟨(zz0 h).1, (zz0 h).2.1.below hb, (zz0 h).2.2⟩), (fun h => ⟨(zz1 h).1, (zz1 h).2.1.below hb, (zz1 h).2.2⟩), (fun h => ⟨(zz2 h).1, (zz2 h).2.1.below hb, (zz2 h).2.2⟩), (fun h => ⟨(zz3 h).1, (zz3 h).2.1.below hb, (zz3 h).2.2⟩), n0_1, n0_2, n0_3, n1_2, n1_3, n2_3⟩
    · obtain rfl := rr1 (by omega)
      obtain rfl := rr2 (by omega)
      refine step_of 8 ?_ ?_ (fun K hK => ?_)
      rotate_left 1
      · simp only [List.getElem?_toArray, List.getElem?_cons_succ, List.getElem?_cons_zero]; exact rfl
      rw [HAi.out]
      try simp only [Act.put]
      try simp only [List.setIfInBounds_toArray, List.set_cons_zero, List.set_cons_succ]
      go_simp
      refine (TM2.out _).mono ?_
      rintro e w10 ⟨rfl, hb⟩
      go_wp2_with fail
      refine hK.out _ _ (sFi (cFi zF hb)) ?_
      exact (hIVi _ _ _).2 ⟨3, bb0, bb1, bb2, bb3, _, _, (.agg #[.int .i64 v0, .int .i64 v1]), v3_, p0_, p1_, p2_, p3_, gpa, gpb, gpv, gpu, (by omega), rfl, (by simp only [HAi.out, Act.put, List.setIfInBounds_toArray, List.set_cons_zero, List.set_cons_succ]), (cFi zF hb), (fun _ => rfl), (fun _ => rfl), (fun _ => rfl), (fun h => absurd h (by omega)), (fun h => ⟨(zz0 h).1, (zz0 h).2.1.below hb, (zz0 h).2.2⟩), (fun h => ⟨(zz1 h).1, (zz1 h).2.1.below hb, (zz1 h).2.2⟩), (fun h => ⟨(zz2 h).1, (zz2 h).2.1.below hb, (zz2 h).2.2⟩), (fun h => ⟨(zz3 h).1, (zz3 h).2.1.below hb, (zz3 h).2.2⟩), n0_1, n0_2, n0_3, n1_2, n1_3, n2_3⟩
    · obtain rfl := rr1 (by omega)
      obtain rfl := rr2 (by omega)
      obtain rfl := rr3 (by omega)
      refine step_of 11 ?_ ?_ (fun K hK => ?_)
      rotate_left 1
      · simp only [List.getElem?_toArray, List.getElem?_cons_succ, List.getElem?_cons_zero]; exact rfl
      rw [HAi.out]
      try simp only [Act.put]
      try simp only [List.setIfInBounds_toArray, List.set_cons_zero, List.set_cons_succ]
      go_simp
      refine (TM3.out _).mono ?_
      rintro e w11 ⟨rfl, hb⟩
      go_wp2_with fail
      refine hK.out _ _ (sFi (cFi zF hb)) ?_
      exact (hIVi _ _ _).2 ⟨4, bb0, bb1, bb2, bb3, _, _, _, (.agg #[.int .i64 u0, .int .i64 u1]), p0_, p1_, p2_, p3_, gpa, gpb, gpv, gpu, (by omega), rfl, (by simp only [HAi.out, Act.put, List.setIfInBounds_toArray, List.set_cons_zero, List.set_cons_succ]), (cFi zF hb), (fun _ => rfl), (fun _ => rfl), (fun _ => rfl), (fun _ => rfl), (fun h => ⟨(zz0 h).1, (zz0 h).2.1.below hb, (zz0 h).2.2⟩), (fun h => ⟨(zz1 h).1, (zz1 h).2.1.below hb, (zz1 h).2.2⟩), (fun h => ⟨(zz2 h).1, (zz2 h).2.1.below hb, (zz2 h).2.2⟩), (fun h => ⟨(zz3 h).1, (zz3 h).2.1.below hb, (zz3 h).2.2⟩), n0_1, n0_2, n0_3, n1_2, n1_3, n2_3⟩
    · refine step_of 12 ?_ ?_ (fun K hK => ?_)
      rotate_left 1
      · simp only [List.getElem?_toArray, List.getElem?_cons_succ, List.getElem?_cons_zero]; exact rfl
      rw [HAi.out]
      try simp only [Act.put]
      try simp only [List.setIfInBounds_toArray, List.set_cons_zero, List.set_cons_succ]
      go_simp
      have hgn := mFi zF
      have hl1 : bb1 = true → gpb < w3.heap.size := fun h => (zz1 h).2.1.lt
      have hl2 : bb2 = true → gpv < w3.heap.size := fun h => (zz2 h).2.1.lt
      have hl3 : bb3 = true → gpu < w3.heap.size := fun h => (zz3 h).2.1.lt
      obtain ⟨wn, hwn, pa_0, hb, -⟩ := new_box w3 _ rfl [.int .i64 0, .int .i64 0] 23
      rw [hwn]
      refine hK.out _ _ (sFi (cFi zF hb)) ?_
      exact (hIVi _ _ _).2 ⟨k, true, bb1, bb2, bb3, v0_, v1_, v2_, v3_, (.pointer (some ⟨w3.heap.size, 0, none⟩)), p1_, p2_, p3_, w3.heap.size, gpb, gpv, gpu, hk, rfl, (by simp only [HAi.out, Act.put, List.setIfInBounds_toArray, List.set_cons_zero, List.set_cons_succ]), (cFi zF hb), rr1, rr2, rr3, rr4, (fun _ => ⟨rfl, pa_0, hgn⟩), (fun h => ⟨(zz1 h).1, (zz1 h).2.1.below hb, (zz1 h).2.2⟩), (fun h => ⟨(zz2 h).1, (zz2 h).2.1.below hb, (zz2 h).2.2⟩), (fun h => ⟨(zz3 h).1, (zz3 h).2.1.below hb, (zz3 h).2.2⟩), (fun _ h => by have := hl1 h; omega), (fun _ h => by have := hl2 h; omega), (fun _ h => by have := hl3 h; omega), n1_2, n1_3, n2_3⟩
    · refine step_of 13 ?_ ?_ (fun K hK => ?_)
      rotate_left 1
      · simp only [List.getElem?_toArray, List.getElem?_cons_succ, List.getElem?_cons_zero]; exact rfl
      rw [HAi.out]
      try simp only [Act.put]
      try simp only [List.setIfInBounds_toArray, List.set_cons_zero, List.set_cons_succ]
      go_simp
      have hgn := mFi zF
      have hl0 : bb0 = true → gpa < w3.heap.size := fun h => (zz0 h).2.1.lt
      have hl2 : bb2 = true → gpv < w3.heap.size := fun h => (zz2 h).2.1.lt
      have hl3 : bb3 = true → gpu < w3.heap.size := fun h => (zz3 h).2.1.lt
      obtain ⟨wn, hwn, pb_0, hb, -⟩ := new_box w3 _ rfl [.int .i64 0, .int .i64 0] 23
      rw [hwn]
      refine hK.out _ _ (sFi (cFi zF hb)) ?_
      exact (hIVi _ _ _).2 ⟨k, bb0, true, bb2, bb3, v0_, v1_, v2_, v3_, p0_, (.pointer (some ⟨w3.heap.size, 0, none⟩)), p2_, p3_, gpa, w3.heap.size, gpv, gpu, hk, rfl, (by simp only [HAi.out, Act.put, List.setIfInBounds_toArray, List.set_cons_zero, List.set_cons_succ]), (cFi zF hb), rr1, rr2, rr3, rr4, (fun h => ⟨(zz0 h).1, (zz0 h).2.1.below hb, (zz0 h).2.2⟩), (fun _ => ⟨rfl, pb_0, hgn⟩), (fun h => ⟨(zz2 h).1, (zz2 h).2.1.below hb, (zz2 h).2.2⟩), (fun h => ⟨(zz3 h).1, (zz3 h).2.1.below hb, (zz3 h).2.2⟩), (fun h _ => by have := hl0 h; omega), n0_2, n0_3, (fun _ h => by have := hl2 h; omega), (fun _ h => by have := hl3 h; omega), n2_3⟩
    · refine step_of 14 ?_ ?_ (fun K hK => ?_)
      rotate_left 1
      · simp only [List.getElem?_toArray, List.getElem?_cons_succ, List.getElem?_cons_zero]; exact rfl
      rw [HAi.out]
      try simp only [Act.put]
      try simp only [List.setIfInBounds_toArray, List.set_cons_zero, List.set_cons_succ]
      go_simp
      have hgn := mFi zF
      have hl0 : bb0 = true → gpa < w3.heap.size := fun h => (zz0 h).2.1.lt
      have hl1 : bb1 = true → gpb < w3.heap.size := fun h => (zz1 h).2.1.lt
      have hl3 : bb3 = true → gpu < w3.heap.size := fun h => (zz3 h).2.1.lt
      obtain ⟨wn, hwn, pv_0, hb, -⟩ := new_box w3 _ rfl [.int .i64 0, .int .i64 0] 23
      rw [hwn]
      refine hK.out _ _ (sFi (cFi zF hb)) ?_
      exact (hIVi _ _ _).2 ⟨k, bb0, bb1, true, bb3, v0_, v1_, v2_, v3_, p0_, p1_, (.pointer (some ⟨w3.heap.size, 0, none⟩)), p3_, gpa, gpb, w3.heap.size, gpu, hk, rfl, (by simp only [HAi.out, Act.put, List.setIfInBounds_toArray, List.set_cons_zero, List.set_cons_succ]), (cFi zF hb), rr1, rr2, rr3, rr4, (fun h => ⟨(zz0 h).1, (zz0 h).2.1.below hb, (zz0 h).2.2⟩), (fun h => ⟨(zz1 h).1, (zz1 h).2.1.below hb, (zz1 h).2.2⟩), (fun _ => ⟨rfl, pv_0, hgn⟩), (fun h => ⟨(zz3 h).1, (zz3 h).2.1.below hb, (zz3 h).2.2⟩), n0_1, (fun h _ => by have := hl0 h; omega), n0_3, (fun h _ => by have := hl1 h; omega), n1_3, (fun _ h => by have := hl3 h; omega)⟩
    · refine step_of 15 ?_ ?_ (fun K hK => ?_)
      rotate_left 1
      · simp only [List.getElem?_toArray, List.getElem?_cons_succ, List.getElem?_cons_zero]; exact rfl
      rw [HAi.out]
      try simp only [Act.put]
      try simp only [List.setIfInBounds_toArray, List.set_cons_zero, List.set_cons_succ]
      go_simp
      have hgn := mFi zF
      have hl0 : bb0 = true → gpa < w3.heap.size := fun h => (zz0 h).2.1.lt
      have hl1 : bb1 = true → gpb < w3.heap.size := fun h => (zz1 h).2.1.lt
      have hl2 : bb2 = true → gpv < w3.heap.size := fun h => (zz2 h).2.1.lt
      obtain ⟨wn, hwn, pu_0, hb, -⟩ := new_box w3 _ rfl [.int .i64 0, .int .i64 0] 23
      rw [hwn]
      refine hK.out _ _ (sFi (cFi zF hb)) ?_
      exact (hIVi _ _ _).2 ⟨k, bb0, bb1, bb2, true, v0_, v1_, v2_, v3_, p0_, p1_, p2_, (.pointer (some ⟨w3.heap.size, 0, none⟩)), gpa, gpb, gpv, w3.heap.size, hk, rfl, (by simp only [HAi.out, Act.put, List.setIfInBounds_toArray, List.set_cons_zero, List.set_cons_succ]), (cFi zF hb), rr1, rr2, rr3, rr4, (fun h => ⟨(zz0 h).1, (zz0 h).2.1.below hb, (zz0 h).2.2⟩), (fun h => ⟨(zz1 h).1, (zz1 h).2.1.below hb, (zz1 h).2.2⟩), (fun h => ⟨(zz2 h).1, (zz2 h).2.1.below hb, (zz2 h).2.2⟩), (fun _ => ⟨rfl, pu_0, hgn⟩), n0_1, n0_2, (fun h _ => by have := hl0 h; omega), n1_2, (fun h _ => by have := hl1 h; omega), (fun h _ => by have := hl2 h; omega)⟩
theorem parP_flip (a0 a1 b0 b1 v0 v1 u0 u1 : Int) : parP b0 b1 a0 a1 u0 u1 v0 v1 = parP a0 a1 b0 b1 v0 v1 u0 u1 := by
  unfold parP; rw [crs_swap a0 a1 b0 b1 u0 u1, crs_swap a0 a1 b0 b1 v0 v1]
  simp only [Int.sign_neg, Int.neg_mul, Int.mul_neg, Int.neg_neg, Int.mul_comm]
theorem crossP_flip (a0 a1 b0 b1 v0 v1 u0 u1 : Int) : crossP u0 u1 v0 v1 b0 b1 a0 a1 = crossP a0 a1 b0 b1 v0 v1 u0 u1 := by
  unfold crossP; rw [parP_flip v0 v1 u0 u1 a0 a1 b0 b1, parP_flip a0 a1 b0 b1 v0 v1 u0 u1]; exact Bool.and_comm _ _
theorem crossP_turn (a0 a1 b0 b1 v0 v1 u0 u1 : Int) : crossP v0 v1 u0 u1 a0 a1 b0 b1 = crossP a0 a1 b0 b1 v0 v1 u0 u1 := by unfold crossP; exact Bool.and_comm _ _
theorem meetP_turn (a0 a1 b0 b1 v0 v1 u0 u1 : Int) : meetP v0 v1 u0 u1 a0 a1 b0 b1 = meetP a0 a1 b0 b1 v0 v1 u0 u1 := by
  unfold meetP; rw [crossP_turn]
  cases crossP a0 a1 b0 b1 v0 v1 u0 u1 <;> cases onP a0 a1 v0 v1 u0 u1 <;> cases onP b0 b1 v0 v1 u0 u1 <;> cases onP v0 v1 a0 a1 b0 b1 <;> cases onP u0 u1 a0 a1 b0 b1 <;> rfl
set_option maxHeartbeats 4000000 in
theorem PredCrosses_tame (x0 x1 y0 y1 z0 z1 t0 t1 a0 a1 b0 b1 v0 v1 u0 u1 : Int) (ha0 : InP a0) (ha1 : InP a1) (hb0 : InP b0) (hb1 : InP b1) (hv0 : InP v0) (hv1 : InP v1) (hu0 : InP u0) (hu1 : InP u1) (ex0 : tame x0 = a0) (ex1 : tame x1 = a1) (ey0 : tame y0 = b0) (ey1 : tame y1 = b1) (ez0 : tame z0 = v0) (ez1 : tame z1 = v1) (et0 : tame t0 = u0) (et1 : tame t1 = u1) (w : World) :
    Calls Try.prog 7 #[.agg #[.int .i64 x0, .int .i64 x1, .int .i64 y0, .int .i64 y1, .int .i64 z0, .int .i64 z1, .int .i64 t0, .int .i64 t1]] w fun e w' => e = .returned (.bool true) ∧ Below w.heap.size w w' := by
  have kx : ∀ w, Calls Try.prog 10 #[.agg #[.int .i64 x0, .int .i64 x1]] w fun e w' => e = .returned (.agg #[.int .i64 a0, .int .i64 a1]) ∧ Below w.heap.size w w' := fun w => by rw [← ex0, ← ex1]; exact Tame_any x0 x1 w
  have ky : ∀ w, Calls Try.prog 10 #[.agg #[.int .i64 y0, .int .i64 y1]] w fun e w' => e = .returned (.agg #[.int .i64 b0, .int .i64 b1]) ∧ Below w.heap.size w w' := fun w => by rw [← ey0, ← ey1]; exact Tame_any y0 y1 w
  have kz : ∀ w, Calls Try.prog 10 #[.agg #[.int .i64 z0, .int .i64 z1]] w fun e w' => e = .returned (.agg #[.int .i64 v0, .int .i64 v1]) ∧ Below w.heap.size w w' := fun w => by rw [← ez0, ← ez1]; exact Tame_any z0 z1 w
  have kt : ∀ w, Calls Try.prog 10 #[.agg #[.int .i64 t0, .int .i64 t1]] w fun e w' => e = .returned (.agg #[.int .i64 u0, .int .i64 u1]) ∧ Below w.heap.size w w' := fun w => by rw [← et0, ← et1]; exact Tame_any t0 t1 w
  clear ex0 ex1 ey0 ey1 ez0 ez1 et0 et1
  exact PredCrosses_w x0 x1 y0 y1 z0 z1 t0 t1 a0 a1 b0 b1 v0 v1 u0 u1 _ _ _ _ _ _ _ _ _ _ _ _ _ _ kx ky kz kt (fun w => side_is a0 a1 b0 b1 v0 v1 _ ha0 ha1 hb0 hb1 hv0 hv1 rfl w) (fun w => side_is a0 a1 b0 b1 u0 u1 _ ha0 ha1 hb0 hb1 hu0 hu1 rfl w) (fun w => side_is v0 v1 u0 u1 a0 a1 _ hv0 hv1 hu0 hu1 ha0 ha1 rfl w) (fun w => side_is v0 v1 u0 u1 b0 b1 _ hv0 hv1 hu0 hu1 hb0 hb1 rfl w) (fun w => On_is a0 a1 v0 v1 u0 u1 ha0 ha1 hv0 hv1 hu0 hu1 _ rfl w) (fun w => On_is b0 b1 v0 v1 u0 u1 hb0 hb1 hv0 hv1 hu0 hu1 _ rfl w) (fun w => On_is v0 v1 a0 a1 b0 b1 hv0 hv1 ha0 ha1 hb0 hb1 _ rfl w) (fun w => On_is u0 u1 a0 a1 b0 b1 hu0 hu1 ha0 ha1 hb0 hb1 _ rfl w)
    (fun w => Crosses_is a0 a1 b0 b1 v0 v1 u0 u1 ha0 ha1 hb0 hb1 hv0 hv1 hu0 hu1 _ rfl w) (fun w => Crosses_is u0 u1 v0 v1 b0 b1 a0 a1 hu0 hu1 hv0 hv1 hb0 hb1 ha0 ha1 _ (crossP_flip a0 a1 b0 b1 v0 v1 u0 u1) w) (fun w => Meets_is a0 a1 b0 b1 v0 v1 u0 u1 ha0 ha1 hb0 hb1 hv0 hv1 hu0 hu1 _ rfl w) (fun w => Meets_is v0 v1 u0 u1 a0 a1 b0 b1 hv0 hv1 hu0 hu1 ha0 ha1 hb0 hb1 _ (meetP_turn a0 a1 b0 b1 v0 v1 u0 u1) w)
    (sign_mul_wrap _ _) (sign_mul_wrap _ _) rfl rfl rfl rfl w
theorem PredCrosses_walk (x0 x1 y0 y1 z0 z1 t0 t1 : Int) (w : World) : Calls Try.prog 7 #[.agg #[.int .i64 x0, .int .i64 x1, .int .i64 y0, .int .i64 y1, .int .i64 z0, .int .i64 z1, .int .i64 t0, .int .i64 t1]] w fun e w' => e = .returned (.bool true) ∧ Below w.heap.size w w' :=
  PredCrosses_tame x0 x1 y0 y1 z0 z1 t0 t1 _ _ _ _ _ _ _ _ (tame_in x0) (tame_in x1) (tame_in y0) (tame_in y1) (tame_in z0) (tame_in z1) (tame_in t0) (tame_in t1) rfl rfl rfl rfl rfl rfl rfl rfl w
end Go.Proofs.Ytjciefoademlnaa
