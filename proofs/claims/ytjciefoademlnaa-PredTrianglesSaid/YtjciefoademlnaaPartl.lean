/- The statement PredTriangles, walked. -/
import Derived.Test.YtjciefoademlnaaPartj
import Derived.Test.YtjciefoademlnaaPredTp
namespace Go.Proofs.Ytjciefoademlnaa
open Go.RowKit Go.MagM
set_option maxRecDepth 100000 in
set_option maxHeartbeats 64000000 in
theorem PredTriangles_w_m (x0 x1 y0 y1 z0 z1 t0 t1 a0 a1 b0 b1 v0 v1 u0 u1 : Int) (sx sy sz X Y Z W s mn : Int) (bo0 bo1 bo2 d0 d1 d2 one inn : Bool) (tm0 : ∀ w, Calls Try.prog 10 #[.agg #[.int .i64 x0, .int .i64 x1]] w fun e w' => e = .returned (.agg #[.int .i64 a0, .int .i64 a1]) ∧ Below w.heap.size w w') (tm1 : ∀ w, Calls Try.prog 10 #[.agg #[.int .i64 y0, .int .i64 y1]] w fun e w' => e = .returned (.agg #[.int .i64 b0, .int .i64 b1]) ∧ Below w.heap.size w w') (tm2 : ∀ w, Calls Try.prog 10 #[.agg #[.int .i64 z0, .int .i64 z1]] w fun e w' => e = .returned (.agg #[.int .i64 v0, .int .i64 v1]) ∧ Below w.heap.size w w') (tm3 : ∀ w, Calls Try.prog 10 #[.agg #[.int .i64 t0, .int .i64 t1]] w fun e w' => e = .returned (.agg #[.int .i64 u0, .int .i64 u1]) ∧ Below w.heap.size w w') (k0 : ∀ w, Calls Try.prog 15 #[.agg #[.int .i64 a0, .int .i64 a1], .agg #[.int .i64 b0, .int .i64 b1], .agg #[.int .i64 v0, .int .i64 v1]] w fun e w' => e = .returned (.int .i64 (-1)) ∧ Below w.heap.size w w') (ox : ∀ w, Calls Try.prog 15 #[.agg #[.int .i64 a0, .int .i64 a1], .agg #[.int .i64 v0, .int .i64 v1], .agg #[.int .i64 u0, .int .i64 u1]] w fun e w' => e = .returned (.int .i64 sx) ∧ Below w.heap.size w w') (oy : ∀ w, Calls Try.prog 15 #[.agg #[.int .i64 v0, .int .i64 v1], .agg #[.int .i64 b0, .int .i64 b1], .agg #[.int .i64 u0, .int .i64 u1]] w fun e w' => e = .returned (.int .i64 sy) ∧ Below w.heap.size w w') (oz : ∀ w, Calls Try.prog 15 #[.agg #[.int .i64 b0, .int .i64 b1], .agg #[.int .i64 a0, .int .i64 a1], .agg #[.int .i64 u0, .int .i64 u1]] w fun e w' => e = .returned (.int .i64 sz) ∧ Below w.heap.size w w') (ax : ∀ w, Calls Try.prog 12 #[.agg #[.int .i64 a0, .int .i64 a1], .agg #[.int .i64 v0, .int .i64 v1], .agg #[.int .i64 u0, .int .i64 u1]] w fun e w' => AnsNum w w' e 2 X) (ay : ∀ w, Calls Try.prog 12 #[.agg #[.int .i64 v0, .int .i64 v1], .agg #[.int .i64 b0, .int .i64 b1], .agg #[.int .i64 u0, .int .i64 u1]] w fun e w' => AnsNum w w' e 2 Y) (az : ∀ w, Calls Try.prog 12 #[.agg #[.int .i64 b0, .int .i64 b1], .agg #[.int .i64 a0, .int .i64 a1], .agg #[.int .i64 u0, .int .i64 u1]] w fun e w' => AnsNum w w' e 2 Z) (aw : ∀ w, Calls Try.prog 12 #[.agg #[.int .i64 a0, .int .i64 a1], .agg #[.int .i64 v0, .int .i64 v1], .agg #[.int .i64 b0, .int .i64 b1]] w fun e w' => AnsNum w w' e 2 W) (n0 : ∀ w, Calls Try.prog 23 #[.agg #[.int .i64 u0, .int .i64 u1], .agg #[.int .i64 a0, .int .i64 a1], .agg #[.int .i64 v0, .int .i64 v1]] w fun e w' => e = .returned (.bool bo0) ∧ Below w.heap.size w w') (n1 : ∀ w, Calls Try.prog 23 #[.agg #[.int .i64 u0, .int .i64 u1], .agg #[.int .i64 v0, .int .i64 v1], .agg #[.int .i64 b0, .int .i64 b1]] w fun e w' => e = .returned (.bool bo1) ∧ Below w.heap.size w w') (n2 : ∀ w, Calls Try.prog 23 #[.agg #[.int .i64 u0, .int .i64 u1], .agg #[.int .i64 b0, .int .i64 b1], .agg #[.int .i64 a0, .int .i64 a1]] w fun e w' => e = .returned (.bool bo2) ∧ Below w.heap.size w w') (ci : ∀ w, Calls Try.prog 17 #[.agg #[.int .i64 a0, .int .i64 a1], .agg #[.int .i64 v0, .int .i64 v1], .agg #[.int .i64 b0, .int .i64 b1], .agg #[.int .i64 u0, .int .i64 u1]] w fun e w' => e = .returned (.int .i64 s) ∧ Below w.heap.size w w') (hmin : ∀ w, Sem.run Try.prog (Builtin.min_ #[3, 3, 3] 3 #[.int .i64 sx, .int .i64 sy, .int .i64 sz]) w = Result.ok (Value.int .i64 mn) w) (gi : decide (0 ≤ mn) = inn) (gj : (mn == 1) = one) (gk : decide (mn = 1) = one) (ew : X + Y + Z = W) (ho : (bo0 || bo1 || bo2 || one) = inn) (hs : inn = true → s = 1 ∨ s = 0 ∧ (d0 || d1 || d2) = true) (q0 : ∀ w : World, (if u0 = a0 then if u1 = a1 then Result.ok (Next.value (Value.bool true)) w else Result.ok (Next.value (Value.bool false)) w else Result.ok (Next.value (Value.bool false)) w) = Result.ok (Next.value (Value.bool d0)) w) (q1 : ∀ w : World, (if u0 = v0 then if u1 = v1 then Result.ok (Next.value (Value.bool true)) w else Result.ok (Next.value (Value.bool false)) w else Result.ok (Next.value (Value.bool false)) w) = Result.ok (Next.value (Value.bool d1)) w) (q2 : ∀ w : World, (if u0 = b0 then if u1 = b1 then Result.ok (Next.value (Value.bool true)) w else Result.ok (Next.value (Value.bool false)) w else Result.ok (Next.value (Value.bool false)) w) = Result.ok (Next.value (Value.bool d2)) w) (w : World) :
    Calls Try.prog 8 #[.agg #[.int .i64 x0, .int .i64 x1, .int .i64 y0, .int .i64 y1, .int .i64 z0, .int .i64 z1], .agg #[.int .i64 t0, .int .i64 t1]] w fun e w' => e = .returned (.bool true) ∧ Below w.heap.size w w' := by
  have hB_0 := Below.refl w.heap.size w
  have TM0 := Lib.hid tm0; have TM1 := Lib.hid tm1; have TM2 := Lib.hid tm2; have TM3 := Lib.hid tm3; have K0 := Lib.hid k0; have OX := Lib.hid ox; have OY := Lib.hid oy; have OZ := Lib.hid oz; have AX := Lib.hid ax; have AY := Lib.hid ay; have AZ := Lib.hid az; have AW := Lib.hid aw; have N0 := Lib.hid n0; have N1 := Lib.hid n1; have N2 := Lib.hid n2; have CI := Lib.hid ci; have HMIN := Lib.hid hmin; have GI := Lib.hid gi; have GJ := Lib.hid gj; have GK := Lib.hid gk; have EW := Lib.hid ew; have Q0 := Lib.hid q0; have Q1 := Lib.hid q1; have Q2 := Lib.hid q2
  clear tm0 tm1 tm2 tm3 k0 ox oy oz ax ay az aw n0 n1 n2 ci hmin gi gj gk ew q0 q1 q2
  obtain ⟨w1, hw1, pl_0, hb1, hs1⟩ := new_box w (w.heap.size) rfl [.int .i64 x0, .int .i64 x1, .int .i64 y0, .int .i64 y1, .int .i64 z0, .int .i64 z1] 45
  have hb1' : Below w.heap.size w w1 := hb1.mono (by omega)
  clear hb1
  have hB_1 := hB_0.trans (hb1'.mono hB_0.size)
  clear hb1' hB_0
  obtain ⟨w2, hw2, pu_0, hb2, hs2⟩ := new_box w1 (w.heap.size + 1) hs1 [.int .i64 t0, .int .i64 t1] 23
  have hb2' : Below w1.heap.size w1 w2 := hb2.mono (by omega)
  clear hb2
  have hB_2 := hB_1.trans (hb2'.mono hB_1.size)
  have pl_1 := pl_0.below hb2'
  clear hb2' hB_1 pl_0
  go_enter Try.func8, Try.ntmps8
  obtain ⟨ple0, ple1, ple2, ple3, ple4, ple5, ple6, ple7, ple8, ple9, ple10, ple11⟩ := pl_1.open6
  obtain ⟨pue0, pue1, pue2, pue3⟩ := pu_0.open2
  go_wp2_with fail
  refine (pfit_any _).mono ?_
  rintro e w3 ⟨rfl, hb3⟩
  clear ple0 ple1 ple2 ple3 ple4 ple5 ple6 ple7 ple8 ple9 ple10 ple11 pue0 pue1 pue2 pue3
  have hB_3 := hB_2.trans (hb3.mono hB_2.size)
  have pl_2 := pl_1.below hb3
  have pu_1 := pu_0.below hb3
  clear hb3 hB_2 pl_1 pu_0
  obtain ⟨ple0, ple1, ple2, ple3, ple4, ple5, ple6, ple7, ple8, ple9, ple10, ple11⟩ := pl_2.open6
  obtain ⟨pue0, pue1, pue2, pue3⟩ := pu_1.open2
  go_wp2
  clear ple0 ple1 ple2 ple3 ple4 ple5 ple6 ple7 ple8 ple9 ple10 ple11 pue0 pue1 pue2 pue3
  have hWi_0 := Below.refl w3.heap.size w3
  have hsi : w.heap.size ≤ w3.heap.size := hB_3.size
  have hlipl := pl_2.lt
  have hlipu := pu_1.lt
  have hB_4 := hB_3.drew'
  have pl_3 := pl_2.drew
  have pu_2 := pu_1.drew
  have hWi_1 := hWi_0.drew'
  clear hB_3 pl_2 pu_1 hWi_0
  obtain ⟨FFi, hFFi⟩ : ∃ F : World → Prop, ∀ w', F w' ↔ (Below w.heap.size w w' ∧ Box w' (w.heap.size) [.int .i64 x0, .int .i64 x1, .int .i64 y0, .int .i64 y1, .int .i64 z0, .int .i64 z1] ∧ Box w' (w.heap.size + 1) [.int .i64 t0, .int .i64 t1] ∧ Below w3.heap.size w3 w') := ⟨_, fun _ => Iff.rfl⟩
  have cFi : ∀ {w' w'' : World}, FFi w' → Below w'.heap.size w' w'' → FFi w'' := by
    intro w' w'' h hb
    obtain ⟨y0, y1, y2, y3⟩ := (hFFi _).1 h
    exact (hFFi _).2 ⟨y0.trans (hb.mono y0.size), y1.below hb, y2.below hb, y3.trans (hb.mono y3.size)⟩
  have mFi : ∀ {w' : World}, FFi w' → w3.heap.size ≤ w'.heap.size := by
    intro w' h
    obtain ⟨y0, y1, y2, y3⟩ := (hFFi _).1 h
    exact y3.size
  have sFi : ∀ {w' : World}, FFi w' → (w'.cell? ⟨w.heap.size, 0, none⟩ = some (.int .i64 x0) ∧ w'.cell? ⟨w.heap.size, 1, none⟩ = some (.int .i64 x1) ∧ w'.cell? ⟨w.heap.size, 2, none⟩ = some (.int .i64 y0) ∧ w'.cell? ⟨w.heap.size, 3, none⟩ = some (.int .i64 y1) ∧ w'.cell? ⟨w.heap.size, 4, none⟩ = some (.int .i64 z0) ∧ w'.cell? ⟨w.heap.size, 5, none⟩ = some (.int .i64 z1)) := by
    intro w' h
    obtain ⟨y0, y1, y2, y3⟩ := (hFFi _).1 h
    exact ⟨y1.c0, y1.c1, y1.c2, y1.c3, y1.c4, y1.c5⟩
  have zF : FFi w3.drew := (hFFi _).2 ⟨hB_4, pl_3, pu_2, hWi_1⟩
  clear hB_4 pl_3 pu_2 hWi_1
  refine wp_region_noPanic ?_
  refine wp_region_held_drew (S := fun w' => w'.cell? ⟨w.heap.size, 0, none⟩ = some (.int .i64 x0) ∧ w'.cell? ⟨w.heap.size, 1, none⟩ = some (.int .i64 x1) ∧ w'.cell? ⟨w.heap.size, 2, none⟩ = some (.int .i64 y0) ∧ w'.cell? ⟨w.heap.size, 3, none⟩ = some (.int .i64 y1) ∧ w'.cell? ⟨w.heap.size, 4, none⟩ = some (.int .i64 z0) ∧ w'.cell? ⟨w.heap.size, 5, none⟩ = some (.int .i64 z1)) (by kernel_rfl) (sFi zF) (fun hHeld => ?_)
  refine reg_take 0 ?_ ?_ ?_ (by kernel_rfl) (by kernel_rfl) (by kernel_rfl) (fun _ _ _ h => h) ?_ ?_ (by assumption) ?_
  rotate_left 2
  · simp only [List.getElem?_toArray, List.getElem?_cons_zero]; exact rfl
  · rfl
  · intro w hSw; (try dsimp only at hSw); go_simp; try with_reducible rfl
  try simp only [Act.put]
  try simp only [List.setIfInBounds_toArray, List.set_cons_zero, List.set_cons_succ]
  refine reg_take 1 ?_ ?_ ?_ (by kernel_rfl) (by kernel_rfl) (by kernel_rfl) (fun _ _ _ h => h) ?_ ?_ (by assumption) ?_
  rotate_left 2
  · simp only [List.getElem?_toArray, List.getElem?_cons_succ, List.getElem?_cons_zero]; exact rfl
  · rfl
  · intro w hSw; (try dsimp only at hSw); go_simp; try with_reducible rfl
  try simp only [Act.put]
  try simp only [List.setIfInBounds_toArray, List.set_cons_zero, List.set_cons_succ]
  refine reg_take 3 ?_ ?_ ?_ (by kernel_rfl) (by kernel_rfl) (by kernel_rfl) (fun _ _ _ h => h) ?_ ?_ (by assumption) ?_
  rotate_left 2
  · simp only [List.getElem?_toArray, List.getElem?_cons_succ, List.getElem?_cons_zero]; exact rfl
  · rfl
  · intro w hSw; (try dsimp only at hSw); go_simp; try with_reducible rfl
  try simp only [Act.put]
  try simp only [List.setIfInBounds_toArray, List.set_cons_zero, List.set_cons_succ]
  refine reg_take 4 ?_ ?_ ?_ (by kernel_rfl) (by kernel_rfl) (by kernel_rfl) (fun _ _ _ h => h) ?_ ?_ (by assumption) ?_
  rotate_left 2
  · simp only [List.getElem?_toArray, List.getElem?_cons_succ, List.getElem?_cons_zero]; exact rfl
  · rfl
  · intro w hSw; (try dsimp only at hSw); go_simp; try with_reducible rfl
  try simp only [Act.put]
  try simp only [List.setIfInBounds_toArray, List.set_cons_zero, List.set_cons_succ]
  refine reg_take 6 ?_ ?_ ?_ (by kernel_rfl) (by kernel_rfl) (by kernel_rfl) (fun _ _ _ h => h) ?_ ?_ (by assumption) ?_
  rotate_left 2
  · simp only [List.getElem?_toArray, List.getElem?_cons_succ, List.getElem?_cons_zero]; exact rfl
  · rfl
  · intro w hSw; (try dsimp only at hSw); go_simp; try with_reducible rfl
  try simp only [Act.put]
  try simp only [List.setIfInBounds_toArray, List.set_cons_zero, List.set_cons_succ]
  refine reg_take 7 ?_ ?_ ?_ (by kernel_rfl) (by kernel_rfl) (by kernel_rfl) (fun _ _ _ h => h) ?_ ?_ (by assumption) ?_
  rotate_left 2
  · simp only [List.getElem?_toArray, List.getElem?_cons_succ, List.getElem?_cons_zero]; exact rfl
  · rfl
  · intro w hSw; (try dsimp only at hSw); go_simp; try with_reducible rfl
  try simp only [Act.put]
  try simp only [List.setIfInBounds_toArray, List.set_cons_zero, List.set_cons_succ]
  refine reg_grab (fun WWi ai hWW hAA => ?_)
  rw [hWW]
  have HAi := Lib.hid hAA; clear hWW hAA hHeld
  obtain ⟨IVi, hIVi⟩ : ∃ IV : Array Bool → Act → World → Prop, ∀ l a w', IV l a w' ↔ ∃ (k : Nat) (bb0 bb1 bb2 : Bool) (v0_ v1_ v2_ p0_ p1_ p2_ : Value) (gpa gpb gpv : Nat), k ≤ 3 ∧ l = #[true, true, decide (1 ≤ k), true, true, decide (2 ≤ k), true, true, decide (3 ≤ k), bb0, bb1, bb2, false, false, false] ∧ a = ((((((ai.put (some 18) v0_).put (some 21) v1_).put (some 24) v2_).put (some 5) p0_).put (some 6) p1_).put (some 7) p2_) ∧ FFi w' ∧ (1 ≤ k → v0_ = .agg #[.int .i64 a0, .int .i64 a1]) ∧ (2 ≤ k → v1_ = .agg #[.int .i64 b0, .int .i64 b1]) ∧ (3 ≤ k → v2_ = .agg #[.int .i64 v0, .int .i64 v1]) ∧ (bb0 = true → p0_ = .pointer (some ⟨gpa, 0, none⟩) ∧ Box w' gpa [.int .i64 0, .int .i64 0] ∧ w3.heap.size ≤ gpa) ∧ (bb1 = true → p1_ = .pointer (some ⟨gpb, 0, none⟩) ∧ Box w' gpb [.int .i64 0, .int .i64 0] ∧ w3.heap.size ≤ gpb) ∧ (bb2 = true → p2_ = .pointer (some ⟨gpv, 0, none⟩) ∧ Box w' gpv [.int .i64 0, .int .i64 0] ∧ w3.heap.size ≤ gpv) ∧ (bb0 = true → bb1 = true → gpa ≠ gpb) ∧ (bb0 = true → bb2 = true → gpa ≠ gpv) ∧ (bb1 = true → bb2 = true → gpb ≠ gpv) := ⟨_, fun _ _ _ => Iff.rfl⟩
  refine wpAnyH_until IVi ?_ _ _ _ _ ((hIVi _ _ _).2 ⟨0, false, false, false, (ai.tmps.getD 18 undef), (ai.tmps.getD 21 undef), (ai.tmps.getD 24 undef), (ai.tmps.getD 5 undef), (ai.tmps.getD 6 undef), (ai.tmps.getD 7 undef), 0, 0, 0, Nat.zero_le _, rfl, (by simp only [put_same]), zF, (fun h => absurd h (by omega)), (fun h => absurd h (by omega)), (fun h => absurd h (by omega)), (fun h => by cases h), (fun h => by cases h), (fun h => by cases h), (fun h => by cases h), (fun h => by cases h), (fun h => by cases h)⟩) (by kernel_rfl)
  clear zF
  intro ll aa w4 hI
  obtain ⟨k, bb0, bb1, bb2, v0_, v1_, v2_, p0_, p1_, p2_, gpa, gpb, gpv, hk, rfl, rfl, zF, rr1, rr2, rr3, zz0, zz1, zz2, n0_1, n0_2, n1_2⟩ := (hIVi _ _ _).1 hI
  clear hI
  by_cases hL : k = 3 ∧ bb0 = true ∧ bb1 = true ∧ bb2 = true
  · left
    obtain ⟨rfl, rfl, rfl, rfl⟩ := hL
    obtain rfl := rr1 (by omega)
    obtain rfl := rr2 (by omega)
    obtain rfl := rr3 (by omega)
    obtain ⟨rfl, pa_0, hgpa⟩ := zz0 rfl
    obtain ⟨rfl, pb_0, hgpb⟩ := zz1 rfl
    obtain ⟨rfl, pv_0, hgpv⟩ := zz2 rfl
    have hnpapb := n0_1 rfl rfl
    have hnpapv := n0_2 rfl rfl
    have hnpbpv := n1_2 rfl rfl
    clear hk zz0 zz1 zz2 n0_1 n0_2 n1_2
    show wpAnyH _ _ _ _ _ 3 _ _ _
    rw [HAi.out]
    try simp only [Act.put]
    try simp only [List.setIfInBounds_toArray, List.set_cons_zero, List.set_cons_succ]
    obtain ⟨hB_0, pl_0, pu_0, hWi_0⟩ := (hFFi _).1 zF
    clear zF
    clear hWi_0
    obtain ⟨sf1a, sf1b, sf1c, sf1d⟩ := pa_0.open2
    obtain ⟨sg1a, sg1b⟩ := Box.put2 pa_0 (.int .i64 a0)
    refine reg_call 12 ?_ (by kernel_rfl) ?_ (fun K hK => ?_)
    rotate_left 1
    · simp only [List.getElem?_toArray, List.getElem?_cons_succ, List.getElem?_cons_zero]; exact rfl
    go_simp
    have hB_1 := below_setAll hB_0 (g := gpa) (by omega) [.int .i64 a0, .int .i64 a1]
    have pl_1 := pl_0.farAll (g' := gpa) (by omega) [.int .i64 a0, .int .i64 a1]
    have pu_1 := pu_0.farAll (g' := gpa) (by omega) [.int .i64 a0, .int .i64 a1]
    have pb_1 := pb_0.farAll (g' := gpa) (by omega) [.int .i64 a0, .int .i64 a1]
    have pv_1 := pv_0.farAll (g' := gpa) (by omega) [.int .i64 a0, .int .i64 a1]
    have pa_1 := pa_0.setAll [.int .i64 a0, .int .i64 a1] rfl
    simp only [setAll, Nat.zero_add] at hB_1 pl_1 pu_1 pa_1 pb_1 pv_1
    clear sf1a sf1b sf1c sf1d sg1a sg1b
    clear hB_0 pl_0 pu_0 pb_0 pv_0 pa_0
    refine hK.out _ _ ⟨pl_1.c0, pl_1.c1, pl_1.c2, pl_1.c3, pl_1.c4, pl_1.c5⟩ (fun hHeld => ?_)
    clear hK K
    try simp only [Act.put]
    try simp only [List.setIfInBounds_toArray, List.set_cons_zero, List.set_cons_succ]
    generalize (World.setCell (World.setCell w4 ⟨gpa, 0, none⟩ (.int .i64 a0)) ⟨gpa, 1, none⟩ (.int .i64 a1)) = w5 at *
    obtain ⟨sf2a, sf2b, sf2c, sf2d⟩ := pb_1.open2
    obtain ⟨sg2a, sg2b⟩ := Box.put2 pb_1 (.int .i64 b0)
    refine reg_call 13 ?_ (by kernel_rfl) ?_ (fun K hK => ?_)
    rotate_left 1
    · simp only [List.getElem?_toArray, List.getElem?_cons_succ, List.getElem?_cons_zero]; exact rfl
    go_simp
    have hB_2 := below_setAll hB_1 (g := gpb) (by omega) [.int .i64 b0, .int .i64 b1]
    have pl_2 := pl_1.farAll (g' := gpb) (by omega) [.int .i64 b0, .int .i64 b1]
    have pu_2 := pu_1.farAll (g' := gpb) (by omega) [.int .i64 b0, .int .i64 b1]
    have pa_2 := pa_1.farAll (g' := gpb) (by omega) [.int .i64 b0, .int .i64 b1]
    have pv_2 := pv_1.farAll (g' := gpb) (by omega) [.int .i64 b0, .int .i64 b1]
    have pb_2 := pb_1.setAll [.int .i64 b0, .int .i64 b1] rfl
    simp only [setAll, Nat.zero_add] at hB_2 pl_2 pu_2 pa_2 pb_2 pv_2
    clear sf2a sf2b sf2c sf2d sg2a sg2b
    clear hB_1 pl_1 pu_1 pa_1 pv_1 pb_1
    refine hK.out _ _ ⟨pl_2.c0, pl_2.c1, pl_2.c2, pl_2.c3, pl_2.c4, pl_2.c5⟩ (fun hHeld => ?_)
    clear hK K
    try simp only [Act.put]
    try simp only [List.setIfInBounds_toArray, List.set_cons_zero, List.set_cons_succ]
    generalize (World.setCell (World.setCell w5 ⟨gpb, 0, none⟩ (.int .i64 b0)) ⟨gpb, 1, none⟩ (.int .i64 b1)) = w6 at *
    obtain ⟨sf3a, sf3b, sf3c, sf3d⟩ := pv_2.open2
    obtain ⟨sg3a, sg3b⟩ := Box.put2 pv_2 (.int .i64 v0)
    refine reg_call 14 ?_ (by kernel_rfl) ?_ (fun K hK => ?_)
    rotate_left 1
    · simp only [List.getElem?_toArray, List.getElem?_cons_succ, List.getElem?_cons_zero]; exact rfl
    go_simp
    have hB_3 := below_setAll hB_2 (g := gpv) (by omega) [.int .i64 v0, .int .i64 v1]
    have pl_3 := pl_2.farAll (g' := gpv) (by omega) [.int .i64 v0, .int .i64 v1]
    have pu_3 := pu_2.farAll (g' := gpv) (by omega) [.int .i64 v0, .int .i64 v1]
    have pa_3 := pa_2.farAll (g' := gpv) (by omega) [.int .i64 v0, .int .i64 v1]
    have pb_3 := pb_2.farAll (g' := gpv) (by omega) [.int .i64 v0, .int .i64 v1]
    have pv_3 := pv_2.setAll [.int .i64 v0, .int .i64 v1] rfl
    simp only [setAll, Nat.zero_add] at hB_3 pl_3 pu_3 pa_3 pb_3 pv_3
    clear sf3a sf3b sf3c sf3d sg3a sg3b
    clear hB_2 pl_2 pu_2 pa_2 pb_2 pv_2
    refine hK.out _ _ ⟨pl_3.c0, pl_3.c1, pl_3.c2, pl_3.c3, pl_3.c4, pl_3.c5⟩ (fun hHeld => ?_)
    clear hK K
    try simp only [Act.put]
    try simp only [List.setIfInBounds_toArray, List.set_cons_zero, List.set_cons_succ]
    generalize (World.setCell (World.setCell w6 ⟨gpv, 0, none⟩ (.int .i64 v0)) ⟨gpv, 1, none⟩ (.int .i64 v1)) = w7 at *
    refine wpAnyH_done (by kernel_rfl) ?_ _
    refine NoPanic.normal ?_
    clear pl_3
    obtain ⟨pae0, pae1, pae2, pae3⟩ := pa_3.open2
    obtain ⟨pbe0, pbe1, pbe2, pbe3⟩ := pb_3.open2
    obtain ⟨pve0, pve1, pve2, pve3⟩ := pv_3.open2
    obtain ⟨pue0, pue1, pue2, pue3⟩ := pu_3.open2
    go_wp2_with fail
    refine (TM3.out _).mono ?_
    rintro e w8 ⟨rfl, hb8⟩
    clear pae0 pae1 pae2 pae3 pbe0 pbe1 pbe2 pbe3 pve0 pve1 pve2 pve3 pue0 pue1 pue2 pue3
    have hB_4 := hB_3.trans (hb8.mono hB_3.size)
    have pu_4 := pu_3.below hb8
    have pa_4 := pa_3.below hb8
    have pb_4 := pb_3.below hb8
    have pv_4 := pv_3.below hb8
    clear hb8 hB_3 pu_3 pa_3 pb_3 pv_3
    obtain ⟨pae0, pae1, pae2, pae3⟩ := pa_4.open2
    obtain ⟨pbe0, pbe1, pbe2, pbe3⟩ := pb_4.open2
    obtain ⟨pve0, pve1, pve2, pve3⟩ := pv_4.open2
    clear pae0 pae1 pae2 pae3 pbe0 pbe1 pbe2 pbe3 pve0 pve1 pve2 pve3
    obtain ⟨sf4a, sf4b, sf4c, sf4d⟩ := pu_4.open2
    obtain ⟨sg4a, sg4b⟩ := Box.put2 pu_4 (.int .i64 u0)
    have hB_5 := below_setAll hB_4 (g := w.heap.size + 1) (by omega) [.int .i64 u0, .int .i64 u1]
    have pa_5 := pa_4.farAll (g' := w.heap.size + 1) (by omega) [.int .i64 u0, .int .i64 u1]
    have pb_5 := pb_4.farAll (g' := w.heap.size + 1) (by omega) [.int .i64 u0, .int .i64 u1]
    have pv_5 := pv_4.farAll (g' := w.heap.size + 1) (by omega) [.int .i64 u0, .int .i64 u1]
    have pu_5 := pu_4.setAll [.int .i64 u0, .int .i64 u1] rfl
    simp only [setAll, Nat.zero_add] at hB_5 pu_5 pa_5 pb_5 pv_5
    obtain ⟨pae0, pae1, pae2, pae3⟩ := pa_5.open2
    obtain ⟨pbe0, pbe1, pbe2, pbe3⟩ := pb_5.open2
    obtain ⟨pve0, pve1, pve2, pve3⟩ := pv_5.open2
    obtain ⟨pue0, pue1, pue2, pue3⟩ := pu_5.open2
    go_wp2_with fail
    clear sf4a sf4b sf4c sf4d sg4a sg4b hB_4 pa_4 pb_4 pv_4 pu_4
    generalize (World.setCell (World.setCell w8 ⟨w.heap.size + 1, 0, none⟩ (.int .i64 u0)) ⟨w.heap.size + 1, 1, none⟩ (.int .i64 u1)) = w9 at *
    go_wp2_with fail
    refine (K0.out _).mono ?_
    rintro e w10 ⟨rfl, hb10⟩
    clear pae0 pae1 pae2 pae3 pbe0 pbe1 pbe2 pbe3 pve0 pve1 pve2 pve3 pue0 pue1 pue2 pue3
    have hB_6 := hB_5.trans (hb10.mono hB_5.size)
    have pu_6 := pu_5.below hb10
    have pa_6 := pa_5.below hb10
    have pb_6 := pb_5.below hb10
    have pv_6 := pv_5.below hb10
    clear hb10 hB_5 pu_5 pa_5 pb_5 pv_5
    obtain ⟨pae0, pae1, pae2, pae3⟩ := pa_6.open2
    obtain ⟨pbe0, pbe1, pbe2, pbe3⟩ := pb_6.open2
    obtain ⟨pve0, pve1, pve2, pve3⟩ := pv_6.open2
    obtain ⟨pue0, pue1, pue2, pue3⟩ := pu_6.open2
    clear pae0 pae1 pae2 pae3 pbe0 pbe1 pbe2 pbe3 pve0 pve1 pve2 pve3 pue0 pue1 pue2 pue3
    obtain ⟨swu0, swu1, swu2, swu3⟩ := pb_6.open2
    obtain ⟨sww0, sww1, sww2, sww3⟩ := pv_6.open2
    obtain ⟨sf5a, sf5b, sf5c, sf5d⟩ := pb_6.open2
    obtain ⟨sg5a, sg5b⟩ := Box.put2 pb_6 (.int .i64 v0)
    have hB_7 := below_setAll hB_6 (g := gpb) (by omega) [.int .i64 v0, .int .i64 v1]
    have pu_7 := pu_6.farAll (g' := gpb) (by omega) [.int .i64 v0, .int .i64 v1]
    have pa_7 := pa_6.farAll (g' := gpb) (by omega) [.int .i64 v0, .int .i64 v1]
    have pv_7 := pv_6.farAll (g' := gpb) (by omega) [.int .i64 v0, .int .i64 v1]
    have pb_7 := pb_6.setAll [.int .i64 v0, .int .i64 v1] rfl
    simp only [setAll, Nat.zero_add] at hB_7 pu_7 pa_7 pb_7 pv_7
    obtain ⟨sf6a, sf6b, sf6c, sf6d⟩ := pv_7.open2
    obtain ⟨sg6a, sg6b⟩ := Box.put2 pv_7 (.int .i64 b0)
    have hB_8 := below_setAll hB_7 (g := gpv) (by omega) [.int .i64 b0, .int .i64 b1]
    have pu_8 := pu_7.farAll (g' := gpv) (by omega) [.int .i64 b0, .int .i64 b1]
    have pa_8 := pa_7.farAll (g' := gpv) (by omega) [.int .i64 b0, .int .i64 b1]
    have pb_8 := pb_7.farAll (g' := gpv) (by omega) [.int .i64 b0, .int .i64 b1]
    have pv_8 := pv_7.setAll [.int .i64 b0, .int .i64 b1] rfl
    simp only [setAll, Nat.zero_add] at hB_8 pu_8 pa_8 pb_8 pv_8
    obtain ⟨pae0, pae1, pae2, pae3⟩ := pa_8.open2
    obtain ⟨pbe0, pbe1, pbe2, pbe3⟩ := pb_8.open2
    obtain ⟨pve0, pve1, pve2, pve3⟩ := pv_8.open2
    obtain ⟨pue0, pue1, pue2, pue3⟩ := pu_8.open2
    go_wp2_with fail
    clear sf5a sf5b sf5c sf5d sg5a sg5b sf6a sf6b sf6c sf6d sg6a sg6b hB_6 pu_6 pa_6 pv_6 pb_6 hB_7 pu_7 pa_7 pb_7 pv_7
    generalize (World.setCell (World.setCell (World.setCell (World.setCell w10 ⟨gpb, 0, none⟩ (.int .i64 v0)) ⟨gpb, 1, none⟩ (.int .i64 v1)) ⟨gpv, 0, none⟩ (.int .i64 b0)) ⟨gpv, 1, none⟩ (.int .i64 b1)) = w11 at *
    clear swu0 swu1 swu2 swu3 sww0 sww1 sww2 sww3
    clear pae0 pae1 pae2 pae3 pbe0 pbe1 pbe2 pbe3 pve0 pve1 pve2 pve3 pue0 pue1 pue2 pue3
    try go_wp2
    have hB_9 := hB_8.drew'
    have pu_9 := pu_8.drew
    have pa_9 := pa_8.drew
    have pb_9 := pb_8.drew
    have pv_9 := pv_8.drew
    clear hB_8 pu_8 pa_8 pb_8 pv_8
    go_region_held3 (fun w' => w'.cell? ⟨gpa, 0, none⟩ = some (.int .i64 a0) ∧ w'.cell? ⟨gpa, 1, none⟩ = some (.int .i64 a1) ∧ w'.cell? ⟨gpb, 0, none⟩ = some (.int .i64 v0) ∧ w'.cell? ⟨gpb, 1, none⟩ = some (.int .i64 v1) ∧ w'.cell? ⟨gpv, 0, none⟩ = some (.int .i64 b0) ∧ w'.cell? ⟨gpv, 1, none⟩ = some (.int .i64 b1) ∧ w'.cell? ⟨w.heap.size + 1, 0, none⟩ = some (.int .i64 u0) ∧ w'.cell? ⟨w.heap.size + 1, 1, none⟩ = some (.int .i64 u1))
      (first | with_reducible exact ⟨pa_9.c0, pa_9.c1, pb_9.c0, pb_9.c1, pv_9.c0, pv_9.c1, pu_9.c0, pu_9.c1⟩ | with_reducible exact ⟨pa_10.c0, pa_10.c1, pb_10.c0, pb_10.c1, pv_10.c0, pv_10.c1, pu_10.c0, pu_10.c1⟩ | with_reducible exact ⟨pa_11.c0, pa_11.c1, pb_11.c0, pb_11.c1, pv_11.c0, pv_11.c1, pu_11.c0, pu_11.c1⟩ | with_reducible exact ⟨pa_12.c0, pa_12.c1, pb_12.c0, pb_12.c1, pv_12.c0, pv_12.c1, pu_12.c0, pu_12.c1⟩ | fail)
      (first
        | (go_at_call 15; (with_reducible refine (OX.out _).mono ?_); rintro e w12 ⟨rfl, hb12⟩; have hB_10 := hB_9.trans (hb12.mono hB_9.size); have pu_10 := pu_9.below hb12; have pa_10 := pa_9.below hb12; have pb_10 := pb_9.below hb12; have pv_10 := pv_9.below hb12; clear hb12 hB_9 pu_9 pa_9 pb_9 pv_9)
        | (go_at_call 15; (with_reducible refine (OY.out _).mono ?_); rintro e w13 ⟨rfl, hb13⟩; have hB_11 := hB_10.trans (hb13.mono hB_10.size); have pu_11 := pu_10.below hb13; have pa_11 := pa_10.below hb13; have pb_11 := pb_10.below hb13; have pv_11 := pv_10.below hb13; clear hb13 hB_10 pu_10 pa_10 pb_10 pv_10)
        | (go_at_call 15; (with_reducible refine (OZ.out _).mono ?_); rintro e w14 ⟨rfl, hb14⟩; have hB_12 := hB_11.trans (hb14.mono hB_11.size); have pu_12 := pu_11.below hb14; have pa_12 := pa_11.below hb14; have pb_12 := pb_11.below hb14; have pv_12 := pv_11.below hb14; clear hb14 hB_11 pu_11 pa_11 pb_11 pv_11))
    obtain ⟨pae0, pae1, pae2, pae3⟩ := pa_12.open2
    obtain ⟨pbe0, pbe1, pbe2, pbe3⟩ := pb_12.open2
    obtain ⟨pve0, pve1, pve2, pve3⟩ := pv_12.open2
    obtain ⟨pue0, pue1, pue2, pue3⟩ := pu_12.open2
    have hmin := HMIN.out; have gi := GI.out
    go_wp2
    clear pae0 pae1 pae2 pae3 pbe0 pbe1 pbe2 pbe3 pve0 pve1 pve2 pve3 pue0 pue1 pue2 pue3
    have hWc_0 := Below.refl w14.heap.size w14
    have hsc : w.heap.size ≤ w14.heap.size := hB_12.size
    have hlcpu := pu_12.lt
    have hlcpa := pa_12.lt
    have hlcpb := pb_12.lt
    have hlcpv := pv_12.lt
    have hB_13 := hB_12.drew'
    have pu_13 := pu_12.drew
    have pa_13 := pa_12.drew
    have pb_13 := pb_12.drew
    have pv_13 := pv_12.drew
    have hWc_1 := hWc_0.drew'
    clear hB_12 pu_12 pa_12 pb_12 pv_12 hWc_0
    refine wp_region_noPanic ?_
    refine wp_region_held_drew (S := fun w' => w'.cell? ⟨gpa, 0, none⟩ = some (.int .i64 a0) ∧ w'.cell? ⟨gpa, 1, none⟩ = some (.int .i64 a1) ∧ w'.cell? ⟨gpb, 0, none⟩ = some (.int .i64 v0) ∧ w'.cell? ⟨gpb, 1, none⟩ = some (.int .i64 v1) ∧ w'.cell? ⟨gpv, 0, none⟩ = some (.int .i64 b0) ∧ w'.cell? ⟨gpv, 1, none⟩ = some (.int .i64 b1) ∧ w'.cell? ⟨w.heap.size + 1, 0, none⟩ = some (.int .i64 u0) ∧ w'.cell? ⟨w.heap.size + 1, 1, none⟩ = some (.int .i64 u1)) (by kernel_rfl) (⟨pa_13.c0, pa_13.c1, pb_13.c0, pb_13.c1, pv_13.c0, pv_13.c1, pu_13.c0, pu_13.c1⟩) (fun hHeld => ?_)
    refine reg_take 0 ?_ ?_ ?_ (by kernel_rfl) (by kernel_rfl) (by kernel_rfl) (fun _ _ _ h => h) ?_ ?_ (by assumption) ?_
    rotate_left 2
    · simp only [List.getElem?_toArray, List.getElem?_cons_zero]; exact rfl
    · rfl
    · intro w hSw; (try dsimp only at hSw); go_simp; try with_reducible rfl
    try simp only [Act.put]
    try simp only [List.setIfInBounds_toArray, List.set_cons_zero, List.set_cons_succ]
    refine reg_take 1 ?_ ?_ ?_ (by kernel_rfl) (by kernel_rfl) (by kernel_rfl) (fun _ _ _ h => h) ?_ ?_ (by assumption) ?_
    rotate_left 2
    · simp only [List.getElem?_toArray, List.getElem?_cons_succ, List.getElem?_cons_zero]; exact rfl
    · rfl
    · intro w hSw; (try dsimp only at hSw); go_simp; try with_reducible rfl
    try simp only [Act.put]
    try simp only [List.setIfInBounds_toArray, List.set_cons_zero, List.set_cons_succ]
    refine reg_take 2 ?_ ?_ ?_ (by kernel_rfl) (by kernel_rfl) (by kernel_rfl) (fun _ _ _ h => h) ?_ ?_ (by assumption) ?_
    rotate_left 2
    · simp only [List.getElem?_toArray, List.getElem?_cons_succ, List.getElem?_cons_zero]; exact rfl
    · rfl
    · intro w hSw; (try dsimp only at hSw); go_simp; try with_reducible rfl
    try simp only [Act.put]
    try simp only [List.setIfInBounds_toArray, List.set_cons_zero, List.set_cons_succ]
    refine reg_take 4 ?_ ?_ ?_ (by kernel_rfl) (by kernel_rfl) (by kernel_rfl) (fun _ _ _ h => h) ?_ ?_ (by assumption) ?_
    rotate_left 2
    · simp only [List.getElem?_toArray, List.getElem?_cons_succ, List.getElem?_cons_zero]; exact rfl
    · rfl
    · intro w hSw; (try dsimp only at hSw); go_simp; try with_reducible rfl
    try simp only [Act.put]
    try simp only [List.setIfInBounds_toArray, List.set_cons_zero, List.set_cons_succ]
    refine reg_take 5 ?_ ?_ ?_ (by kernel_rfl) (by kernel_rfl) (by kernel_rfl) (fun _ _ _ h => h) ?_ ?_ (by assumption) ?_
    rotate_left 2
    · simp only [List.getElem?_toArray, List.getElem?_cons_succ, List.getElem?_cons_zero]; exact rfl
    · rfl
    · intro w hSw; (try dsimp only at hSw); go_simp; try with_reducible rfl
    try simp only [Act.put]
    try simp only [List.setIfInBounds_toArray, List.set_cons_zero, List.set_cons_succ]
    refine reg_take 6 ?_ ?_ ?_ (by kernel_rfl) (by kernel_rfl) (by kernel_rfl) (fun _ _ _ h => h) ?_ ?_ (by assumption) ?_
    rotate_left 2
    · simp only [List.getElem?_toArray, List.getElem?_cons_succ, List.getElem?_cons_zero]; exact rfl
    · rfl
    · intro w hSw; (try dsimp only at hSw); go_simp; try with_reducible rfl
    try simp only [Act.put]
    try simp only [List.setIfInBounds_toArray, List.set_cons_zero, List.set_cons_succ]
    refine reg_take 8 ?_ ?_ ?_ (by kernel_rfl) (by kernel_rfl) (by kernel_rfl) (fun _ _ _ h => h) ?_ ?_ (by assumption) ?_
    rotate_left 2
    · simp only [List.getElem?_toArray, List.getElem?_cons_succ, List.getElem?_cons_zero]; exact rfl
    · rfl
    · intro w hSw; (try dsimp only at hSw); go_simp; try with_reducible rfl
    try simp only [Act.put]
    try simp only [List.setIfInBounds_toArray, List.set_cons_zero, List.set_cons_succ]
    refine reg_take 9 ?_ ?_ ?_ (by kernel_rfl) (by kernel_rfl) (by kernel_rfl) (fun _ _ _ h => h) ?_ ?_ (by assumption) ?_
    rotate_left 2
    · simp only [List.getElem?_toArray, List.getElem?_cons_succ, List.getElem?_cons_zero]; exact rfl
    · rfl
    · intro w hSw; (try dsimp only at hSw); go_simp; try with_reducible rfl
    try simp only [Act.put]
    try simp only [List.setIfInBounds_toArray, List.set_cons_zero, List.set_cons_succ]
    refine reg_take 10 ?_ ?_ ?_ (by kernel_rfl) (by kernel_rfl) (by kernel_rfl) (fun _ _ _ h => h) ?_ ?_ (by assumption) ?_
    rotate_left 2
    · simp only [List.getElem?_toArray, List.getElem?_cons_succ, List.getElem?_cons_zero]; exact rfl
    · rfl
    · intro w hSw; (try dsimp only at hSw); go_simp; try with_reducible rfl
    try simp only [Act.put]
    try simp only [List.setIfInBounds_toArray, List.set_cons_zero, List.set_cons_succ]
    refine reg_grab (fun WWc ac hWW hAA => ?_)
    have HWc := Lib.hid hWW; have HAc := Lib.hid hAA; clear hWW hAA hHeld
    have stc_4tt : ∀ (w' : World) (m1 : Bool) (o1 : Option Addr) (n1 : Nat) (c1 : Nat) (m2 : Bool) (o2 : Option Addr) (n2 : Nat) (c2 : Nat) (m3 : Bool) (o3 : Option Addr) (n3 : Nat) (c3 : Nat) (m4 : Bool) (o4 : Option Addr) (n4 : Nat) (c4 : Nat) (gpq : Nat) (gps : Nat), Below w.heap.size w w' → Box w' (w.heap.size + 1) [.int .i64 u0, .int .i64 u1] → Box w' (gpa) [.int .i64 a0, .int .i64 a1] → Box w' (gpb) [.int .i64 v0, .int .i64 v1] → Box w' (gpv) [.int .i64 b0, .int .i64 b1] → Below w14.heap.size w14 w' → RNum w' (.agg #[.bool m1, .slice o1 n1 c1]) (2) (X) → RNum w' (.agg #[.bool m2, .slice o2 n2 c2]) (2) (Y) → RNum w' (.agg #[.bool m3, .slice o3 n3 c3]) (2) (Z) → RNum w' (.agg #[.bool m4, .slice o4 n4 c4]) (5) (X + Y + Z) → Box w' gpq [.bool m1, .slice o1 n1 c1, .bool m2, .slice o2 n2 c2, .bool m3, .slice o3 n3 c3] → Box w' gps [.bool false, .slice none 0 0] → w14.heap.size ≤ gpq → w14.heap.size ≤ gps → gpq ≠ gps → WWc 1 #[true, true, true, true, true, true, true, true, true, true, true, true, true, true, true, false] ((((((ac.put (some 57) (.agg #[.bool m1, .slice o1 n1 c1])).put (some 61) (.agg #[.bool m2, .slice o2 n2 c2])).put (some 65) (.agg #[.bool m3, .slice o3 n3 c3])).put (some 66) (.slice (some ⟨gpq, 0, none⟩) 3 3)).put (some 67) (.agg #[.bool m4, .slice o4 n4 c4])).put (some 12) (.pointer (some ⟨gps, 0, none⟩))) w' := by
      intro w15 m1 o1 n1 c1 m2 o2 n2 c2 m3 o3 n3 c3 m4 o4 n4 c4 gpq gps hB_0 pu_0 pa_0 pb_0 pv_0 hWc_0 f1_0 f2_0 f3_0 f4_0 pq_0 ps_0 hgpq hgps hnpqps
      rw [HWc.out, HAc.out]
      try simp only [Act.put]
      try simp only [List.setIfInBounds_toArray, List.set_cons_zero, List.set_cons_succ]
      clear hWc_0
      obtain ⟨sf7a, sf7b, sf7c, sf7d⟩ := ps_0.open2
      obtain ⟨sg7a, sg7b⟩ := Box.put2 ps_0 (.bool m4)
      refine reg_call 15 ?_ (by kernel_rfl) ?_ (fun K hK => ?_)
      rotate_left 1
      · simp only [List.getElem?_toArray, List.getElem?_cons_succ, List.getElem?_cons_zero]; exact rfl
      go_simp
      have hB_1 := below_setAll hB_0 (g := gps) (by omega) [.bool m4, .slice o4 n4 c4]
      have pu_1 := pu_0.farAll (g' := gps) (by omega) [.bool m4, .slice o4 n4 c4]
      have pa_1 := pa_0.farAll (g' := gps) (by omega) [.bool m4, .slice o4 n4 c4]
      have pb_1 := pb_0.farAll (g' := gps) (by omega) [.bool m4, .slice o4 n4 c4]
      have pv_1 := pv_0.farAll (g' := gps) (by omega) [.bool m4, .slice o4 n4 c4]
      have f1_1 := f1_0.setAll ps_0 (noWord2 _ _ _ _) [.bool m4, .slice o4 n4 c4] rfl
      have f2_1 := f2_0.setAll ps_0 (noWord2 _ _ _ _) [.bool m4, .slice o4 n4 c4] rfl
      have f3_1 := f3_0.setAll ps_0 (noWord2 _ _ _ _) [.bool m4, .slice o4 n4 c4] rfl
      have f4_1 := f4_0.setAll ps_0 (noWord2 _ _ _ _) [.bool m4, .slice o4 n4 c4] rfl
      have pq_1 := pq_0.farAll (g' := gps) (by omega) [.bool m4, .slice o4 n4 c4]
      have ps_1 := ps_0.setAll [.bool m4, .slice o4 n4 c4] rfl
      simp only [setAll, Nat.zero_add] at hB_1 pu_1 pa_1 pb_1 pv_1 f1_1 f2_1 f3_1 f4_1 pq_1 ps_1
      clear sf7a sf7b sf7c sf7d sg7a sg7b
      clear hB_0 pu_0 pa_0 pb_0 pv_0 f1_0 f2_0 f3_0 f4_0 pq_0 ps_0
      refine hK.out _ _ ⟨pa_1.c0, pa_1.c1, pb_1.c0, pb_1.c1, pv_1.c0, pv_1.c1, pu_1.c0, pu_1.c1⟩ (fun hHeld => ?_)
      clear hK K
      try simp only [Act.put]
      try simp only [List.setIfInBounds_toArray, List.set_cons_zero, List.set_cons_succ]
      generalize (World.setCell (World.setCell w15 ⟨gps, 0, none⟩ (.bool m4)) ⟨gps, 1, none⟩ (.slice o4 n4 c4)) = w16 at *
      refine wpAnyH_done (by kernel_rfl) ?_ _
      refine NoPanic.normal ?_
      rw [EW.out] at f4_1
      obtain ⟨pae0, pae1, pae2, pae3⟩ := pa_1.open2
      obtain ⟨pbe0, pbe1, pbe2, pbe3⟩ := pb_1.open2
      obtain ⟨pve0, pve1, pve2, pve3⟩ := pv_1.open2
      obtain ⟨pue0, pue1, pue2, pue3⟩ := pu_1.open2
      obtain ⟨pse0, pse1, pse2, pse3⟩ := ps_1.open2
      go_wp2
      clear hmin gi
      cases inn
      · simp only [Bool.or_eq_false_iff] at ho
        obtain ⟨⟨⟨rfl, rfl⟩, rfl⟩, rfl⟩ := ho
        clear hs
        have gj := GJ.out; have gk := GK.out; have hmin := HMIN.out
        clear pae0 pae1 pae2 pae3 pbe0 pbe1 pbe2 pbe3 pve0 pve1 pve2 pve3 pue0 pue1 pue2 pue3 pse0 pse1 pse2 pse3
        have hB_2 := hB_1.drew'
        have pu_2 := pu_1.drew
        have pa_2 := pa_1.drew
        have pb_2 := pb_1.drew
        have pv_2 := pv_1.drew
        have f1_2 := f1_1.drew
        have f2_2 := f2_1.drew
        have f3_2 := f3_1.drew
        have f4_2 := f4_1.drew
        have pq_2 := pq_1.drew
        have ps_2 := ps_1.drew
        refine wp_region_noPanic ?_
        refine wp_region_held_drew (S := fun w' => w'.cell? ⟨gpa, 0, none⟩ = some (.int .i64 a0) ∧ w'.cell? ⟨gpa, 1, none⟩ = some (.int .i64 a1) ∧ w'.cell? ⟨gpb, 0, none⟩ = some (.int .i64 v0) ∧ w'.cell? ⟨gpb, 1, none⟩ = some (.int .i64 v1) ∧ w'.cell? ⟨gpv, 0, none⟩ = some (.int .i64 b0) ∧ w'.cell? ⟨gpv, 1, none⟩ = some (.int .i64 b1) ∧ w'.cell? ⟨w.heap.size + 1, 0, none⟩ = some (.int .i64 u0) ∧ w'.cell? ⟨w.heap.size + 1, 1, none⟩ = some (.int .i64 u1) ∧ w'.cell? ⟨gps, 0, none⟩ = some (.bool m4) ∧ w'.cell? ⟨gps, 1, none⟩ = some (.slice o4 n4 c4)) (by kernel_rfl) (⟨pa_2.c0, pa_2.c1, pb_2.c0, pb_2.c1, pv_2.c0, pv_2.c1, pu_2.c0, pu_2.c1, ps_2.c0, ps_2.c1⟩) (fun hHeld => ?_)
        refine reg_take 0 ?_ ?_ ?_ (by kernel_rfl) (by kernel_rfl) (by kernel_rfl) (fun _ _ _ h => h) ?_ ?_ (by assumption) ?_
        rotate_left 2
        · simp only [List.getElem?_toArray, List.getElem?_cons_zero]; exact rfl
        · rfl
        · intro w hSw; (try dsimp only at hSw); go_simp; try with_reducible rfl
        try simp only [Act.put]
        try simp only [List.setIfInBounds_toArray, List.set_cons_zero, List.set_cons_succ]
        refine reg_take 1 ?_ ?_ ?_ (by kernel_rfl) (by kernel_rfl) (by kernel_rfl) (fun _ _ _ h => h) ?_ ?_ (by assumption) ?_
        rotate_left 2
        · simp only [List.getElem?_toArray, List.getElem?_cons_succ, List.getElem?_cons_zero]; exact rfl
        · rfl
        · intro w hSw; (try dsimp only at hSw); go_simp; try with_reducible rfl
        try simp only [Act.put]
        try simp only [List.setIfInBounds_toArray, List.set_cons_zero, List.set_cons_succ]
        refine reg_take 2 ?_ ?_ ?_ (by kernel_rfl) (by kernel_rfl) (by kernel_rfl) (fun _ _ _ h => h) ?_ ?_ (by assumption) ?_
        rotate_left 2
        · simp only [List.getElem?_toArray, List.getElem?_cons_succ, List.getElem?_cons_zero]; exact rfl
        · rfl
        · intro w hSw; (try dsimp only at hSw); go_simp; try with_reducible rfl
        try simp only [Act.put]
        try simp only [List.setIfInBounds_toArray, List.set_cons_zero, List.set_cons_succ]
        refine reg_take 3 ?_ ?_ ?_ (by kernel_rfl) (by kernel_rfl) (by kernel_rfl) (fun _ _ _ h => h) ?_ ?_ (by assumption) ?_
        rotate_left 2
        · simp only [List.getElem?_toArray, List.getElem?_cons_succ, List.getElem?_cons_zero]; exact rfl
        · rfl
        · intro w hSw; (try dsimp only at hSw); go_simp; try with_reducible rfl
        try simp only [Act.put]
        try simp only [List.setIfInBounds_toArray, List.set_cons_zero, List.set_cons_succ]
        refine reg_call 4 ?_ (by kernel_rfl) ?_ (fun K hK => ?_)
        rotate_left 1
        · simp only [List.getElem?_toArray, List.getElem?_cons_succ, List.getElem?_cons_zero]; exact rfl
        go_simp
        refine (AW.out _).mono ?_
        rintro e w17 ⟨m5, o5, n5, c5, rfl, f5_0, hb17⟩
        have hB_3 := hB_2.trans (hb17.mono hB_2.size)
        have pu_3 := pu_2.below hb17
        have pa_3 := pa_2.below hb17
        have pb_3 := pb_2.below hb17
        have pv_3 := pv_2.below hb17
        have f1_3 := f1_2.below hb17
        have f2_3 := f2_2.below hb17
        have f3_3 := f3_2.below hb17
        have f4_3 := f4_2.below hb17
        have pq_3 := pq_2.below hb17
        have ps_3 := ps_2.below hb17
        clear hb17 hB_2 pu_2 pa_2 pb_2 pv_2 f1_2 f2_2 f3_2 f4_2 pq_2 ps_2
        go_wp2_with fail
        refine hK.out _ _ ⟨pa_3.c0, pa_3.c1, pb_3.c0, pb_3.c1, pv_3.c0, pv_3.c1, pu_3.c0, pu_3.c1, ps_3.c0, ps_3.c1⟩ (fun hHeld => ?_)
        clear hK K
        try simp only [Act.put]
        try simp only [List.setIfInBounds_toArray, List.set_cons_zero, List.set_cons_succ]
        refine reg_call 5 ?_ (by kernel_rfl) ?_ (fun K hK => ?_)
        rotate_left 1
        · simp only [List.getElem?_toArray, List.getElem?_cons_succ, List.getElem?_cons_zero]; exact rfl
        go_simp
        refine (Cmp_named _ _ 5 2 _ _ 0 _ (by omega) (by omega) f4_3.num f5_0.num (icmp_self _)).mono ?_
        rintro e w18 ⟨rfl, hb18⟩
        have hB_4 := hB_3.trans (hb18.mono hB_3.size)
        have pu_4 := pu_3.below hb18
        have pa_4 := pa_3.below hb18
        have pb_4 := pb_3.below hb18
        have pv_4 := pv_3.below hb18
        have f1_4 := f1_3.below hb18
        have f2_4 := f2_3.below hb18
        have f3_4 := f3_3.below hb18
        have f4_4 := f4_3.below hb18
        have pq_4 := pq_3.below hb18
        have ps_4 := ps_3.below hb18
        have f5_1 := f5_0.below hb18
        clear hb18 hB_3 pu_3 pa_3 pb_3 pv_3 f1_3 f2_3 f3_3 f4_3 pq_3 ps_3 f5_0
        go_wp2_with fail
        refine hK.out _ _ ⟨pa_4.c0, pa_4.c1, pb_4.c0, pb_4.c1, pv_4.c0, pv_4.c1, pu_4.c0, pu_4.c1, ps_4.c0, ps_4.c1⟩ (fun hHeld => ?_)
        clear hK K
        try simp only [Act.put]
        try simp only [List.setIfInBounds_toArray, List.set_cons_zero, List.set_cons_succ]
        refine reg_take 6 ?_ ?_ ?_ (by kernel_rfl) (by kernel_rfl) (by kernel_rfl) (fun _ _ _ h => h) ?_ ?_ (by assumption) ?_
        rotate_left 2
        · simp only [List.getElem?_toArray, List.getElem?_cons_succ, List.getElem?_cons_zero]; exact rfl
        · rfl
        · intro w hSw; (try dsimp only at hSw); go_simp; try with_reducible rfl
        try simp only [Act.put]
        try simp only [List.setIfInBounds_toArray, List.set_cons_zero, List.set_cons_succ]
        refine reg_take 7 ?_ ?_ ?_ (by kernel_rfl) (by kernel_rfl) (by kernel_rfl) (fun _ _ _ h => h) ?_ ?_ (by assumption) ?_
        rotate_left 2
        · simp only [List.getElem?_toArray, List.getElem?_cons_succ, List.getElem?_cons_zero]; exact rfl
        · rfl
        · intro w hSw; (try dsimp only at hSw); go_simp; try with_reducible rfl
        try simp only [Act.put]
        try simp only [List.setIfInBounds_toArray, List.set_cons_zero, List.set_cons_succ]
        refine reg_take 8 ?_ ?_ ?_ (by kernel_rfl) (by kernel_rfl) (by kernel_rfl) (fun _ _ _ h => h) ?_ ?_ (by assumption) ?_
        rotate_left 2
        · simp only [List.getElem?_toArray, List.getElem?_cons_succ, List.getElem?_cons_zero]; exact rfl
        · rfl
        · intro w hSw; (try dsimp only at hSw); go_simp; try with_reducible rfl
        try simp only [Act.put]
        try simp only [List.setIfInBounds_toArray, List.set_cons_zero, List.set_cons_succ]
        refine reg_take 9 ?_ ?_ ?_ (by kernel_rfl) (by kernel_rfl) (by kernel_rfl) (fun _ _ _ h => h) ?_ ?_ (by assumption) ?_
        rotate_left 2
        · simp only [List.getElem?_toArray, List.getElem?_cons_succ, List.getElem?_cons_zero]; exact rfl
        · rfl
        · intro w hSw; (try dsimp only at hSw); go_simp; try with_reducible rfl
        try simp only [Act.put]
        try simp only [List.setIfInBounds_toArray, List.set_cons_zero, List.set_cons_succ]
        refine reg_take 10 ?_ ?_ ?_ (by kernel_rfl) (by kernel_rfl) (by kernel_rfl) (fun _ _ _ h => h) ?_ ?_ (by assumption) ?_
        rotate_left 2
        · simp only [List.getElem?_toArray, List.getElem?_cons_succ, List.getElem?_cons_zero]; exact rfl
        · rfl
        · intro w hSw; (try dsimp only at hSw); go_simp; try with_reducible rfl
        try simp only [Act.put]
        try simp only [List.setIfInBounds_toArray, List.set_cons_zero, List.set_cons_succ]
        refine reg_take 11 ?_ ?_ ?_ (by kernel_rfl) (by kernel_rfl) (by kernel_rfl) (fun _ _ _ h => h) ?_ ?_ (by assumption) ?_
        rotate_left 2
        · simp only [List.getElem?_toArray, List.getElem?_cons_succ, List.getElem?_cons_zero]; exact rfl
        · rfl
        · intro w hSw; (try dsimp only at hSw); go_simp; try with_reducible rfl
        try simp only [Act.put]
        try simp only [List.setIfInBounds_toArray, List.set_cons_zero, List.set_cons_succ]
        refine reg_call 12 ?_ (by kernel_rfl) ?_ (fun K hK => ?_)
        rotate_left 1
        · simp only [List.getElem?_toArray, List.getElem?_cons_succ, List.getElem?_cons_zero]; exact rfl
        go_simp
        refine (N0.out _).mono ?_
        rintro e w19 ⟨rfl, hb19⟩
        have hB_5 := hB_4.trans (hb19.mono hB_4.size)
        have pu_5 := pu_4.below hb19
        have pa_5 := pa_4.below hb19
        have pb_5 := pb_4.below hb19
        have pv_5 := pv_4.below hb19
        have f1_5 := f1_4.below hb19
        have f2_5 := f2_4.below hb19
        have f3_5 := f3_4.below hb19
        have f4_5 := f4_4.below hb19
        have pq_5 := pq_4.below hb19
        have ps_5 := ps_4.below hb19
        have f5_2 := f5_1.below hb19
        clear hb19 hB_4 pu_4 pa_4 pb_4 pv_4 f1_4 f2_4 f3_4 f4_4 pq_4 ps_4 f5_1
        go_wp2_with fail
        refine hK.out _ _ ⟨pa_5.c0, pa_5.c1, pb_5.c0, pb_5.c1, pv_5.c0, pv_5.c1, pu_5.c0, pu_5.c1, ps_5.c0, ps_5.c1⟩ (fun hHeld => ?_)
        clear hK K
        try simp only [Act.put]
        try simp only [List.setIfInBounds_toArray, List.set_cons_zero, List.set_cons_succ]
        refine reg_take 13 ?_ ?_ ?_ (by kernel_rfl) (by kernel_rfl) (by kernel_rfl) (fun _ _ _ h => h) ?_ ?_ (by assumption) ?_
        rotate_left 2
        · simp only [List.getElem?_toArray, List.getElem?_cons_succ, List.getElem?_cons_zero]; exact rfl
        · rfl
        · intro w hSw; (try dsimp only at hSw); go_simp; try with_reducible rfl
        try simp only [Act.put]
        try simp only [List.setIfInBounds_toArray, List.set_cons_zero, List.set_cons_succ]
        refine reg_take 14 ?_ ?_ ?_ (by kernel_rfl) (by kernel_rfl) (by kernel_rfl) (fun _ _ _ h => h) ?_ ?_ (by assumption) ?_
        rotate_left 2
        · simp only [List.getElem?_toArray, List.getElem?_cons_succ, List.getElem?_cons_zero]; exact rfl
        · rfl
        · intro w hSw; (try dsimp only at hSw); go_simp; try with_reducible rfl
        try simp only [Act.put]
        try simp only [List.setIfInBounds_toArray, List.set_cons_zero, List.set_cons_succ]
        refine reg_take 15 ?_ ?_ ?_ (by kernel_rfl) (by kernel_rfl) (by kernel_rfl) (fun _ _ _ h => h) ?_ ?_ (by assumption) ?_
        rotate_left 2
        · simp only [List.getElem?_toArray, List.getElem?_cons_succ, List.getElem?_cons_zero]; exact rfl
        · rfl
        · intro w hSw; (try dsimp only at hSw); go_simp; try with_reducible rfl
        try simp only [Act.put]
        try simp only [List.setIfInBounds_toArray, List.set_cons_zero, List.set_cons_succ]
        refine reg_take 16 ?_ ?_ ?_ (by kernel_rfl) (by kernel_rfl) (by kernel_rfl) (fun _ _ _ h => h) ?_ ?_ (by assumption) ?_
        rotate_left 2
        · simp only [List.getElem?_toArray, List.getElem?_cons_succ, List.getElem?_cons_zero]; exact rfl
        · rfl
        · intro w hSw; (try dsimp only at hSw); go_simp; try with_reducible rfl
        try simp only [Act.put]
        try simp only [List.setIfInBounds_toArray, List.set_cons_zero, List.set_cons_succ]
        refine reg_call 17 ?_ (by kernel_rfl) ?_ (fun K hK => ?_)
        rotate_left 1
        · simp only [List.getElem?_toArray, List.getElem?_cons_succ, List.getElem?_cons_zero]; exact rfl
        go_simp
        refine (N1.out _).mono ?_
        rintro e w20 ⟨rfl, hb20⟩
        have hB_6 := hB_5.trans (hb20.mono hB_5.size)
        have pu_6 := pu_5.below hb20
        have pa_6 := pa_5.below hb20
        have pb_6 := pb_5.below hb20
        have pv_6 := pv_5.below hb20
        have f1_6 := f1_5.below hb20
        have f2_6 := f2_5.below hb20
        have f3_6 := f3_5.below hb20
        have f4_6 := f4_5.below hb20
        have pq_6 := pq_5.below hb20
        have ps_6 := ps_5.below hb20
        have f5_3 := f5_2.below hb20
        clear hb20 hB_5 pu_5 pa_5 pb_5 pv_5 f1_5 f2_5 f3_5 f4_5 pq_5 ps_5 f5_2
        go_wp2_with fail
        refine hK.out _ _ ⟨pa_6.c0, pa_6.c1, pb_6.c0, pb_6.c1, pv_6.c0, pv_6.c1, pu_6.c0, pu_6.c1, ps_6.c0, ps_6.c1⟩ (fun hHeld => ?_)
        clear hK K
        try simp only [Act.put]
        try simp only [List.setIfInBounds_toArray, List.set_cons_zero, List.set_cons_succ]
        refine reg_take 18 ?_ ?_ ?_ (by kernel_rfl) (by kernel_rfl) (by kernel_rfl) (fun _ _ _ h => h) ?_ ?_ (by assumption) ?_
        rotate_left 2
        · simp only [List.getElem?_toArray, List.getElem?_cons_succ, List.getElem?_cons_zero]; exact rfl
        · rfl
        · intro w hSw; (try dsimp only at hSw); go_simp; try with_reducible rfl
        try simp only [Act.put]
        try simp only [List.setIfInBounds_toArray, List.set_cons_zero, List.set_cons_succ]
        refine reg_take 19 ?_ ?_ ?_ (by kernel_rfl) (by kernel_rfl) (by kernel_rfl) (fun _ _ _ h => h) ?_ ?_ (by assumption) ?_
        rotate_left 2
        · simp only [List.getElem?_toArray, List.getElem?_cons_succ, List.getElem?_cons_zero]; exact rfl
        · rfl
        · intro w hSw; (try dsimp only at hSw); go_simp; try with_reducible rfl
        try simp only [Act.put]
        try simp only [List.setIfInBounds_toArray, List.set_cons_zero, List.set_cons_succ]
        refine reg_take 20 ?_ ?_ ?_ (by kernel_rfl) (by kernel_rfl) (by kernel_rfl) (fun _ _ _ h => h) ?_ ?_ (by assumption) ?_
        rotate_left 2
        · simp only [List.getElem?_toArray, List.getElem?_cons_succ, List.getElem?_cons_zero]; exact rfl
        · rfl
        · intro w hSw; (try dsimp only at hSw); go_simp; try with_reducible rfl
        try simp only [Act.put]
        try simp only [List.setIfInBounds_toArray, List.set_cons_zero, List.set_cons_succ]
        refine reg_take 21 ?_ ?_ ?_ (by kernel_rfl) (by kernel_rfl) (by kernel_rfl) (fun _ _ _ h => h) ?_ ?_ (by assumption) ?_
        rotate_left 2
        · simp only [List.getElem?_toArray, List.getElem?_cons_succ, List.getElem?_cons_zero]; exact rfl
        · rfl
        · intro w hSw; (try dsimp only at hSw); go_simp; try with_reducible rfl
        try simp only [Act.put]
        try simp only [List.setIfInBounds_toArray, List.set_cons_zero, List.set_cons_succ]
        refine reg_take 22 ?_ ?_ ?_ (by kernel_rfl) (by kernel_rfl) (by kernel_rfl) (fun _ _ _ h => h) ?_ ?_ (by assumption) ?_
        rotate_left 2
        · simp only [List.getElem?_toArray, List.getElem?_cons_succ, List.getElem?_cons_zero]; exact rfl
        · rfl
        · intro w hSw; (try dsimp only at hSw); go_simp; try with_reducible rfl
        try simp only [Act.put]
        try simp only [List.setIfInBounds_toArray, List.set_cons_zero, List.set_cons_succ]
        refine reg_call 23 ?_ (by kernel_rfl) ?_ (fun K hK => ?_)
        rotate_left 1
        · simp only [List.getElem?_toArray, List.getElem?_cons_succ, List.getElem?_cons_zero]; exact rfl
        go_simp
        refine (N2.out _).mono ?_
        rintro e w21 ⟨rfl, hb21⟩
        have hB_7 := hB_6.trans (hb21.mono hB_6.size)
        have pu_7 := pu_6.below hb21
        have pa_7 := pa_6.below hb21
        have pb_7 := pb_6.below hb21
        have pv_7 := pv_6.below hb21
        have f1_7 := f1_6.below hb21
        have f2_7 := f2_6.below hb21
        have f3_7 := f3_6.below hb21
        have f4_7 := f4_6.below hb21
        have pq_7 := pq_6.below hb21
        have ps_7 := ps_6.below hb21
        have f5_4 := f5_3.below hb21
        clear hb21 hB_6 pu_6 pa_6 pb_6 pv_6 f1_6 f2_6 f3_6 f4_6 pq_6 ps_6 f5_3
        go_wp2_with fail
        refine hK.out _ _ ⟨pa_7.c0, pa_7.c1, pb_7.c0, pb_7.c1, pv_7.c0, pv_7.c1, pu_7.c0, pu_7.c1, ps_7.c0, ps_7.c1⟩ (fun hHeld => ?_)
        clear hK K
        try simp only [Act.put]
        try simp only [List.setIfInBounds_toArray, List.set_cons_zero, List.set_cons_succ]
        refine reg_take 24 ?_ ?_ ?_ (by kernel_rfl) (by kernel_rfl) (by kernel_rfl) (fun _ _ _ h => h) ?_ ?_ (by assumption) ?_
        rotate_left 2
        · simp only [List.getElem?_toArray, List.getElem?_cons_succ, List.getElem?_cons_zero]; exact rfl
        · rfl
        · intro w hSw; (try dsimp only at hSw); go_simp; try with_reducible rfl
        try simp only [Act.put]
        try simp only [List.setIfInBounds_toArray, List.set_cons_zero, List.set_cons_succ]
        refine reg_take 25 ?_ ?_ ?_ (by kernel_rfl) (by kernel_rfl) (by kernel_rfl) (fun _ _ _ h => h) ?_ ?_ (by assumption) ?_
        rotate_left 2
        · simp only [List.getElem?_toArray, List.getElem?_cons_succ, List.getElem?_cons_zero]; exact rfl
        · rfl
        · intro w hSw; (try dsimp only at hSw); go_simp; try with_reducible rfl
        try simp only [Act.put]
        try simp only [List.setIfInBounds_toArray, List.set_cons_zero, List.set_cons_succ]
        refine reg_take 26 ?_ ?_ ?_ (by kernel_rfl) (by kernel_rfl) (by kernel_rfl) (fun _ _ _ h => h) ?_ ?_ (by assumption) ?_
        rotate_left 2
        · simp only [List.getElem?_toArray, List.getElem?_cons_succ, List.getElem?_cons_zero]; exact rfl
        · rfl
        · intro w hSw; (try dsimp only at hSw); go_simp; try with_reducible rfl
        try simp only [Act.put]
        try simp only [List.setIfInBounds_toArray, List.set_cons_zero, List.set_cons_succ]
        refine reg_take 27 ?_ ?_ ?_ (by kernel_rfl) (by kernel_rfl) (by kernel_rfl) (fun _ _ _ h => h) ?_ ?_ (by assumption) ?_
        rotate_left 2
        · simp only [List.getElem?_toArray, List.getElem?_cons_succ, List.getElem?_cons_zero]; exact rfl
        · rfl
        · intro w hSw; (try dsimp only at hSw); go_simp; try with_reducible rfl
        try simp only [Act.put]
        try simp only [List.setIfInBounds_toArray, List.set_cons_zero, List.set_cons_succ]
        refine reg_take 28 ?_ ?_ ?_ (by kernel_rfl) (by kernel_rfl) (by kernel_rfl) (fun _ _ _ h => h) ?_ ?_ (by assumption) ?_
        rotate_left 2
        · simp only [List.getElem?_toArray, List.getElem?_cons_succ, List.getElem?_cons_zero]; exact rfl
        · rfl
        · intro w hSw; (try dsimp only at hSw); go_simp; try with_reducible rfl
        try simp only [Act.put]
        try simp only [List.setIfInBounds_toArray, List.set_cons_zero, List.set_cons_succ]
        refine reg_take 29 ?_ ?_ ?_ (by kernel_rfl) (by kernel_rfl) (by kernel_rfl) (fun _ _ _ h => h) ?_ ?_ (by assumption) ?_
        rotate_left 2
        · simp only [List.getElem?_toArray, List.getElem?_cons_succ, List.getElem?_cons_zero]; exact rfl
        · rfl
        · intro w hSw; (try dsimp only at hSw); go_simp; try with_reducible rfl
        try simp only [Act.put]
        try simp only [List.setIfInBounds_toArray, List.set_cons_zero, List.set_cons_succ]
        refine reg_take 30 ?_ ?_ ?_ (by kernel_rfl) (by kernel_rfl) (by kernel_rfl) (fun _ _ _ h => h) ?_ ?_ (by assumption) ?_
        rotate_left 2
        · simp only [List.getElem?_toArray, List.getElem?_cons_succ, List.getElem?_cons_zero]; exact rfl
        · rfl
        · intro w hSw; (try dsimp only at hSw); go_simp; try with_reducible rfl
        try simp only [Act.put]
        try simp only [List.setIfInBounds_toArray, List.set_cons_zero, List.set_cons_succ]
        refine reg_take 31 ?_ ?_ ?_ (by kernel_rfl) (by kernel_rfl) (by kernel_rfl) (fun _ _ _ h => h) ?_ ?_ (by assumption) ?_
        rotate_left 2
        · simp only [List.getElem?_toArray, List.getElem?_cons_succ, List.getElem?_cons_zero]; exact rfl
        · rfl
        · intro w hSw; (try dsimp only at hSw); go_simp; try with_reducible rfl
        try simp only [Act.put]
        try simp only [List.setIfInBounds_toArray, List.set_cons_zero, List.set_cons_succ]
        refine reg_take 32 ?_ ?_ ?_ (by kernel_rfl) (by kernel_rfl) (by kernel_rfl) (fun _ _ _ h => h) ?_ ?_ (by assumption) ?_
        rotate_left 2
        · simp only [List.getElem?_toArray, List.getElem?_cons_succ, List.getElem?_cons_zero]; exact rfl
        · rfl
        · intro w hSw; (try dsimp only at hSw); go_simp; try with_reducible rfl
        try simp only [Act.put]
        try simp only [List.setIfInBounds_toArray, List.set_cons_zero, List.set_cons_succ]
        refine reg_take 33 ?_ ?_ ?_ (by kernel_rfl) (by kernel_rfl) (by kernel_rfl) (fun _ _ _ h => h) ?_ ?_ (by assumption) ?_
        rotate_left 2
        · simp only [List.getElem?_toArray, List.getElem?_cons_succ, List.getElem?_cons_zero]; exact rfl
        · rfl
        · intro w hSw; (try dsimp only at hSw); go_simp; try with_reducible rfl
        try simp only [Act.put]
        try simp only [List.setIfInBounds_toArray, List.set_cons_zero, List.set_cons_succ]
        refine wpAnyH_done (by kernel_rfl) ?_ _
        refine NoPanic.normal ?_
        clear f4_7 f5_4 ps_7
        try clear gj gk hmin
        have q0 := Q0.out; have q1 := Q1.out; have q2 := Q2.out
        cases d0
        · cases d1
          · cases d2
            · obtain ⟨pae0, pae1, pae2, pae3⟩ := pa_7.open2
              obtain ⟨pbe0, pbe1, pbe2, pbe3⟩ := pb_7.open2
              obtain ⟨pve0, pve1, pve2, pve3⟩ := pv_7.open2
              obtain ⟨pue0, pue1, pue2, pue3⟩ := pu_7.open2
              go_wp2
              go_ret
              exact ⟨rfl, hB_7⟩
            · obtain ⟨pae0, pae1, pae2, pae3⟩ := pa_7.open2
              obtain ⟨pbe0, pbe1, pbe2, pbe3⟩ := pb_7.open2
              obtain ⟨pve0, pve1, pve2, pve3⟩ := pv_7.open2
              obtain ⟨pue0, pue1, pue2, pue3⟩ := pu_7.open2
              go_wp2
              go_ret
              exact ⟨rfl, hB_7⟩
          · obtain ⟨pae0, pae1, pae2, pae3⟩ := pa_7.open2
            obtain ⟨pbe0, pbe1, pbe2, pbe3⟩ := pb_7.open2
            obtain ⟨pve0, pve1, pve2, pve3⟩ := pv_7.open2
            obtain ⟨pue0, pue1, pue2, pue3⟩ := pu_7.open2
            go_wp2
            go_ret
            exact ⟨rfl, hB_7⟩
        · obtain ⟨pae0, pae1, pae2, pae3⟩ := pa_7.open2
          obtain ⟨pbe0, pbe1, pbe2, pbe3⟩ := pb_7.open2
          obtain ⟨pve0, pve1, pve2, pve3⟩ := pv_7.open2
          obtain ⟨pue0, pue1, pue2, pue3⟩ := pu_7.open2
          go_wp2
          go_ret
          exact ⟨rfl, hB_7⟩
      · cases bo0
        · cases bo1
          · cases bo2
            · obtain rfl : one = true := by simpa using ho
              have gj := GJ.out; have gk := GK.out; have hmin := HMIN.out
              clear pae0 pae1 pae2 pae3 pbe0 pbe1 pbe2 pbe3 pve0 pve1 pve2 pve3 pue0 pue1 pue2 pue3 pse0 pse1 pse2 pse3
              have hB_2 := hB_1.drew'
              have pu_2 := pu_1.drew
              have pa_2 := pa_1.drew
              have pb_2 := pb_1.drew
              have pv_2 := pv_1.drew
              have f1_2 := f1_1.drew
              have f2_2 := f2_1.drew
              have f3_2 := f3_1.drew
              have f4_2 := f4_1.drew
              have pq_2 := pq_1.drew
              have ps_2 := ps_1.drew
              refine wp_region_noPanic ?_
              refine wp_region_held_drew (S := fun w' => w'.cell? ⟨gpa, 0, none⟩ = some (.int .i64 a0) ∧ w'.cell? ⟨gpa, 1, none⟩ = some (.int .i64 a1) ∧ w'.cell? ⟨gpb, 0, none⟩ = some (.int .i64 v0) ∧ w'.cell? ⟨gpb, 1, none⟩ = some (.int .i64 v1) ∧ w'.cell? ⟨gpv, 0, none⟩ = some (.int .i64 b0) ∧ w'.cell? ⟨gpv, 1, none⟩ = some (.int .i64 b1) ∧ w'.cell? ⟨w.heap.size + 1, 0, none⟩ = some (.int .i64 u0) ∧ w'.cell? ⟨w.heap.size + 1, 1, none⟩ = some (.int .i64 u1) ∧ w'.cell? ⟨gps, 0, none⟩ = some (.bool m4) ∧ w'.cell? ⟨gps, 1, none⟩ = some (.slice o4 n4 c4)) (by kernel_rfl) (⟨pa_2.c0, pa_2.c1, pb_2.c0, pb_2.c1, pv_2.c0, pv_2.c1, pu_2.c0, pu_2.c1, ps_2.c0, ps_2.c1⟩) (fun hHeld => ?_)
              refine reg_take 0 ?_ ?_ ?_ (by kernel_rfl) (by kernel_rfl) (by kernel_rfl) (fun _ _ _ h => h) ?_ ?_ (by assumption) ?_
              rotate_left 2
              · simp only [List.getElem?_toArray, List.getElem?_cons_zero]; exact rfl
              · rfl
              · intro w hSw; (try dsimp only at hSw); go_simp; try with_reducible rfl
              try simp only [Act.put]
              try simp only [List.setIfInBounds_toArray, List.set_cons_zero, List.set_cons_succ]
              refine reg_take 1 ?_ ?_ ?_ (by kernel_rfl) (by kernel_rfl) (by kernel_rfl) (fun _ _ _ h => h) ?_ ?_ (by assumption) ?_
              rotate_left 2
              · simp only [List.getElem?_toArray, List.getElem?_cons_succ, List.getElem?_cons_zero]; exact rfl
              · rfl
              · intro w hSw; (try dsimp only at hSw); go_simp; try with_reducible rfl
              try simp only [Act.put]
              try simp only [List.setIfInBounds_toArray, List.set_cons_zero, List.set_cons_succ]
              refine reg_take 2 ?_ ?_ ?_ (by kernel_rfl) (by kernel_rfl) (by kernel_rfl) (fun _ _ _ h => h) ?_ ?_ (by assumption) ?_
              rotate_left 2
              · simp only [List.getElem?_toArray, List.getElem?_cons_succ, List.getElem?_cons_zero]; exact rfl
              · rfl
              · intro w hSw; (try dsimp only at hSw); go_simp; try with_reducible rfl
              try simp only [Act.put]
              try simp only [List.setIfInBounds_toArray, List.set_cons_zero, List.set_cons_succ]
              refine reg_take 3 ?_ ?_ ?_ (by kernel_rfl) (by kernel_rfl) (by kernel_rfl) (fun _ _ _ h => h) ?_ ?_ (by assumption) ?_
              rotate_left 2
              · simp only [List.getElem?_toArray, List.getElem?_cons_succ, List.getElem?_cons_zero]; exact rfl
              · rfl
              · intro w hSw; (try dsimp only at hSw); go_simp; try with_reducible rfl
              try simp only [Act.put]
              try simp only [List.setIfInBounds_toArray, List.set_cons_zero, List.set_cons_succ]
              refine reg_call 4 ?_ (by kernel_rfl) ?_ (fun K hK => ?_)
              rotate_left 1
              · simp only [List.getElem?_toArray, List.getElem?_cons_succ, List.getElem?_cons_zero]; exact rfl
              go_simp
              refine (AW.out _).mono ?_
              rintro e w17 ⟨m5, o5, n5, c5, rfl, f5_0, hb17⟩
              have hB_3 := hB_2.trans (hb17.mono hB_2.size)
              have pu_3 := pu_2.below hb17
              have pa_3 := pa_2.below hb17
              have pb_3 := pb_2.below hb17
              have pv_3 := pv_2.below hb17
              have f1_3 := f1_2.below hb17
              have f2_3 := f2_2.below hb17
              have f3_3 := f3_2.below hb17
              have f4_3 := f4_2.below hb17
              have pq_3 := pq_2.below hb17
              have ps_3 := ps_2.below hb17
              clear hb17 hB_2 pu_2 pa_2 pb_2 pv_2 f1_2 f2_2 f3_2 f4_2 pq_2 ps_2
              go_wp2_with fail
              refine hK.out _ _ ⟨pa_3.c0, pa_3.c1, pb_3.c0, pb_3.c1, pv_3.c0, pv_3.c1, pu_3.c0, pu_3.c1, ps_3.c0, ps_3.c1⟩ (fun hHeld => ?_)
              clear hK K
              try simp only [Act.put]
              try simp only [List.setIfInBounds_toArray, List.set_cons_zero, List.set_cons_succ]
              refine reg_call 5 ?_ (by kernel_rfl) ?_ (fun K hK => ?_)
              rotate_left 1
              · simp only [List.getElem?_toArray, List.getElem?_cons_succ, List.getElem?_cons_zero]; exact rfl
              go_simp
              refine (Cmp_named _ _ 5 2 _ _ 0 _ (by omega) (by omega) f4_3.num f5_0.num (icmp_self _)).mono ?_
              rintro e w18 ⟨rfl, hb18⟩
              have hB_4 := hB_3.trans (hb18.mono hB_3.size)
              have pu_4 := pu_3.below hb18
              have pa_4 := pa_3.below hb18
              have pb_4 := pb_3.below hb18
              have pv_4 := pv_3.below hb18
              have f1_4 := f1_3.below hb18
              have f2_4 := f2_3.below hb18
              have f3_4 := f3_3.below hb18
              have f4_4 := f4_3.below hb18
              have pq_4 := pq_3.below hb18
              have ps_4 := ps_3.below hb18
              have f5_1 := f5_0.below hb18
              clear hb18 hB_3 pu_3 pa_3 pb_3 pv_3 f1_3 f2_3 f3_3 f4_3 pq_3 ps_3 f5_0
              go_wp2_with fail
              refine hK.out _ _ ⟨pa_4.c0, pa_4.c1, pb_4.c0, pb_4.c1, pv_4.c0, pv_4.c1, pu_4.c0, pu_4.c1, ps_4.c0, ps_4.c1⟩ (fun hHeld => ?_)
              clear hK K
              try simp only [Act.put]
              try simp only [List.setIfInBounds_toArray, List.set_cons_zero, List.set_cons_succ]
              refine reg_take 6 ?_ ?_ ?_ (by kernel_rfl) (by kernel_rfl) (by kernel_rfl) (fun _ _ _ h => h) ?_ ?_ (by assumption) ?_
              rotate_left 2
              · simp only [List.getElem?_toArray, List.getElem?_cons_succ, List.getElem?_cons_zero]; exact rfl
              · rfl
              · intro w hSw; (try dsimp only at hSw); go_simp; try with_reducible rfl
              try simp only [Act.put]
              try simp only [List.setIfInBounds_toArray, List.set_cons_zero, List.set_cons_succ]
              refine reg_take 7 ?_ ?_ ?_ (by kernel_rfl) (by kernel_rfl) (by kernel_rfl) (fun _ _ _ h => h) ?_ ?_ (by assumption) ?_
              rotate_left 2
              · simp only [List.getElem?_toArray, List.getElem?_cons_succ, List.getElem?_cons_zero]; exact rfl
              · rfl
              · intro w hSw; (try dsimp only at hSw); go_simp; try with_reducible rfl
              try simp only [Act.put]
              try simp only [List.setIfInBounds_toArray, List.set_cons_zero, List.set_cons_succ]
              refine reg_take 8 ?_ ?_ ?_ (by kernel_rfl) (by kernel_rfl) (by kernel_rfl) (fun _ _ _ h => h) ?_ ?_ (by assumption) ?_
              rotate_left 2
              · simp only [List.getElem?_toArray, List.getElem?_cons_succ, List.getElem?_cons_zero]; exact rfl
              · rfl
              · intro w hSw; (try dsimp only at hSw); go_simp; try with_reducible rfl
              try simp only [Act.put]
              try simp only [List.setIfInBounds_toArray, List.set_cons_zero, List.set_cons_succ]
              refine reg_take 9 ?_ ?_ ?_ (by kernel_rfl) (by kernel_rfl) (by kernel_rfl) (fun _ _ _ h => h) ?_ ?_ (by assumption) ?_
              rotate_left 2
              · simp only [List.getElem?_toArray, List.getElem?_cons_succ, List.getElem?_cons_zero]; exact rfl
              · rfl
              · intro w hSw; (try dsimp only at hSw); go_simp; try with_reducible rfl
              try simp only [Act.put]
              try simp only [List.setIfInBounds_toArray, List.set_cons_zero, List.set_cons_succ]
              refine reg_take 10 ?_ ?_ ?_ (by kernel_rfl) (by kernel_rfl) (by kernel_rfl) (fun _ _ _ h => h) ?_ ?_ (by assumption) ?_
              rotate_left 2
              · simp only [List.getElem?_toArray, List.getElem?_cons_succ, List.getElem?_cons_zero]; exact rfl
              · rfl
              · intro w hSw; (try dsimp only at hSw); go_simp; try with_reducible rfl
              try simp only [Act.put]
              try simp only [List.setIfInBounds_toArray, List.set_cons_zero, List.set_cons_succ]
              refine reg_take 11 ?_ ?_ ?_ (by kernel_rfl) (by kernel_rfl) (by kernel_rfl) (fun _ _ _ h => h) ?_ ?_ (by assumption) ?_
              rotate_left 2
              · simp only [List.getElem?_toArray, List.getElem?_cons_succ, List.getElem?_cons_zero]; exact rfl
              · rfl
              · intro w hSw; (try dsimp only at hSw); go_simp; try with_reducible rfl
              try simp only [Act.put]
              try simp only [List.setIfInBounds_toArray, List.set_cons_zero, List.set_cons_succ]
              refine reg_call 12 ?_ (by kernel_rfl) ?_ (fun K hK => ?_)
              rotate_left 1
              · simp only [List.getElem?_toArray, List.getElem?_cons_succ, List.getElem?_cons_zero]; exact rfl
              go_simp
              refine (N0.out _).mono ?_
              rintro e w19 ⟨rfl, hb19⟩
              have hB_5 := hB_4.trans (hb19.mono hB_4.size)
              have pu_5 := pu_4.below hb19
              have pa_5 := pa_4.below hb19
              have pb_5 := pb_4.below hb19
              have pv_5 := pv_4.below hb19
              have f1_5 := f1_4.below hb19
              have f2_5 := f2_4.below hb19
              have f3_5 := f3_4.below hb19
              have f4_5 := f4_4.below hb19
              have pq_5 := pq_4.below hb19
              have ps_5 := ps_4.below hb19
              have f5_2 := f5_1.below hb19
              clear hb19 hB_4 pu_4 pa_4 pb_4 pv_4 f1_4 f2_4 f3_4 f4_4 pq_4 ps_4 f5_1
              go_wp2_with fail
              refine hK.out _ _ ⟨pa_5.c0, pa_5.c1, pb_5.c0, pb_5.c1, pv_5.c0, pv_5.c1, pu_5.c0, pu_5.c1, ps_5.c0, ps_5.c1⟩ (fun hHeld => ?_)
              clear hK K
              try simp only [Act.put]
              try simp only [List.setIfInBounds_toArray, List.set_cons_zero, List.set_cons_succ]
              refine reg_take 13 ?_ ?_ ?_ (by kernel_rfl) (by kernel_rfl) (by kernel_rfl) (fun _ _ _ h => h) ?_ ?_ (by assumption) ?_
              rotate_left 2
              · simp only [List.getElem?_toArray, List.getElem?_cons_succ, List.getElem?_cons_zero]; exact rfl
              · rfl
              · intro w hSw; (try dsimp only at hSw); go_simp; try with_reducible rfl
              try simp only [Act.put]
              try simp only [List.setIfInBounds_toArray, List.set_cons_zero, List.set_cons_succ]
              refine reg_take 14 ?_ ?_ ?_ (by kernel_rfl) (by kernel_rfl) (by kernel_rfl) (fun _ _ _ h => h) ?_ ?_ (by assumption) ?_
              rotate_left 2
              · simp only [List.getElem?_toArray, List.getElem?_cons_succ, List.getElem?_cons_zero]; exact rfl
              · rfl
              · intro w hSw; (try dsimp only at hSw); go_simp; try with_reducible rfl
              try simp only [Act.put]
              try simp only [List.setIfInBounds_toArray, List.set_cons_zero, List.set_cons_succ]
              refine reg_take 15 ?_ ?_ ?_ (by kernel_rfl) (by kernel_rfl) (by kernel_rfl) (fun _ _ _ h => h) ?_ ?_ (by assumption) ?_
              rotate_left 2
              · simp only [List.getElem?_toArray, List.getElem?_cons_succ, List.getElem?_cons_zero]; exact rfl
              · rfl
              · intro w hSw; (try dsimp only at hSw); go_simp; try with_reducible rfl
              try simp only [Act.put]
              try simp only [List.setIfInBounds_toArray, List.set_cons_zero, List.set_cons_succ]
              refine reg_take 16 ?_ ?_ ?_ (by kernel_rfl) (by kernel_rfl) (by kernel_rfl) (fun _ _ _ h => h) ?_ ?_ (by assumption) ?_
              rotate_left 2
              · simp only [List.getElem?_toArray, List.getElem?_cons_succ, List.getElem?_cons_zero]; exact rfl
              · rfl
              · intro w hSw; (try dsimp only at hSw); go_simp; try with_reducible rfl
              try simp only [Act.put]
              try simp only [List.setIfInBounds_toArray, List.set_cons_zero, List.set_cons_succ]
              refine reg_call 17 ?_ (by kernel_rfl) ?_ (fun K hK => ?_)
              rotate_left 1
              · simp only [List.getElem?_toArray, List.getElem?_cons_succ, List.getElem?_cons_zero]; exact rfl
              go_simp
              refine (N1.out _).mono ?_
              rintro e w20 ⟨rfl, hb20⟩
              have hB_6 := hB_5.trans (hb20.mono hB_5.size)
              have pu_6 := pu_5.below hb20
              have pa_6 := pa_5.below hb20
              have pb_6 := pb_5.below hb20
              have pv_6 := pv_5.below hb20
              have f1_6 := f1_5.below hb20
              have f2_6 := f2_5.below hb20
              have f3_6 := f3_5.below hb20
              have f4_6 := f4_5.below hb20
              have pq_6 := pq_5.below hb20
              have ps_6 := ps_5.below hb20
              have f5_3 := f5_2.below hb20
              clear hb20 hB_5 pu_5 pa_5 pb_5 pv_5 f1_5 f2_5 f3_5 f4_5 pq_5 ps_5 f5_2
              go_wp2_with fail
              refine hK.out _ _ ⟨pa_6.c0, pa_6.c1, pb_6.c0, pb_6.c1, pv_6.c0, pv_6.c1, pu_6.c0, pu_6.c1, ps_6.c0, ps_6.c1⟩ (fun hHeld => ?_)
              clear hK K
              try simp only [Act.put]
              try simp only [List.setIfInBounds_toArray, List.set_cons_zero, List.set_cons_succ]
              refine reg_take 18 ?_ ?_ ?_ (by kernel_rfl) (by kernel_rfl) (by kernel_rfl) (fun _ _ _ h => h) ?_ ?_ (by assumption) ?_
              rotate_left 2
              · simp only [List.getElem?_toArray, List.getElem?_cons_succ, List.getElem?_cons_zero]; exact rfl
              · rfl
              · intro w hSw; (try dsimp only at hSw); go_simp; try with_reducible rfl
              try simp only [Act.put]
              try simp only [List.setIfInBounds_toArray, List.set_cons_zero, List.set_cons_succ]
              refine reg_take 19 ?_ ?_ ?_ (by kernel_rfl) (by kernel_rfl) (by kernel_rfl) (fun _ _ _ h => h) ?_ ?_ (by assumption) ?_
              rotate_left 2
              · simp only [List.getElem?_toArray, List.getElem?_cons_succ, List.getElem?_cons_zero]; exact rfl
              · rfl
              · intro w hSw; (try dsimp only at hSw); go_simp; try with_reducible rfl
              try simp only [Act.put]
              try simp only [List.setIfInBounds_toArray, List.set_cons_zero, List.set_cons_succ]
              refine reg_take 20 ?_ ?_ ?_ (by kernel_rfl) (by kernel_rfl) (by kernel_rfl) (fun _ _ _ h => h) ?_ ?_ (by assumption) ?_
              rotate_left 2
              · simp only [List.getElem?_toArray, List.getElem?_cons_succ, List.getElem?_cons_zero]; exact rfl
              · rfl
              · intro w hSw; (try dsimp only at hSw); go_simp; try with_reducible rfl
              try simp only [Act.put]
              try simp only [List.setIfInBounds_toArray, List.set_cons_zero, List.set_cons_succ]
              refine reg_take 21 ?_ ?_ ?_ (by kernel_rfl) (by kernel_rfl) (by kernel_rfl) (fun _ _ _ h => h) ?_ ?_ (by assumption) ?_
              rotate_left 2
              · simp only [List.getElem?_toArray, List.getElem?_cons_succ, List.getElem?_cons_zero]; exact rfl
              · rfl
              · intro w hSw; (try dsimp only at hSw); go_simp; try with_reducible rfl
              try simp only [Act.put]
              try simp only [List.setIfInBounds_toArray, List.set_cons_zero, List.set_cons_succ]
              refine reg_take 22 ?_ ?_ ?_ (by kernel_rfl) (by kernel_rfl) (by kernel_rfl) (fun _ _ _ h => h) ?_ ?_ (by assumption) ?_
              rotate_left 2
              · simp only [List.getElem?_toArray, List.getElem?_cons_succ, List.getElem?_cons_zero]; exact rfl
              · rfl
              · intro w hSw; (try dsimp only at hSw); go_simp; try with_reducible rfl
              try simp only [Act.put]
              try simp only [List.setIfInBounds_toArray, List.set_cons_zero, List.set_cons_succ]
              refine reg_call 23 ?_ (by kernel_rfl) ?_ (fun K hK => ?_)
              rotate_left 1
              · simp only [List.getElem?_toArray, List.getElem?_cons_succ, List.getElem?_cons_zero]; exact rfl
              go_simp
              refine (N2.out _).mono ?_
              rintro e w21 ⟨rfl, hb21⟩
              have hB_7 := hB_6.trans (hb21.mono hB_6.size)
              have pu_7 := pu_6.below hb21
              have pa_7 := pa_6.below hb21
              have pb_7 := pb_6.below hb21
              have pv_7 := pv_6.below hb21
              have f1_7 := f1_6.below hb21
              have f2_7 := f2_6.below hb21
              have f3_7 := f3_6.below hb21
              have f4_7 := f4_6.below hb21
              have pq_7 := pq_6.below hb21
              have ps_7 := ps_6.below hb21
              have f5_4 := f5_3.below hb21
              clear hb21 hB_6 pu_6 pa_6 pb_6 pv_6 f1_6 f2_6 f3_6 f4_6 pq_6 ps_6 f5_3
              go_wp2_with fail
              refine hK.out _ _ ⟨pa_7.c0, pa_7.c1, pb_7.c0, pb_7.c1, pv_7.c0, pv_7.c1, pu_7.c0, pu_7.c1, ps_7.c0, ps_7.c1⟩ (fun hHeld => ?_)
              clear hK K
              try simp only [Act.put]
              try simp only [List.setIfInBounds_toArray, List.set_cons_zero, List.set_cons_succ]
              refine reg_take 24 ?_ ?_ ?_ (by kernel_rfl) (by kernel_rfl) (by kernel_rfl) (fun _ _ _ h => h) ?_ ?_ (by assumption) ?_
              rotate_left 2
              · simp only [List.getElem?_toArray, List.getElem?_cons_succ, List.getElem?_cons_zero]; exact rfl
              · rfl
              · intro w hSw; (try dsimp only at hSw); go_simp; try with_reducible rfl
              try simp only [Act.put]
              try simp only [List.setIfInBounds_toArray, List.set_cons_zero, List.set_cons_succ]
              refine reg_take 25 ?_ ?_ ?_ (by kernel_rfl) (by kernel_rfl) (by kernel_rfl) (fun _ _ _ h => h) ?_ ?_ (by assumption) ?_
              rotate_left 2
              · simp only [List.getElem?_toArray, List.getElem?_cons_succ, List.getElem?_cons_zero]; exact rfl
              · rfl
              · intro w hSw; (try dsimp only at hSw); go_simp; try with_reducible rfl
              try simp only [Act.put]
              try simp only [List.setIfInBounds_toArray, List.set_cons_zero, List.set_cons_succ]
              refine reg_take 26 ?_ ?_ ?_ (by kernel_rfl) (by kernel_rfl) (by kernel_rfl) (fun _ _ _ h => h) ?_ ?_ (by assumption) ?_
              rotate_left 2
              · simp only [List.getElem?_toArray, List.getElem?_cons_succ, List.getElem?_cons_zero]; exact rfl
              · rfl
              · intro w hSw; (try dsimp only at hSw); go_simp; try with_reducible rfl
              try simp only [Act.put]
              try simp only [List.setIfInBounds_toArray, List.set_cons_zero, List.set_cons_succ]
              refine reg_take 27 ?_ ?_ ?_ (by kernel_rfl) (by kernel_rfl) (by kernel_rfl) (fun _ _ _ h => h) ?_ ?_ (by assumption) ?_
              rotate_left 2
              · simp only [List.getElem?_toArray, List.getElem?_cons_succ, List.getElem?_cons_zero]; exact rfl
              · rfl
              · intro w hSw; (try dsimp only at hSw); go_simp; try with_reducible rfl
              try simp only [Act.put]
              try simp only [List.setIfInBounds_toArray, List.set_cons_zero, List.set_cons_succ]
              refine reg_take 28 ?_ ?_ ?_ (by kernel_rfl) (by kernel_rfl) (by kernel_rfl) (fun _ _ _ h => h) ?_ ?_ (by assumption) ?_
              rotate_left 2
              · simp only [List.getElem?_toArray, List.getElem?_cons_succ, List.getElem?_cons_zero]; exact rfl
              · rfl
              · intro w hSw; (try dsimp only at hSw); go_simp; try with_reducible rfl
              try simp only [Act.put]
              try simp only [List.setIfInBounds_toArray, List.set_cons_zero, List.set_cons_succ]
              refine reg_take 29 ?_ ?_ ?_ (by kernel_rfl) (by kernel_rfl) (by kernel_rfl) (fun _ _ _ h => h) ?_ ?_ (by assumption) ?_
              rotate_left 2
              · simp only [List.getElem?_toArray, List.getElem?_cons_succ, List.getElem?_cons_zero]; exact rfl
              · rfl
              · intro w hSw; (try dsimp only at hSw); go_simp; try with_reducible rfl
              try simp only [Act.put]
              try simp only [List.setIfInBounds_toArray, List.set_cons_zero, List.set_cons_succ]
              refine reg_take 30 ?_ ?_ ?_ (by kernel_rfl) (by kernel_rfl) (by kernel_rfl) (fun _ _ _ h => h) ?_ ?_ (by assumption) ?_
              rotate_left 2
              · simp only [List.getElem?_toArray, List.getElem?_cons_succ, List.getElem?_cons_zero]; exact rfl
              · rfl
              · intro w hSw; (try dsimp only at hSw); go_simp; try with_reducible rfl
              try simp only [Act.put]
              try simp only [List.setIfInBounds_toArray, List.set_cons_zero, List.set_cons_succ]
              refine reg_take 31 ?_ ?_ ?_ (by kernel_rfl) (by kernel_rfl) (by kernel_rfl) (fun _ _ _ h => h) ?_ ?_ (by assumption) ?_
              rotate_left 2
              · simp only [List.getElem?_toArray, List.getElem?_cons_succ, List.getElem?_cons_zero]; exact rfl
              · rfl
              · intro w hSw; (try dsimp only at hSw); go_simp; try with_reducible rfl
              try simp only [Act.put]
              try simp only [List.setIfInBounds_toArray, List.set_cons_zero, List.set_cons_succ]
              refine reg_take 32 ?_ ?_ ?_ (by kernel_rfl) (by kernel_rfl) (by kernel_rfl) (fun _ _ _ h => h) ?_ ?_ (by assumption) ?_
              rotate_left 2
              · simp only [List.getElem?_toArray, List.getElem?_cons_succ, List.getElem?_cons_zero]; exact rfl
              · rfl
              · intro w hSw; (try dsimp only at hSw); go_simp; try with_reducible rfl
              try simp only [Act.put]
              try simp only [List.setIfInBounds_toArray, List.set_cons_zero, List.set_cons_succ]
              refine reg_take 33 ?_ ?_ ?_ (by kernel_rfl) (by kernel_rfl) (by kernel_rfl) (fun _ _ _ h => h) ?_ ?_ (by assumption) ?_
              rotate_left 2
              · simp only [List.getElem?_toArray, List.getElem?_cons_succ, List.getElem?_cons_zero]; exact rfl
              · rfl
              · intro w hSw; (try dsimp only at hSw); go_simp; try with_reducible rfl
              try simp only [Act.put]
              try simp only [List.setIfInBounds_toArray, List.set_cons_zero, List.set_cons_succ]
              refine wpAnyH_done (by kernel_rfl) ?_ _
              refine NoPanic.normal ?_
              clear f4_7 f5_4 ps_7
              try clear gj gk hmin
              have q0 := Q0.out; have q1 := Q1.out; have q2 := Q2.out
              cases d0
              · cases d1
                · cases d2
                  · obtain ⟨pae0, pae1, pae2, pae3⟩ := pa_7.open2
                    obtain ⟨pbe0, pbe1, pbe2, pbe3⟩ := pb_7.open2
                    obtain ⟨pve0, pve1, pve2, pve3⟩ := pv_7.open2
                    obtain ⟨pue0, pue1, pue2, pue3⟩ := pu_7.open2
                    rcases hs (by first | rfl | trivial) with rfl | ⟨rfl, hk⟩
                    · go_wp2_with fail
                      refine (CI.out _).mono ?_
                      rintro e w22 ⟨rfl, hb22⟩
                      clear pae0 pae1 pae2 pae3 pbe0 pbe1 pbe2 pbe3 pve0 pve1 pve2 pve3 pue0 pue1 pue2 pue3
                      have hB_8 := hB_7.trans (hb22.mono hB_7.size)
                      have pu_8 := pu_7.below hb22
                      have pa_8 := pa_7.below hb22
                      have pb_8 := pb_7.below hb22
                      have pv_8 := pv_7.below hb22
                      have f1_8 := f1_7.below hb22
                      have f2_8 := f2_7.below hb22
                      have f3_8 := f3_7.below hb22
                      have pq_8 := pq_7.below hb22
                      clear hb22 hB_7 pu_7 pa_7 pb_7 pv_7 f1_7 f2_7 f3_7 pq_7
                      obtain ⟨pae0, pae1, pae2, pae3⟩ := pa_8.open2
                      obtain ⟨pbe0, pbe1, pbe2, pbe3⟩ := pb_8.open2
                      obtain ⟨pve0, pve1, pve2, pve3⟩ := pv_8.open2
                      obtain ⟨pue0, pue1, pue2, pue3⟩ := pu_8.open2
                      go_wp2
                      go_ret
                      exact ⟨rfl, hB_8⟩
                    · exact absurd hk (by decide)
                  · obtain ⟨pae0, pae1, pae2, pae3⟩ := pa_7.open2
                    obtain ⟨pbe0, pbe1, pbe2, pbe3⟩ := pb_7.open2
                    obtain ⟨pve0, pve1, pve2, pve3⟩ := pv_7.open2
                    obtain ⟨pue0, pue1, pue2, pue3⟩ := pu_7.open2
                    rcases hs (by first | rfl | trivial) with rfl | ⟨rfl, hk⟩
                    · go_wp2_with fail
                      refine (CI.out _).mono ?_
                      rintro e w22 ⟨rfl, hb22⟩
                      clear pae0 pae1 pae2 pae3 pbe0 pbe1 pbe2 pbe3 pve0 pve1 pve2 pve3 pue0 pue1 pue2 pue3
                      have hB_8 := hB_7.trans (hb22.mono hB_7.size)
                      have pu_8 := pu_7.below hb22
                      have pa_8 := pa_7.below hb22
                      have pb_8 := pb_7.below hb22
                      have pv_8 := pv_7.below hb22
                      have f1_8 := f1_7.below hb22
                      have f2_8 := f2_7.below hb22
                      have f3_8 := f3_7.below hb22
                      have pq_8 := pq_7.below hb22
                      clear hb22 hB_7 pu_7 pa_7 pb_7 pv_7 f1_7 f2_7 f3_7 pq_7
                      obtain ⟨pae0, pae1, pae2, pae3⟩ := pa_8.open2
                      obtain ⟨pbe0, pbe1, pbe2, pbe3⟩ := pb_8.open2
                      obtain ⟨pve0, pve1, pve2, pve3⟩ := pv_8.open2
                      obtain ⟨pue0, pue1, pue2, pue3⟩ := pu_8.open2
                      go_wp2
                      go_ret
                      exact ⟨rfl, hB_8⟩
                    · go_wp2_with fail
                      refine (CI.out _).mono ?_
                      rintro e w22 ⟨rfl, hb22⟩
                      clear pae0 pae1 pae2 pae3 pbe0 pbe1 pbe2 pbe3 pve0 pve1 pve2 pve3 pue0 pue1 pue2 pue3
                      have hB_8 := hB_7.trans (hb22.mono hB_7.size)
                      have pu_8 := pu_7.below hb22
                      have pa_8 := pa_7.below hb22
                      have pb_8 := pb_7.below hb22
                      have pv_8 := pv_7.below hb22
                      have f1_8 := f1_7.below hb22
                      have f2_8 := f2_7.below hb22
                      have f3_8 := f3_7.below hb22
                      have pq_8 := pq_7.below hb22
                      clear hb22 hB_7 pu_7 pa_7 pb_7 pv_7 f1_7 f2_7 f3_7 pq_7
                      obtain ⟨pae0, pae1, pae2, pae3⟩ := pa_8.open2
                      obtain ⟨pbe0, pbe1, pbe2, pbe3⟩ := pb_8.open2
                      obtain ⟨pve0, pve1, pve2, pve3⟩ := pv_8.open2
                      obtain ⟨pue0, pue1, pue2, pue3⟩ := pu_8.open2
                      go_wp2_with fail
                      refine (CI.out _).mono ?_
                      rintro e w23 ⟨rfl, hb23⟩
                      clear pae0 pae1 pae2 pae3 pbe0 pbe1 pbe2 pbe3 pve0 pve1 pve2 pve3 pue0 pue1 pue2 pue3
                      have hB_9 := hB_8.trans (hb23.mono hB_8.size)
                      have pu_9 := pu_8.below hb23
                      have pa_9 := pa_8.below hb23
                      have pb_9 := pb_8.below hb23
                      have pv_9 := pv_8.below hb23
                      have f1_9 := f1_8.below hb23
                      have f2_9 := f2_8.below hb23
                      have f3_9 := f3_8.below hb23
                      have pq_9 := pq_8.below hb23
                      clear hb23 hB_8 pu_8 pa_8 pb_8 pv_8 f1_8 f2_8 f3_8 pq_8
                      obtain ⟨pae0, pae1, pae2, pae3⟩ := pa_9.open2
                      obtain ⟨pbe0, pbe1, pbe2, pbe3⟩ := pb_9.open2
                      obtain ⟨pve0, pve1, pve2, pve3⟩ := pv_9.open2
                      obtain ⟨pue0, pue1, pue2, pue3⟩ := pu_9.open2
                      go_wp2
                      go_ret
                      exact ⟨rfl, hB_9⟩
                · obtain ⟨pae0, pae1, pae2, pae3⟩ := pa_7.open2
                  obtain ⟨pbe0, pbe1, pbe2, pbe3⟩ := pb_7.open2
                  obtain ⟨pve0, pve1, pve2, pve3⟩ := pv_7.open2
                  obtain ⟨pue0, pue1, pue2, pue3⟩ := pu_7.open2
                  rcases hs (by first | rfl | trivial) with rfl | ⟨rfl, hk⟩
                  · go_wp2_with fail
                    refine (CI.out _).mono ?_
                    rintro e w22 ⟨rfl, hb22⟩
                    clear pae0 pae1 pae2 pae3 pbe0 pbe1 pbe2 pbe3 pve0 pve1 pve2 pve3 pue0 pue1 pue2 pue3
                    have hB_8 := hB_7.trans (hb22.mono hB_7.size)
                    have pu_8 := pu_7.below hb22
                    have pa_8 := pa_7.below hb22
                    have pb_8 := pb_7.below hb22
                    have pv_8 := pv_7.below hb22
                    have f1_8 := f1_7.below hb22
                    have f2_8 := f2_7.below hb22
                    have f3_8 := f3_7.below hb22
                    have pq_8 := pq_7.below hb22
                    clear hb22 hB_7 pu_7 pa_7 pb_7 pv_7 f1_7 f2_7 f3_7 pq_7
                    obtain ⟨pae0, pae1, pae2, pae3⟩ := pa_8.open2
                    obtain ⟨pbe0, pbe1, pbe2, pbe3⟩ := pb_8.open2
                    obtain ⟨pve0, pve1, pve2, pve3⟩ := pv_8.open2
                    obtain ⟨pue0, pue1, pue2, pue3⟩ := pu_8.open2
                    go_wp2
                    go_ret
                    exact ⟨rfl, hB_8⟩
                  · go_wp2_with fail
                    refine (CI.out _).mono ?_
                    rintro e w22 ⟨rfl, hb22⟩
                    clear pae0 pae1 pae2 pae3 pbe0 pbe1 pbe2 pbe3 pve0 pve1 pve2 pve3 pue0 pue1 pue2 pue3
                    have hB_8 := hB_7.trans (hb22.mono hB_7.size)
                    have pu_8 := pu_7.below hb22
                    have pa_8 := pa_7.below hb22
                    have pb_8 := pb_7.below hb22
                    have pv_8 := pv_7.below hb22
                    have f1_8 := f1_7.below hb22
                    have f2_8 := f2_7.below hb22
                    have f3_8 := f3_7.below hb22
                    have pq_8 := pq_7.below hb22
                    clear hb22 hB_7 pu_7 pa_7 pb_7 pv_7 f1_7 f2_7 f3_7 pq_7
                    obtain ⟨pae0, pae1, pae2, pae3⟩ := pa_8.open2
                    obtain ⟨pbe0, pbe1, pbe2, pbe3⟩ := pb_8.open2
                    obtain ⟨pve0, pve1, pve2, pve3⟩ := pv_8.open2
                    obtain ⟨pue0, pue1, pue2, pue3⟩ := pu_8.open2
                    go_wp2_with fail
                    refine (CI.out _).mono ?_
                    rintro e w23 ⟨rfl, hb23⟩
                    clear pae0 pae1 pae2 pae3 pbe0 pbe1 pbe2 pbe3 pve0 pve1 pve2 pve3 pue0 pue1 pue2 pue3
                    have hB_9 := hB_8.trans (hb23.mono hB_8.size)
                    have pu_9 := pu_8.below hb23
                    have pa_9 := pa_8.below hb23
                    have pb_9 := pb_8.below hb23
                    have pv_9 := pv_8.below hb23
                    have f1_9 := f1_8.below hb23
                    have f2_9 := f2_8.below hb23
                    have f3_9 := f3_8.below hb23
                    have pq_9 := pq_8.below hb23
                    clear hb23 hB_8 pu_8 pa_8 pb_8 pv_8 f1_8 f2_8 f3_8 pq_8
                    obtain ⟨pae0, pae1, pae2, pae3⟩ := pa_9.open2
                    obtain ⟨pbe0, pbe1, pbe2, pbe3⟩ := pb_9.open2
                    obtain ⟨pve0, pve1, pve2, pve3⟩ := pv_9.open2
                    obtain ⟨pue0, pue1, pue2, pue3⟩ := pu_9.open2
                    go_wp2
                    go_ret
                    exact ⟨rfl, hB_9⟩
              · obtain ⟨pae0, pae1, pae2, pae3⟩ := pa_7.open2
                obtain ⟨pbe0, pbe1, pbe2, pbe3⟩ := pb_7.open2
                obtain ⟨pve0, pve1, pve2, pve3⟩ := pv_7.open2
                obtain ⟨pue0, pue1, pue2, pue3⟩ := pu_7.open2
                rcases hs (by first | rfl | trivial) with rfl | ⟨rfl, hk⟩
                · go_wp2_with fail
                  refine (CI.out _).mono ?_
                  rintro e w22 ⟨rfl, hb22⟩
                  clear pae0 pae1 pae2 pae3 pbe0 pbe1 pbe2 pbe3 pve0 pve1 pve2 pve3 pue0 pue1 pue2 pue3
                  have hB_8 := hB_7.trans (hb22.mono hB_7.size)
                  have pu_8 := pu_7.below hb22
                  have pa_8 := pa_7.below hb22
                  have pb_8 := pb_7.below hb22
                  have pv_8 := pv_7.below hb22
                  have f1_8 := f1_7.below hb22
                  have f2_8 := f2_7.below hb22
                  have f3_8 := f3_7.below hb22
                  have pq_8 := pq_7.below hb22
                  clear hb22 hB_7 pu_7 pa_7 pb_7 pv_7 f1_7 f2_7 f3_7 pq_7
                  obtain ⟨pae0, pae1, pae2, pae3⟩ := pa_8.open2
                  obtain ⟨pbe0, pbe1, pbe2, pbe3⟩ := pb_8.open2
                  obtain ⟨pve0, pve1, pve2, pve3⟩ := pv_8.open2
                  obtain ⟨pue0, pue1, pue2, pue3⟩ := pu_8.open2
                  go_wp2
                  go_ret
                  exact ⟨rfl, hB_8⟩
                · go_wp2_with fail
                  refine (CI.out _).mono ?_
                  rintro e w22 ⟨rfl, hb22⟩
                  clear pae0 pae1 pae2 pae3 pbe0 pbe1 pbe2 pbe3 pve0 pve1 pve2 pve3 pue0 pue1 pue2 pue3
                  have hB_8 := hB_7.trans (hb22.mono hB_7.size)
                  have pu_8 := pu_7.below hb22
                  have pa_8 := pa_7.below hb22
                  have pb_8 := pb_7.below hb22
                  have pv_8 := pv_7.below hb22
                  have f1_8 := f1_7.below hb22
                  have f2_8 := f2_7.below hb22
                  have f3_8 := f3_7.below hb22
                  have pq_8 := pq_7.below hb22
                  clear hb22 hB_7 pu_7 pa_7 pb_7 pv_7 f1_7 f2_7 f3_7 pq_7
                  obtain ⟨pae0, pae1, pae2, pae3⟩ := pa_8.open2
                  obtain ⟨pbe0, pbe1, pbe2, pbe3⟩ := pb_8.open2
                  obtain ⟨pve0, pve1, pve2, pve3⟩ := pv_8.open2
                  obtain ⟨pue0, pue1, pue2, pue3⟩ := pu_8.open2
                  go_wp2_with fail
                  refine (CI.out _).mono ?_
                  rintro e w23 ⟨rfl, hb23⟩
                  clear pae0 pae1 pae2 pae3 pbe0 pbe1 pbe2 pbe3 pve0 pve1 pve2 pve3 pue0 pue1 pue2 pue3
                  have hB_9 := hB_8.trans (hb23.mono hB_8.size)
                  have pu_9 := pu_8.below hb23
                  have pa_9 := pa_8.below hb23
                  have pb_9 := pb_8.below hb23
                  have pv_9 := pv_8.below hb23
                  have f1_9 := f1_8.below hb23
                  have f2_9 := f2_8.below hb23
                  have f3_9 := f3_8.below hb23
                  have pq_9 := pq_8.below hb23
                  clear hb23 hB_8 pu_8 pa_8 pb_8 pv_8 f1_8 f2_8 f3_8 pq_8
                  obtain ⟨pae0, pae1, pae2, pae3⟩ := pa_9.open2
                  obtain ⟨pbe0, pbe1, pbe2, pbe3⟩ := pb_9.open2
                  obtain ⟨pve0, pve1, pve2, pve3⟩ := pv_9.open2
                  obtain ⟨pue0, pue1, pue2, pue3⟩ := pu_9.open2
                  go_wp2
                  go_ret
                  exact ⟨rfl, hB_9⟩
            · skip
              clear pae0 pae1 pae2 pae3 pbe0 pbe1 pbe2 pbe3 pve0 pve1 pve2 pve3 pue0 pue1 pue2 pue3 pse0 pse1 pse2 pse3
              have hB_2 := hB_1.drew'
              have pu_2 := pu_1.drew
              have pa_2 := pa_1.drew
              have pb_2 := pb_1.drew
              have pv_2 := pv_1.drew
              have f1_2 := f1_1.drew
              have f2_2 := f2_1.drew
              have f3_2 := f3_1.drew
              have f4_2 := f4_1.drew
              have pq_2 := pq_1.drew
              have ps_2 := ps_1.drew
              refine wp_region_noPanic ?_
              refine wp_region_held_drew (S := fun w' => w'.cell? ⟨gpa, 0, none⟩ = some (.int .i64 a0) ∧ w'.cell? ⟨gpa, 1, none⟩ = some (.int .i64 a1) ∧ w'.cell? ⟨gpb, 0, none⟩ = some (.int .i64 v0) ∧ w'.cell? ⟨gpb, 1, none⟩ = some (.int .i64 v1) ∧ w'.cell? ⟨gpv, 0, none⟩ = some (.int .i64 b0) ∧ w'.cell? ⟨gpv, 1, none⟩ = some (.int .i64 b1) ∧ w'.cell? ⟨w.heap.size + 1, 0, none⟩ = some (.int .i64 u0) ∧ w'.cell? ⟨w.heap.size + 1, 1, none⟩ = some (.int .i64 u1) ∧ w'.cell? ⟨gps, 0, none⟩ = some (.bool m4) ∧ w'.cell? ⟨gps, 1, none⟩ = some (.slice o4 n4 c4)) (by kernel_rfl) (⟨pa_2.c0, pa_2.c1, pb_2.c0, pb_2.c1, pv_2.c0, pv_2.c1, pu_2.c0, pu_2.c1, ps_2.c0, ps_2.c1⟩) (fun hHeld => ?_)
              refine reg_take 0 ?_ ?_ ?_ (by kernel_rfl) (by kernel_rfl) (by kernel_rfl) (fun _ _ _ h => h) ?_ ?_ (by assumption) ?_
              rotate_left 2
              · simp only [List.getElem?_toArray, List.getElem?_cons_zero]; exact rfl
              · rfl
              · intro w hSw; (try dsimp only at hSw); go_simp; try with_reducible rfl
              try simp only [Act.put]
              try simp only [List.setIfInBounds_toArray, List.set_cons_zero, List.set_cons_succ]
              refine reg_take 1 ?_ ?_ ?_ (by kernel_rfl) (by kernel_rfl) (by kernel_rfl) (fun _ _ _ h => h) ?_ ?_ (by assumption) ?_
              rotate_left 2
              · simp only [List.getElem?_toArray, List.getElem?_cons_succ, List.getElem?_cons_zero]; exact rfl
              · rfl
              · intro w hSw; (try dsimp only at hSw); go_simp; try with_reducible rfl
              try simp only [Act.put]
              try simp only [List.setIfInBounds_toArray, List.set_cons_zero, List.set_cons_succ]
              refine reg_take 2 ?_ ?_ ?_ (by kernel_rfl) (by kernel_rfl) (by kernel_rfl) (fun _ _ _ h => h) ?_ ?_ (by assumption) ?_
              rotate_left 2
              · simp only [List.getElem?_toArray, List.getElem?_cons_succ, List.getElem?_cons_zero]; exact rfl
              · rfl
              · intro w hSw; (try dsimp only at hSw); go_simp; try with_reducible rfl
              try simp only [Act.put]
              try simp only [List.setIfInBounds_toArray, List.set_cons_zero, List.set_cons_succ]
              refine reg_take 3 ?_ ?_ ?_ (by kernel_rfl) (by kernel_rfl) (by kernel_rfl) (fun _ _ _ h => h) ?_ ?_ (by assumption) ?_
              rotate_left 2
              · simp only [List.getElem?_toArray, List.getElem?_cons_succ, List.getElem?_cons_zero]; exact rfl
              · rfl
              · intro w hSw; (try dsimp only at hSw); go_simp; try with_reducible rfl
              try simp only [Act.put]
              try simp only [List.setIfInBounds_toArray, List.set_cons_zero, List.set_cons_succ]
              refine reg_call 4 ?_ (by kernel_rfl) ?_ (fun K hK => ?_)
              rotate_left 1
              · simp only [List.getElem?_toArray, List.getElem?_cons_succ, List.getElem?_cons_zero]; exact rfl
              go_simp
              refine (AW.out _).mono ?_
              rintro e w17 ⟨m5, o5, n5, c5, rfl, f5_0, hb17⟩
              have hB_3 := hB_2.trans (hb17.mono hB_2.size)
              have pu_3 := pu_2.below hb17
              have pa_3 := pa_2.below hb17
              have pb_3 := pb_2.below hb17
              have pv_3 := pv_2.below hb17
              have f1_3 := f1_2.below hb17
              have f2_3 := f2_2.below hb17
              have f3_3 := f3_2.below hb17
              have f4_3 := f4_2.below hb17
              have pq_3 := pq_2.below hb17
              have ps_3 := ps_2.below hb17
              clear hb17 hB_2 pu_2 pa_2 pb_2 pv_2 f1_2 f2_2 f3_2 f4_2 pq_2 ps_2
              go_wp2_with fail
              refine hK.out _ _ ⟨pa_3.c0, pa_3.c1, pb_3.c0, pb_3.c1, pv_3.c0, pv_3.c1, pu_3.c0, pu_3.c1, ps_3.c0, ps_3.c1⟩ (fun hHeld => ?_)
              clear hK K
              try simp only [Act.put]
              try simp only [List.setIfInBounds_toArray, List.set_cons_zero, List.set_cons_succ]
              refine reg_call 5 ?_ (by kernel_rfl) ?_ (fun K hK => ?_)
              rotate_left 1
              · simp only [List.getElem?_toArray, List.getElem?_cons_succ, List.getElem?_cons_zero]; exact rfl
              go_simp
              refine (Cmp_named _ _ 5 2 _ _ 0 _ (by omega) (by omega) f4_3.num f5_0.num (icmp_self _)).mono ?_
              rintro e w18 ⟨rfl, hb18⟩
              have hB_4 := hB_3.trans (hb18.mono hB_3.size)
              have pu_4 := pu_3.below hb18
              have pa_4 := pa_3.below hb18
              have pb_4 := pb_3.below hb18
              have pv_4 := pv_3.below hb18
              have f1_4 := f1_3.below hb18
              have f2_4 := f2_3.below hb18
              have f3_4 := f3_3.below hb18
              have f4_4 := f4_3.below hb18
              have pq_4 := pq_3.below hb18
              have ps_4 := ps_3.below hb18
              have f5_1 := f5_0.below hb18
              clear hb18 hB_3 pu_3 pa_3 pb_3 pv_3 f1_3 f2_3 f3_3 f4_3 pq_3 ps_3 f5_0
              go_wp2_with fail
              refine hK.out _ _ ⟨pa_4.c0, pa_4.c1, pb_4.c0, pb_4.c1, pv_4.c0, pv_4.c1, pu_4.c0, pu_4.c1, ps_4.c0, ps_4.c1⟩ (fun hHeld => ?_)
              clear hK K
              try simp only [Act.put]
              try simp only [List.setIfInBounds_toArray, List.set_cons_zero, List.set_cons_succ]
              refine reg_take 6 ?_ ?_ ?_ (by kernel_rfl) (by kernel_rfl) (by kernel_rfl) (fun _ _ _ h => h) ?_ ?_ (by assumption) ?_
              rotate_left 2
              · simp only [List.getElem?_toArray, List.getElem?_cons_succ, List.getElem?_cons_zero]; exact rfl
              · rfl
              · intro w hSw; (try dsimp only at hSw); go_simp; try with_reducible rfl
              try simp only [Act.put]
              try simp only [List.setIfInBounds_toArray, List.set_cons_zero, List.set_cons_succ]
              refine reg_take 7 ?_ ?_ ?_ (by kernel_rfl) (by kernel_rfl) (by kernel_rfl) (fun _ _ _ h => h) ?_ ?_ (by assumption) ?_
              rotate_left 2
              · simp only [List.getElem?_toArray, List.getElem?_cons_succ, List.getElem?_cons_zero]; exact rfl
              · rfl
              · intro w hSw; (try dsimp only at hSw); go_simp; try with_reducible rfl
              try simp only [Act.put]
              try simp only [List.setIfInBounds_toArray, List.set_cons_zero, List.set_cons_succ]
              refine reg_take 8 ?_ ?_ ?_ (by kernel_rfl) (by kernel_rfl) (by kernel_rfl) (fun _ _ _ h => h) ?_ ?_ (by assumption) ?_
              rotate_left 2
              · simp only [List.getElem?_toArray, List.getElem?_cons_succ, List.getElem?_cons_zero]; exact rfl
              · rfl
              · intro w hSw; (try dsimp only at hSw); go_simp; try with_reducible rfl
              try simp only [Act.put]
              try simp only [List.setIfInBounds_toArray, List.set_cons_zero, List.set_cons_succ]
              refine reg_take 9 ?_ ?_ ?_ (by kernel_rfl) (by kernel_rfl) (by kernel_rfl) (fun _ _ _ h => h) ?_ ?_ (by assumption) ?_
              rotate_left 2
              · simp only [List.getElem?_toArray, List.getElem?_cons_succ, List.getElem?_cons_zero]; exact rfl
              · rfl
              · intro w hSw; (try dsimp only at hSw); go_simp; try with_reducible rfl
              try simp only [Act.put]
              try simp only [List.setIfInBounds_toArray, List.set_cons_zero, List.set_cons_succ]
              refine reg_take 10 ?_ ?_ ?_ (by kernel_rfl) (by kernel_rfl) (by kernel_rfl) (fun _ _ _ h => h) ?_ ?_ (by assumption) ?_
              rotate_left 2
              · simp only [List.getElem?_toArray, List.getElem?_cons_succ, List.getElem?_cons_zero]; exact rfl
              · rfl
              · intro w hSw; (try dsimp only at hSw); go_simp; try with_reducible rfl
              try simp only [Act.put]
              try simp only [List.setIfInBounds_toArray, List.set_cons_zero, List.set_cons_succ]
              refine reg_take 11 ?_ ?_ ?_ (by kernel_rfl) (by kernel_rfl) (by kernel_rfl) (fun _ _ _ h => h) ?_ ?_ (by assumption) ?_
              rotate_left 2
              · simp only [List.getElem?_toArray, List.getElem?_cons_succ, List.getElem?_cons_zero]; exact rfl
              · rfl
              · intro w hSw; (try dsimp only at hSw); go_simp; try with_reducible rfl
              try simp only [Act.put]
              try simp only [List.setIfInBounds_toArray, List.set_cons_zero, List.set_cons_succ]
              refine reg_call 12 ?_ (by kernel_rfl) ?_ (fun K hK => ?_)
              rotate_left 1
              · simp only [List.getElem?_toArray, List.getElem?_cons_succ, List.getElem?_cons_zero]; exact rfl
              go_simp
              refine (N0.out _).mono ?_
              rintro e w19 ⟨rfl, hb19⟩
              have hB_5 := hB_4.trans (hb19.mono hB_4.size)
              have pu_5 := pu_4.below hb19
              have pa_5 := pa_4.below hb19
              have pb_5 := pb_4.below hb19
              have pv_5 := pv_4.below hb19
              have f1_5 := f1_4.below hb19
              have f2_5 := f2_4.below hb19
              have f3_5 := f3_4.below hb19
              have f4_5 := f4_4.below hb19
              have pq_5 := pq_4.below hb19
              have ps_5 := ps_4.below hb19
              have f5_2 := f5_1.below hb19
              clear hb19 hB_4 pu_4 pa_4 pb_4 pv_4 f1_4 f2_4 f3_4 f4_4 pq_4 ps_4 f5_1
              go_wp2_with fail
              refine hK.out _ _ ⟨pa_5.c0, pa_5.c1, pb_5.c0, pb_5.c1, pv_5.c0, pv_5.c1, pu_5.c0, pu_5.c1, ps_5.c0, ps_5.c1⟩ (fun hHeld => ?_)
              clear hK K
              try simp only [Act.put]
              try simp only [List.setIfInBounds_toArray, List.set_cons_zero, List.set_cons_succ]
              refine reg_take 13 ?_ ?_ ?_ (by kernel_rfl) (by kernel_rfl) (by kernel_rfl) (fun _ _ _ h => h) ?_ ?_ (by assumption) ?_
              rotate_left 2
              · simp only [List.getElem?_toArray, List.getElem?_cons_succ, List.getElem?_cons_zero]; exact rfl
              · rfl
              · intro w hSw; (try dsimp only at hSw); go_simp; try with_reducible rfl
              try simp only [Act.put]
              try simp only [List.setIfInBounds_toArray, List.set_cons_zero, List.set_cons_succ]
              refine reg_take 14 ?_ ?_ ?_ (by kernel_rfl) (by kernel_rfl) (by kernel_rfl) (fun _ _ _ h => h) ?_ ?_ (by assumption) ?_
              rotate_left 2
              · simp only [List.getElem?_toArray, List.getElem?_cons_succ, List.getElem?_cons_zero]; exact rfl
              · rfl
              · intro w hSw; (try dsimp only at hSw); go_simp; try with_reducible rfl
              try simp only [Act.put]
              try simp only [List.setIfInBounds_toArray, List.set_cons_zero, List.set_cons_succ]
              refine reg_take 15 ?_ ?_ ?_ (by kernel_rfl) (by kernel_rfl) (by kernel_rfl) (fun _ _ _ h => h) ?_ ?_ (by assumption) ?_
              rotate_left 2
              · simp only [List.getElem?_toArray, List.getElem?_cons_succ, List.getElem?_cons_zero]; exact rfl
              · rfl
              · intro w hSw; (try dsimp only at hSw); go_simp; try with_reducible rfl
              try simp only [Act.put]
              try simp only [List.setIfInBounds_toArray, List.set_cons_zero, List.set_cons_succ]
              refine reg_take 16 ?_ ?_ ?_ (by kernel_rfl) (by kernel_rfl) (by kernel_rfl) (fun _ _ _ h => h) ?_ ?_ (by assumption) ?_
              rotate_left 2
              · simp only [List.getElem?_toArray, List.getElem?_cons_succ, List.getElem?_cons_zero]; exact rfl
              · rfl
              · intro w hSw; (try dsimp only at hSw); go_simp; try with_reducible rfl
              try simp only [Act.put]
              try simp only [List.setIfInBounds_toArray, List.set_cons_zero, List.set_cons_succ]
              refine reg_call 17 ?_ (by kernel_rfl) ?_ (fun K hK => ?_)
              rotate_left 1
              · simp only [List.getElem?_toArray, List.getElem?_cons_succ, List.getElem?_cons_zero]; exact rfl
              go_simp
              refine (N1.out _).mono ?_
              rintro e w20 ⟨rfl, hb20⟩
              have hB_6 := hB_5.trans (hb20.mono hB_5.size)
              have pu_6 := pu_5.below hb20
              have pa_6 := pa_5.below hb20
              have pb_6 := pb_5.below hb20
              have pv_6 := pv_5.below hb20
              have f1_6 := f1_5.below hb20
              have f2_6 := f2_5.below hb20
              have f3_6 := f3_5.below hb20
              have f4_6 := f4_5.below hb20
              have pq_6 := pq_5.below hb20
              have ps_6 := ps_5.below hb20
              have f5_3 := f5_2.below hb20
              clear hb20 hB_5 pu_5 pa_5 pb_5 pv_5 f1_5 f2_5 f3_5 f4_5 pq_5 ps_5 f5_2
              go_wp2_with fail
              refine hK.out _ _ ⟨pa_6.c0, pa_6.c1, pb_6.c0, pb_6.c1, pv_6.c0, pv_6.c1, pu_6.c0, pu_6.c1, ps_6.c0, ps_6.c1⟩ (fun hHeld => ?_)
              clear hK K
              try simp only [Act.put]
              try simp only [List.setIfInBounds_toArray, List.set_cons_zero, List.set_cons_succ]
              refine reg_take 18 ?_ ?_ ?_ (by kernel_rfl) (by kernel_rfl) (by kernel_rfl) (fun _ _ _ h => h) ?_ ?_ (by assumption) ?_
              rotate_left 2
              · simp only [List.getElem?_toArray, List.getElem?_cons_succ, List.getElem?_cons_zero]; exact rfl
              · rfl
              · intro w hSw; (try dsimp only at hSw); go_simp; try with_reducible rfl
              try simp only [Act.put]
              try simp only [List.setIfInBounds_toArray, List.set_cons_zero, List.set_cons_succ]
              refine reg_take 19 ?_ ?_ ?_ (by kernel_rfl) (by kernel_rfl) (by kernel_rfl) (fun _ _ _ h => h) ?_ ?_ (by assumption) ?_
              rotate_left 2
              · simp only [List.getElem?_toArray, List.getElem?_cons_succ, List.getElem?_cons_zero]; exact rfl
              · rfl
              · intro w hSw; (try dsimp only at hSw); go_simp; try with_reducible rfl
              try simp only [Act.put]
              try simp only [List.setIfInBounds_toArray, List.set_cons_zero, List.set_cons_succ]
              refine reg_take 20 ?_ ?_ ?_ (by kernel_rfl) (by kernel_rfl) (by kernel_rfl) (fun _ _ _ h => h) ?_ ?_ (by assumption) ?_
              rotate_left 2
              · simp only [List.getElem?_toArray, List.getElem?_cons_succ, List.getElem?_cons_zero]; exact rfl
              · rfl
              · intro w hSw; (try dsimp only at hSw); go_simp; try with_reducible rfl
              try simp only [Act.put]
              try simp only [List.setIfInBounds_toArray, List.set_cons_zero, List.set_cons_succ]
              refine reg_take 21 ?_ ?_ ?_ (by kernel_rfl) (by kernel_rfl) (by kernel_rfl) (fun _ _ _ h => h) ?_ ?_ (by assumption) ?_
              rotate_left 2
              · simp only [List.getElem?_toArray, List.getElem?_cons_succ, List.getElem?_cons_zero]; exact rfl
              · rfl
              · intro w hSw; (try dsimp only at hSw); go_simp; try with_reducible rfl
              try simp only [Act.put]
              try simp only [List.setIfInBounds_toArray, List.set_cons_zero, List.set_cons_succ]
              refine reg_take 22 ?_ ?_ ?_ (by kernel_rfl) (by kernel_rfl) (by kernel_rfl) (fun _ _ _ h => h) ?_ ?_ (by assumption) ?_
              rotate_left 2
              · simp only [List.getElem?_toArray, List.getElem?_cons_succ, List.getElem?_cons_zero]; exact rfl
              · rfl
              · intro w hSw; (try dsimp only at hSw); go_simp; try with_reducible rfl
              try simp only [Act.put]
              try simp only [List.setIfInBounds_toArray, List.set_cons_zero, List.set_cons_succ]
              refine reg_call 23 ?_ (by kernel_rfl) ?_ (fun K hK => ?_)
              rotate_left 1
              · simp only [List.getElem?_toArray, List.getElem?_cons_succ, List.getElem?_cons_zero]; exact rfl
              go_simp
              refine (N2.out _).mono ?_
              rintro e w21 ⟨rfl, hb21⟩
              have hB_7 := hB_6.trans (hb21.mono hB_6.size)
              have pu_7 := pu_6.below hb21
              have pa_7 := pa_6.below hb21
              have pb_7 := pb_6.below hb21
              have pv_7 := pv_6.below hb21
              have f1_7 := f1_6.below hb21
              have f2_7 := f2_6.below hb21
              have f3_7 := f3_6.below hb21
              have f4_7 := f4_6.below hb21
              have pq_7 := pq_6.below hb21
              have ps_7 := ps_6.below hb21
              have f5_4 := f5_3.below hb21
              clear hb21 hB_6 pu_6 pa_6 pb_6 pv_6 f1_6 f2_6 f3_6 f4_6 pq_6 ps_6 f5_3
              go_wp2_with fail
              refine hK.out _ _ ⟨pa_7.c0, pa_7.c1, pb_7.c0, pb_7.c1, pv_7.c0, pv_7.c1, pu_7.c0, pu_7.c1, ps_7.c0, ps_7.c1⟩ (fun hHeld => ?_)
              clear hK K
              try simp only [Act.put]
              try simp only [List.setIfInBounds_toArray, List.set_cons_zero, List.set_cons_succ]
              refine reg_take 24 ?_ ?_ ?_ (by kernel_rfl) (by kernel_rfl) (by kernel_rfl) (fun _ _ _ h => h) ?_ ?_ (by assumption) ?_
              rotate_left 2
              · simp only [List.getElem?_toArray, List.getElem?_cons_succ, List.getElem?_cons_zero]; exact rfl
              · rfl
              · intro w hSw; (try dsimp only at hSw); go_simp; try with_reducible rfl
              try simp only [Act.put]
              try simp only [List.setIfInBounds_toArray, List.set_cons_zero, List.set_cons_succ]
              refine reg_take 25 ?_ ?_ ?_ (by kernel_rfl) (by kernel_rfl) (by kernel_rfl) (fun _ _ _ h => h) ?_ ?_ (by assumption) ?_
              rotate_left 2
              · simp only [List.getElem?_toArray, List.getElem?_cons_succ, List.getElem?_cons_zero]; exact rfl
              · rfl
              · intro w hSw; (try dsimp only at hSw); go_simp; try with_reducible rfl
              try simp only [Act.put]
              try simp only [List.setIfInBounds_toArray, List.set_cons_zero, List.set_cons_succ]
              refine reg_skip 26 ?_ ?_ (by kernel_rfl) (by kernel_rfl) (by kernel_rfl) (fun _ _ _ h => h) ?_ (by assumption) ?_
              rotate_left 1
              · simp only [List.getElem?_toArray, List.getElem?_cons_succ, List.getElem?_cons_zero]; exact rfl
              · rfl
              try simp only [Act.put]
              try simp only [List.setIfInBounds_toArray, List.set_cons_zero, List.set_cons_succ]
              refine reg_skip 27 ?_ ?_ (by kernel_rfl) (by kernel_rfl) (by kernel_rfl) (fun _ _ _ h => h) ?_ (by assumption) ?_
              rotate_left 1
              · simp only [List.getElem?_toArray, List.getElem?_cons_succ, List.getElem?_cons_zero]; exact rfl
              · rfl
              try simp only [Act.put]
              try simp only [List.setIfInBounds_toArray, List.set_cons_zero, List.set_cons_succ]
              refine reg_skip 28 ?_ ?_ (by kernel_rfl) (by kernel_rfl) (by kernel_rfl) (fun _ _ _ h => h) ?_ (by assumption) ?_
              rotate_left 1
              · simp only [List.getElem?_toArray, List.getElem?_cons_succ, List.getElem?_cons_zero]; exact rfl
              · rfl
              try simp only [Act.put]
              try simp only [List.setIfInBounds_toArray, List.set_cons_zero, List.set_cons_succ]
              refine reg_skip 29 ?_ ?_ (by kernel_rfl) (by kernel_rfl) (by kernel_rfl) (fun _ _ _ h => h) ?_ (by assumption) ?_
              rotate_left 1
              · simp only [List.getElem?_toArray, List.getElem?_cons_succ, List.getElem?_cons_zero]; exact rfl
              · rfl
              try simp only [Act.put]
              try simp only [List.setIfInBounds_toArray, List.set_cons_zero, List.set_cons_succ]
              refine reg_skip 30 ?_ ?_ (by kernel_rfl) (by kernel_rfl) (by kernel_rfl) (fun _ _ _ h => h) ?_ (by assumption) ?_
              rotate_left 1
              · simp only [List.getElem?_toArray, List.getElem?_cons_succ, List.getElem?_cons_zero]; exact rfl
              · rfl
              try simp only [Act.put]
              try simp only [List.setIfInBounds_toArray, List.set_cons_zero, List.set_cons_succ]
              refine reg_take 31 ?_ ?_ ?_ (by kernel_rfl) (by kernel_rfl) (by kernel_rfl) (fun _ _ _ h => h) ?_ ?_ (by assumption) ?_
              rotate_left 2
              · simp only [List.getElem?_toArray, List.getElem?_cons_succ, List.getElem?_cons_zero]; exact rfl
              · rfl
              · intro w hSw; (try dsimp only at hSw); go_simp; try with_reducible rfl
              try simp only [Act.put]
              try simp only [List.setIfInBounds_toArray, List.set_cons_zero, List.set_cons_succ]
              refine reg_take 32 ?_ ?_ ?_ (by kernel_rfl) (by kernel_rfl) (by kernel_rfl) (fun _ _ _ h => h) ?_ ?_ (by assumption) ?_
              rotate_left 2
              · simp only [List.getElem?_toArray, List.getElem?_cons_succ, List.getElem?_cons_zero]; exact rfl
              · rfl
              · intro w hSw; (try dsimp only at hSw); go_simp; try with_reducible rfl
              try simp only [Act.put]
              try simp only [List.setIfInBounds_toArray, List.set_cons_zero, List.set_cons_succ]
              refine reg_take 33 ?_ ?_ ?_ (by kernel_rfl) (by kernel_rfl) (by kernel_rfl) (fun _ _ _ h => h) ?_ ?_ (by assumption) ?_
              rotate_left 2
              · simp only [List.getElem?_toArray, List.getElem?_cons_succ, List.getElem?_cons_zero]; exact rfl
              · rfl
              · intro w hSw; (try dsimp only at hSw); go_simp; try with_reducible rfl
              try simp only [Act.put]
              try simp only [List.setIfInBounds_toArray, List.set_cons_zero, List.set_cons_succ]
              refine wpAnyH_done (by kernel_rfl) ?_ _
              refine NoPanic.normal ?_
              clear f4_7 f5_4 ps_7
              try clear gj gk hmin
              have q0 := Q0.out; have q1 := Q1.out; have q2 := Q2.out
              cases d0
              · cases d1
                · cases d2
                  · obtain ⟨pae0, pae1, pae2, pae3⟩ := pa_7.open2
                    obtain ⟨pbe0, pbe1, pbe2, pbe3⟩ := pb_7.open2
                    obtain ⟨pve0, pve1, pve2, pve3⟩ := pv_7.open2
                    obtain ⟨pue0, pue1, pue2, pue3⟩ := pu_7.open2
                    rcases hs (by first | rfl | trivial) with rfl | ⟨rfl, hk⟩
                    · go_wp2_with fail
                      refine (CI.out _).mono ?_
                      rintro e w22 ⟨rfl, hb22⟩
                      clear pae0 pae1 pae2 pae3 pbe0 pbe1 pbe2 pbe3 pve0 pve1 pve2 pve3 pue0 pue1 pue2 pue3
                      have hB_8 := hB_7.trans (hb22.mono hB_7.size)
                      have pu_8 := pu_7.below hb22
                      have pa_8 := pa_7.below hb22
                      have pb_8 := pb_7.below hb22
                      have pv_8 := pv_7.below hb22
                      have f1_8 := f1_7.below hb22
                      have f2_8 := f2_7.below hb22
                      have f3_8 := f3_7.below hb22
                      have pq_8 := pq_7.below hb22
                      clear hb22 hB_7 pu_7 pa_7 pb_7 pv_7 f1_7 f2_7 f3_7 pq_7
                      obtain ⟨pae0, pae1, pae2, pae3⟩ := pa_8.open2
                      obtain ⟨pbe0, pbe1, pbe2, pbe3⟩ := pb_8.open2
                      obtain ⟨pve0, pve1, pve2, pve3⟩ := pv_8.open2
                      obtain ⟨pue0, pue1, pue2, pue3⟩ := pu_8.open2
                      go_wp2
                      go_ret
                      exact ⟨rfl, hB_8⟩
                    · exact absurd hk (by decide)
                  · obtain ⟨pae0, pae1, pae2, pae3⟩ := pa_7.open2
                    obtain ⟨pbe0, pbe1, pbe2, pbe3⟩ := pb_7.open2
                    obtain ⟨pve0, pve1, pve2, pve3⟩ := pv_7.open2
                    obtain ⟨pue0, pue1, pue2, pue3⟩ := pu_7.open2
                    rcases hs (by first | rfl | trivial) with rfl | ⟨rfl, hk⟩
                    · go_wp2_with fail
                      refine (CI.out _).mono ?_
                      rintro e w22 ⟨rfl, hb22⟩
                      clear pae0 pae1 pae2 pae3 pbe0 pbe1 pbe2 pbe3 pve0 pve1 pve2 pve3 pue0 pue1 pue2 pue3
                      have hB_8 := hB_7.trans (hb22.mono hB_7.size)
                      have pu_8 := pu_7.below hb22
                      have pa_8 := pa_7.below hb22
                      have pb_8 := pb_7.below hb22
                      have pv_8 := pv_7.below hb22
                      have f1_8 := f1_7.below hb22
                      have f2_8 := f2_7.below hb22
                      have f3_8 := f3_7.below hb22
                      have pq_8 := pq_7.below hb22
                      clear hb22 hB_7 pu_7 pa_7 pb_7 pv_7 f1_7 f2_7 f3_7 pq_7
                      obtain ⟨pae0, pae1, pae2, pae3⟩ := pa_8.open2
                      obtain ⟨pbe0, pbe1, pbe2, pbe3⟩ := pb_8.open2
                      obtain ⟨pve0, pve1, pve2, pve3⟩ := pv_8.open2
                      obtain ⟨pue0, pue1, pue2, pue3⟩ := pu_8.open2
                      go_wp2
                      go_ret
                      exact ⟨rfl, hB_8⟩
                    · go_wp2_with fail
                      refine (CI.out _).mono ?_
                      rintro e w22 ⟨rfl, hb22⟩
                      clear pae0 pae1 pae2 pae3 pbe0 pbe1 pbe2 pbe3 pve0 pve1 pve2 pve3 pue0 pue1 pue2 pue3
                      have hB_8 := hB_7.trans (hb22.mono hB_7.size)
                      have pu_8 := pu_7.below hb22
                      have pa_8 := pa_7.below hb22
                      have pb_8 := pb_7.below hb22
                      have pv_8 := pv_7.below hb22
                      have f1_8 := f1_7.below hb22
                      have f2_8 := f2_7.below hb22
                      have f3_8 := f3_7.below hb22
                      have pq_8 := pq_7.below hb22
                      clear hb22 hB_7 pu_7 pa_7 pb_7 pv_7 f1_7 f2_7 f3_7 pq_7
                      obtain ⟨pae0, pae1, pae2, pae3⟩ := pa_8.open2
                      obtain ⟨pbe0, pbe1, pbe2, pbe3⟩ := pb_8.open2
                      obtain ⟨pve0, pve1, pve2, pve3⟩ := pv_8.open2
                      obtain ⟨pue0, pue1, pue2, pue3⟩ := pu_8.open2
                      go_wp2_with fail
                      refine (CI.out _).mono ?_
                      rintro e w23 ⟨rfl, hb23⟩
                      clear pae0 pae1 pae2 pae3 pbe0 pbe1 pbe2 pbe3 pve0 pve1 pve2 pve3 pue0 pue1 pue2 pue3
                      have hB_9 := hB_8.trans (hb23.mono hB_8.size)
                      have pu_9 := pu_8.below hb23
                      have pa_9 := pa_8.below hb23
                      have pb_9 := pb_8.below hb23
                      have pv_9 := pv_8.below hb23
                      have f1_9 := f1_8.below hb23
                      have f2_9 := f2_8.below hb23
                      have f3_9 := f3_8.below hb23
                      have pq_9 := pq_8.below hb23
                      clear hb23 hB_8 pu_8 pa_8 pb_8 pv_8 f1_8 f2_8 f3_8 pq_8
                      obtain ⟨pae0, pae1, pae2, pae3⟩ := pa_9.open2
                      obtain ⟨pbe0, pbe1, pbe2, pbe3⟩ := pb_9.open2
                      obtain ⟨pve0, pve1, pve2, pve3⟩ := pv_9.open2
                      obtain ⟨pue0, pue1, pue2, pue3⟩ := pu_9.open2
                      go_wp2
                      go_ret
                      exact ⟨rfl, hB_9⟩
                · obtain ⟨pae0, pae1, pae2, pae3⟩ := pa_7.open2
                  obtain ⟨pbe0, pbe1, pbe2, pbe3⟩ := pb_7.open2
                  obtain ⟨pve0, pve1, pve2, pve3⟩ := pv_7.open2
                  obtain ⟨pue0, pue1, pue2, pue3⟩ := pu_7.open2
                  rcases hs (by first | rfl | trivial) with rfl | ⟨rfl, hk⟩
                  · go_wp2_with fail
                    refine (CI.out _).mono ?_
                    rintro e w22 ⟨rfl, hb22⟩
                    clear pae0 pae1 pae2 pae3 pbe0 pbe1 pbe2 pbe3 pve0 pve1 pve2 pve3 pue0 pue1 pue2 pue3
                    have hB_8 := hB_7.trans (hb22.mono hB_7.size)
                    have pu_8 := pu_7.below hb22
                    have pa_8 := pa_7.below hb22
                    have pb_8 := pb_7.below hb22
                    have pv_8 := pv_7.below hb22
                    have f1_8 := f1_7.below hb22
                    have f2_8 := f2_7.below hb22
                    have f3_8 := f3_7.below hb22
                    have pq_8 := pq_7.below hb22
                    clear hb22 hB_7 pu_7 pa_7 pb_7 pv_7 f1_7 f2_7 f3_7 pq_7
                    obtain ⟨pae0, pae1, pae2, pae3⟩ := pa_8.open2
                    obtain ⟨pbe0, pbe1, pbe2, pbe3⟩ := pb_8.open2
                    obtain ⟨pve0, pve1, pve2, pve3⟩ := pv_8.open2
                    obtain ⟨pue0, pue1, pue2, pue3⟩ := pu_8.open2
                    go_wp2
                    go_ret
                    exact ⟨rfl, hB_8⟩
                  · go_wp2_with fail
                    refine (CI.out _).mono ?_
                    rintro e w22 ⟨rfl, hb22⟩
                    clear pae0 pae1 pae2 pae3 pbe0 pbe1 pbe2 pbe3 pve0 pve1 pve2 pve3 pue0 pue1 pue2 pue3
                    have hB_8 := hB_7.trans (hb22.mono hB_7.size)
                    have pu_8 := pu_7.below hb22
                    have pa_8 := pa_7.below hb22
                    have pb_8 := pb_7.below hb22
                    have pv_8 := pv_7.below hb22
                    have f1_8 := f1_7.below hb22
                    have f2_8 := f2_7.below hb22
                    have f3_8 := f3_7.below hb22
                    have pq_8 := pq_7.below hb22
                    clear hb22 hB_7 pu_7 pa_7 pb_7 pv_7 f1_7 f2_7 f3_7 pq_7
                    obtain ⟨pae0, pae1, pae2, pae3⟩ := pa_8.open2
                    obtain ⟨pbe0, pbe1, pbe2, pbe3⟩ := pb_8.open2
                    obtain ⟨pve0, pve1, pve2, pve3⟩ := pv_8.open2
                    obtain ⟨pue0, pue1, pue2, pue3⟩ := pu_8.open2
                    go_wp2_with fail
                    refine (CI.out _).mono ?_
                    rintro e w23 ⟨rfl, hb23⟩
                    clear pae0 pae1 pae2 pae3 pbe0 pbe1 pbe2 pbe3 pve0 pve1 pve2 pve3 pue0 pue1 pue2 pue3
                    have hB_9 := hB_8.trans (hb23.mono hB_8.size)
                    have pu_9 := pu_8.below hb23
                    have pa_9 := pa_8.below hb23
                    have pb_9 := pb_8.below hb23
                    have pv_9 := pv_8.below hb23
                    have f1_9 := f1_8.below hb23
                    have f2_9 := f2_8.below hb23
                    have f3_9 := f3_8.below hb23
                    have pq_9 := pq_8.below hb23
                    clear hb23 hB_8 pu_8 pa_8 pb_8 pv_8 f1_8 f2_8 f3_8 pq_8
                    obtain ⟨pae0, pae1, pae2, pae3⟩ := pa_9.open2
                    obtain ⟨pbe0, pbe1, pbe2, pbe3⟩ := pb_9.open2
                    obtain ⟨pve0, pve1, pve2, pve3⟩ := pv_9.open2
                    obtain ⟨pue0, pue1, pue2, pue3⟩ := pu_9.open2
                    go_wp2
                    go_ret
                    exact ⟨rfl, hB_9⟩
              · obtain ⟨pae0, pae1, pae2, pae3⟩ := pa_7.open2
                obtain ⟨pbe0, pbe1, pbe2, pbe3⟩ := pb_7.open2
                obtain ⟨pve0, pve1, pve2, pve3⟩ := pv_7.open2
                obtain ⟨pue0, pue1, pue2, pue3⟩ := pu_7.open2
                rcases hs (by first | rfl | trivial) with rfl | ⟨rfl, hk⟩
                · go_wp2_with fail
                  refine (CI.out _).mono ?_
                  rintro e w22 ⟨rfl, hb22⟩
                  clear pae0 pae1 pae2 pae3 pbe0 pbe1 pbe2 pbe3 pve0 pve1 pve2 pve3 pue0 pue1 pue2 pue3
                  have hB_8 := hB_7.trans (hb22.mono hB_7.size)
                  have pu_8 := pu_7.below hb22
                  have pa_8 := pa_7.below hb22
                  have pb_8 := pb_7.below hb22
                  have pv_8 := pv_7.below hb22
                  have f1_8 := f1_7.below hb22
                  have f2_8 := f2_7.below hb22
                  have f3_8 := f3_7.below hb22
                  have pq_8 := pq_7.below hb22
                  clear hb22 hB_7 pu_7 pa_7 pb_7 pv_7 f1_7 f2_7 f3_7 pq_7
                  obtain ⟨pae0, pae1, pae2, pae3⟩ := pa_8.open2
                  obtain ⟨pbe0, pbe1, pbe2, pbe3⟩ := pb_8.open2
                  obtain ⟨pve0, pve1, pve2, pve3⟩ := pv_8.open2
                  obtain ⟨pue0, pue1, pue2, pue3⟩ := pu_8.open2
                  go_wp2
                  go_ret
                  exact ⟨rfl, hB_8⟩
                · go_wp2_with fail
                  refine (CI.out _).mono ?_
                  rintro e w22 ⟨rfl, hb22⟩
                  clear pae0 pae1 pae2 pae3 pbe0 pbe1 pbe2 pbe3 pve0 pve1 pve2 pve3 pue0 pue1 pue2 pue3
                  have hB_8 := hB_7.trans (hb22.mono hB_7.size)
                  have pu_8 := pu_7.below hb22
                  have pa_8 := pa_7.below hb22
                  have pb_8 := pb_7.below hb22
                  have pv_8 := pv_7.below hb22
                  have f1_8 := f1_7.below hb22
                  have f2_8 := f2_7.below hb22
                  have f3_8 := f3_7.below hb22
                  have pq_8 := pq_7.below hb22
                  clear hb22 hB_7 pu_7 pa_7 pb_7 pv_7 f1_7 f2_7 f3_7 pq_7
                  obtain ⟨pae0, pae1, pae2, pae3⟩ := pa_8.open2
                  obtain ⟨pbe0, pbe1, pbe2, pbe3⟩ := pb_8.open2
                  obtain ⟨pve0, pve1, pve2, pve3⟩ := pv_8.open2
                  obtain ⟨pue0, pue1, pue2, pue3⟩ := pu_8.open2
                  go_wp2_with fail
                  refine (CI.out _).mono ?_
                  rintro e w23 ⟨rfl, hb23⟩
                  clear pae0 pae1 pae2 pae3 pbe0 pbe1 pbe2 pbe3 pve0 pve1 pve2 pve3 pue0 pue1 pue2 pue3
                  have hB_9 := hB_8.trans (hb23.mono hB_8.size)
                  have pu_9 := pu_8.below hb23
                  have pa_9 := pa_8.below hb23
                  have pb_9 := pb_8.below hb23
                  have pv_9 := pv_8.below hb23
                  have f1_9 := f1_8.below hb23
                  have f2_9 := f2_8.below hb23
                  have f3_9 := f3_8.below hb23
                  have pq_9 := pq_8.below hb23
                  clear hb23 hB_8 pu_8 pa_8 pb_8 pv_8 f1_8 f2_8 f3_8 pq_8
                  obtain ⟨pae0, pae1, pae2, pae3⟩ := pa_9.open2
                  obtain ⟨pbe0, pbe1, pbe2, pbe3⟩ := pb_9.open2
                  obtain ⟨pve0, pve1, pve2, pve3⟩ := pv_9.open2
                  obtain ⟨pue0, pue1, pue2, pue3⟩ := pu_9.open2
                  go_wp2
                  go_ret
                  exact ⟨rfl, hB_9⟩
          · skip
            clear pae0 pae1 pae2 pae3 pbe0 pbe1 pbe2 pbe3 pve0 pve1 pve2 pve3 pue0 pue1 pue2 pue3 pse0 pse1 pse2 pse3
            have hB_2 := hB_1.drew'
            have pu_2 := pu_1.drew
            have pa_2 := pa_1.drew
            have pb_2 := pb_1.drew
            have pv_2 := pv_1.drew
            have f1_2 := f1_1.drew
            have f2_2 := f2_1.drew
            have f3_2 := f3_1.drew
            have f4_2 := f4_1.drew
            have pq_2 := pq_1.drew
            have ps_2 := ps_1.drew
            refine wp_region_noPanic ?_
            refine wp_region_held_drew (S := fun w' => w'.cell? ⟨gpa, 0, none⟩ = some (.int .i64 a0) ∧ w'.cell? ⟨gpa, 1, none⟩ = some (.int .i64 a1) ∧ w'.cell? ⟨gpb, 0, none⟩ = some (.int .i64 v0) ∧ w'.cell? ⟨gpb, 1, none⟩ = some (.int .i64 v1) ∧ w'.cell? ⟨gpv, 0, none⟩ = some (.int .i64 b0) ∧ w'.cell? ⟨gpv, 1, none⟩ = some (.int .i64 b1) ∧ w'.cell? ⟨w.heap.size + 1, 0, none⟩ = some (.int .i64 u0) ∧ w'.cell? ⟨w.heap.size + 1, 1, none⟩ = some (.int .i64 u1) ∧ w'.cell? ⟨gps, 0, none⟩ = some (.bool m4) ∧ w'.cell? ⟨gps, 1, none⟩ = some (.slice o4 n4 c4)) (by kernel_rfl) (⟨pa_2.c0, pa_2.c1, pb_2.c0, pb_2.c1, pv_2.c0, pv_2.c1, pu_2.c0, pu_2.c1, ps_2.c0, ps_2.c1⟩) (fun hHeld => ?_)
            refine reg_take 0 ?_ ?_ ?_ (by kernel_rfl) (by kernel_rfl) (by kernel_rfl) (fun _ _ _ h => h) ?_ ?_ (by assumption) ?_
            rotate_left 2
            · simp only [List.getElem?_toArray, List.getElem?_cons_zero]; exact rfl
            · rfl
            · intro w hSw; (try dsimp only at hSw); go_simp; try with_reducible rfl
            try simp only [Act.put]
            try simp only [List.setIfInBounds_toArray, List.set_cons_zero, List.set_cons_succ]
            refine reg_take 1 ?_ ?_ ?_ (by kernel_rfl) (by kernel_rfl) (by kernel_rfl) (fun _ _ _ h => h) ?_ ?_ (by assumption) ?_
            rotate_left 2
            · simp only [List.getElem?_toArray, List.getElem?_cons_succ, List.getElem?_cons_zero]; exact rfl
            · rfl
            · intro w hSw; (try dsimp only at hSw); go_simp; try with_reducible rfl
            try simp only [Act.put]
            try simp only [List.setIfInBounds_toArray, List.set_cons_zero, List.set_cons_succ]
            refine reg_take 2 ?_ ?_ ?_ (by kernel_rfl) (by kernel_rfl) (by kernel_rfl) (fun _ _ _ h => h) ?_ ?_ (by assumption) ?_
            rotate_left 2
            · simp only [List.getElem?_toArray, List.getElem?_cons_succ, List.getElem?_cons_zero]; exact rfl
            · rfl
            · intro w hSw; (try dsimp only at hSw); go_simp; try with_reducible rfl
            try simp only [Act.put]
            try simp only [List.setIfInBounds_toArray, List.set_cons_zero, List.set_cons_succ]
            refine reg_take 3 ?_ ?_ ?_ (by kernel_rfl) (by kernel_rfl) (by kernel_rfl) (fun _ _ _ h => h) ?_ ?_ (by assumption) ?_
            rotate_left 2
            · simp only [List.getElem?_toArray, List.getElem?_cons_succ, List.getElem?_cons_zero]; exact rfl
            · rfl
            · intro w hSw; (try dsimp only at hSw); go_simp; try with_reducible rfl
            try simp only [Act.put]
            try simp only [List.setIfInBounds_toArray, List.set_cons_zero, List.set_cons_succ]
            refine reg_call 4 ?_ (by kernel_rfl) ?_ (fun K hK => ?_)
            rotate_left 1
            · simp only [List.getElem?_toArray, List.getElem?_cons_succ, List.getElem?_cons_zero]; exact rfl
            go_simp
            refine (AW.out _).mono ?_
            rintro e w17 ⟨m5, o5, n5, c5, rfl, f5_0, hb17⟩
            have hB_3 := hB_2.trans (hb17.mono hB_2.size)
            have pu_3 := pu_2.below hb17
            have pa_3 := pa_2.below hb17
            have pb_3 := pb_2.below hb17
            have pv_3 := pv_2.below hb17
            have f1_3 := f1_2.below hb17
            have f2_3 := f2_2.below hb17
            have f3_3 := f3_2.below hb17
            have f4_3 := f4_2.below hb17
            have pq_3 := pq_2.below hb17
            have ps_3 := ps_2.below hb17
            clear hb17 hB_2 pu_2 pa_2 pb_2 pv_2 f1_2 f2_2 f3_2 f4_2 pq_2 ps_2
            go_wp2_with fail
            refine hK.out _ _ ⟨pa_3.c0, pa_3.c1, pb_3.c0, pb_3.c1, pv_3.c0, pv_3.c1, pu_3.c0, pu_3.c1, ps_3.c0, ps_3.c1⟩ (fun hHeld => ?_)
            clear hK K
            try simp only [Act.put]
            try simp only [List.setIfInBounds_toArray, List.set_cons_zero, List.set_cons_succ]
            refine reg_call 5 ?_ (by kernel_rfl) ?_ (fun K hK => ?_)
            rotate_left 1
            · simp only [List.getElem?_toArray, List.getElem?_cons_succ, List.getElem?_cons_zero]; exact rfl
            go_simp
            refine (Cmp_named _ _ 5 2 _ _ 0 _ (by omega) (by omega) f4_3.num f5_0.num (icmp_self _)).mono ?_
            rintro e w18 ⟨rfl, hb18⟩
            have hB_4 := hB_3.trans (hb18.mono hB_3.size)
            have pu_4 := pu_3.below hb18
            have pa_4 := pa_3.below hb18
            have pb_4 := pb_3.below hb18
            have pv_4 := pv_3.below hb18
            have f1_4 := f1_3.below hb18
            have f2_4 := f2_3.below hb18
            have f3_4 := f3_3.below hb18
            have f4_4 := f4_3.below hb18
            have pq_4 := pq_3.below hb18
            have ps_4 := ps_3.below hb18
            have f5_1 := f5_0.below hb18
            clear hb18 hB_3 pu_3 pa_3 pb_3 pv_3 f1_3 f2_3 f3_3 f4_3 pq_3 ps_3 f5_0
            go_wp2_with fail
            refine hK.out _ _ ⟨pa_4.c0, pa_4.c1, pb_4.c0, pb_4.c1, pv_4.c0, pv_4.c1, pu_4.c0, pu_4.c1, ps_4.c0, ps_4.c1⟩ (fun hHeld => ?_)
            clear hK K
            try simp only [Act.put]
            try simp only [List.setIfInBounds_toArray, List.set_cons_zero, List.set_cons_succ]
            refine reg_take 6 ?_ ?_ ?_ (by kernel_rfl) (by kernel_rfl) (by kernel_rfl) (fun _ _ _ h => h) ?_ ?_ (by assumption) ?_
            rotate_left 2
            · simp only [List.getElem?_toArray, List.getElem?_cons_succ, List.getElem?_cons_zero]; exact rfl
            · rfl
            · intro w hSw; (try dsimp only at hSw); go_simp; try with_reducible rfl
            try simp only [Act.put]
            try simp only [List.setIfInBounds_toArray, List.set_cons_zero, List.set_cons_succ]
            refine reg_take 7 ?_ ?_ ?_ (by kernel_rfl) (by kernel_rfl) (by kernel_rfl) (fun _ _ _ h => h) ?_ ?_ (by assumption) ?_
            rotate_left 2
            · simp only [List.getElem?_toArray, List.getElem?_cons_succ, List.getElem?_cons_zero]; exact rfl
            · rfl
            · intro w hSw; (try dsimp only at hSw); go_simp; try with_reducible rfl
            try simp only [Act.put]
            try simp only [List.setIfInBounds_toArray, List.set_cons_zero, List.set_cons_succ]
            refine reg_take 8 ?_ ?_ ?_ (by kernel_rfl) (by kernel_rfl) (by kernel_rfl) (fun _ _ _ h => h) ?_ ?_ (by assumption) ?_
            rotate_left 2
            · simp only [List.getElem?_toArray, List.getElem?_cons_succ, List.getElem?_cons_zero]; exact rfl
            · rfl
            · intro w hSw; (try dsimp only at hSw); go_simp; try with_reducible rfl
            try simp only [Act.put]
            try simp only [List.setIfInBounds_toArray, List.set_cons_zero, List.set_cons_succ]
            refine reg_take 9 ?_ ?_ ?_ (by kernel_rfl) (by kernel_rfl) (by kernel_rfl) (fun _ _ _ h => h) ?_ ?_ (by assumption) ?_
            rotate_left 2
            · simp only [List.getElem?_toArray, List.getElem?_cons_succ, List.getElem?_cons_zero]; exact rfl
            · rfl
            · intro w hSw; (try dsimp only at hSw); go_simp; try with_reducible rfl
            try simp only [Act.put]
            try simp only [List.setIfInBounds_toArray, List.set_cons_zero, List.set_cons_succ]
            refine reg_take 10 ?_ ?_ ?_ (by kernel_rfl) (by kernel_rfl) (by kernel_rfl) (fun _ _ _ h => h) ?_ ?_ (by assumption) ?_
            rotate_left 2
            · simp only [List.getElem?_toArray, List.getElem?_cons_succ, List.getElem?_cons_zero]; exact rfl
            · rfl
            · intro w hSw; (try dsimp only at hSw); go_simp; try with_reducible rfl
            try simp only [Act.put]
            try simp only [List.setIfInBounds_toArray, List.set_cons_zero, List.set_cons_succ]
            refine reg_take 11 ?_ ?_ ?_ (by kernel_rfl) (by kernel_rfl) (by kernel_rfl) (fun _ _ _ h => h) ?_ ?_ (by assumption) ?_
            rotate_left 2
            · simp only [List.getElem?_toArray, List.getElem?_cons_succ, List.getElem?_cons_zero]; exact rfl
            · rfl
            · intro w hSw; (try dsimp only at hSw); go_simp; try with_reducible rfl
            try simp only [Act.put]
            try simp only [List.setIfInBounds_toArray, List.set_cons_zero, List.set_cons_succ]
            refine reg_call 12 ?_ (by kernel_rfl) ?_ (fun K hK => ?_)
            rotate_left 1
            · simp only [List.getElem?_toArray, List.getElem?_cons_succ, List.getElem?_cons_zero]; exact rfl
            go_simp
            refine (N0.out _).mono ?_
            rintro e w19 ⟨rfl, hb19⟩
            have hB_5 := hB_4.trans (hb19.mono hB_4.size)
            have pu_5 := pu_4.below hb19
            have pa_5 := pa_4.below hb19
            have pb_5 := pb_4.below hb19
            have pv_5 := pv_4.below hb19
            have f1_5 := f1_4.below hb19
            have f2_5 := f2_4.below hb19
            have f3_5 := f3_4.below hb19
            have f4_5 := f4_4.below hb19
            have pq_5 := pq_4.below hb19
            have ps_5 := ps_4.below hb19
            have f5_2 := f5_1.below hb19
            clear hb19 hB_4 pu_4 pa_4 pb_4 pv_4 f1_4 f2_4 f3_4 f4_4 pq_4 ps_4 f5_1
            go_wp2_with fail
            refine hK.out _ _ ⟨pa_5.c0, pa_5.c1, pb_5.c0, pb_5.c1, pv_5.c0, pv_5.c1, pu_5.c0, pu_5.c1, ps_5.c0, ps_5.c1⟩ (fun hHeld => ?_)
            clear hK K
            try simp only [Act.put]
            try simp only [List.setIfInBounds_toArray, List.set_cons_zero, List.set_cons_succ]
            refine reg_take 13 ?_ ?_ ?_ (by kernel_rfl) (by kernel_rfl) (by kernel_rfl) (fun _ _ _ h => h) ?_ ?_ (by assumption) ?_
            rotate_left 2
            · simp only [List.getElem?_toArray, List.getElem?_cons_succ, List.getElem?_cons_zero]; exact rfl
            · rfl
            · intro w hSw; (try dsimp only at hSw); go_simp; try with_reducible rfl
            try simp only [Act.put]
            try simp only [List.setIfInBounds_toArray, List.set_cons_zero, List.set_cons_succ]
            refine reg_take 14 ?_ ?_ ?_ (by kernel_rfl) (by kernel_rfl) (by kernel_rfl) (fun _ _ _ h => h) ?_ ?_ (by assumption) ?_
            rotate_left 2
            · simp only [List.getElem?_toArray, List.getElem?_cons_succ, List.getElem?_cons_zero]; exact rfl
            · rfl
            · intro w hSw; (try dsimp only at hSw); go_simp; try with_reducible rfl
            try simp only [Act.put]
            try simp only [List.setIfInBounds_toArray, List.set_cons_zero, List.set_cons_succ]
            refine reg_take 15 ?_ ?_ ?_ (by kernel_rfl) (by kernel_rfl) (by kernel_rfl) (fun _ _ _ h => h) ?_ ?_ (by assumption) ?_
            rotate_left 2
            · simp only [List.getElem?_toArray, List.getElem?_cons_succ, List.getElem?_cons_zero]; exact rfl
            · rfl
            · intro w hSw; (try dsimp only at hSw); go_simp; try with_reducible rfl
            try simp only [Act.put]
            try simp only [List.setIfInBounds_toArray, List.set_cons_zero, List.set_cons_succ]
            refine reg_take 16 ?_ ?_ ?_ (by kernel_rfl) (by kernel_rfl) (by kernel_rfl) (fun _ _ _ h => h) ?_ ?_ (by assumption) ?_
            rotate_left 2
            · simp only [List.getElem?_toArray, List.getElem?_cons_succ, List.getElem?_cons_zero]; exact rfl
            · rfl
            · intro w hSw; (try dsimp only at hSw); go_simp; try with_reducible rfl
            try simp only [Act.put]
            try simp only [List.setIfInBounds_toArray, List.set_cons_zero, List.set_cons_succ]
            refine reg_call 17 ?_ (by kernel_rfl) ?_ (fun K hK => ?_)
            rotate_left 1
            · simp only [List.getElem?_toArray, List.getElem?_cons_succ, List.getElem?_cons_zero]; exact rfl
            go_simp
            refine (N1.out _).mono ?_
            rintro e w20 ⟨rfl, hb20⟩
            have hB_6 := hB_5.trans (hb20.mono hB_5.size)
            have pu_6 := pu_5.below hb20
            have pa_6 := pa_5.below hb20
            have pb_6 := pb_5.below hb20
            have pv_6 := pv_5.below hb20
            have f1_6 := f1_5.below hb20
            have f2_6 := f2_5.below hb20
            have f3_6 := f3_5.below hb20
            have f4_6 := f4_5.below hb20
            have pq_6 := pq_5.below hb20
            have ps_6 := ps_5.below hb20
            have f5_3 := f5_2.below hb20
            clear hb20 hB_5 pu_5 pa_5 pb_5 pv_5 f1_5 f2_5 f3_5 f4_5 pq_5 ps_5 f5_2
            go_wp2_with fail
            refine hK.out _ _ ⟨pa_6.c0, pa_6.c1, pb_6.c0, pb_6.c1, pv_6.c0, pv_6.c1, pu_6.c0, pu_6.c1, ps_6.c0, ps_6.c1⟩ (fun hHeld => ?_)
            clear hK K
            try simp only [Act.put]
            try simp only [List.setIfInBounds_toArray, List.set_cons_zero, List.set_cons_succ]
            refine reg_take 18 ?_ ?_ ?_ (by kernel_rfl) (by kernel_rfl) (by kernel_rfl) (fun _ _ _ h => h) ?_ ?_ (by assumption) ?_
            rotate_left 2
            · simp only [List.getElem?_toArray, List.getElem?_cons_succ, List.getElem?_cons_zero]; exact rfl
            · rfl
            · intro w hSw; (try dsimp only at hSw); go_simp; try with_reducible rfl
            try simp only [Act.put]
            try simp only [List.setIfInBounds_toArray, List.set_cons_zero, List.set_cons_succ]
            refine reg_take 19 ?_ ?_ ?_ (by kernel_rfl) (by kernel_rfl) (by kernel_rfl) (fun _ _ _ h => h) ?_ ?_ (by assumption) ?_
            rotate_left 2
            · simp only [List.getElem?_toArray, List.getElem?_cons_succ, List.getElem?_cons_zero]; exact rfl
            · rfl
            · intro w hSw; (try dsimp only at hSw); go_simp; try with_reducible rfl
            try simp only [Act.put]
            try simp only [List.setIfInBounds_toArray, List.set_cons_zero, List.set_cons_succ]
            refine reg_skip 20 ?_ ?_ (by kernel_rfl) (by kernel_rfl) (by kernel_rfl) (fun _ _ _ h => h) ?_ (by assumption) ?_
            rotate_left 1
            · simp only [List.getElem?_toArray, List.getElem?_cons_succ, List.getElem?_cons_zero]; exact rfl
            · rfl
            try simp only [Act.put]
            try simp only [List.setIfInBounds_toArray, List.set_cons_zero, List.set_cons_succ]
            refine reg_skip 21 ?_ ?_ (by kernel_rfl) (by kernel_rfl) (by kernel_rfl) (fun _ _ _ h => h) ?_ (by assumption) ?_
            rotate_left 1
            · simp only [List.getElem?_toArray, List.getElem?_cons_succ, List.getElem?_cons_zero]; exact rfl
            · rfl
            try simp only [Act.put]
            try simp only [List.setIfInBounds_toArray, List.set_cons_zero, List.set_cons_succ]
            refine reg_skip 22 ?_ ?_ (by kernel_rfl) (by kernel_rfl) (by kernel_rfl) (fun _ _ _ h => h) ?_ (by assumption) ?_
            rotate_left 1
            · simp only [List.getElem?_toArray, List.getElem?_cons_succ, List.getElem?_cons_zero]; exact rfl
            · rfl
            try simp only [Act.put]
            try simp only [List.setIfInBounds_toArray, List.set_cons_zero, List.set_cons_succ]
            refine reg_skip 23 ?_ ?_ (by kernel_rfl) (by kernel_rfl) (by kernel_rfl) (fun _ _ _ h => h) ?_ (by assumption) ?_
            rotate_left 1
            · simp only [List.getElem?_toArray, List.getElem?_cons_succ, List.getElem?_cons_zero]; exact rfl
            · rfl
            try simp only [Act.put]
            try simp only [List.setIfInBounds_toArray, List.set_cons_zero, List.set_cons_succ]
            refine reg_take 24 ?_ ?_ ?_ (by kernel_rfl) (by kernel_rfl) (by kernel_rfl) (fun _ _ _ h => h) ?_ ?_ (by assumption) ?_
            rotate_left 2
            · simp only [List.getElem?_toArray, List.getElem?_cons_succ, List.getElem?_cons_zero]; exact rfl
            · rfl
            · intro w hSw; (try dsimp only at hSw); go_simp; try with_reducible rfl
            try simp only [Act.put]
            try simp only [List.setIfInBounds_toArray, List.set_cons_zero, List.set_cons_succ]
            refine reg_take 25 ?_ ?_ ?_ (by kernel_rfl) (by kernel_rfl) (by kernel_rfl) (fun _ _ _ h => h) ?_ ?_ (by assumption) ?_
            rotate_left 2
            · simp only [List.getElem?_toArray, List.getElem?_cons_succ, List.getElem?_cons_zero]; exact rfl
            · rfl
            · intro w hSw; (try dsimp only at hSw); go_simp; try with_reducible rfl
            try simp only [Act.put]
            try simp only [List.setIfInBounds_toArray, List.set_cons_zero, List.set_cons_succ]
            refine reg_skip 26 ?_ ?_ (by kernel_rfl) (by kernel_rfl) (by kernel_rfl) (fun _ _ _ h => h) ?_ (by assumption) ?_
            rotate_left 1
            · simp only [List.getElem?_toArray, List.getElem?_cons_succ, List.getElem?_cons_zero]; exact rfl
            · rfl
            try simp only [Act.put]
            try simp only [List.setIfInBounds_toArray, List.set_cons_zero, List.set_cons_succ]
            refine reg_skip 27 ?_ ?_ (by kernel_rfl) (by kernel_rfl) (by kernel_rfl) (fun _ _ _ h => h) ?_ (by assumption) ?_
            rotate_left 1
            · simp only [List.getElem?_toArray, List.getElem?_cons_succ, List.getElem?_cons_zero]; exact rfl
            · rfl
            try simp only [Act.put]
            try simp only [List.setIfInBounds_toArray, List.set_cons_zero, List.set_cons_succ]
            refine reg_skip 28 ?_ ?_ (by kernel_rfl) (by kernel_rfl) (by kernel_rfl) (fun _ _ _ h => h) ?_ (by assumption) ?_
            rotate_left 1
            · simp only [List.getElem?_toArray, List.getElem?_cons_succ, List.getElem?_cons_zero]; exact rfl
            · rfl
            try simp only [Act.put]
            try simp only [List.setIfInBounds_toArray, List.set_cons_zero, List.set_cons_succ]
            refine reg_skip 29 ?_ ?_ (by kernel_rfl) (by kernel_rfl) (by kernel_rfl) (fun _ _ _ h => h) ?_ (by assumption) ?_
            rotate_left 1
            · simp only [List.getElem?_toArray, List.getElem?_cons_succ, List.getElem?_cons_zero]; exact rfl
            · rfl
            try simp only [Act.put]
            try simp only [List.setIfInBounds_toArray, List.set_cons_zero, List.set_cons_succ]
            refine reg_skip 30 ?_ ?_ (by kernel_rfl) (by kernel_rfl) (by kernel_rfl) (fun _ _ _ h => h) ?_ (by assumption) ?_
            rotate_left 1
            · simp only [List.getElem?_toArray, List.getElem?_cons_succ, List.getElem?_cons_zero]; exact rfl
            · rfl
            try simp only [Act.put]
            try simp only [List.setIfInBounds_toArray, List.set_cons_zero, List.set_cons_succ]
            refine reg_take 31 ?_ ?_ ?_ (by kernel_rfl) (by kernel_rfl) (by kernel_rfl) (fun _ _ _ h => h) ?_ ?_ (by assumption) ?_
            rotate_left 2
            · simp only [List.getElem?_toArray, List.getElem?_cons_succ, List.getElem?_cons_zero]; exact rfl
            · rfl
            · intro w hSw; (try dsimp only at hSw); go_simp; try with_reducible rfl
            try simp only [Act.put]
            try simp only [List.setIfInBounds_toArray, List.set_cons_zero, List.set_cons_succ]
            refine reg_take 32 ?_ ?_ ?_ (by kernel_rfl) (by kernel_rfl) (by kernel_rfl) (fun _ _ _ h => h) ?_ ?_ (by assumption) ?_
            rotate_left 2
            · simp only [List.getElem?_toArray, List.getElem?_cons_succ, List.getElem?_cons_zero]; exact rfl
            · rfl
            · intro w hSw; (try dsimp only at hSw); go_simp; try with_reducible rfl
            try simp only [Act.put]
            try simp only [List.setIfInBounds_toArray, List.set_cons_zero, List.set_cons_succ]
            refine reg_take 33 ?_ ?_ ?_ (by kernel_rfl) (by kernel_rfl) (by kernel_rfl) (fun _ _ _ h => h) ?_ ?_ (by assumption) ?_
            rotate_left 2
            · simp only [List.getElem?_toArray, List.getElem?_cons_succ, List.getElem?_cons_zero]; exact rfl
            · rfl
            · intro w hSw; (try dsimp only at hSw); go_simp; try with_reducible rfl
            try simp only [Act.put]
            try simp only [List.setIfInBounds_toArray, List.set_cons_zero, List.set_cons_succ]
            refine wpAnyH_done (by kernel_rfl) ?_ _
            refine NoPanic.normal ?_
            clear f4_6 f5_3 ps_6
            try clear gj gk hmin
            have q0 := Q0.out; have q1 := Q1.out; have q2 := Q2.out
            cases d0
            · cases d1
              · cases d2
                · obtain ⟨pae0, pae1, pae2, pae3⟩ := pa_6.open2
                  obtain ⟨pbe0, pbe1, pbe2, pbe3⟩ := pb_6.open2
                  obtain ⟨pve0, pve1, pve2, pve3⟩ := pv_6.open2
                  obtain ⟨pue0, pue1, pue2, pue3⟩ := pu_6.open2
                  rcases hs (by first | rfl | trivial) with rfl | ⟨rfl, hk⟩
                  · go_wp2_with fail
                    refine (CI.out _).mono ?_
                    rintro e w21 ⟨rfl, hb21⟩
                    clear pae0 pae1 pae2 pae3 pbe0 pbe1 pbe2 pbe3 pve0 pve1 pve2 pve3 pue0 pue1 pue2 pue3
                    have hB_7 := hB_6.trans (hb21.mono hB_6.size)
                    have pu_7 := pu_6.below hb21
                    have pa_7 := pa_6.below hb21
                    have pb_7 := pb_6.below hb21
                    have pv_7 := pv_6.below hb21
                    have f1_7 := f1_6.below hb21
                    have f2_7 := f2_6.below hb21
                    have f3_7 := f3_6.below hb21
                    have pq_7 := pq_6.below hb21
                    clear hb21 hB_6 pu_6 pa_6 pb_6 pv_6 f1_6 f2_6 f3_6 pq_6
                    obtain ⟨pae0, pae1, pae2, pae3⟩ := pa_7.open2
                    obtain ⟨pbe0, pbe1, pbe2, pbe3⟩ := pb_7.open2
                    obtain ⟨pve0, pve1, pve2, pve3⟩ := pv_7.open2
                    obtain ⟨pue0, pue1, pue2, pue3⟩ := pu_7.open2
                    go_wp2
                    go_ret
                    exact ⟨rfl, hB_7⟩
                  · exact absurd hk (by decide)
                · obtain ⟨pae0, pae1, pae2, pae3⟩ := pa_6.open2
                  obtain ⟨pbe0, pbe1, pbe2, pbe3⟩ := pb_6.open2
                  obtain ⟨pve0, pve1, pve2, pve3⟩ := pv_6.open2
                  obtain ⟨pue0, pue1, pue2, pue3⟩ := pu_6.open2
                  rcases hs (by first | rfl | trivial) with rfl | ⟨rfl, hk⟩
                  · go_wp2_with fail
                    refine (CI.out _).mono ?_
                    rintro e w21 ⟨rfl, hb21⟩
                    clear pae0 pae1 pae2 pae3 pbe0 pbe1 pbe2 pbe3 pve0 pve1 pve2 pve3 pue0 pue1 pue2 pue3
                    have hB_7 := hB_6.trans (hb21.mono hB_6.size)
                    have pu_7 := pu_6.below hb21
                    have pa_7 := pa_6.below hb21
                    have pb_7 := pb_6.below hb21
                    have pv_7 := pv_6.below hb21
                    have f1_7 := f1_6.below hb21
                    have f2_7 := f2_6.below hb21
                    have f3_7 := f3_6.below hb21
                    have pq_7 := pq_6.below hb21
                    clear hb21 hB_6 pu_6 pa_6 pb_6 pv_6 f1_6 f2_6 f3_6 pq_6
                    obtain ⟨pae0, pae1, pae2, pae3⟩ := pa_7.open2
                    obtain ⟨pbe0, pbe1, pbe2, pbe3⟩ := pb_7.open2
                    obtain ⟨pve0, pve1, pve2, pve3⟩ := pv_7.open2
                    obtain ⟨pue0, pue1, pue2, pue3⟩ := pu_7.open2
                    go_wp2
                    go_ret
                    exact ⟨rfl, hB_7⟩
                  · go_wp2_with fail
                    refine (CI.out _).mono ?_
                    rintro e w21 ⟨rfl, hb21⟩
                    clear pae0 pae1 pae2 pae3 pbe0 pbe1 pbe2 pbe3 pve0 pve1 pve2 pve3 pue0 pue1 pue2 pue3
                    have hB_7 := hB_6.trans (hb21.mono hB_6.size)
                    have pu_7 := pu_6.below hb21
                    have pa_7 := pa_6.below hb21
                    have pb_7 := pb_6.below hb21
                    have pv_7 := pv_6.below hb21
                    have f1_7 := f1_6.below hb21
                    have f2_7 := f2_6.below hb21
                    have f3_7 := f3_6.below hb21
                    have pq_7 := pq_6.below hb21
                    clear hb21 hB_6 pu_6 pa_6 pb_6 pv_6 f1_6 f2_6 f3_6 pq_6
                    obtain ⟨pae0, pae1, pae2, pae3⟩ := pa_7.open2
                    obtain ⟨pbe0, pbe1, pbe2, pbe3⟩ := pb_7.open2
                    obtain ⟨pve0, pve1, pve2, pve3⟩ := pv_7.open2
                    obtain ⟨pue0, pue1, pue2, pue3⟩ := pu_7.open2
                    go_wp2_with fail
                    refine (CI.out _).mono ?_
                    rintro e w22 ⟨rfl, hb22⟩
                    clear pae0 pae1 pae2 pae3 pbe0 pbe1 pbe2 pbe3 pve0 pve1 pve2 pve3 pue0 pue1 pue2 pue3
                    have hB_8 := hB_7.trans (hb22.mono hB_7.size)
                    have pu_8 := pu_7.below hb22
                    have pa_8 := pa_7.below hb22
                    have pb_8 := pb_7.below hb22
                    have pv_8 := pv_7.below hb22
                    have f1_8 := f1_7.below hb22
                    have f2_8 := f2_7.below hb22
                    have f3_8 := f3_7.below hb22
                    have pq_8 := pq_7.below hb22
                    clear hb22 hB_7 pu_7 pa_7 pb_7 pv_7 f1_7 f2_7 f3_7 pq_7
                    obtain ⟨pae0, pae1, pae2, pae3⟩ := pa_8.open2
                    obtain ⟨pbe0, pbe1, pbe2, pbe3⟩ := pb_8.open2
                    obtain ⟨pve0, pve1, pve2, pve3⟩ := pv_8.open2
                    obtain ⟨pue0, pue1, pue2, pue3⟩ := pu_8.open2
                    go_wp2
                    go_ret
                    exact ⟨rfl, hB_8⟩
              · obtain ⟨pae0, pae1, pae2, pae3⟩ := pa_6.open2
                obtain ⟨pbe0, pbe1, pbe2, pbe3⟩ := pb_6.open2
                obtain ⟨pve0, pve1, pve2, pve3⟩ := pv_6.open2
                obtain ⟨pue0, pue1, pue2, pue3⟩ := pu_6.open2
                rcases hs (by first | rfl | trivial) with rfl | ⟨rfl, hk⟩
                · go_wp2_with fail
                  refine (CI.out _).mono ?_
                  rintro e w21 ⟨rfl, hb21⟩
                  clear pae0 pae1 pae2 pae3 pbe0 pbe1 pbe2 pbe3 pve0 pve1 pve2 pve3 pue0 pue1 pue2 pue3
                  have hB_7 := hB_6.trans (hb21.mono hB_6.size)
                  have pu_7 := pu_6.below hb21
                  have pa_7 := pa_6.below hb21
                  have pb_7 := pb_6.below hb21
                  have pv_7 := pv_6.below hb21
                  have f1_7 := f1_6.below hb21
                  have f2_7 := f2_6.below hb21
                  have f3_7 := f3_6.below hb21
                  have pq_7 := pq_6.below hb21
                  clear hb21 hB_6 pu_6 pa_6 pb_6 pv_6 f1_6 f2_6 f3_6 pq_6
                  obtain ⟨pae0, pae1, pae2, pae3⟩ := pa_7.open2
                  obtain ⟨pbe0, pbe1, pbe2, pbe3⟩ := pb_7.open2
                  obtain ⟨pve0, pve1, pve2, pve3⟩ := pv_7.open2
                  obtain ⟨pue0, pue1, pue2, pue3⟩ := pu_7.open2
                  go_wp2
                  go_ret
                  exact ⟨rfl, hB_7⟩
                · go_wp2_with fail
                  refine (CI.out _).mono ?_
                  rintro e w21 ⟨rfl, hb21⟩
                  clear pae0 pae1 pae2 pae3 pbe0 pbe1 pbe2 pbe3 pve0 pve1 pve2 pve3 pue0 pue1 pue2 pue3
                  have hB_7 := hB_6.trans (hb21.mono hB_6.size)
                  have pu_7 := pu_6.below hb21
                  have pa_7 := pa_6.below hb21
                  have pb_7 := pb_6.below hb21
                  have pv_7 := pv_6.below hb21
                  have f1_7 := f1_6.below hb21
                  have f2_7 := f2_6.below hb21
                  have f3_7 := f3_6.below hb21
                  have pq_7 := pq_6.below hb21
                  clear hb21 hB_6 pu_6 pa_6 pb_6 pv_6 f1_6 f2_6 f3_6 pq_6
                  obtain ⟨pae0, pae1, pae2, pae3⟩ := pa_7.open2
                  obtain ⟨pbe0, pbe1, pbe2, pbe3⟩ := pb_7.open2
                  obtain ⟨pve0, pve1, pve2, pve3⟩ := pv_7.open2
                  obtain ⟨pue0, pue1, pue2, pue3⟩ := pu_7.open2
                  go_wp2_with fail
                  refine (CI.out _).mono ?_
                  rintro e w22 ⟨rfl, hb22⟩
                  clear pae0 pae1 pae2 pae3 pbe0 pbe1 pbe2 pbe3 pve0 pve1 pve2 pve3 pue0 pue1 pue2 pue3
                  have hB_8 := hB_7.trans (hb22.mono hB_7.size)
                  have pu_8 := pu_7.below hb22
                  have pa_8 := pa_7.below hb22
                  have pb_8 := pb_7.below hb22
                  have pv_8 := pv_7.below hb22
                  have f1_8 := f1_7.below hb22
                  have f2_8 := f2_7.below hb22
                  have f3_8 := f3_7.below hb22
                  have pq_8 := pq_7.below hb22
                  clear hb22 hB_7 pu_7 pa_7 pb_7 pv_7 f1_7 f2_7 f3_7 pq_7
                  obtain ⟨pae0, pae1, pae2, pae3⟩ := pa_8.open2
                  obtain ⟨pbe0, pbe1, pbe2, pbe3⟩ := pb_8.open2
                  obtain ⟨pve0, pve1, pve2, pve3⟩ := pv_8.open2
                  obtain ⟨pue0, pue1, pue2, pue3⟩ := pu_8.open2
                  go_wp2
                  go_ret
                  exact ⟨rfl, hB_8⟩
            · obtain ⟨pae0, pae1, pae2, pae3⟩ := pa_6.open2
              obtain ⟨pbe0, pbe1, pbe2, pbe3⟩ := pb_6.open2
              obtain ⟨pve0, pve1, pve2, pve3⟩ := pv_6.open2
              obtain ⟨pue0, pue1, pue2, pue3⟩ := pu_6.open2
              rcases hs (by first | rfl | trivial) with rfl | ⟨rfl, hk⟩
              · go_wp2_with fail
                refine (CI.out _).mono ?_
                rintro e w21 ⟨rfl, hb21⟩
                clear pae0 pae1 pae2 pae3 pbe0 pbe1 pbe2 pbe3 pve0 pve1 pve2 pve3 pue0 pue1 pue2 pue3
                have hB_7 := hB_6.trans (hb21.mono hB_6.size)
                have pu_7 := pu_6.below hb21
                have pa_7 := pa_6.below hb21
                have pb_7 := pb_6.below hb21
                have pv_7 := pv_6.below hb21
                have f1_7 := f1_6.below hb21
                have f2_7 := f2_6.below hb21
                have f3_7 := f3_6.below hb21
                have pq_7 := pq_6.below hb21
                clear hb21 hB_6 pu_6 pa_6 pb_6 pv_6 f1_6 f2_6 f3_6 pq_6
                obtain ⟨pae0, pae1, pae2, pae3⟩ := pa_7.open2
                obtain ⟨pbe0, pbe1, pbe2, pbe3⟩ := pb_7.open2
                obtain ⟨pve0, pve1, pve2, pve3⟩ := pv_7.open2
                obtain ⟨pue0, pue1, pue2, pue3⟩ := pu_7.open2
                go_wp2
                go_ret
                exact ⟨rfl, hB_7⟩
              · go_wp2_with fail
                refine (CI.out _).mono ?_
                rintro e w21 ⟨rfl, hb21⟩
                clear pae0 pae1 pae2 pae3 pbe0 pbe1 pbe2 pbe3 pve0 pve1 pve2 pve3 pue0 pue1 pue2 pue3
                have hB_7 := hB_6.trans (hb21.mono hB_6.size)
                have pu_7 := pu_6.below hb21
                have pa_7 := pa_6.below hb21
                have pb_7 := pb_6.below hb21
                have pv_7 := pv_6.below hb21
                have f1_7 := f1_6.below hb21
                have f2_7 := f2_6.below hb21
                have f3_7 := f3_6.below hb21
                have pq_7 := pq_6.below hb21
                clear hb21 hB_6 pu_6 pa_6 pb_6 pv_6 f1_6 f2_6 f3_6 pq_6
                obtain ⟨pae0, pae1, pae2, pae3⟩ := pa_7.open2
                obtain ⟨pbe0, pbe1, pbe2, pbe3⟩ := pb_7.open2
                obtain ⟨pve0, pve1, pve2, pve3⟩ := pv_7.open2
                obtain ⟨pue0, pue1, pue2, pue3⟩ := pu_7.open2
                go_wp2_with fail
                refine (CI.out _).mono ?_
                rintro e w22 ⟨rfl, hb22⟩
                clear pae0 pae1 pae2 pae3 pbe0 pbe1 pbe2 pbe3 pve0 pve1 pve2 pve3 pue0 pue1 pue2 pue3
                have hB_8 := hB_7.trans (hb22.mono hB_7.size)
                have pu_8 := pu_7.below hb22
                have pa_8 := pa_7.below hb22
                have pb_8 := pb_7.below hb22
                have pv_8 := pv_7.below hb22
                have f1_8 := f1_7.below hb22
                have f2_8 := f2_7.below hb22
                have f3_8 := f3_7.below hb22
                have pq_8 := pq_7.below hb22
                clear hb22 hB_7 pu_7 pa_7 pb_7 pv_7 f1_7 f2_7 f3_7 pq_7
                obtain ⟨pae0, pae1, pae2, pae3⟩ := pa_8.open2
                obtain ⟨pbe0, pbe1, pbe2, pbe3⟩ := pb_8.open2
                obtain ⟨pve0, pve1, pve2, pve3⟩ := pv_8.open2
                obtain ⟨pue0, pue1, pue2, pue3⟩ := pu_8.open2
                go_wp2
                go_ret
                exact ⟨rfl, hB_8⟩
        · skip
          clear pae0 pae1 pae2 pae3 pbe0 pbe1 pbe2 pbe3 pve0 pve1 pve2 pve3 pue0 pue1 pue2 pue3 pse0 pse1 pse2 pse3
          have hB_2 := hB_1.drew'
          have pu_2 := pu_1.drew
          have pa_2 := pa_1.drew
          have pb_2 := pb_1.drew
          have pv_2 := pv_1.drew
          have f1_2 := f1_1.drew
          have f2_2 := f2_1.drew
          have f3_2 := f3_1.drew
          have f4_2 := f4_1.drew
          have pq_2 := pq_1.drew
          have ps_2 := ps_1.drew
          refine wp_region_noPanic ?_
          refine wp_region_held_drew (S := fun w' => w'.cell? ⟨gpa, 0, none⟩ = some (.int .i64 a0) ∧ w'.cell? ⟨gpa, 1, none⟩ = some (.int .i64 a1) ∧ w'.cell? ⟨gpb, 0, none⟩ = some (.int .i64 v0) ∧ w'.cell? ⟨gpb, 1, none⟩ = some (.int .i64 v1) ∧ w'.cell? ⟨gpv, 0, none⟩ = some (.int .i64 b0) ∧ w'.cell? ⟨gpv, 1, none⟩ = some (.int .i64 b1) ∧ w'.cell? ⟨w.heap.size + 1, 0, none⟩ = some (.int .i64 u0) ∧ w'.cell? ⟨w.heap.size + 1, 1, none⟩ = some (.int .i64 u1) ∧ w'.cell? ⟨gps, 0, none⟩ = some (.bool m4) ∧ w'.cell? ⟨gps, 1, none⟩ = some (.slice o4 n4 c4)) (by kernel_rfl) (⟨pa_2.c0, pa_2.c1, pb_2.c0, pb_2.c1, pv_2.c0, pv_2.c1, pu_2.c0, pu_2.c1, ps_2.c0, ps_2.c1⟩) (fun hHeld => ?_)
          refine reg_take 0 ?_ ?_ ?_ (by kernel_rfl) (by kernel_rfl) (by kernel_rfl) (fun _ _ _ h => h) ?_ ?_ (by assumption) ?_
          rotate_left 2
          · simp only [List.getElem?_toArray, List.getElem?_cons_zero]; exact rfl
          · rfl
          · intro w hSw; (try dsimp only at hSw); go_simp; try with_reducible rfl
          try simp only [Act.put]
          try simp only [List.setIfInBounds_toArray, List.set_cons_zero, List.set_cons_succ]
          refine reg_take 1 ?_ ?_ ?_ (by kernel_rfl) (by kernel_rfl) (by kernel_rfl) (fun _ _ _ h => h) ?_ ?_ (by assumption) ?_
          rotate_left 2
          · simp only [List.getElem?_toArray, List.getElem?_cons_succ, List.getElem?_cons_zero]; exact rfl
          · rfl
          · intro w hSw; (try dsimp only at hSw); go_simp; try with_reducible rfl
          try simp only [Act.put]
          try simp only [List.setIfInBounds_toArray, List.set_cons_zero, List.set_cons_succ]
          refine reg_take 2 ?_ ?_ ?_ (by kernel_rfl) (by kernel_rfl) (by kernel_rfl) (fun _ _ _ h => h) ?_ ?_ (by assumption) ?_
          rotate_left 2
          · simp only [List.getElem?_toArray, List.getElem?_cons_succ, List.getElem?_cons_zero]; exact rfl
          · rfl
          · intro w hSw; (try dsimp only at hSw); go_simp; try with_reducible rfl
          try simp only [Act.put]
          try simp only [List.setIfInBounds_toArray, List.set_cons_zero, List.set_cons_succ]
          refine reg_take 3 ?_ ?_ ?_ (by kernel_rfl) (by kernel_rfl) (by kernel_rfl) (fun _ _ _ h => h) ?_ ?_ (by assumption) ?_
          rotate_left 2
          · simp only [List.getElem?_toArray, List.getElem?_cons_succ, List.getElem?_cons_zero]; exact rfl
          · rfl
          · intro w hSw; (try dsimp only at hSw); go_simp; try with_reducible rfl
          try simp only [Act.put]
          try simp only [List.setIfInBounds_toArray, List.set_cons_zero, List.set_cons_succ]
          refine reg_call 4 ?_ (by kernel_rfl) ?_ (fun K hK => ?_)
          rotate_left 1
          · simp only [List.getElem?_toArray, List.getElem?_cons_succ, List.getElem?_cons_zero]; exact rfl
          go_simp
          refine (AW.out _).mono ?_
          rintro e w17 ⟨m5, o5, n5, c5, rfl, f5_0, hb17⟩
          have hB_3 := hB_2.trans (hb17.mono hB_2.size)
          have pu_3 := pu_2.below hb17
          have pa_3 := pa_2.below hb17
          have pb_3 := pb_2.below hb17
          have pv_3 := pv_2.below hb17
          have f1_3 := f1_2.below hb17
          have f2_3 := f2_2.below hb17
          have f3_3 := f3_2.below hb17
          have f4_3 := f4_2.below hb17
          have pq_3 := pq_2.below hb17
          have ps_3 := ps_2.below hb17
          clear hb17 hB_2 pu_2 pa_2 pb_2 pv_2 f1_2 f2_2 f3_2 f4_2 pq_2 ps_2
          go_wp2_with fail
          refine hK.out _ _ ⟨pa_3.c0, pa_3.c1, pb_3.c0, pb_3.c1, pv_3.c0, pv_3.c1, pu_3.c0, pu_3.c1, ps_3.c0, ps_3.c1⟩ (fun hHeld => ?_)
          clear hK K
          try simp only [Act.put]
          try simp only [List.setIfInBounds_toArray, List.set_cons_zero, List.set_cons_succ]
          refine reg_call 5 ?_ (by kernel_rfl) ?_ (fun K hK => ?_)
          rotate_left 1
          · simp only [List.getElem?_toArray, List.getElem?_cons_succ, List.getElem?_cons_zero]; exact rfl
          go_simp
          refine (Cmp_named _ _ 5 2 _ _ 0 _ (by omega) (by omega) f4_3.num f5_0.num (icmp_self _)).mono ?_
          rintro e w18 ⟨rfl, hb18⟩
          have hB_4 := hB_3.trans (hb18.mono hB_3.size)
          have pu_4 := pu_3.below hb18
          have pa_4 := pa_3.below hb18
          have pb_4 := pb_3.below hb18
          have pv_4 := pv_3.below hb18
          have f1_4 := f1_3.below hb18
          have f2_4 := f2_3.below hb18
          have f3_4 := f3_3.below hb18
          have f4_4 := f4_3.below hb18
          have pq_4 := pq_3.below hb18
          have ps_4 := ps_3.below hb18
          have f5_1 := f5_0.below hb18
          clear hb18 hB_3 pu_3 pa_3 pb_3 pv_3 f1_3 f2_3 f3_3 f4_3 pq_3 ps_3 f5_0
          go_wp2_with fail
          refine hK.out _ _ ⟨pa_4.c0, pa_4.c1, pb_4.c0, pb_4.c1, pv_4.c0, pv_4.c1, pu_4.c0, pu_4.c1, ps_4.c0, ps_4.c1⟩ (fun hHeld => ?_)
          clear hK K
          try simp only [Act.put]
          try simp only [List.setIfInBounds_toArray, List.set_cons_zero, List.set_cons_succ]
          refine reg_take 6 ?_ ?_ ?_ (by kernel_rfl) (by kernel_rfl) (by kernel_rfl) (fun _ _ _ h => h) ?_ ?_ (by assumption) ?_
          rotate_left 2
          · simp only [List.getElem?_toArray, List.getElem?_cons_succ, List.getElem?_cons_zero]; exact rfl
          · rfl
          · intro w hSw; (try dsimp only at hSw); go_simp; try with_reducible rfl
          try simp only [Act.put]
          try simp only [List.setIfInBounds_toArray, List.set_cons_zero, List.set_cons_succ]
          refine reg_take 7 ?_ ?_ ?_ (by kernel_rfl) (by kernel_rfl) (by kernel_rfl) (fun _ _ _ h => h) ?_ ?_ (by assumption) ?_
          rotate_left 2
          · simp only [List.getElem?_toArray, List.getElem?_cons_succ, List.getElem?_cons_zero]; exact rfl
          · rfl
          · intro w hSw; (try dsimp only at hSw); go_simp; try with_reducible rfl
          try simp only [Act.put]
          try simp only [List.setIfInBounds_toArray, List.set_cons_zero, List.set_cons_succ]
          refine reg_take 8 ?_ ?_ ?_ (by kernel_rfl) (by kernel_rfl) (by kernel_rfl) (fun _ _ _ h => h) ?_ ?_ (by assumption) ?_
          rotate_left 2
          · simp only [List.getElem?_toArray, List.getElem?_cons_succ, List.getElem?_cons_zero]; exact rfl
          · rfl
          · intro w hSw; (try dsimp only at hSw); go_simp; try with_reducible rfl
          try simp only [Act.put]
          try simp only [List.setIfInBounds_toArray, List.set_cons_zero, List.set_cons_succ]
          refine reg_take 9 ?_ ?_ ?_ (by kernel_rfl) (by kernel_rfl) (by kernel_rfl) (fun _ _ _ h => h) ?_ ?_ (by assumption) ?_
          rotate_left 2
          · simp only [List.getElem?_toArray, List.getElem?_cons_succ, List.getElem?_cons_zero]; exact rfl
          · rfl
          · intro w hSw; (try dsimp only at hSw); go_simp; try with_reducible rfl
          try simp only [Act.put]
          try simp only [List.setIfInBounds_toArray, List.set_cons_zero, List.set_cons_succ]
          refine reg_take 10 ?_ ?_ ?_ (by kernel_rfl) (by kernel_rfl) (by kernel_rfl) (fun _ _ _ h => h) ?_ ?_ (by assumption) ?_
          rotate_left 2
          · simp only [List.getElem?_toArray, List.getElem?_cons_succ, List.getElem?_cons_zero]; exact rfl
          · rfl
          · intro w hSw; (try dsimp only at hSw); go_simp; try with_reducible rfl
          try simp only [Act.put]
          try simp only [List.setIfInBounds_toArray, List.set_cons_zero, List.set_cons_succ]
          refine reg_take 11 ?_ ?_ ?_ (by kernel_rfl) (by kernel_rfl) (by kernel_rfl) (fun _ _ _ h => h) ?_ ?_ (by assumption) ?_
          rotate_left 2
          · simp only [List.getElem?_toArray, List.getElem?_cons_succ, List.getElem?_cons_zero]; exact rfl
          · rfl
          · intro w hSw; (try dsimp only at hSw); go_simp; try with_reducible rfl
          try simp only [Act.put]
          try simp only [List.setIfInBounds_toArray, List.set_cons_zero, List.set_cons_succ]
          refine reg_call 12 ?_ (by kernel_rfl) ?_ (fun K hK => ?_)
          rotate_left 1
          · simp only [List.getElem?_toArray, List.getElem?_cons_succ, List.getElem?_cons_zero]; exact rfl
          go_simp
          refine (N0.out _).mono ?_
          rintro e w19 ⟨rfl, hb19⟩
          have hB_5 := hB_4.trans (hb19.mono hB_4.size)
          have pu_5 := pu_4.below hb19
          have pa_5 := pa_4.below hb19
          have pb_5 := pb_4.below hb19
          have pv_5 := pv_4.below hb19
          have f1_5 := f1_4.below hb19
          have f2_5 := f2_4.below hb19
          have f3_5 := f3_4.below hb19
          have f4_5 := f4_4.below hb19
          have pq_5 := pq_4.below hb19
          have ps_5 := ps_4.below hb19
          have f5_2 := f5_1.below hb19
          clear hb19 hB_4 pu_4 pa_4 pb_4 pv_4 f1_4 f2_4 f3_4 f4_4 pq_4 ps_4 f5_1
          go_wp2_with fail
          refine hK.out _ _ ⟨pa_5.c0, pa_5.c1, pb_5.c0, pb_5.c1, pv_5.c0, pv_5.c1, pu_5.c0, pu_5.c1, ps_5.c0, ps_5.c1⟩ (fun hHeld => ?_)
          clear hK K
          try simp only [Act.put]
          try simp only [List.setIfInBounds_toArray, List.set_cons_zero, List.set_cons_succ]
          refine reg_take 13 ?_ ?_ ?_ (by kernel_rfl) (by kernel_rfl) (by kernel_rfl) (fun _ _ _ h => h) ?_ ?_ (by assumption) ?_
          rotate_left 2
          · simp only [List.getElem?_toArray, List.getElem?_cons_succ, List.getElem?_cons_zero]; exact rfl
          · rfl
          · intro w hSw; (try dsimp only at hSw); go_simp; try with_reducible rfl
          try simp only [Act.put]
          try simp only [List.setIfInBounds_toArray, List.set_cons_zero, List.set_cons_succ]
          refine reg_skip 14 ?_ ?_ (by kernel_rfl) (by kernel_rfl) (by kernel_rfl) (fun _ _ _ h => h) ?_ (by assumption) ?_
          rotate_left 1
          · simp only [List.getElem?_toArray, List.getElem?_cons_succ, List.getElem?_cons_zero]; exact rfl
          · rfl
          try simp only [Act.put]
          try simp only [List.setIfInBounds_toArray, List.set_cons_zero, List.set_cons_succ]
          refine reg_skip 15 ?_ ?_ (by kernel_rfl) (by kernel_rfl) (by kernel_rfl) (fun _ _ _ h => h) ?_ (by assumption) ?_
          rotate_left 1
          · simp only [List.getElem?_toArray, List.getElem?_cons_succ, List.getElem?_cons_zero]; exact rfl
          · rfl
          try simp only [Act.put]
          try simp only [List.setIfInBounds_toArray, List.set_cons_zero, List.set_cons_succ]
          refine reg_skip 16 ?_ ?_ (by kernel_rfl) (by kernel_rfl) (by kernel_rfl) (fun _ _ _ h => h) ?_ (by assumption) ?_
          rotate_left 1
          · simp only [List.getElem?_toArray, List.getElem?_cons_succ, List.getElem?_cons_zero]; exact rfl
          · rfl
          try simp only [Act.put]
          try simp only [List.setIfInBounds_toArray, List.set_cons_zero, List.set_cons_succ]
          refine reg_skip 17 ?_ ?_ (by kernel_rfl) (by kernel_rfl) (by kernel_rfl) (fun _ _ _ h => h) ?_ (by assumption) ?_
          rotate_left 1
          · simp only [List.getElem?_toArray, List.getElem?_cons_succ, List.getElem?_cons_zero]; exact rfl
          · rfl
          try simp only [Act.put]
          try simp only [List.setIfInBounds_toArray, List.set_cons_zero, List.set_cons_succ]
          refine reg_take 18 ?_ ?_ ?_ (by kernel_rfl) (by kernel_rfl) (by kernel_rfl) (fun _ _ _ h => h) ?_ ?_ (by assumption) ?_
          rotate_left 2
          · simp only [List.getElem?_toArray, List.getElem?_cons_succ, List.getElem?_cons_zero]; exact rfl
          · rfl
          · intro w hSw; (try dsimp only at hSw); go_simp; try with_reducible rfl
          try simp only [Act.put]
          try simp only [List.setIfInBounds_toArray, List.set_cons_zero, List.set_cons_succ]
          refine reg_take 19 ?_ ?_ ?_ (by kernel_rfl) (by kernel_rfl) (by kernel_rfl) (fun _ _ _ h => h) ?_ ?_ (by assumption) ?_
          rotate_left 2
          · simp only [List.getElem?_toArray, List.getElem?_cons_succ, List.getElem?_cons_zero]; exact rfl
          · rfl
          · intro w hSw; (try dsimp only at hSw); go_simp; try with_reducible rfl
          try simp only [Act.put]
          try simp only [List.setIfInBounds_toArray, List.set_cons_zero, List.set_cons_succ]
          refine reg_skip 20 ?_ ?_ (by kernel_rfl) (by kernel_rfl) (by kernel_rfl) (fun _ _ _ h => h) ?_ (by assumption) ?_
          rotate_left 1
          · simp only [List.getElem?_toArray, List.getElem?_cons_succ, List.getElem?_cons_zero]; exact rfl
          · rfl
          try simp only [Act.put]
          try simp only [List.setIfInBounds_toArray, List.set_cons_zero, List.set_cons_succ]
          refine reg_skip 21 ?_ ?_ (by kernel_rfl) (by kernel_rfl) (by kernel_rfl) (fun _ _ _ h => h) ?_ (by assumption) ?_
          rotate_left 1
          · simp only [List.getElem?_toArray, List.getElem?_cons_succ, List.getElem?_cons_zero]; exact rfl
          · rfl
          try simp only [Act.put]
          try simp only [List.setIfInBounds_toArray, List.set_cons_zero, List.set_cons_succ]
          refine reg_skip 22 ?_ ?_ (by kernel_rfl) (by kernel_rfl) (by kernel_rfl) (fun _ _ _ h => h) ?_ (by assumption) ?_
          rotate_left 1
          · simp only [List.getElem?_toArray, List.getElem?_cons_succ, List.getElem?_cons_zero]; exact rfl
          · rfl
          try simp only [Act.put]
          try simp only [List.setIfInBounds_toArray, List.set_cons_zero, List.set_cons_succ]
          refine reg_skip 23 ?_ ?_ (by kernel_rfl) (by kernel_rfl) (by kernel_rfl) (fun _ _ _ h => h) ?_ (by assumption) ?_
          rotate_left 1
          · simp only [List.getElem?_toArray, List.getElem?_cons_succ, List.getElem?_cons_zero]; exact rfl
          · rfl
          try simp only [Act.put]
          try simp only [List.setIfInBounds_toArray, List.set_cons_zero, List.set_cons_succ]
          refine reg_take 24 ?_ ?_ ?_ (by kernel_rfl) (by kernel_rfl) (by kernel_rfl) (fun _ _ _ h => h) ?_ ?_ (by assumption) ?_
          rotate_left 2
          · simp only [List.getElem?_toArray, List.getElem?_cons_succ, List.getElem?_cons_zero]; exact rfl
          · rfl
          · intro w hSw; (try dsimp only at hSw); go_simp; try with_reducible rfl
          try simp only [Act.put]
          try simp only [List.setIfInBounds_toArray, List.set_cons_zero, List.set_cons_succ]
          refine reg_take 25 ?_ ?_ ?_ (by kernel_rfl) (by kernel_rfl) (by kernel_rfl) (fun _ _ _ h => h) ?_ ?_ (by assumption) ?_
          rotate_left 2
          · simp only [List.getElem?_toArray, List.getElem?_cons_succ, List.getElem?_cons_zero]; exact rfl
          · rfl
          · intro w hSw; (try dsimp only at hSw); go_simp; try with_reducible rfl
          try simp only [Act.put]
          try simp only [List.setIfInBounds_toArray, List.set_cons_zero, List.set_cons_succ]
          refine reg_skip 26 ?_ ?_ (by kernel_rfl) (by kernel_rfl) (by kernel_rfl) (fun _ _ _ h => h) ?_ (by assumption) ?_
          rotate_left 1
          · simp only [List.getElem?_toArray, List.getElem?_cons_succ, List.getElem?_cons_zero]; exact rfl
          · rfl
          try simp only [Act.put]
          try simp only [List.setIfInBounds_toArray, List.set_cons_zero, List.set_cons_succ]
          refine reg_skip 27 ?_ ?_ (by kernel_rfl) (by kernel_rfl) (by kernel_rfl) (fun _ _ _ h => h) ?_ (by assumption) ?_
          rotate_left 1
          · simp only [List.getElem?_toArray, List.getElem?_cons_succ, List.getElem?_cons_zero]; exact rfl
          · rfl
          try simp only [Act.put]
          try simp only [List.setIfInBounds_toArray, List.set_cons_zero, List.set_cons_succ]
          refine reg_skip 28 ?_ ?_ (by kernel_rfl) (by kernel_rfl) (by kernel_rfl) (fun _ _ _ h => h) ?_ (by assumption) ?_
          rotate_left 1
          · simp only [List.getElem?_toArray, List.getElem?_cons_succ, List.getElem?_cons_zero]; exact rfl
          · rfl
          try simp only [Act.put]
          try simp only [List.setIfInBounds_toArray, List.set_cons_zero, List.set_cons_succ]
          refine reg_skip 29 ?_ ?_ (by kernel_rfl) (by kernel_rfl) (by kernel_rfl) (fun _ _ _ h => h) ?_ (by assumption) ?_
          rotate_left 1
          · simp only [List.getElem?_toArray, List.getElem?_cons_succ, List.getElem?_cons_zero]; exact rfl
          · rfl
          try simp only [Act.put]
          try simp only [List.setIfInBounds_toArray, List.set_cons_zero, List.set_cons_succ]
          refine reg_skip 30 ?_ ?_ (by kernel_rfl) (by kernel_rfl) (by kernel_rfl) (fun _ _ _ h => h) ?_ (by assumption) ?_
          rotate_left 1
          · simp only [List.getElem?_toArray, List.getElem?_cons_succ, List.getElem?_cons_zero]; exact rfl
          · rfl
          try simp only [Act.put]
          try simp only [List.setIfInBounds_toArray, List.set_cons_zero, List.set_cons_succ]
          refine reg_take 31 ?_ ?_ ?_ (by kernel_rfl) (by kernel_rfl) (by kernel_rfl) (fun _ _ _ h => h) ?_ ?_ (by assumption) ?_
          rotate_left 2
          · simp only [List.getElem?_toArray, List.getElem?_cons_succ, List.getElem?_cons_zero]; exact rfl
          · rfl
          · intro w hSw; (try dsimp only at hSw); go_simp; try with_reducible rfl
          try simp only [Act.put]
          try simp only [List.setIfInBounds_toArray, List.set_cons_zero, List.set_cons_succ]
          refine reg_take 32 ?_ ?_ ?_ (by kernel_rfl) (by kernel_rfl) (by kernel_rfl) (fun _ _ _ h => h) ?_ ?_ (by assumption) ?_
          rotate_left 2
          · simp only [List.getElem?_toArray, List.getElem?_cons_succ, List.getElem?_cons_zero]; exact rfl
          · rfl
          · intro w hSw; (try dsimp only at hSw); go_simp; try with_reducible rfl
          try simp only [Act.put]
          try simp only [List.setIfInBounds_toArray, List.set_cons_zero, List.set_cons_succ]
          refine reg_take 33 ?_ ?_ ?_ (by kernel_rfl) (by kernel_rfl) (by kernel_rfl) (fun _ _ _ h => h) ?_ ?_ (by assumption) ?_
          rotate_left 2
          · simp only [List.getElem?_toArray, List.getElem?_cons_succ, List.getElem?_cons_zero]; exact rfl
          · rfl
          · intro w hSw; (try dsimp only at hSw); go_simp; try with_reducible rfl
          try simp only [Act.put]
          try simp only [List.setIfInBounds_toArray, List.set_cons_zero, List.set_cons_succ]
          refine wpAnyH_done (by kernel_rfl) ?_ _
          refine NoPanic.normal ?_
          clear f4_5 f5_2 ps_5
          try clear gj gk hmin
          have q0 := Q0.out; have q1 := Q1.out; have q2 := Q2.out
          cases d0
          · cases d1
            · cases d2
              · obtain ⟨pae0, pae1, pae2, pae3⟩ := pa_5.open2
                obtain ⟨pbe0, pbe1, pbe2, pbe3⟩ := pb_5.open2
                obtain ⟨pve0, pve1, pve2, pve3⟩ := pv_5.open2
                obtain ⟨pue0, pue1, pue2, pue3⟩ := pu_5.open2
                rcases hs (by first | rfl | trivial) with rfl | ⟨rfl, hk⟩
                · go_wp2_with fail
                  refine (CI.out _).mono ?_
                  rintro e w20 ⟨rfl, hb20⟩
                  clear pae0 pae1 pae2 pae3 pbe0 pbe1 pbe2 pbe3 pve0 pve1 pve2 pve3 pue0 pue1 pue2 pue3
                  have hB_6 := hB_5.trans (hb20.mono hB_5.size)
                  have pu_6 := pu_5.below hb20
                  have pa_6 := pa_5.below hb20
                  have pb_6 := pb_5.below hb20
                  have pv_6 := pv_5.below hb20
                  have f1_6 := f1_5.below hb20
                  have f2_6 := f2_5.below hb20
                  have f3_6 := f3_5.below hb20
                  have pq_6 := pq_5.below hb20
                  clear hb20 hB_5 pu_5 pa_5 pb_5 pv_5 f1_5 f2_5 f3_5 pq_5
                  obtain ⟨pae0, pae1, pae2, pae3⟩ := pa_6.open2
                  obtain ⟨pbe0, pbe1, pbe2, pbe3⟩ := pb_6.open2
                  obtain ⟨pve0, pve1, pve2, pve3⟩ := pv_6.open2
                  obtain ⟨pue0, pue1, pue2, pue3⟩ := pu_6.open2
                  go_wp2
                  go_ret
                  exact ⟨rfl, hB_6⟩
                · exact absurd hk (by decide)
              · obtain ⟨pae0, pae1, pae2, pae3⟩ := pa_5.open2
                obtain ⟨pbe0, pbe1, pbe2, pbe3⟩ := pb_5.open2
                obtain ⟨pve0, pve1, pve2, pve3⟩ := pv_5.open2
                obtain ⟨pue0, pue1, pue2, pue3⟩ := pu_5.open2
                rcases hs (by first | rfl | trivial) with rfl | ⟨rfl, hk⟩
                · go_wp2_with fail
                  refine (CI.out _).mono ?_
                  rintro e w20 ⟨rfl, hb20⟩
                  clear pae0 pae1 pae2 pae3 pbe0 pbe1 pbe2 pbe3 pve0 pve1 pve2 pve3 pue0 pue1 pue2 pue3
                  have hB_6 := hB_5.trans (hb20.mono hB_5.size)
                  have pu_6 := pu_5.below hb20
                  have pa_6 := pa_5.below hb20
                  have pb_6 := pb_5.below hb20
                  have pv_6 := pv_5.below hb20
                  have f1_6 := f1_5.below hb20
                  have f2_6 := f2_5.below hb20
                  have f3_6 := f3_5.below hb20
                  have pq_6 := pq_5.below hb20
                  clear hb20 hB_5 pu_5 pa_5 pb_5 pv_5 f1_5 f2_5 f3_5 pq_5
                  obtain ⟨pae0, pae1, pae2, pae3⟩ := pa_6.open2
                  obtain ⟨pbe0, pbe1, pbe2, pbe3⟩ := pb_6.open2
                  obtain ⟨pve0, pve1, pve2, pve3⟩ := pv_6.open2
                  obtain ⟨pue0, pue1, pue2, pue3⟩ := pu_6.open2
                  go_wp2
                  go_ret
                  exact ⟨rfl, hB_6⟩
                · go_wp2_with fail
                  refine (CI.out _).mono ?_
                  rintro e w20 ⟨rfl, hb20⟩
                  clear pae0 pae1 pae2 pae3 pbe0 pbe1 pbe2 pbe3 pve0 pve1 pve2 pve3 pue0 pue1 pue2 pue3
                  have hB_6 := hB_5.trans (hb20.mono hB_5.size)
                  have pu_6 := pu_5.below hb20
                  have pa_6 := pa_5.below hb20
                  have pb_6 := pb_5.below hb20
                  have pv_6 := pv_5.below hb20
                  have f1_6 := f1_5.below hb20
                  have f2_6 := f2_5.below hb20
                  have f3_6 := f3_5.below hb20
                  have pq_6 := pq_5.below hb20
                  clear hb20 hB_5 pu_5 pa_5 pb_5 pv_5 f1_5 f2_5 f3_5 pq_5
                  obtain ⟨pae0, pae1, pae2, pae3⟩ := pa_6.open2
                  obtain ⟨pbe0, pbe1, pbe2, pbe3⟩ := pb_6.open2
                  obtain ⟨pve0, pve1, pve2, pve3⟩ := pv_6.open2
                  obtain ⟨pue0, pue1, pue2, pue3⟩ := pu_6.open2
                  go_wp2_with fail
                  refine (CI.out _).mono ?_
                  rintro e w21 ⟨rfl, hb21⟩
                  clear pae0 pae1 pae2 pae3 pbe0 pbe1 pbe2 pbe3 pve0 pve1 pve2 pve3 pue0 pue1 pue2 pue3
                  have hB_7 := hB_6.trans (hb21.mono hB_6.size)
                  have pu_7 := pu_6.below hb21
                  have pa_7 := pa_6.below hb21
                  have pb_7 := pb_6.below hb21
                  have pv_7 := pv_6.below hb21
                  have f1_7 := f1_6.below hb21
                  have f2_7 := f2_6.below hb21
                  have f3_7 := f3_6.below hb21
                  have pq_7 := pq_6.below hb21
                  clear hb21 hB_6 pu_6 pa_6 pb_6 pv_6 f1_6 f2_6 f3_6 pq_6
                  obtain ⟨pae0, pae1, pae2, pae3⟩ := pa_7.open2
                  obtain ⟨pbe0, pbe1, pbe2, pbe3⟩ := pb_7.open2
                  obtain ⟨pve0, pve1, pve2, pve3⟩ := pv_7.open2
                  obtain ⟨pue0, pue1, pue2, pue3⟩ := pu_7.open2
                  go_wp2
                  go_ret
                  exact ⟨rfl, hB_7⟩
            · obtain ⟨pae0, pae1, pae2, pae3⟩ := pa_5.open2
              obtain ⟨pbe0, pbe1, pbe2, pbe3⟩ := pb_5.open2
              obtain ⟨pve0, pve1, pve2, pve3⟩ := pv_5.open2
              obtain ⟨pue0, pue1, pue2, pue3⟩ := pu_5.open2
              rcases hs (by first | rfl | trivial) with rfl | ⟨rfl, hk⟩
              · go_wp2_with fail
                refine (CI.out _).mono ?_
                rintro e w20 ⟨rfl, hb20⟩
                clear pae0 pae1 pae2 pae3 pbe0 pbe1 pbe2 pbe3 pve0 pve1 pve2 pve3 pue0 pue1 pue2 pue3
                have hB_6 := hB_5.trans (hb20.mono hB_5.size)
                have pu_6 := pu_5.below hb20
                have pa_6 := pa_5.below hb20
                have pb_6 := pb_5.below hb20
                have pv_6 := pv_5.below hb20
                have f1_6 := f1_5.below hb20
                have f2_6 := f2_5.below hb20
                have f3_6 := f3_5.below hb20
                have pq_6 := pq_5.below hb20
                clear hb20 hB_5 pu_5 pa_5 pb_5 pv_5 f1_5 f2_5 f3_5 pq_5
                obtain ⟨pae0, pae1, pae2, pae3⟩ := pa_6.open2
                obtain ⟨pbe0, pbe1, pbe2, pbe3⟩ := pb_6.open2
                obtain ⟨pve0, pve1, pve2, pve3⟩ := pv_6.open2
                obtain ⟨pue0, pue1, pue2, pue3⟩ := pu_6.open2
                go_wp2
                go_ret
                exact ⟨rfl, hB_6⟩
              · go_wp2_with fail
                refine (CI.out _).mono ?_
                rintro e w20 ⟨rfl, hb20⟩
                clear pae0 pae1 pae2 pae3 pbe0 pbe1 pbe2 pbe3 pve0 pve1 pve2 pve3 pue0 pue1 pue2 pue3
                have hB_6 := hB_5.trans (hb20.mono hB_5.size)
                have pu_6 := pu_5.below hb20
                have pa_6 := pa_5.below hb20
                have pb_6 := pb_5.below hb20
                have pv_6 := pv_5.below hb20
                have f1_6 := f1_5.below hb20
                have f2_6 := f2_5.below hb20
                have f3_6 := f3_5.below hb20
                have pq_6 := pq_5.below hb20
                clear hb20 hB_5 pu_5 pa_5 pb_5 pv_5 f1_5 f2_5 f3_5 pq_5
                obtain ⟨pae0, pae1, pae2, pae3⟩ := pa_6.open2
                obtain ⟨pbe0, pbe1, pbe2, pbe3⟩ := pb_6.open2
                obtain ⟨pve0, pve1, pve2, pve3⟩ := pv_6.open2
                obtain ⟨pue0, pue1, pue2, pue3⟩ := pu_6.open2
                go_wp2_with fail
                refine (CI.out _).mono ?_
                rintro e w21 ⟨rfl, hb21⟩
                clear pae0 pae1 pae2 pae3 pbe0 pbe1 pbe2 pbe3 pve0 pve1 pve2 pve3 pue0 pue1 pue2 pue3
                have hB_7 := hB_6.trans (hb21.mono hB_6.size)
                have pu_7 := pu_6.below hb21
                have pa_7 := pa_6.below hb21
                have pb_7 := pb_6.below hb21
                have pv_7 := pv_6.below hb21
                have f1_7 := f1_6.below hb21
                have f2_7 := f2_6.below hb21
                have f3_7 := f3_6.below hb21
                have pq_7 := pq_6.below hb21
                clear hb21 hB_6 pu_6 pa_6 pb_6 pv_6 f1_6 f2_6 f3_6 pq_6
                obtain ⟨pae0, pae1, pae2, pae3⟩ := pa_7.open2
                obtain ⟨pbe0, pbe1, pbe2, pbe3⟩ := pb_7.open2
                obtain ⟨pve0, pve1, pve2, pve3⟩ := pv_7.open2
                obtain ⟨pue0, pue1, pue2, pue3⟩ := pu_7.open2
                go_wp2
                go_ret
                exact ⟨rfl, hB_7⟩
          · obtain ⟨pae0, pae1, pae2, pae3⟩ := pa_5.open2
            obtain ⟨pbe0, pbe1, pbe2, pbe3⟩ := pb_5.open2
            obtain ⟨pve0, pve1, pve2, pve3⟩ := pv_5.open2
            obtain ⟨pue0, pue1, pue2, pue3⟩ := pu_5.open2
            rcases hs (by first | rfl | trivial) with rfl | ⟨rfl, hk⟩
            · go_wp2_with fail
              refine (CI.out _).mono ?_
              rintro e w20 ⟨rfl, hb20⟩
              clear pae0 pae1 pae2 pae3 pbe0 pbe1 pbe2 pbe3 pve0 pve1 pve2 pve3 pue0 pue1 pue2 pue3
              have hB_6 := hB_5.trans (hb20.mono hB_5.size)
              have pu_6 := pu_5.below hb20
              have pa_6 := pa_5.below hb20
              have pb_6 := pb_5.below hb20
              have pv_6 := pv_5.below hb20
              have f1_6 := f1_5.below hb20
              have f2_6 := f2_5.below hb20
              have f3_6 := f3_5.below hb20
              have pq_6 := pq_5.below hb20
              clear hb20 hB_5 pu_5 pa_5 pb_5 pv_5 f1_5 f2_5 f3_5 pq_5
              obtain ⟨pae0, pae1, pae2, pae3⟩ := pa_6.open2
              obtain ⟨pbe0, pbe1, pbe2, pbe3⟩ := pb_6.open2
              obtain ⟨pve0, pve1, pve2, pve3⟩ := pv_6.open2
              obtain ⟨pue0, pue1, pue2, pue3⟩ := pu_6.open2
              go_wp2
              go_ret
              exact ⟨rfl, hB_6⟩
            · go_wp2_with fail
              refine (CI.out _).mono ?_
              rintro e w20 ⟨rfl, hb20⟩
              clear pae0 pae1 pae2 pae3 pbe0 pbe1 pbe2 pbe3 pve0 pve1 pve2 pve3 pue0 pue1 pue2 pue3
              have hB_6 := hB_5.trans (hb20.mono hB_5.size)
              have pu_6 := pu_5.below hb20
              have pa_6 := pa_5.below hb20
              have pb_6 := pb_5.below hb20
              have pv_6 := pv_5.below hb20
              have f1_6 := f1_5.below hb20
              have f2_6 := f2_5.below hb20
              have f3_6 := f3_5.below hb20
              have pq_6 := pq_5.below hb20
              clear hb20 hB_5 pu_5 pa_5 pb_5 pv_5 f1_5 f2_5 f3_5 pq_5
              obtain ⟨pae0, pae1, pae2, pae3⟩ := pa_6.open2
              obtain ⟨pbe0, pbe1, pbe2, pbe3⟩ := pb_6.open2
              obtain ⟨pve0, pve1, pve2, pve3⟩ := pv_6.open2
              obtain ⟨pue0, pue1, pue2, pue3⟩ := pu_6.open2
              go_wp2_with fail
              refine (CI.out _).mono ?_
              rintro e w21 ⟨rfl, hb21⟩
              clear pae0 pae1 pae2 pae3 pbe0 pbe1 pbe2 pbe3 pve0 pve1 pve2 pve3 pue0 pue1 pue2 pue3
              have hB_7 := hB_6.trans (hb21.mono hB_6.size)
              have pu_7 := pu_6.below hb21
              have pa_7 := pa_6.below hb21
              have pb_7 := pb_6.below hb21
              have pv_7 := pv_6.below hb21
              have f1_7 := f1_6.below hb21
              have f2_7 := f2_6.below hb21
              have f3_7 := f3_6.below hb21
              have pq_7 := pq_6.below hb21
              clear hb21 hB_6 pu_6 pa_6 pb_6 pv_6 f1_6 f2_6 f3_6 pq_6
              obtain ⟨pae0, pae1, pae2, pae3⟩ := pa_7.open2
              obtain ⟨pbe0, pbe1, pbe2, pbe3⟩ := pb_7.open2
              obtain ⟨pve0, pve1, pve2, pve3⟩ := pv_7.open2
              obtain ⟨pue0, pue1, pue2, pue3⟩ := pu_7.open2
              go_wp2
              go_ret
              exact ⟨rfl, hB_7⟩
    simp only [HAc.out, Act.put, List.setIfInBounds_toArray, List.set_cons_zero, List.set_cons_succ] at stc_4tt
    have stc_4tf : ∀ (w' : World) (m1 : Bool) (o1 : Option Addr) (n1 : Nat) (c1 : Nat) (m2 : Bool) (o2 : Option Addr) (n2 : Nat) (c2 : Nat) (m3 : Bool) (o3 : Option Addr) (n3 : Nat) (c3 : Nat) (m4 : Bool) (o4 : Option Addr) (n4 : Nat) (c4 : Nat) (gpq : Nat), Below w.heap.size w w' → Box w' (w.heap.size + 1) [.int .i64 u0, .int .i64 u1] → Box w' (gpa) [.int .i64 a0, .int .i64 a1] → Box w' (gpb) [.int .i64 v0, .int .i64 v1] → Box w' (gpv) [.int .i64 b0, .int .i64 b1] → Below w14.heap.size w14 w' → RNum w' (.agg #[.bool m1, .slice o1 n1 c1]) (2) (X) → RNum w' (.agg #[.bool m2, .slice o2 n2 c2]) (2) (Y) → RNum w' (.agg #[.bool m3, .slice o3 n3 c3]) (2) (Z) → RNum w' (.agg #[.bool m4, .slice o4 n4 c4]) (5) (X + Y + Z) → Box w' gpq [.bool m1, .slice o1 n1 c1, .bool m2, .slice o2 n2 c2, .bool m3, .slice o3 n3 c3] → w14.heap.size ≤ gpq → WWc 2 #[true, true, true, true, true, true, true, true, true, true, true, true, true, true, false, false] (((((ac.put (some 57) (.agg #[.bool m1, .slice o1 n1 c1])).put (some 61) (.agg #[.bool m2, .slice o2 n2 c2])).put (some 65) (.agg #[.bool m3, .slice o3 n3 c3])).put (some 66) (.slice (some ⟨gpq, 0, none⟩) 3 3)).put (some 67) (.agg #[.bool m4, .slice o4 n4 c4])) w' := by
      intro w17 m1 o1 n1 c1 m2 o2 n2 c2 m3 o3 n3 c3 m4 o4 n4 c4 gpq hB_0 pu_0 pa_0 pb_0 pv_0 hWc_0 f1_0 f2_0 f3_0 f4_0 pq_0 hgpq
      rw [HWc.out, HAc.out]
      try simp only [Act.put]
      try simp only [List.setIfInBounds_toArray, List.set_cons_zero, List.set_cons_succ]
      refine reg_all1 14 ?_ (by kernel_rfl) ?_ (fun K hK => ?_)
      rotate_left 1
      · simp only [List.getElem?_toArray, List.getElem?_cons_succ, List.getElem?_cons_zero]; exact rfl
      · go_simp
        have hgn : w14.heap.size ≤ w17.heap.size := hWc_0.size
        have hlpq := pq_0.lt
        obtain ⟨w18, hww18, ps_0, hb18, -⟩ := new_box w17 _ rfl [.bool false, .slice none 0 0] 29
        rw [hww18]
        have hB_1 := hB_0.trans (hb18.mono hB_0.size)
        have pu_1 := pu_0.below hb18
        have pa_1 := pa_0.below hb18
        have pb_1 := pb_0.below hb18
        have pv_1 := pv_0.below hb18
        have hWc_1 := hWc_0.trans (hb18.mono hWc_0.size)
        have f1_1 := f1_0.below hb18
        have f2_1 := f2_0.below hb18
        have f3_1 := f3_0.below hb18
        have f4_1 := f4_0.below hb18
        have pq_1 := pq_0.below hb18
        clear hb18 hB_0 pu_0 pa_0 pb_0 pv_0 hWc_0 f1_0 f2_0 f3_0 f4_0 pq_0
        refine hK.out _ _ ⟨pa_1.c0, pa_1.c1, pb_1.c0, pb_1.c1, pv_1.c0, pv_1.c1, pu_1.c0, pu_1.c1⟩ (fun hHeld => ?_)
        clear hK K
        try simp only [Act.put]
        try simp only [List.setIfInBounds_toArray, List.set_cons_zero, List.set_cons_succ]
        rw [← HWc.out]
        exact stc_4tt _ m1 o1 n1 c1 m2 o2 n2 c2 m3 o3 n3 c3 m4 o4 n4 c4 gpq w17.heap.size hB_1 pu_1 pa_1 pb_1 pv_1 hWc_1 f1_1 f2_1 f3_1 f4_1 pq_1 ps_0 (by omega) (by omega) (by omega)
    try simp only [HAc.out, Act.put, List.setIfInBounds_toArray, List.set_cons_zero, List.set_cons_succ] at stc_4tf
    have stc_3tt : ∀ (w' : World) (m1 : Bool) (o1 : Option Addr) (n1 : Nat) (c1 : Nat) (m2 : Bool) (o2 : Option Addr) (n2 : Nat) (c2 : Nat) (m3 : Bool) (o3 : Option Addr) (n3 : Nat) (c3 : Nat) (gpq : Nat) (gps : Nat), Below w.heap.size w w' → Box w' (w.heap.size + 1) [.int .i64 u0, .int .i64 u1] → Box w' (gpa) [.int .i64 a0, .int .i64 a1] → Box w' (gpb) [.int .i64 v0, .int .i64 v1] → Box w' (gpv) [.int .i64 b0, .int .i64 b1] → Below w14.heap.size w14 w' → RNum w' (.agg #[.bool m1, .slice o1 n1 c1]) (2) (X) → RNum w' (.agg #[.bool m2, .slice o2 n2 c2]) (2) (Y) → RNum w' (.agg #[.bool m3, .slice o3 n3 c3]) (2) (Z) → Box w' gpq [.bool m1, .slice o1 n1 c1, .bool m2, .slice o2 n2 c2, .bool m3, .slice o3 n3 c3] → Box w' gps [.bool false, .slice none 0 0] → w14.heap.size ≤ gpq → w14.heap.size ≤ gps → gpq ≠ gps → WWc 2 #[true, true, true, true, true, true, true, true, true, true, true, true, true, false, true, false] (((((ac.put (some 57) (.agg #[.bool m1, .slice o1 n1 c1])).put (some 61) (.agg #[.bool m2, .slice o2 n2 c2])).put (some 65) (.agg #[.bool m3, .slice o3 n3 c3])).put (some 66) (.slice (some ⟨gpq, 0, none⟩) 3 3)).put (some 12) (.pointer (some ⟨gps, 0, none⟩))) w' := by
      intro w19 m1 o1 n1 c1 m2 o2 n2 c2 m3 o3 n3 c3 gpq gps hB_0 pu_0 pa_0 pb_0 pv_0 hWc_0 f1_0 f2_0 f3_0 pq_0 ps_0 hgpq hgps hnpqps
      rw [HWc.out, HAc.out]
      try simp only [Act.put]
      try simp only [List.setIfInBounds_toArray, List.set_cons_zero, List.set_cons_succ]
      refine reg_all1 13 ?_ (by kernel_rfl) ?_ (fun K hK => ?_)
      rotate_left 1
      · simp only [List.getElem?_toArray, List.getElem?_cons_succ, List.getElem?_cons_zero]; exact rfl
      · go_simp
        refine (sum_three (some ⟨gpq, 0, none⟩) 3 2 2 2 _ _ _ _ (by omega) (by omega) (by omega) (nums3_box pq_0 f1_0.num f2_0.num f3_0.num)).mono ?_
        rintro e w20 ⟨m4, o4, n4, c4, rfl, f4_0, hb20⟩
        have hB_1 := hB_0.trans (hb20.mono hB_0.size)
        have pu_1 := pu_0.below hb20
        have pa_1 := pa_0.below hb20
        have pb_1 := pb_0.below hb20
        have pv_1 := pv_0.below hb20
        have hWc_1 := hWc_0.trans (hb20.mono hWc_0.size)
        have f1_1 := f1_0.below hb20
        have f2_1 := f2_0.below hb20
        have f3_1 := f3_0.below hb20
        have pq_1 := pq_0.below hb20
        have ps_1 := ps_0.below hb20
        clear hb20 hB_0 pu_0 pa_0 pb_0 pv_0 hWc_0 f1_0 f2_0 f3_0 pq_0 ps_0
        go_wp2_with fail
        refine hK.out _ _ ⟨pa_1.c0, pa_1.c1, pb_1.c0, pb_1.c1, pv_1.c0, pv_1.c1, pu_1.c0, pu_1.c1⟩ (fun hHeld => ?_)
        clear hK K
        try simp only [Act.put]
        try simp only [List.setIfInBounds_toArray, List.set_cons_zero, List.set_cons_succ]
        rw [← HWc.out]
        exact stc_4tt _ m1 o1 n1 c1 m2 o2 n2 c2 m3 o3 n3 c3 m4 o4 n4 c4 gpq gps hB_1 pu_1 pa_1 pb_1 pv_1 hWc_1 f1_1 f2_1 f3_1 f4_0 pq_1 ps_1 (by omega) (by omega) (by omega)
    try simp only [HAc.out, Act.put, List.setIfInBounds_toArray, List.set_cons_zero, List.set_cons_succ] at stc_3tt
    have stc_3tf : ∀ (w' : World) (m1 : Bool) (o1 : Option Addr) (n1 : Nat) (c1 : Nat) (m2 : Bool) (o2 : Option Addr) (n2 : Nat) (c2 : Nat) (m3 : Bool) (o3 : Option Addr) (n3 : Nat) (c3 : Nat) (gpq : Nat), Below w.heap.size w w' → Box w' (w.heap.size + 1) [.int .i64 u0, .int .i64 u1] → Box w' (gpa) [.int .i64 a0, .int .i64 a1] → Box w' (gpb) [.int .i64 v0, .int .i64 v1] → Box w' (gpv) [.int .i64 b0, .int .i64 b1] → Below w14.heap.size w14 w' → RNum w' (.agg #[.bool m1, .slice o1 n1 c1]) (2) (X) → RNum w' (.agg #[.bool m2, .slice o2 n2 c2]) (2) (Y) → RNum w' (.agg #[.bool m3, .slice o3 n3 c3]) (2) (Z) → Box w' gpq [.bool m1, .slice o1 n1 c1, .bool m2, .slice o2 n2 c2, .bool m3, .slice o3 n3 c3] → w14.heap.size ≤ gpq → WWc 3 #[true, true, true, true, true, true, true, true, true, true, true, true, true, false, false, false] ((((ac.put (some 57) (.agg #[.bool m1, .slice o1 n1 c1])).put (some 61) (.agg #[.bool m2, .slice o2 n2 c2])).put (some 65) (.agg #[.bool m3, .slice o3 n3 c3])).put (some 66) (.slice (some ⟨gpq, 0, none⟩) 3 3)) w' := by
      intro w21 m1 o1 n1 c1 m2 o2 n2 c2 m3 o3 n3 c3 gpq hB_0 pu_0 pa_0 pb_0 pv_0 hWc_0 f1_0 f2_0 f3_0 pq_0 hgpq
      rw [HWc.out, HAc.out]
      try simp only [Act.put]
      try simp only [List.setIfInBounds_toArray, List.set_cons_zero, List.set_cons_succ]
      refine reg_all2 13 14 ?_ ?_ (by kernel_rfl) ?_ ?_ (fun K hK => ?_) (fun K hK => ?_)
      rotate_left 2
      · simp only [List.getElem?_toArray, List.getElem?_cons_succ, List.getElem?_cons_zero]; exact rfl
      · simp only [List.getElem?_toArray, List.getElem?_cons_succ, List.getElem?_cons_zero]; exact rfl
      · go_simp
        refine (sum_three (some ⟨gpq, 0, none⟩) 3 2 2 2 _ _ _ _ (by omega) (by omega) (by omega) (nums3_box pq_0 f1_0.num f2_0.num f3_0.num)).mono ?_
        rintro e w22 ⟨m4, o4, n4, c4, rfl, f4_0, hb22⟩
        have hB_1 := hB_0.trans (hb22.mono hB_0.size)
        have pu_1 := pu_0.below hb22
        have pa_1 := pa_0.below hb22
        have pb_1 := pb_0.below hb22
        have pv_1 := pv_0.below hb22
        have hWc_1 := hWc_0.trans (hb22.mono hWc_0.size)
        have f1_1 := f1_0.below hb22
        have f2_1 := f2_0.below hb22
        have f3_1 := f3_0.below hb22
        have pq_1 := pq_0.below hb22
        clear hb22 hB_0 pu_0 pa_0 pb_0 pv_0 hWc_0 f1_0 f2_0 f3_0 pq_0
        go_wp2_with fail
        refine hK.out _ _ ⟨pa_1.c0, pa_1.c1, pb_1.c0, pb_1.c1, pv_1.c0, pv_1.c1, pu_1.c0, pu_1.c1⟩ (fun hHeld => ?_)
        clear hK K
        try simp only [Act.put]
        try simp only [List.setIfInBounds_toArray, List.set_cons_zero, List.set_cons_succ]
        rw [← HWc.out]
        exact stc_4tf _ m1 o1 n1 c1 m2 o2 n2 c2 m3 o3 n3 c3 m4 o4 n4 c4 gpq hB_1 pu_1 pa_1 pb_1 pv_1 hWc_1 f1_1 f2_1 f3_1 f4_0 pq_1 (by omega)
      · go_simp
        have hgn : w14.heap.size ≤ w21.heap.size := hWc_0.size
        have hlpq := pq_0.lt
        obtain ⟨w23, hww23, ps_0, hb23, -⟩ := new_box w21 _ rfl [.bool false, .slice none 0 0] 29
        rw [hww23]
        have hB_1 := hB_0.trans (hb23.mono hB_0.size)
        have pu_1 := pu_0.below hb23
        have pa_1 := pa_0.below hb23
        have pb_1 := pb_0.below hb23
        have pv_1 := pv_0.below hb23
        have hWc_1 := hWc_0.trans (hb23.mono hWc_0.size)
        have f1_1 := f1_0.below hb23
        have f2_1 := f2_0.below hb23
        have f3_1 := f3_0.below hb23
        have pq_1 := pq_0.below hb23
        clear hb23 hB_0 pu_0 pa_0 pb_0 pv_0 hWc_0 f1_0 f2_0 f3_0 pq_0
        refine hK.out _ _ ⟨pa_1.c0, pa_1.c1, pb_1.c0, pb_1.c1, pv_1.c0, pv_1.c1, pu_1.c0, pu_1.c1⟩ (fun hHeld => ?_)
        clear hK K
        try simp only [Act.put]
        try simp only [List.setIfInBounds_toArray, List.set_cons_zero, List.set_cons_succ]
        rw [← HWc.out]
        exact stc_3tt _ m1 o1 n1 c1 m2 o2 n2 c2 m3 o3 n3 c3 gpq w21.heap.size hB_1 pu_1 pa_1 pb_1 pv_1 hWc_1 f1_1 f2_1 f3_1 pq_1 ps_0 (by omega) (by omega) (by omega)
    try simp only [HAc.out, Act.put, List.setIfInBounds_toArray, List.set_cons_zero, List.set_cons_succ] at stc_3tf
    have stc_3ft : ∀ (w' : World) (m1 : Bool) (o1 : Option Addr) (n1 : Nat) (c1 : Nat) (m2 : Bool) (o2 : Option Addr) (n2 : Nat) (c2 : Nat) (m3 : Bool) (o3 : Option Addr) (n3 : Nat) (c3 : Nat) (gps : Nat), Below w.heap.size w w' → Box w' (w.heap.size + 1) [.int .i64 u0, .int .i64 u1] → Box w' (gpa) [.int .i64 a0, .int .i64 a1] → Box w' (gpb) [.int .i64 v0, .int .i64 v1] → Box w' (gpv) [.int .i64 b0, .int .i64 b1] → Below w14.heap.size w14 w' → RNum w' (.agg #[.bool m1, .slice o1 n1 c1]) (2) (X) → RNum w' (.agg #[.bool m2, .slice o2 n2 c2]) (2) (Y) → RNum w' (.agg #[.bool m3, .slice o3 n3 c3]) (2) (Z) → Box w' gps [.bool false, .slice none 0 0] → w14.heap.size ≤ gps → WWc 3 #[true, true, true, true, true, true, true, true, true, true, true, true, false, false, true, false] ((((ac.put (some 57) (.agg #[.bool m1, .slice o1 n1 c1])).put (some 61) (.agg #[.bool m2, .slice o2 n2 c2])).put (some 65) (.agg #[.bool m3, .slice o3 n3 c3])).put (some 12) (.pointer (some ⟨gps, 0, none⟩))) w' := by
      intro w24 m1 o1 n1 c1 m2 o2 n2 c2 m3 o3 n3 c3 gps hB_0 pu_0 pa_0 pb_0 pv_0 hWc_0 f1_0 f2_0 f3_0 ps_0 hgps
      rw [HWc.out, HAc.out]
      try simp only [Act.put]
      try simp only [List.setIfInBounds_toArray, List.set_cons_zero, List.set_cons_succ]
      refine reg_all1 12 ?_ (by kernel_rfl) ?_ (fun K hK => ?_)
      rotate_left 1
      · simp only [List.getElem?_toArray, List.getElem?_cons_succ, List.getElem?_cons_zero]; exact rfl
      · go_simp
        have hgn : w14.heap.size ≤ w24.heap.size := hWc_0.size
        have hlps := ps_0.lt
        obtain ⟨w25, hww25, pq_0, hb25, -⟩ := new_box w24 _ rfl [.bool m1, .slice o1 n1 c1, .bool m2, .slice o2 n2 c2, .bool m3, .slice o3 n3 c3] 29
        rw [hww25]
        have hB_1 := hB_0.trans (hb25.mono hB_0.size)
        have pu_1 := pu_0.below hb25
        have pa_1 := pa_0.below hb25
        have pb_1 := pb_0.below hb25
        have pv_1 := pv_0.below hb25
        have hWc_1 := hWc_0.trans (hb25.mono hWc_0.size)
        have f1_1 := f1_0.below hb25
        have f2_1 := f2_0.below hb25
        have f3_1 := f3_0.below hb25
        have ps_1 := ps_0.below hb25
        clear hb25 hB_0 pu_0 pa_0 pb_0 pv_0 hWc_0 f1_0 f2_0 f3_0 ps_0
        refine hK.out _ _ ⟨pa_1.c0, pa_1.c1, pb_1.c0, pb_1.c1, pv_1.c0, pv_1.c1, pu_1.c0, pu_1.c1⟩ (fun hHeld => ?_)
        clear hK K
        try simp only [Act.put]
        try simp only [List.setIfInBounds_toArray, List.set_cons_zero, List.set_cons_succ]
        rw [← HWc.out]
        exact stc_3tt _ m1 o1 n1 c1 m2 o2 n2 c2 m3 o3 n3 c3 w24.heap.size gps hB_1 pu_1 pa_1 pb_1 pv_1 hWc_1 f1_1 f2_1 f3_1 pq_0 ps_1 (by omega) (by omega) (by omega)
    try simp only [HAc.out, Act.put, List.setIfInBounds_toArray, List.set_cons_zero, List.set_cons_succ] at stc_3ft
    have stc_3ff : ∀ (w' : World) (m1 : Bool) (o1 : Option Addr) (n1 : Nat) (c1 : Nat) (m2 : Bool) (o2 : Option Addr) (n2 : Nat) (c2 : Nat) (m3 : Bool) (o3 : Option Addr) (n3 : Nat) (c3 : Nat), Below w.heap.size w w' → Box w' (w.heap.size + 1) [.int .i64 u0, .int .i64 u1] → Box w' (gpa) [.int .i64 a0, .int .i64 a1] → Box w' (gpb) [.int .i64 v0, .int .i64 v1] → Box w' (gpv) [.int .i64 b0, .int .i64 b1] → Below w14.heap.size w14 w' → RNum w' (.agg #[.bool m1, .slice o1 n1 c1]) (2) (X) → RNum w' (.agg #[.bool m2, .slice o2 n2 c2]) (2) (Y) → RNum w' (.agg #[.bool m3, .slice o3 n3 c3]) (2) (Z) → WWc 4 #[true, true, true, true, true, true, true, true, true, true, true, true, false, false, false, false] (((ac.put (some 57) (.agg #[.bool m1, .slice o1 n1 c1])).put (some 61) (.agg #[.bool m2, .slice o2 n2 c2])).put (some 65) (.agg #[.bool m3, .slice o3 n3 c3])) w' := by
      intro w26 m1 o1 n1 c1 m2 o2 n2 c2 m3 o3 n3 c3 hB_0 pu_0 pa_0 pb_0 pv_0 hWc_0 f1_0 f2_0 f3_0
      rw [HWc.out, HAc.out]
      try simp only [Act.put]
      try simp only [List.setIfInBounds_toArray, List.set_cons_zero, List.set_cons_succ]
      refine reg_all2 12 14 ?_ ?_ (by kernel_rfl) ?_ ?_ (fun K hK => ?_) (fun K hK => ?_)
      rotate_left 2
      · simp only [List.getElem?_toArray, List.getElem?_cons_succ, List.getElem?_cons_zero]; exact rfl
      · simp only [List.getElem?_toArray, List.getElem?_cons_succ, List.getElem?_cons_zero]; exact rfl
      · go_simp
        have hgn : w14.heap.size ≤ w26.heap.size := hWc_0.size
        obtain ⟨w27, hww27, pq_0, hb27, -⟩ := new_box w26 _ rfl [.bool m1, .slice o1 n1 c1, .bool m2, .slice o2 n2 c2, .bool m3, .slice o3 n3 c3] 29
        rw [hww27]
        have hB_1 := hB_0.trans (hb27.mono hB_0.size)
        have pu_1 := pu_0.below hb27
        have pa_1 := pa_0.below hb27
        have pb_1 := pb_0.below hb27
        have pv_1 := pv_0.below hb27
        have hWc_1 := hWc_0.trans (hb27.mono hWc_0.size)
        have f1_1 := f1_0.below hb27
        have f2_1 := f2_0.below hb27
        have f3_1 := f3_0.below hb27
        clear hb27 hB_0 pu_0 pa_0 pb_0 pv_0 hWc_0 f1_0 f2_0 f3_0
        refine hK.out _ _ ⟨pa_1.c0, pa_1.c1, pb_1.c0, pb_1.c1, pv_1.c0, pv_1.c1, pu_1.c0, pu_1.c1⟩ (fun hHeld => ?_)
        clear hK K
        try simp only [Act.put]
        try simp only [List.setIfInBounds_toArray, List.set_cons_zero, List.set_cons_succ]
        rw [← HWc.out]
        exact stc_3tf _ m1 o1 n1 c1 m2 o2 n2 c2 m3 o3 n3 c3 w26.heap.size hB_1 pu_1 pa_1 pb_1 pv_1 hWc_1 f1_1 f2_1 f3_1 pq_0 (by omega)
      · go_simp
        have hgn : w14.heap.size ≤ w26.heap.size := hWc_0.size
        obtain ⟨w28, hww28, ps_0, hb28, -⟩ := new_box w26 _ rfl [.bool false, .slice none 0 0] 29
        rw [hww28]
        have hB_1 := hB_0.trans (hb28.mono hB_0.size)
        have pu_1 := pu_0.below hb28
        have pa_1 := pa_0.below hb28
        have pb_1 := pb_0.below hb28
        have pv_1 := pv_0.below hb28
        have hWc_1 := hWc_0.trans (hb28.mono hWc_0.size)
        have f1_1 := f1_0.below hb28
        have f2_1 := f2_0.below hb28
        have f3_1 := f3_0.below hb28
        clear hb28 hB_0 pu_0 pa_0 pb_0 pv_0 hWc_0 f1_0 f2_0 f3_0
        refine hK.out _ _ ⟨pa_1.c0, pa_1.c1, pb_1.c0, pb_1.c1, pv_1.c0, pv_1.c1, pu_1.c0, pu_1.c1⟩ (fun hHeld => ?_)
        clear hK K
        try simp only [Act.put]
        try simp only [List.setIfInBounds_toArray, List.set_cons_zero, List.set_cons_succ]
        rw [← HWc.out]
        exact stc_3ft _ m1 o1 n1 c1 m2 o2 n2 c2 m3 o3 n3 c3 w26.heap.size hB_1 pu_1 pa_1 pb_1 pv_1 hWc_1 f1_1 f2_1 f3_1 ps_0 (by omega)
    try simp only [HAc.out, Act.put, List.setIfInBounds_toArray, List.set_cons_zero, List.set_cons_succ] at stc_3ff
    have stc_2ft : ∀ (w' : World) (m1 : Bool) (o1 : Option Addr) (n1 : Nat) (c1 : Nat) (m2 : Bool) (o2 : Option Addr) (n2 : Nat) (c2 : Nat) (gps : Nat), Below w.heap.size w w' → Box w' (w.heap.size + 1) [.int .i64 u0, .int .i64 u1] → Box w' (gpa) [.int .i64 a0, .int .i64 a1] → Box w' (gpb) [.int .i64 v0, .int .i64 v1] → Box w' (gpv) [.int .i64 b0, .int .i64 b1] → Below w14.heap.size w14 w' → RNum w' (.agg #[.bool m1, .slice o1 n1 c1]) (2) (X) → RNum w' (.agg #[.bool m2, .slice o2 n2 c2]) (2) (Y) → Box w' gps [.bool false, .slice none 0 0] → w14.heap.size ≤ gps → WWc 4 #[true, true, true, true, true, true, true, true, true, true, true, false, false, false, true, false] (((ac.put (some 57) (.agg #[.bool m1, .slice o1 n1 c1])).put (some 61) (.agg #[.bool m2, .slice o2 n2 c2])).put (some 12) (.pointer (some ⟨gps, 0, none⟩))) w' := by
      intro w29 m1 o1 n1 c1 m2 o2 n2 c2 gps hB_0 pu_0 pa_0 pb_0 pv_0 hWc_0 f1_0 f2_0 ps_0 hgps
      rw [HWc.out, HAc.out]
      try simp only [Act.put]
      try simp only [List.setIfInBounds_toArray, List.set_cons_zero, List.set_cons_succ]
      refine reg_all1 11 ?_ (by kernel_rfl) ?_ (fun K hK => ?_)
      rotate_left 1
      · simp only [List.getElem?_toArray, List.getElem?_cons_succ, List.getElem?_cons_zero]; exact rfl
      · go_simp
        refine (AZ.out _).mono ?_
        rintro e w30 ⟨m3, o3, n3, c3, rfl, f3_0, hb30⟩
        have hB_1 := hB_0.trans (hb30.mono hB_0.size)
        have pu_1 := pu_0.below hb30
        have pa_1 := pa_0.below hb30
        have pb_1 := pb_0.below hb30
        have pv_1 := pv_0.below hb30
        have hWc_1 := hWc_0.trans (hb30.mono hWc_0.size)
        have f1_1 := f1_0.below hb30
        have f2_1 := f2_0.below hb30
        have ps_1 := ps_0.below hb30
        clear hb30 hB_0 pu_0 pa_0 pb_0 pv_0 hWc_0 f1_0 f2_0 ps_0
        go_wp2_with fail
        refine hK.out _ _ ⟨pa_1.c0, pa_1.c1, pb_1.c0, pb_1.c1, pv_1.c0, pv_1.c1, pu_1.c0, pu_1.c1⟩ (fun hHeld => ?_)
        clear hK K
        try simp only [Act.put]
        try simp only [List.setIfInBounds_toArray, List.set_cons_zero, List.set_cons_succ]
        rw [← HWc.out]
        exact stc_3ft _ m1 o1 n1 c1 m2 o2 n2 c2 m3 o3 n3 c3 gps hB_1 pu_1 pa_1 pb_1 pv_1 hWc_1 f1_1 f2_1 f3_0 ps_1 (by omega)
    try simp only [HAc.out, Act.put, List.setIfInBounds_toArray, List.set_cons_zero, List.set_cons_succ] at stc_2ft
    have stc_2ff : ∀ (w' : World) (m1 : Bool) (o1 : Option Addr) (n1 : Nat) (c1 : Nat) (m2 : Bool) (o2 : Option Addr) (n2 : Nat) (c2 : Nat), Below w.heap.size w w' → Box w' (w.heap.size + 1) [.int .i64 u0, .int .i64 u1] → Box w' (gpa) [.int .i64 a0, .int .i64 a1] → Box w' (gpb) [.int .i64 v0, .int .i64 v1] → Box w' (gpv) [.int .i64 b0, .int .i64 b1] → Below w14.heap.size w14 w' → RNum w' (.agg #[.bool m1, .slice o1 n1 c1]) (2) (X) → RNum w' (.agg #[.bool m2, .slice o2 n2 c2]) (2) (Y) → WWc 5 #[true, true, true, true, true, true, true, true, true, true, true, false, false, false, false, false] ((ac.put (some 57) (.agg #[.bool m1, .slice o1 n1 c1])).put (some 61) (.agg #[.bool m2, .slice o2 n2 c2])) w' := by
      intro w31 m1 o1 n1 c1 m2 o2 n2 c2 hB_0 pu_0 pa_0 pb_0 pv_0 hWc_0 f1_0 f2_0
      rw [HWc.out, HAc.out]
      try simp only [Act.put]
      try simp only [List.setIfInBounds_toArray, List.set_cons_zero, List.set_cons_succ]
      refine reg_all2 11 14 ?_ ?_ (by kernel_rfl) ?_ ?_ (fun K hK => ?_) (fun K hK => ?_)
      rotate_left 2
      · simp only [List.getElem?_toArray, List.getElem?_cons_succ, List.getElem?_cons_zero]; exact rfl
      · simp only [List.getElem?_toArray, List.getElem?_cons_succ, List.getElem?_cons_zero]; exact rfl
      · go_simp
        refine (AZ.out _).mono ?_
        rintro e w32 ⟨m3, o3, n3, c3, rfl, f3_0, hb32⟩
        have hB_1 := hB_0.trans (hb32.mono hB_0.size)
        have pu_1 := pu_0.below hb32
        have pa_1 := pa_0.below hb32
        have pb_1 := pb_0.below hb32
        have pv_1 := pv_0.below hb32
        have hWc_1 := hWc_0.trans (hb32.mono hWc_0.size)
        have f1_1 := f1_0.below hb32
        have f2_1 := f2_0.below hb32
        clear hb32 hB_0 pu_0 pa_0 pb_0 pv_0 hWc_0 f1_0 f2_0
        go_wp2_with fail
        refine hK.out _ _ ⟨pa_1.c0, pa_1.c1, pb_1.c0, pb_1.c1, pv_1.c0, pv_1.c1, pu_1.c0, pu_1.c1⟩ (fun hHeld => ?_)
        clear hK K
        try simp only [Act.put]
        try simp only [List.setIfInBounds_toArray, List.set_cons_zero, List.set_cons_succ]
        rw [← HWc.out]
        exact stc_3ff _ m1 o1 n1 c1 m2 o2 n2 c2 m3 o3 n3 c3 hB_1 pu_1 pa_1 pb_1 pv_1 hWc_1 f1_1 f2_1 f3_0
      · go_simp
        have hgn : w14.heap.size ≤ w31.heap.size := hWc_0.size
        obtain ⟨w33, hww33, ps_0, hb33, -⟩ := new_box w31 _ rfl [.bool false, .slice none 0 0] 29
        rw [hww33]
        have hB_1 := hB_0.trans (hb33.mono hB_0.size)
        have pu_1 := pu_0.below hb33
        have pa_1 := pa_0.below hb33
        have pb_1 := pb_0.below hb33
        have pv_1 := pv_0.below hb33
        have hWc_1 := hWc_0.trans (hb33.mono hWc_0.size)
        have f1_1 := f1_0.below hb33
        have f2_1 := f2_0.below hb33
        clear hb33 hB_0 pu_0 pa_0 pb_0 pv_0 hWc_0 f1_0 f2_0
        refine hK.out _ _ ⟨pa_1.c0, pa_1.c1, pb_1.c0, pb_1.c1, pv_1.c0, pv_1.c1, pu_1.c0, pu_1.c1⟩ (fun hHeld => ?_)
        clear hK K
        try simp only [Act.put]
        try simp only [List.setIfInBounds_toArray, List.set_cons_zero, List.set_cons_succ]
        rw [← HWc.out]
        exact stc_2ft _ m1 o1 n1 c1 m2 o2 n2 c2 w31.heap.size hB_1 pu_1 pa_1 pb_1 pv_1 hWc_1 f1_1 f2_1 ps_0 (by omega)
    try simp only [HAc.out, Act.put, List.setIfInBounds_toArray, List.set_cons_zero, List.set_cons_succ] at stc_2ff
    have stc_1ft : ∀ (w' : World) (m1 : Bool) (o1 : Option Addr) (n1 : Nat) (c1 : Nat) (gps : Nat), Below w.heap.size w w' → Box w' (w.heap.size + 1) [.int .i64 u0, .int .i64 u1] → Box w' (gpa) [.int .i64 a0, .int .i64 a1] → Box w' (gpb) [.int .i64 v0, .int .i64 v1] → Box w' (gpv) [.int .i64 b0, .int .i64 b1] → Below w14.heap.size w14 w' → RNum w' (.agg #[.bool m1, .slice o1 n1 c1]) (2) (X) → Box w' gps [.bool false, .slice none 0 0] → w14.heap.size ≤ gps → WWc 5 #[true, true, true, true, true, true, true, false, true, true, true, false, false, false, true, false] ((ac.put (some 57) (.agg #[.bool m1, .slice o1 n1 c1])).put (some 12) (.pointer (some ⟨gps, 0, none⟩))) w' := by
      intro w34 m1 o1 n1 c1 gps hB_0 pu_0 pa_0 pb_0 pv_0 hWc_0 f1_0 ps_0 hgps
      rw [HWc.out, HAc.out]
      try simp only [Act.put]
      try simp only [List.setIfInBounds_toArray, List.set_cons_zero, List.set_cons_succ]
      refine reg_all1 7 ?_ (by kernel_rfl) ?_ (fun K hK => ?_)
      rotate_left 1
      · simp only [List.getElem?_toArray, List.getElem?_cons_succ, List.getElem?_cons_zero]; exact rfl
      · go_simp
        refine (AY.out _).mono ?_
        rintro e w35 ⟨m2, o2, n2, c2, rfl, f2_0, hb35⟩
        have hB_1 := hB_0.trans (hb35.mono hB_0.size)
        have pu_1 := pu_0.below hb35
        have pa_1 := pa_0.below hb35
        have pb_1 := pb_0.below hb35
        have pv_1 := pv_0.below hb35
        have hWc_1 := hWc_0.trans (hb35.mono hWc_0.size)
        have f1_1 := f1_0.below hb35
        have ps_1 := ps_0.below hb35
        clear hb35 hB_0 pu_0 pa_0 pb_0 pv_0 hWc_0 f1_0 ps_0
        go_wp2_with fail
        refine hK.out _ _ ⟨pa_1.c0, pa_1.c1, pb_1.c0, pb_1.c1, pv_1.c0, pv_1.c1, pu_1.c0, pu_1.c1⟩ (fun hHeld => ?_)
        clear hK K
        try simp only [Act.put]
        try simp only [List.setIfInBounds_toArray, List.set_cons_zero, List.set_cons_succ]
        rw [← HWc.out]
        exact stc_2ft _ m1 o1 n1 c1 m2 o2 n2 c2 gps hB_1 pu_1 pa_1 pb_1 pv_1 hWc_1 f1_1 f2_0 ps_1 (by omega)
    try simp only [HAc.out, Act.put, List.setIfInBounds_toArray, List.set_cons_zero, List.set_cons_succ] at stc_1ft
    have stc_1ff : ∀ (w' : World) (m1 : Bool) (o1 : Option Addr) (n1 : Nat) (c1 : Nat), Below w.heap.size w w' → Box w' (w.heap.size + 1) [.int .i64 u0, .int .i64 u1] → Box w' (gpa) [.int .i64 a0, .int .i64 a1] → Box w' (gpb) [.int .i64 v0, .int .i64 v1] → Box w' (gpv) [.int .i64 b0, .int .i64 b1] → Below w14.heap.size w14 w' → RNum w' (.agg #[.bool m1, .slice o1 n1 c1]) (2) (X) → WWc 6 #[true, true, true, true, true, true, true, false, true, true, true, false, false, false, false, false] (ac.put (some 57) (.agg #[.bool m1, .slice o1 n1 c1])) w' := by
      intro w36 m1 o1 n1 c1 hB_0 pu_0 pa_0 pb_0 pv_0 hWc_0 f1_0
      rw [HWc.out, HAc.out]
      try simp only [Act.put]
      try simp only [List.setIfInBounds_toArray, List.set_cons_zero, List.set_cons_succ]
      refine reg_all2 7 14 ?_ ?_ (by kernel_rfl) ?_ ?_ (fun K hK => ?_) (fun K hK => ?_)
      rotate_left 2
      · simp only [List.getElem?_toArray, List.getElem?_cons_succ, List.getElem?_cons_zero]; exact rfl
      · simp only [List.getElem?_toArray, List.getElem?_cons_succ, List.getElem?_cons_zero]; exact rfl
      · go_simp
        refine (AY.out _).mono ?_
        rintro e w37 ⟨m2, o2, n2, c2, rfl, f2_0, hb37⟩
        have hB_1 := hB_0.trans (hb37.mono hB_0.size)
        have pu_1 := pu_0.below hb37
        have pa_1 := pa_0.below hb37
        have pb_1 := pb_0.below hb37
        have pv_1 := pv_0.below hb37
        have hWc_1 := hWc_0.trans (hb37.mono hWc_0.size)
        have f1_1 := f1_0.below hb37
        clear hb37 hB_0 pu_0 pa_0 pb_0 pv_0 hWc_0 f1_0
        go_wp2_with fail
        refine hK.out _ _ ⟨pa_1.c0, pa_1.c1, pb_1.c0, pb_1.c1, pv_1.c0, pv_1.c1, pu_1.c0, pu_1.c1⟩ (fun hHeld => ?_)
        clear hK K
        try simp only [Act.put]
        try simp only [List.setIfInBounds_toArray, List.set_cons_zero, List.set_cons_succ]
        rw [← HWc.out]
        exact stc_2ff _ m1 o1 n1 c1 m2 o2 n2 c2 hB_1 pu_1 pa_1 pb_1 pv_1 hWc_1 f1_1 f2_0
      · go_simp
        have hgn : w14.heap.size ≤ w36.heap.size := hWc_0.size
        obtain ⟨w38, hww38, ps_0, hb38, -⟩ := new_box w36 _ rfl [.bool false, .slice none 0 0] 29
        rw [hww38]
        have hB_1 := hB_0.trans (hb38.mono hB_0.size)
        have pu_1 := pu_0.below hb38
        have pa_1 := pa_0.below hb38
        have pb_1 := pb_0.below hb38
        have pv_1 := pv_0.below hb38
        have hWc_1 := hWc_0.trans (hb38.mono hWc_0.size)
        have f1_1 := f1_0.below hb38
        clear hb38 hB_0 pu_0 pa_0 pb_0 pv_0 hWc_0 f1_0
        refine hK.out _ _ ⟨pa_1.c0, pa_1.c1, pb_1.c0, pb_1.c1, pv_1.c0, pv_1.c1, pu_1.c0, pu_1.c1⟩ (fun hHeld => ?_)
        clear hK K
        try simp only [Act.put]
        try simp only [List.setIfInBounds_toArray, List.set_cons_zero, List.set_cons_succ]
        rw [← HWc.out]
        exact stc_1ft _ m1 o1 n1 c1 w36.heap.size hB_1 pu_1 pa_1 pb_1 pv_1 hWc_1 f1_1 ps_0 (by omega)
    try simp only [HAc.out, Act.put, List.setIfInBounds_toArray, List.set_cons_zero, List.set_cons_succ] at stc_1ff
    have stc_0ft : ∀ (w' : World) (gps : Nat), Below w.heap.size w w' → Box w' (w.heap.size + 1) [.int .i64 u0, .int .i64 u1] → Box w' (gpa) [.int .i64 a0, .int .i64 a1] → Box w' (gpb) [.int .i64 v0, .int .i64 v1] → Box w' (gpv) [.int .i64 b0, .int .i64 b1] → Below w14.heap.size w14 w' → Box w' gps [.bool false, .slice none 0 0] → w14.heap.size ≤ gps → WWc 6 #[true, true, true, false, true, true, true, false, true, true, true, false, false, false, true, false] (ac.put (some 12) (.pointer (some ⟨gps, 0, none⟩))) w' := by
      intro w39 gps hB_0 pu_0 pa_0 pb_0 pv_0 hWc_0 ps_0 hgps
      rw [HWc.out, HAc.out]
      try simp only [Act.put]
      try simp only [List.setIfInBounds_toArray, List.set_cons_zero, List.set_cons_succ]
      refine reg_all1 3 ?_ (by kernel_rfl) ?_ (fun K hK => ?_)
      rotate_left 1
      · simp only [List.getElem?_toArray, List.getElem?_cons_succ, List.getElem?_cons_zero]; exact rfl
      · go_simp
        refine (AX.out _).mono ?_
        rintro e w40 ⟨m1, o1, n1, c1, rfl, f1_0, hb40⟩
        have hB_1 := hB_0.trans (hb40.mono hB_0.size)
        have pu_1 := pu_0.below hb40
        have pa_1 := pa_0.below hb40
        have pb_1 := pb_0.below hb40
        have pv_1 := pv_0.below hb40
        have hWc_1 := hWc_0.trans (hb40.mono hWc_0.size)
        have ps_1 := ps_0.below hb40
        clear hb40 hB_0 pu_0 pa_0 pb_0 pv_0 hWc_0 ps_0
        go_wp2_with fail
        refine hK.out _ _ ⟨pa_1.c0, pa_1.c1, pb_1.c0, pb_1.c1, pv_1.c0, pv_1.c1, pu_1.c0, pu_1.c1⟩ (fun hHeld => ?_)
        clear hK K
        try simp only [Act.put]
        try simp only [List.setIfInBounds_toArray, List.set_cons_zero, List.set_cons_succ]
        rw [← HWc.out]
        exact stc_1ft _ m1 o1 n1 c1 gps hB_1 pu_1 pa_1 pb_1 pv_1 hWc_1 f1_0 ps_1 (by omega)
    try simp only [HAc.out, Act.put, List.setIfInBounds_toArray, List.set_cons_zero, List.set_cons_succ] at stc_0ft
    have stc_0ff : ∀ (w' : World), Below w.heap.size w w' → Box w' (w.heap.size + 1) [.int .i64 u0, .int .i64 u1] → Box w' (gpa) [.int .i64 a0, .int .i64 a1] → Box w' (gpb) [.int .i64 v0, .int .i64 v1] → Box w' (gpv) [.int .i64 b0, .int .i64 b1] → Below w14.heap.size w14 w' → WWc 7 #[true, true, true, false, true, true, true, false, true, true, true, false, false, false, false, false] ac w' := by
      intro w41 hB_0 pu_0 pa_0 pb_0 pv_0 hWc_0
      rw [HWc.out, HAc.out]
      try simp only [Act.put]
      try simp only [List.setIfInBounds_toArray, List.set_cons_zero, List.set_cons_succ]
      refine reg_all2 3 14 ?_ ?_ (by kernel_rfl) ?_ ?_ (fun K hK => ?_) (fun K hK => ?_)
      rotate_left 2
      · simp only [List.getElem?_toArray, List.getElem?_cons_succ, List.getElem?_cons_zero]; exact rfl
      · simp only [List.getElem?_toArray, List.getElem?_cons_succ, List.getElem?_cons_zero]; exact rfl
      · go_simp
        refine (AX.out _).mono ?_
        rintro e w42 ⟨m1, o1, n1, c1, rfl, f1_0, hb42⟩
        have hB_1 := hB_0.trans (hb42.mono hB_0.size)
        have pu_1 := pu_0.below hb42
        have pa_1 := pa_0.below hb42
        have pb_1 := pb_0.below hb42
        have pv_1 := pv_0.below hb42
        have hWc_1 := hWc_0.trans (hb42.mono hWc_0.size)
        clear hb42 hB_0 pu_0 pa_0 pb_0 pv_0 hWc_0
        go_wp2_with fail
        refine hK.out _ _ ⟨pa_1.c0, pa_1.c1, pb_1.c0, pb_1.c1, pv_1.c0, pv_1.c1, pu_1.c0, pu_1.c1⟩ (fun hHeld => ?_)
        clear hK K
        try simp only [Act.put]
        try simp only [List.setIfInBounds_toArray, List.set_cons_zero, List.set_cons_succ]
        rw [← HWc.out]
        exact stc_1ff _ m1 o1 n1 c1 hB_1 pu_1 pa_1 pb_1 pv_1 hWc_1 f1_0
      · go_simp
        have hgn : w14.heap.size ≤ w41.heap.size := hWc_0.size
        obtain ⟨w43, hww43, ps_0, hb43, -⟩ := new_box w41 _ rfl [.bool false, .slice none 0 0] 29
        rw [hww43]
        have hB_1 := hB_0.trans (hb43.mono hB_0.size)
        have pu_1 := pu_0.below hb43
        have pa_1 := pa_0.below hb43
        have pb_1 := pb_0.below hb43
        have pv_1 := pv_0.below hb43
        have hWc_1 := hWc_0.trans (hb43.mono hWc_0.size)
        clear hb43 hB_0 pu_0 pa_0 pb_0 pv_0 hWc_0
        refine hK.out _ _ ⟨pa_1.c0, pa_1.c1, pb_1.c0, pb_1.c1, pv_1.c0, pv_1.c1, pu_1.c0, pu_1.c1⟩ (fun hHeld => ?_)
        clear hK K
        try simp only [Act.put]
        try simp only [List.setIfInBounds_toArray, List.set_cons_zero, List.set_cons_succ]
        rw [← HWc.out]
        exact stc_0ft _ w41.heap.size hB_1 pu_1 pa_1 pb_1 pv_1 hWc_1 ps_0 (by omega)
    exact stc_0ff _ hB_13 pu_13 pa_13 pb_13 pv_13 hWc_1
  · right
    refine ⟨?_, fun i hi => ?_⟩
    · clear zF rr1 rr2 rr3 zz0 zz1 zz2 n0_1 n0_2 n1_2
      obtain rfl | rfl | rfl | rfl : k = 0 ∨ k = 1 ∨ k = 2 ∨ k = 3 := by omega
      all_goals cases bb0
      all_goals cases bb1
      all_goals cases bb2
      all_goals first | exact absurd ⟨rfl, rfl, rfl, rfl⟩ hL | exact of_decide_eq_true (by kernel_rfl)
    have hd : (k = 0 ∧ i = 2) ∨ (k = 1 ∧ i = 5) ∨ (k = 2 ∧ i = 8) ∨ (bb0 = false ∧ i = 9) ∨ (bb1 = false ∧ i = 10) ∨ (bb2 = false ∧ i = 11) := by
      clear zF rr1 rr2 rr3 zz0 zz1 zz2 n0_1 n0_2 n1_2
      revert i
      obtain rfl | rfl | rfl | rfl : k = 0 ∨ k = 1 ∨ k = 2 ∨ k = 3 := by omega
      all_goals cases bb0
      all_goals cases bb1
      all_goals cases bb2
      all_goals first | exact absurd ⟨rfl, rfl, rfl, rfl⟩ hL | exact of_decide_eq_true (by kernel_rfl)
    clear hi hL
    rcases hd with ⟨rfl, rfl⟩ | ⟨rfl, rfl⟩ | ⟨rfl, rfl⟩ | ⟨rfl, rfl⟩ | ⟨rfl, rfl⟩ | ⟨rfl, rfl⟩
    · refine step_of 2 ?_ ?_ (fun K hK => ?_)
      rotate_left 1
      · simp only [List.getElem?_toArray, List.getElem?_cons_succ, List.getElem?_cons_zero]; exact rfl
      rw [HAi.out]
      try simp only [Act.put]
      try simp only [List.setIfInBounds_toArray, List.set_cons_zero, List.set_cons_succ]
      go_simp
      refine (TM0.out _).mono ?_
      rintro e w44 ⟨rfl, hb⟩
      go_wp2_with fail
      refine hK.out _ _ (sFi (cFi zF hb)) ?_
      exact (hIVi _ _ _).2 ⟨1, bb0, bb1, bb2, (.agg #[.int .i64 a0, .int .i64 a1]), v1_, v2_, p0_, p1_, p2_, gpa, gpb, gpv, (by omega), rfl, (by simp only [HAi.out, Act.put, List.setIfInBounds_toArray, List.set_cons_zero, List.set_cons_succ]), (cFi zF hb), (fun _ => rfl), (fun h => absurd h (by omega)), (fun h => absurd h (by omega)), (fun h => ⟨(zz0 h).1, (zz0 h).2.1.below hb, (zz0 h).2.2⟩), (fun h => ⟨(zz1 h).1, (zz1 h).2.1.below hb, (zz1 h).2.2⟩), (fun h => ⟨(zz2 h).1, (zz2 h).2.1.below hb, (zz2 h).2.2⟩), n0_1, n0_2, n1_2⟩
    · obtain rfl := rr1 (by omega)
      refine step_of 5 ?_ ?_ (fun K hK => ?_)
      rotate_left 1
      · simp only [List.getElem?_toArray, List.getElem?_cons_succ, List.getElem?_cons_zero]; exact rfl
      rw [HAi.out]
      try simp only [Act.put]
      try simp only [List.setIfInBounds_toArray, List.set_cons_zero, List.set_cons_succ]
      go_simp
      refine (TM1.out _).mono ?_
      rintro e w45 ⟨rfl, hb⟩
      go_wp2_with fail
      refine hK.out _ _ (sFi (cFi zF hb)) ?_
      exact (hIVi _ _ _).2 ⟨2, bb0, bb1, bb2, _, (.agg #[.int .i64 b0, .int .i64 b1]), v2_, p0_, p1_, p2_, gpa, gpb, gpv, (by omega), rfl, (by simp only [HAi.out, Act.put, List.setIfInBounds_toArray, List.set_cons_zero, List.set_cons_succ]), (cFi zF hb), (fun _ => rfl), (fun _ => rfl), (fun h => absurd h (by omega)), (fun h => ⟨(zz0 h).1, (zz0 h).2.1.below hb, (zz0 h).2.2⟩), (fun h => ⟨(zz1 h).1, (zz1 h).2.1.below hb, (zz1 h).2.2⟩), (fun h => ⟨(zz2 h).1, (zz2 h).2.1.below hb, (zz2 h).2.2⟩), n0_1, n0_2, n1_2⟩
    · obtain rfl := rr1 (by omega)
      obtain rfl := rr2 (by omega)
      refine step_of 8 ?_ ?_ (fun K hK => ?_)
      rotate_left 1
      · simp only [List.getElem?_toArray, List.getElem?_cons_succ, List.getElem?_cons_zero]; exact rfl
      rw [HAi.out]
      try simp only [Act.put]
      try simp only [List.setIfInBounds_toArray, List.set_cons_zero, List.set_cons_succ]
      go_simp
      refine (TM2.out _).mono ?_
      rintro e w46 ⟨rfl, hb⟩
      go_wp2_with fail
      refine hK.out _ _ (sFi (cFi zF hb)) ?_
      exact (hIVi _ _ _).2 ⟨3, bb0, bb1, bb2, _, _, (.agg #[.int .i64 v0, .int .i64 v1]), p0_, p1_, p2_, gpa, gpb, gpv, (by omega), rfl, (by simp only [HAi.out, Act.put, List.setIfInBounds_toArray, List.set_cons_zero, List.set_cons_succ]), (cFi zF hb), (fun _ => rfl), (fun _ => rfl), (fun _ => rfl), (fun h => ⟨(zz0 h).1, (zz0 h).2.1.below hb, (zz0 h).2.2⟩), (fun h => ⟨(zz1 h).1, (zz1 h).2.1.below hb, (zz1 h).2.2⟩), (fun h => ⟨(zz2 h).1, (zz2 h).2.1.below hb, (zz2 h).2.2⟩), n0_1, n0_2, n1_2⟩
    · refine step_of 9 ?_ ?_ (fun K hK => ?_)
      rotate_left 1
      · simp only [List.getElem?_toArray, List.getElem?_cons_succ, List.getElem?_cons_zero]; exact rfl
      rw [HAi.out]
      try simp only [Act.put]
      try simp only [List.setIfInBounds_toArray, List.set_cons_zero, List.set_cons_succ]
      go_simp
      have hgn := mFi zF
      have hl1 : bb1 = true → gpb < w4.heap.size := fun h => (zz1 h).2.1.lt
      have hl2 : bb2 = true → gpv < w4.heap.size := fun h => (zz2 h).2.1.lt
      obtain ⟨wn, hwn, pa_0, hb, -⟩ := new_box w4 _ rfl [.int .i64 0, .int .i64 0] 23
      rw [hwn]
      refine hK.out _ _ (sFi (cFi zF hb)) ?_
      exact (hIVi _ _ _).2 ⟨k, true, bb1, bb2, v0_, v1_, v2_, (.pointer (some ⟨w4.heap.size, 0, none⟩)), p1_, p2_, w4.heap.size, gpb, gpv, hk, rfl, (by simp only [HAi.out, Act.put, List.setIfInBounds_toArray, List.set_cons_zero, List.set_cons_succ]), (cFi zF hb), rr1, rr2, rr3, (fun _ => ⟨rfl, pa_0, hgn⟩), (fun h => ⟨(zz1 h).1, (zz1 h).2.1.below hb, (zz1 h).2.2⟩), (fun h => ⟨(zz2 h).1, (zz2 h).2.1.below hb, (zz2 h).2.2⟩), (fun _ h => by have := hl1 h; omega), (fun _ h => by have := hl2 h; omega), n1_2⟩
    · refine step_of 10 ?_ ?_ (fun K hK => ?_)
      rotate_left 1
      · simp only [List.getElem?_toArray, List.getElem?_cons_succ, List.getElem?_cons_zero]; exact rfl
      rw [HAi.out]
      try simp only [Act.put]
      try simp only [List.setIfInBounds_toArray, List.set_cons_zero, List.set_cons_succ]
      go_simp
      have hgn := mFi zF
      have hl0 : bb0 = true → gpa < w4.heap.size := fun h => (zz0 h).2.1.lt
      have hl2 : bb2 = true → gpv < w4.heap.size := fun h => (zz2 h).2.1.lt
      obtain ⟨wn, hwn, pb_0, hb, -⟩ := new_box w4 _ rfl [.int .i64 0, .int .i64 0] 23
      rw [hwn]
      refine hK.out _ _ (sFi (cFi zF hb)) ?_
      exact (hIVi _ _ _).2 ⟨k, bb0, true, bb2, v0_, v1_, v2_, p0_, (.pointer (some ⟨w4.heap.size, 0, none⟩)), p2_, gpa, w4.heap.size, gpv, hk, rfl, (by simp only [HAi.out, Act.put, List.setIfInBounds_toArray, List.set_cons_zero, List.set_cons_succ]), (cFi zF hb), rr1, rr2, rr3, (fun h => ⟨(zz0 h).1, (zz0 h).2.1.below hb, (zz0 h).2.2⟩), (fun _ => ⟨rfl, pb_0, hgn⟩), (fun h => ⟨(zz2 h).1, (zz2 h).2.1.below hb, (zz2 h).2.2⟩), (fun h _ => by have := hl0 h; omega), n0_2, (fun _ h => by have := hl2 h; omega)⟩
    · refine step_of 11 ?_ ?_ (fun K hK => ?_)
      rotate_left 1
      · simp only [List.getElem?_toArray, List.getElem?_cons_succ, List.getElem?_cons_zero]; exact rfl
      rw [HAi.out]
      try simp only [Act.put]
      try simp only [List.setIfInBounds_toArray, List.set_cons_zero, List.set_cons_succ]
      go_simp
      have hgn := mFi zF
      have hl0 : bb0 = true → gpa < w4.heap.size := fun h => (zz0 h).2.1.lt
      have hl1 : bb1 = true → gpb < w4.heap.size := fun h => (zz1 h).2.1.lt
      obtain ⟨wn, hwn, pv_0, hb, -⟩ := new_box w4 _ rfl [.int .i64 0, .int .i64 0] 23
      rw [hwn]
      refine hK.out _ _ (sFi (cFi zF hb)) ?_
      exact (hIVi _ _ _).2 ⟨k, bb0, bb1, true, v0_, v1_, v2_, p0_, p1_, (.pointer (some ⟨w4.heap.size, 0, none⟩)), gpa, gpb, w4.heap.size, hk, rfl, (by simp only [HAi.out, Act.put, List.setIfInBounds_toArray, List.set_cons_zero, List.set_cons_succ]), (cFi zF hb), rr1, rr2, rr3, (fun h => ⟨(zz0 h).1, (zz0 h).2.1.below hb, (zz0 h).2.2⟩), (fun h => ⟨(zz1 h).1, (zz1 h).2.1.below hb, (zz1 h).2.2⟩), (fun _ => ⟨rfl, pv_0, hgn⟩), n0_1, (fun h _ => by have := hl0 h; omega), (fun h _ => by have := hl1 h; omega)⟩
end Go.Proofs.Ytjciefoademlnaa
/- The statement PredTriangles: from its walks to all inputs. -/
namespace Go.Proofs.Ytjciefoademlnaa
open Go.RowKit Go.MagM
theorem sign_split (z : Int) : (z < 0 ∧ z.sign = -1) ∨ (z = 0 ∧ z.sign = 0) ∨ (0 < z ∧ z.sign = 1) := by
  rcases Int.lt_trichotomy z 0 with h | h | h
  · exact .inl ⟨h, Int.sign_eq_neg_one_of_neg h⟩
  · subst h; exact .inr (.inl ⟨rfl, rfl⟩)
  · exact .inr (.inr ⟨h, Int.sign_eq_one_of_pos h⟩)
theorem min3_run (x y z : Int) (w : World) : Sem.run Try.prog (Builtin.min_ #[3, 3, 3] 3 #[.int .i64 (x.sign), .int .i64 (y.sign), .int .i64 (z.sign)]) w = Result.ok (Value.int .i64 (min x.sign (min y.sign z.sign))) w := by
  rcases sign_cases x with h | h | h <;> rcases sign_cases y with k | k | k <;> rcases sign_cases z with m | m | m <;> rw [h, k, m] <;> kernel_rfl
/-- A point of a triangle's edge. -/
theorem onP_edge (a0 a1 b0 b1 v0 v1 u0 u1 : Int) (hW : 0 < crs a0 a1 b0 b1 v0 v1) (h0 : crs a0 a1 b0 b1 u0 u1 = 0) : onP u0 u1 a0 a1 b0 b1 = decide (0 ≤ crs b0 b1 v0 v1 u0 u1 ∧ 0 ≤ crs v0 v1 a0 a1 u0 u1) := by
  have hs := crs_sum a0 a1 b0 b1 v0 v1 u0 u1
  have e1 : crs a0 a1 b0 b1 v0 v1 * (u0 - a0) = (b0 - a0) * crs v0 v1 a0 a1 u0 u1 := by
    have : crs a0 a1 b0 b1 v0 v1 * (u0 - a0) = (v0 - a0) * crs a0 a1 b0 b1 u0 u1 + (b0 - a0) * crs v0 v1 a0 a1 u0 u1 := by unfold crs; grind
    rw [this, h0]; simp
  have e2 : crs a0 a1 b0 b1 v0 v1 * (u1 - a1) = (b1 - a1) * crs v0 v1 a0 a1 u0 u1 := by
    have : crs a0 a1 b0 b1 v0 v1 * (u1 - a1) = (v1 - a1) * crs a0 a1 b0 b1 u0 u1 + (b1 - a1) * crs v0 v1 a0 a1 u0 u1 := by unfold crs; grind
    rw [this, h0]; simp
  have e3 : crs a0 a1 b0 b1 v0 v1 * (b0 - u0) = (b0 - a0) * crs b0 b1 v0 v1 u0 u1 := by
    have : crs a0 a1 b0 b1 v0 v1 * (u0 - b0) = (a0 - b0) * crs b0 b1 v0 v1 u0 u1 + (v0 - b0) * crs a0 a1 b0 b1 u0 u1 := by unfold crs; grind
    rw [h0, Int.mul_zero, Int.add_zero] at this
    have h1 : crs a0 a1 b0 b1 v0 v1 * (b0 - u0) = -(crs a0 a1 b0 b1 v0 v1 * (u0 - b0)) := by rw [← Int.mul_neg]; congr 1; omega
    have h2 : (b0 - a0) * crs b0 b1 v0 v1 u0 u1 = -((a0 - b0) * crs b0 b1 v0 v1 u0 u1) := by rw [← Int.neg_mul]; congr 1; omega
    rw [h1, h2, this]
  have e4 : crs a0 a1 b0 b1 v0 v1 * (b1 - u1) = (b1 - a1) * crs b0 b1 v0 v1 u0 u1 := by
    have : crs a0 a1 b0 b1 v0 v1 * (u1 - b1) = (a1 - b1) * crs b0 b1 v0 v1 u0 u1 + (v1 - b1) * crs a0 a1 b0 b1 u0 u1 := by unfold crs; grind
    rw [h0, Int.mul_zero, Int.add_zero] at this
    have h1 : crs a0 a1 b0 b1 v0 v1 * (b1 - u1) = -(crs a0 a1 b0 b1 v0 v1 * (u1 - b1)) := by rw [← Int.mul_neg]; congr 1; omega
    have h2 : (b1 - a1) * crs b0 b1 v0 v1 u0 u1 = -((a1 - b1) * crs b0 b1 v0 v1 u0 u1) := by rw [← Int.neg_mul]; congr 1; omega
    rw [h1, h2, this]
  have nab : ¬ (a0 = b0 ∧ a1 = b1) := by rintro ⟨rfl, rfl⟩; unfold crs at hW; grind
  have q0 : crs a0 a1 b0 b1 v0 v1 * crs a0 a1 b0 b1 v0 v1 * ((u0 - a0) * (b0 - u0)) = (b0 - a0) * (b0 - a0) * (crs v0 v1 a0 a1 u0 u1 * crs b0 b1 v0 v1 u0 u1) := by grind
  have q1 : crs a0 a1 b0 b1 v0 v1 * crs a0 a1 b0 b1 v0 v1 * ((u1 - a1) * (b1 - u1)) = (b1 - a1) * (b1 - a1) * (crs v0 v1 a0 a1 u0 u1 * crs b0 b1 v0 v1 u0 u1) := by grind
  have hp := Int.mul_pos hW hW
  have s0 := sq_nonneg (b0 - a0)
  have s1 := sq_nonneg (b1 - a1)
  have hd : 0 < (b0 - a0) * (b0 - a0) ∨ 0 < (b1 - a1) * (b1 - a1) := by
    by_cases h : a0 = b0
    · exact .inr (sq_pos (fun k => nab ⟨h, by omega⟩))
    · exact .inl (sq_pos (by omega))
  unfold onP
  rw [decide_eq_decide, ← tween, ← tween]
  rw [h0] at hs
  clear e1 e2 e3 e4
  generalize crs a0 a1 b0 b1 v0 v1 * crs a0 a1 b0 b1 v0 v1 = WW at *
  generalize crs a0 a1 b0 b1 v0 v1 = W at *
  generalize crs b0 b1 v0 v1 u0 u1 = Y at *
  generalize crs v0 v1 a0 a1 u0 u1 = Z at *
  generalize (b0 - a0) * (b0 - a0) = k0 at *
  generalize (b1 - a1) * (b1 - a1) = k1 at *
  generalize (u0 - a0) * (b0 - u0) = m0 at *
  generalize (u1 - a1) * (b1 - u1) = m1 at *
  constructor
  · rintro ⟨⟨_, hx⟩, hy⟩
    have z0 : 0 ≤ k0 * (Z * Y) := by rw [← q0]; exact Int.mul_nonneg (Int.le_of_lt hp) hx
    have z1 : 0 ≤ k1 * (Z * Y) := by rw [← q1]; exact Int.mul_nonneg (Int.le_of_lt hp) hy
    have hzy : 0 ≤ Z * Y := by
      rcases hd with h | h
      · exact Int.nonneg_of_mul_nonneg_right z0 h
      · exact Int.nonneg_of_mul_nonneg_right z1 h
    by_cases hY : 0 ≤ Y
    · by_cases hZ : 0 ≤ Z
      · exact ⟨hY, hZ⟩
      · have hY1 : 0 < Y := by omega
        have := Int.mul_neg_of_neg_of_pos (show Z < 0 by omega) hY1
        omega
    · have hZ1 : 0 < Z := by omega
      have := Int.mul_neg_of_pos_of_neg hZ1 (show Y < 0 by omega)
      omega
  · rintro ⟨hY, hZ⟩
    have hzy := Int.mul_nonneg hZ hY
    have z0 : 0 ≤ WW * m0 := by rw [q0]; exact Int.mul_nonneg s0 hzy
    have z1 : 0 ≤ WW * m1 := by rw [q1]; exact Int.mul_nonneg s1 hzy
    exact ⟨⟨h0, Int.nonneg_of_mul_nonneg_right z0 hp⟩, Int.nonneg_of_mul_nonneg_right z1 hp⟩
/-- In a triangle: on an edge, or to the left of all of them. -/
theorem in_tri (a0 a1 b0 b1 v0 v1 u0 u1 : Int) (hW : 0 < crs a0 a1 b0 b1 v0 v1) :
    (onP u0 u1 a0 a1 b0 b1 || onP u0 u1 b0 b1 v0 v1 || onP u0 u1 v0 v1 a0 a1 || decide (min (crs a0 a1 b0 b1 u0 u1).sign (min (crs b0 b1 v0 v1 u0 u1).sign (crs v0 v1 a0 a1 u0 u1).sign) = 1)) = decide (0 ≤ min (crs a0 a1 b0 b1 u0 u1).sign (min (crs b0 b1 v0 v1 u0 u1).sign (crs v0 v1 a0 a1 u0 u1).sign)) := by
  have hW2 : 0 < crs b0 b1 v0 v1 a0 a1 := by rw [crs_cyc]; exact hW
  have hW3 : 0 < crs v0 v1 a0 a1 b0 b1 := by rw [crs_cyc, crs_cyc]; exact hW
  have g1 := onP_edge a0 a1 b0 b1 v0 v1 u0 u1 hW
  have g2 := onP_edge b0 b1 v0 v1 a0 a1 u0 u1 hW2
  have g3 := onP_edge v0 v1 a0 a1 b0 b1 u0 u1 hW3
  have n1 : onP u0 u1 a0 a1 b0 b1 = true → crs a0 a1 b0 b1 u0 u1 = 0 := fun h => by unfold onP at h; exact (of_decide_eq_true h).1.1
  have n2 : onP u0 u1 b0 b1 v0 v1 = true → crs b0 b1 v0 v1 u0 u1 = 0 := fun h => by unfold onP at h; exact (of_decide_eq_true h).1.1
  have n3 : onP u0 u1 v0 v1 a0 a1 = true → crs v0 v1 a0 a1 u0 u1 = 0 := fun h => by unfold onP at h; exact (of_decide_eq_true h).1.1
  clear hW hW2 hW3
  generalize onP u0 u1 a0 a1 b0 b1 = o1 at *
  generalize onP u0 u1 b0 b1 v0 v1 = o2 at *
  generalize onP u0 u1 v0 v1 a0 a1 = o3 at *
  generalize crs a0 a1 b0 b1 u0 u1 = X at *
  generalize crs b0 b1 v0 v1 u0 u1 = Y at *
  generalize crs v0 v1 a0 a1 u0 u1 = Z at *
  have sX : (X < 0 ∧ X.sign = -1) ∨ (X = 0 ∧ X.sign = 0) ∨ (0 < X ∧ X.sign = 1) := sign_split X
  have sY : (Y < 0 ∧ Y.sign = -1) ∨ (Y = 0 ∧ Y.sign = 0) ∨ (0 < Y ∧ Y.sign = 1) := sign_split Y
  have sZ : (Z < 0 ∧ Z.sign = -1) ∨ (Z = 0 ∧ Z.sign = 0) ∨ (0 < Z ∧ Z.sign = 1) := sign_split Z
  generalize X.sign = x at *
  generalize Y.sign = y at *
  generalize Z.sign = z at *
  rw [Bool.eq_iff_iff]
  simp only [Bool.or_eq_true, decide_eq_true_eq]
  constructor
  · rintro (((h | h) | h) | h)
    · have h0 := n1 h
      have := of_decide_eq_true ((g1 h0).symm.trans h)
      omega
    · have h0 := n2 h
      have := of_decide_eq_true ((g2 h0).symm.trans h)
      omega
    · have h0 := n3 h
      have := of_decide_eq_true ((g3 h0).symm.trans h)
      omega
    · omega
  · intro h
    by_cases hX : X = 0
    · exact .inl (.inl (.inl ((g1 hX).trans (decide_eq_true (by omega)))))
    · by_cases hY : Y = 0
      · exact .inl (.inl (.inr ((g2 hY).trans (decide_eq_true (by omega)))))
      · by_cases hZ : Z = 0
        · exact .inl (.inr ((g3 hZ).trans (decide_eq_true (by omega))))
        · exact .inr (by omega)
theorem eq_pt {a b c d : Int} {α : Type} {f : Bool → α} : (if a = b then if c = d then f true else f false else f false) = f (decide (a = b ∧ c = d)) := by
  by_cases h1 : a = b
  · by_cases h2 : c = d
    · rw [if_pos h1, if_pos h2, decide_eq_true ⟨h1, h2⟩]
    · rw [if_pos h1, if_neg h2, decide_eq_false (fun k => h2 k.2)]
  · rw [if_neg h1, decide_eq_false (fun k => h1 k.1)]
theorem circle_in (a0 a1 b0 b1 v0 v1 u0 u1 : Int) (hW : 0 < crs a0 a1 b0 b1 v0 v1) (h : 0 ≤ min (crs a0 a1 b0 b1 u0 u1).sign (min (crs b0 b1 v0 v1 u0 u1).sign (crs v0 v1 a0 a1 u0 u1).sign)) :
    (inc a0 a1 b0 b1 v0 v1 u0 u1).sign = 1 ∨ (inc a0 a1 b0 b1 v0 v1 u0 u1).sign = 0 ∧ (decide (u0 = a0 ∧ u1 = a1) || decide (u0 = b0 ∧ u1 = b1) || decide (u0 = v0 ∧ u1 = v1)) = true := by
  have hx : 0 ≤ crs a0 a1 b0 b1 u0 u1 := Int.sign_nonneg_iff.1 (by omega)
  have hy : 0 ≤ crs b0 b1 v0 v1 u0 u1 := Int.sign_nonneg_iff.1 (by omega)
  have hz : 0 ≤ crs v0 v1 a0 a1 u0 u1 := Int.sign_nonneg_iff.1 (by omega)
  rcases inc_in hW hx hy hz with h | h | h | h
  · exact .inl (Int.sign_eq_one_of_pos h)
  · right; obtain ⟨rfl, rfl⟩ := h; exact ⟨by rw [inc_a]; rfl, by simp⟩
  · right; obtain ⟨rfl, rfl⟩ := h; exact ⟨by rw [inc_b]; rfl, by simp⟩
  · right; obtain ⟨rfl, rfl⟩ := h; exact ⟨by rw [inc_c]; rfl, by simp⟩
set_option maxHeartbeats 4000000 in
theorem PredTriangles_tame (x0 x1 y0 y1 z0 z1 t0 t1 a0 a1 b0 b1 v0 v1 u0 u1 : Int) (ha0 : InP a0) (ha1 : InP a1) (hb0 : InP b0) (hb1 : InP b1) (hv0 : InP v0) (hv1 : InP v1) (hu0 : InP u0) (hu1 : InP u1) (ex0 : tame x0 = a0) (ex1 : tame x1 = a1) (ey0 : tame y0 = b0) (ey1 : tame y1 = b1) (ez0 : tame z0 = v0) (ez1 : tame z1 = v1) (et0 : tame t0 = u0) (et1 : tame t1 = u1) (w : World) :
    Calls Try.prog 8 #[.agg #[.int .i64 x0, .int .i64 x1, .int .i64 y0, .int .i64 y1, .int .i64 z0, .int .i64 z1], .agg #[.int .i64 t0, .int .i64 t1]] w fun e w' => e = .returned (.bool true) ∧ Below w.heap.size w w' := by
  have kx : ∀ w, Calls Try.prog 10 #[.agg #[.int .i64 x0, .int .i64 x1]] w fun e w' => e = .returned (.agg #[.int .i64 a0, .int .i64 a1]) ∧ Below w.heap.size w w' := fun w => by rw [← ex0, ← ex1]; exact Tame_any x0 x1 w
  have ky : ∀ w, Calls Try.prog 10 #[.agg #[.int .i64 y0, .int .i64 y1]] w fun e w' => e = .returned (.agg #[.int .i64 b0, .int .i64 b1]) ∧ Below w.heap.size w w' := fun w => by rw [← ey0, ← ey1]; exact Tame_any y0 y1 w
  have kz : ∀ w, Calls Try.prog 10 #[.agg #[.int .i64 z0, .int .i64 z1]] w fun e w' => e = .returned (.agg #[.int .i64 v0, .int .i64 v1]) ∧ Below w.heap.size w w' := fun w => by rw [← ez0, ← ez1]; exact Tame_any z0 z1 w
  have kt : ∀ w, Calls Try.prog 10 #[.agg #[.int .i64 t0, .int .i64 t1]] w fun e w' => e = .returned (.agg #[.int .i64 u0, .int .i64 u1]) ∧ Below w.heap.size w w' := fun w => by rw [← et0, ← et1]; exact Tame_any t0 t1 w
  clear ex0 ex1 ey0 ey1 ez0 ez1 et0 et1
  rcases Int.lt_trichotomy (crs a0 a1 b0 b1 v0 v1) 0 with h | h | h
  · have hW : 0 < crs a0 a1 v0 v1 b0 b1 := by rw [crs_back]; omega
    have hk := Int.sign_eq_neg_one_of_neg h
    exact PredTriangles_w_m x0 x1 y0 y1 z0 z1 t0 t1 a0 a1 b0 b1 v0 v1 u0 u1 _ _ _ _ _ _ _ _ (min (crs a0 a1 v0 v1 u0 u1).sign (min (crs v0 v1 b0 b1 u0 u1).sign (crs b0 b1 a0 a1 u0 u1).sign)) _ _ _ (decide (u0 = a0 ∧ u1 = a1)) (decide (u0 = v0 ∧ u1 = v1)) (decide (u0 = b0 ∧ u1 = b1)) (decide ((min (crs a0 a1 v0 v1 u0 u1).sign (min (crs v0 v1 b0 b1 u0 u1).sign (crs b0 b1 a0 a1 u0 u1).sign)) = 1)) (decide (0 ≤ (min (crs a0 a1 v0 v1 u0 u1).sign (min (crs v0 v1 b0 b1 u0 u1).sign (crs b0 b1 a0 a1 u0 u1).sign)))) kx ky kz kt (fun w => Orient_is a0 a1 b0 b1 v0 v1 ha0 ha1 hb0 hb1 hv0 hv1 hk w)
      (fun w => Orient_is a0 a1 v0 v1 u0 u1 ha0 ha1 hv0 hv1 hu0 hu1 rfl w) (fun w => Orient_is v0 v1 b0 b1 u0 u1 hv0 hv1 hb0 hb1 hu0 hu1 rfl w) (fun w => Orient_is b0 b1 a0 a1 u0 u1 hb0 hb1 ha0 ha1 hu0 hu1 rfl w) (fun w => Area2_any a0 a1 v0 v1 u0 u1 ha0 ha1 hv0 hv1 hu0 hu1 w) (fun w => Area2_any v0 v1 b0 b1 u0 u1 hv0 hv1 hb0 hb1 hu0 hu1 w) (fun w => Area2_any b0 b1 a0 a1 u0 u1 hb0 hb1 ha0 ha1 hu0 hu1 w) (fun w => Area2_any a0 a1 v0 v1 b0 b1 ha0 ha1 hv0 hv1 hb0 hb1 w) (fun w => On_is u0 u1 a0 a1 v0 v1 hu0 hu1 ha0 ha1 hv0 hv1 _ rfl w) (fun w => On_is u0 u1 v0 v1 b0 b1 hu0 hu1 hv0 hv1 hb0 hb1 _ rfl w) (fun w => On_is u0 u1 b0 b1 a0 a1 hu0 hu1 hb0 hb1 ha0 ha1 _ rfl w) (fun w => Circle_is a0 a1 v0 v1 b0 b1 u0 u1 ha0 ha1 hv0 hv1 hb0 hb1 hu0 hu1 rfl w)
      (fun w => min3_run _ _ _ w) rfl rfl rfl (crs_sum _ _ _ _ _ _ _ _) (in_tri a0 a1 v0 v1 b0 b1 u0 u1 hW) (fun h => circle_in a0 a1 v0 v1 b0 b1 u0 u1 hW (of_decide_eq_true h)) (fun w => eq_pt (f := fun b => Result.ok (Next.value (Value.bool b)) w)) (fun w => eq_pt (f := fun b => Result.ok (Next.value (Value.bool b)) w)) (fun w => eq_pt (f := fun b => Result.ok (Next.value (Value.bool b)) w)) w
  · have hk : (crs a0 a1 b0 b1 v0 v1).sign = 0 := by rw [h]; rfl
    exact PredTriangles_w_z x0 x1 y0 y1 z0 z1 t0 t1 a0 a1 b0 b1 v0 v1 u0 u1 kx ky kz kt (fun w => Orient_is a0 a1 b0 b1 v0 v1 ha0 ha1 hb0 hb1 hv0 hv1 hk w) w
  · have hW := h
    have hk := Int.sign_eq_one_of_pos h
    exact PredTriangles_w_p x0 x1 y0 y1 z0 z1 t0 t1 a0 a1 b0 b1 v0 v1 u0 u1 _ _ _ _ _ _ _ _ (min (crs a0 a1 b0 b1 u0 u1).sign (min (crs b0 b1 v0 v1 u0 u1).sign (crs v0 v1 a0 a1 u0 u1).sign)) _ _ _ (decide (u0 = a0 ∧ u1 = a1)) (decide (u0 = b0 ∧ u1 = b1)) (decide (u0 = v0 ∧ u1 = v1)) (decide ((min (crs a0 a1 b0 b1 u0 u1).sign (min (crs b0 b1 v0 v1 u0 u1).sign (crs v0 v1 a0 a1 u0 u1).sign)) = 1)) (decide (0 ≤ (min (crs a0 a1 b0 b1 u0 u1).sign (min (crs b0 b1 v0 v1 u0 u1).sign (crs v0 v1 a0 a1 u0 u1).sign)))) kx ky kz kt (fun w => Orient_is a0 a1 b0 b1 v0 v1 ha0 ha1 hb0 hb1 hv0 hv1 hk w)
      (fun w => Orient_is a0 a1 b0 b1 u0 u1 ha0 ha1 hb0 hb1 hu0 hu1 rfl w) (fun w => Orient_is b0 b1 v0 v1 u0 u1 hb0 hb1 hv0 hv1 hu0 hu1 rfl w) (fun w => Orient_is v0 v1 a0 a1 u0 u1 hv0 hv1 ha0 ha1 hu0 hu1 rfl w) (fun w => Area2_any a0 a1 b0 b1 u0 u1 ha0 ha1 hb0 hb1 hu0 hu1 w) (fun w => Area2_any b0 b1 v0 v1 u0 u1 hb0 hb1 hv0 hv1 hu0 hu1 w) (fun w => Area2_any v0 v1 a0 a1 u0 u1 hv0 hv1 ha0 ha1 hu0 hu1 w) (fun w => Area2_any a0 a1 b0 b1 v0 v1 ha0 ha1 hb0 hb1 hv0 hv1 w) (fun w => On_is u0 u1 a0 a1 b0 b1 hu0 hu1 ha0 ha1 hb0 hb1 _ rfl w) (fun w => On_is u0 u1 b0 b1 v0 v1 hu0 hu1 hb0 hb1 hv0 hv1 _ rfl w) (fun w => On_is u0 u1 v0 v1 a0 a1 hu0 hu1 hv0 hv1 ha0 ha1 _ rfl w) (fun w => Circle_is a0 a1 b0 b1 v0 v1 u0 u1 ha0 ha1 hb0 hb1 hv0 hv1 hu0 hu1 rfl w)
      (fun w => min3_run _ _ _ w) rfl rfl rfl (crs_sum _ _ _ _ _ _ _ _) (in_tri a0 a1 b0 b1 v0 v1 u0 u1 hW) (fun h => circle_in a0 a1 b0 b1 v0 v1 u0 u1 hW (of_decide_eq_true h)) (fun w => eq_pt (f := fun b => Result.ok (Next.value (Value.bool b)) w)) (fun w => eq_pt (f := fun b => Result.ok (Next.value (Value.bool b)) w)) (fun w => eq_pt (f := fun b => Result.ok (Next.value (Value.bool b)) w)) w
theorem PredTriangles_walk (x0 x1 y0 y1 z0 z1 t0 t1 : Int) (w : World) : Calls Try.prog 8 #[.agg #[.int .i64 x0, .int .i64 x1, .int .i64 y0, .int .i64 y1, .int .i64 z0, .int .i64 z1], .agg #[.int .i64 t0, .int .i64 t1]] w fun e w' => e = .returned (.bool true) ∧ Below w.heap.size w w' :=
  PredTriangles_tame x0 x1 y0 y1 z0 z1 t0 t1 _ _ _ _ _ _ _ _ (tame_in x0) (tame_in x1) (tame_in y0) (tame_in y1) (tame_in z0) (tame_in z1) (tame_in t0) (tame_in t1) rfl rfl rfl rfl rfl rfl rfl rfl w
end Go.Proofs.Ytjciefoademlnaa
