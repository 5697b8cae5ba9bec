/- The statements' own power of a point. -/
import Derived.Test.YtjciefoademlnaaParti
import Derived.Test.YtjciefoademlnaaPartj
namespace Go.Proofs.Ytjciefoademlnaa
open Go.RowKit Go.MagM
set_option maxRecDepth 100000 in
set_option maxHeartbeats 64000000 in
theorem power_w (a0 a1 b0 b1 v0 v1 u0 u1 : Int) (X1 Y1 X2 Y2 X3 Y3 S1 S2 S3 T U V P s t r : Int) (k0 : ∀ w, Calls Try.prog 38 #[.int .i64 b0, .int .i64 a0] w fun e w' => AnsNum w w' e 2 X1) (k1 : ∀ w, Calls Try.prog 38 #[.int .i64 b1, .int .i64 a1] w fun e w' => AnsNum w w' e 2 Y1) (k2 : ∀ w, Calls Try.prog 38 #[.int .i64 v0, .int .i64 a0] w fun e w' => AnsNum w w' e 2 X2) (k3 : ∀ w, Calls Try.prog 38 #[.int .i64 v1, .int .i64 a1] w fun e w' => AnsNum w w' e 2 Y2) (k4 : ∀ w, Calls Try.prog 38 #[.int .i64 u0, .int .i64 a0] w fun e w' => AnsNum w w' e 2 X3) (k5 : ∀ w, Calls Try.prog 38 #[.int .i64 u1, .int .i64 a1] w fun e w' => AnsNum w w' e 2 Y3) (k6 : ∀ w, Calls Try.prog 19 #[.agg #[.int .i64 a0, .int .i64 a1], .agg #[.int .i64 b0, .int .i64 b1]] w fun e w' => AnsNum w w' e 5 S1) (k7 : ∀ w, Calls Try.prog 19 #[.agg #[.int .i64 a0, .int .i64 a1], .agg #[.int .i64 v0, .int .i64 v1]] w fun e w' => AnsNum w w' e 5 S2) (k8 : ∀ w, Calls Try.prog 19 #[.agg #[.int .i64 a0, .int .i64 a1], .agg #[.int .i64 u0, .int .i64 u1]] w fun e w' => AnsNum w w' e 5 S3) (e1 : 2 * (X1 * Y2 - Y1 * X2) = T) (e2 : S1 * Y2 - Y1 * S2 = U) (e3 : X1 * S2 - S1 * X2 = V) (e4 : T * S3 - 2 * (X3 * U + Y3 * V) = P) (hp : P.sign = s) (ht : T.sign = t) (e5 : IntKind.i64.wrap (s * t) = r) (w : World) :
    Calls Try.prog 18 #[.agg #[.int .i64 a0, .int .i64 a1], .agg #[.int .i64 b0, .int .i64 b1], .agg #[.int .i64 v0, .int .i64 v1], .agg #[.int .i64 u0, .int .i64 u1]] w fun e w' => e = .returned (.int .i64 r) ∧ Below w.heap.size w w' := by
  have hB_0 := Below.refl w.heap.size w
  have K0 := Lib.hid k0; have K1 := Lib.hid k1; have K2 := Lib.hid k2; have K3 := Lib.hid k3; have K4 := Lib.hid k4; have K5 := Lib.hid k5; have K6 := Lib.hid k6; have K7 := Lib.hid k7; have K8 := Lib.hid k8; have E1 := Lib.hid e1; have E2 := Lib.hid e2; have E3 := Lib.hid e3; have E4 := Lib.hid e4; have HP := Lib.hid hp; have HT := Lib.hid ht
  clear k0 k1 k2 k3 k4 k5 k6 k7 k8 e1 e2 e3 e4 hp ht
  obtain ⟨w1, hw1, pa_0, hb1, hs1⟩ := new_box w (w.heap.size) rfl [.int .i64 a0, .int .i64 a1] 23
  have hb1' : Below w.heap.size w w1 := hb1.mono (by omega)
  clear hb1
  have hB_1 := hB_0.trans (hb1'.mono hB_0.size)
  clear hb1' hB_0
  obtain ⟨w2, hw2, pb_0, hb2, hs2⟩ := new_box w1 (w.heap.size + 1) hs1 [.int .i64 b0, .int .i64 b1] 23
  have hb2' : Below w1.heap.size w1 w2 := hb2.mono (by omega)
  clear hb2
  have hB_2 := hB_1.trans (hb2'.mono hB_1.size)
  have pa_1 := pa_0.below hb2'
  clear hb2' hB_1 pa_0
  obtain ⟨w3, hw3, pv_0, hb3, hs3⟩ := new_box w2 (w.heap.size + 1 + 1) hs2 [.int .i64 v0, .int .i64 v1] 23
  have hb3' : Below w2.heap.size w2 w3 := hb3.mono (by omega)
  clear hb3
  have hB_3 := hB_2.trans (hb3'.mono hB_2.size)
  have pa_2 := pa_1.below hb3'
  have pb_1 := pb_0.below hb3'
  clear hb3' hB_2 pa_1 pb_0
  obtain ⟨w4, hw4, pu_0, hb4, hs4⟩ := new_box w3 (w.heap.size + 1 + 1 + 1) hs3 [.int .i64 u0, .int .i64 u1] 23
  have hb4' : Below w3.heap.size w3 w4 := hb4.mono (by omega)
  clear hb4
  have hB_4 := hB_3.trans (hb4'.mono hB_3.size)
  have pa_3 := pa_2.below hb4'
  have pb_2 := pb_1.below hb4'
  have pv_1 := pv_0.below hb4'
  clear hb4' hB_3 pa_2 pb_1 pv_0
  go_enter Try.func18, Try.ntmps18
  obtain ⟨pae0, pae1, pae2, pae3⟩ := pa_3.open2
  obtain ⟨pbe0, pbe1, pbe2, pbe3⟩ := pb_2.open2
  obtain ⟨pve0, pve1, pve2, pve3⟩ := pv_1.open2
  obtain ⟨pue0, pue1, pue2, pue3⟩ := pu_0.open2
  go_wp2
  clear pae0 pae1 pae2 pae3 pbe0 pbe1 pbe2 pbe3 pve0 pve1 pve2 pve3 pue0 pue1 pue2 pue3
  have hWi_0 := Below.refl w4.heap.size w4
  have hsi : w.heap.size ≤ w4.heap.size := hB_4.size
  have hlipa := pa_3.lt
  have hlipb := pb_2.lt
  have hlipv := pv_1.lt
  have hlipu := pu_0.lt
  have hB_5 := hB_4.drew'
  have pa_4 := pa_3.drew
  have pb_3 := pb_2.drew
  have pv_2 := pv_1.drew
  have pu_1 := pu_0.drew
  have hWi_1 := hWi_0.drew'
  clear hB_4 pa_3 pb_2 pv_1 pu_0 hWi_0
  obtain ⟨FFi, hFFi⟩ : ∃ F : World → Prop, ∀ w', F w' ↔ (Below w.heap.size w w' ∧ Box w' (w.heap.size) [.int .i64 a0, .int .i64 a1] ∧ Box w' (w.heap.size + 1) [.int .i64 b0, .int .i64 b1] ∧ Box w' (w.heap.size + 1 + 1) [.int .i64 v0, .int .i64 v1] ∧ Box w' (w.heap.size + 1 + 1 + 1) [.int .i64 u0, .int .i64 u1] ∧ Below w4.heap.size w4 w') := ⟨_, fun _ => Iff.rfl⟩
  have cFi : ∀ {w' w'' : World}, FFi w' → Below w'.heap.size w' w'' → FFi w'' := by
    intro w' w'' h hb
    obtain ⟨y0, y1, y2, y3, y4, y5⟩ := (hFFi _).1 h
    exact (hFFi _).2 ⟨y0.trans (hb.mono y0.size), y1.below hb, y2.below hb, y3.below hb, y4.below hb, y5.trans (hb.mono y5.size)⟩
  have mFi : ∀ {w' : World}, FFi w' → w4.heap.size ≤ w'.heap.size := by
    intro w' h
    obtain ⟨y0, y1, y2, y3, y4, y5⟩ := (hFFi _).1 h
    exact y5.size
  have sFi : ∀ {w' : World}, FFi w' → (w'.cell? ⟨w.heap.size, 0, none⟩ = some (.int .i64 a0) ∧ w'.cell? ⟨w.heap.size, 1, none⟩ = some (.int .i64 a1) ∧ w'.cell? ⟨w.heap.size + 1, 0, none⟩ = some (.int .i64 b0) ∧ w'.cell? ⟨w.heap.size + 1, 1, none⟩ = some (.int .i64 b1) ∧ w'.cell? ⟨w.heap.size + 1 + 1, 0, none⟩ = some (.int .i64 v0) ∧ w'.cell? ⟨w.heap.size + 1 + 1, 1, none⟩ = some (.int .i64 v1) ∧ w'.cell? ⟨w.heap.size + 1 + 1 + 1, 0, none⟩ = some (.int .i64 u0) ∧ w'.cell? ⟨w.heap.size + 1 + 1 + 1, 1, none⟩ = some (.int .i64 u1)) := by
    intro w' h
    obtain ⟨y0, y1, y2, y3, y4, y5⟩ := (hFFi _).1 h
    exact ⟨y1.c0, y1.c1, y2.c0, y2.c1, y3.c0, y3.c1, y4.c0, y4.c1⟩
  have zF : FFi w4.drew := (hFFi _).2 ⟨hB_5, pa_4, pb_3, pv_2, pu_1, hWi_1⟩
  clear hB_5 pa_4 pb_3 pv_2 pu_1 hWi_1
  refine wp_region_noPanic ?_
  refine wp_region_held_drew (S := fun w' => w'.cell? ⟨w.heap.size, 0, none⟩ = some (.int .i64 a0) ∧ w'.cell? ⟨w.heap.size, 1, none⟩ = some (.int .i64 a1) ∧ w'.cell? ⟨w.heap.size + 1, 0, none⟩ = some (.int .i64 b0) ∧ w'.cell? ⟨w.heap.size + 1, 1, none⟩ = some (.int .i64 b1) ∧ w'.cell? ⟨w.heap.size + 1 + 1, 0, none⟩ = some (.int .i64 v0) ∧ w'.cell? ⟨w.heap.size + 1 + 1, 1, none⟩ = some (.int .i64 v1) ∧ w'.cell? ⟨w.heap.size + 1 + 1 + 1, 0, none⟩ = some (.int .i64 u0) ∧ w'.cell? ⟨w.heap.size + 1 + 1 + 1, 1, none⟩ = some (.int .i64 u1)) (by kernel_rfl) (sFi zF) (fun hHeld => ?_)
  refine reg_take 0 ?_ ?_ ?_ (by kernel_rfl) (by kernel_rfl) (by kernel_rfl) (fun _ _ _ h => h) ?_ ?_ (by assumption) ?_
  rotate_left 2
  · simp only [List.getElem?_toArray, List.getElem?_cons_zero]; exact rfl
  · rfl
  · intro w hSw; (try dsimp only at hSw); go_simp; try with_reducible rfl
  try simp only [Act.put]
  try simp only [List.setIfInBounds_toArray, List.set_cons_zero, List.set_cons_succ]
  refine reg_take 1 ?_ ?_ ?_ (by kernel_rfl) (by kernel_rfl) (by kernel_rfl) (fun _ _ _ h => h) ?_ ?_ (by assumption) ?_
  rotate_left 2
  · simp only [List.getElem?_toArray, List.getElem?_cons_succ, List.getElem?_cons_zero]; exact rfl
  · rfl
  · intro w hSw; (try dsimp only at hSw); go_simp; try with_reducible rfl
  try simp only [Act.put]
  try simp only [List.setIfInBounds_toArray, List.set_cons_zero, List.set_cons_succ]
  refine reg_take 2 ?_ ?_ ?_ (by kernel_rfl) (by kernel_rfl) (by kernel_rfl) (fun _ _ _ h => h) ?_ ?_ (by assumption) ?_
  rotate_left 2
  · simp only [List.getElem?_toArray, List.getElem?_cons_succ, List.getElem?_cons_zero]; exact rfl
  · rfl
  · intro w hSw; (try dsimp only at hSw); go_simp; try with_reducible rfl
  try simp only [Act.put]
  try simp only [List.setIfInBounds_toArray, List.set_cons_zero, List.set_cons_succ]
  refine reg_take 3 ?_ ?_ ?_ (by kernel_rfl) (by kernel_rfl) (by kernel_rfl) (fun _ _ _ h => h) ?_ ?_ (by assumption) ?_
  rotate_left 2
  · simp only [List.getElem?_toArray, List.getElem?_cons_succ, List.getElem?_cons_zero]; exact rfl
  · rfl
  · intro w hSw; (try dsimp only at hSw); go_simp; try with_reducible rfl
  try simp only [Act.put]
  try simp only [List.setIfInBounds_toArray, List.set_cons_zero, List.set_cons_succ]
  refine reg_take 5 ?_ ?_ ?_ (by kernel_rfl) (by kernel_rfl) (by kernel_rfl) (fun _ _ _ h => h) ?_ ?_ (by assumption) ?_
  rotate_left 2
  · simp only [List.getElem?_toArray, List.getElem?_cons_succ, List.getElem?_cons_zero]; exact rfl
  · rfl
  · intro w hSw; (try dsimp only at hSw); go_simp; try with_reducible rfl
  try simp only [Act.put]
  try simp only [List.setIfInBounds_toArray, List.set_cons_zero, List.set_cons_succ]
  refine reg_take 6 ?_ ?_ ?_ (by kernel_rfl) (by kernel_rfl) (by kernel_rfl) (fun _ _ _ h => h) ?_ ?_ (by assumption) ?_
  rotate_left 2
  · simp only [List.getElem?_toArray, List.getElem?_cons_succ, List.getElem?_cons_zero]; exact rfl
  · rfl
  · intro w hSw; (try dsimp only at hSw); go_simp; try with_reducible rfl
  try simp only [Act.put]
  try simp only [List.setIfInBounds_toArray, List.set_cons_zero, List.set_cons_succ]
  refine reg_take 7 ?_ ?_ ?_ (by kernel_rfl) (by kernel_rfl) (by kernel_rfl) (fun _ _ _ h => h) ?_ ?_ (by assumption) ?_
  rotate_left 2
  · simp only [List.getElem?_toArray, List.getElem?_cons_succ, List.getElem?_cons_zero]; exact rfl
  · rfl
  · intro w hSw; (try dsimp only at hSw); go_simp; try with_reducible rfl
  try simp only [Act.put]
  try simp only [List.setIfInBounds_toArray, List.set_cons_zero, List.set_cons_succ]
  refine reg_take 8 ?_ ?_ ?_ (by kernel_rfl) (by kernel_rfl) (by kernel_rfl) (fun _ _ _ h => h) ?_ ?_ (by assumption) ?_
  rotate_left 2
  · simp only [List.getElem?_toArray, List.getElem?_cons_succ, List.getElem?_cons_zero]; exact rfl
  · rfl
  · intro w hSw; (try dsimp only at hSw); go_simp; try with_reducible rfl
  try simp only [Act.put]
  try simp only [List.setIfInBounds_toArray, List.set_cons_zero, List.set_cons_succ]
  refine reg_take 10 ?_ ?_ ?_ (by kernel_rfl) (by kernel_rfl) (by kernel_rfl) (fun _ _ _ h => h) ?_ ?_ (by assumption) ?_
  rotate_left 2
  · simp only [List.getElem?_toArray, List.getElem?_cons_succ, List.getElem?_cons_zero]; exact rfl
  · rfl
  · intro w hSw; (try dsimp only at hSw); go_simp; try with_reducible rfl
  try simp only [Act.put]
  try simp only [List.setIfInBounds_toArray, List.set_cons_zero, List.set_cons_succ]
  refine reg_take 11 ?_ ?_ ?_ (by kernel_rfl) (by kernel_rfl) (by kernel_rfl) (fun _ _ _ h => h) ?_ ?_ (by assumption) ?_
  rotate_left 2
  · simp only [List.getElem?_toArray, List.getElem?_cons_succ, List.getElem?_cons_zero]; exact rfl
  · rfl
  · intro w hSw; (try dsimp only at hSw); go_simp; try with_reducible rfl
  try simp only [Act.put]
  try simp only [List.setIfInBounds_toArray, List.set_cons_zero, List.set_cons_succ]
  refine reg_take 12 ?_ ?_ ?_ (by kernel_rfl) (by kernel_rfl) (by kernel_rfl) (fun _ _ _ h => h) ?_ ?_ (by assumption) ?_
  rotate_left 2
  · simp only [List.getElem?_toArray, List.getElem?_cons_succ, List.getElem?_cons_zero]; exact rfl
  · rfl
  · intro w hSw; (try dsimp only at hSw); go_simp; try with_reducible rfl
  try simp only [Act.put]
  try simp only [List.setIfInBounds_toArray, List.set_cons_zero, List.set_cons_succ]
  refine reg_take 13 ?_ ?_ ?_ (by kernel_rfl) (by kernel_rfl) (by kernel_rfl) (fun _ _ _ h => h) ?_ ?_ (by assumption) ?_
  rotate_left 2
  · simp only [List.getElem?_toArray, List.getElem?_cons_succ, List.getElem?_cons_zero]; exact rfl
  · rfl
  · intro w hSw; (try dsimp only at hSw); go_simp; try with_reducible rfl
  try simp only [Act.put]
  try simp only [List.setIfInBounds_toArray, List.set_cons_zero, List.set_cons_succ]
  refine reg_take 15 ?_ ?_ ?_ (by kernel_rfl) (by kernel_rfl) (by kernel_rfl) (fun _ _ _ h => h) ?_ ?_ (by assumption) ?_
  rotate_left 2
  · simp only [List.getElem?_toArray, List.getElem?_cons_succ, List.getElem?_cons_zero]; exact rfl
  · rfl
  · intro w hSw; (try dsimp only at hSw); go_simp; try with_reducible rfl
  try simp only [Act.put]
  try simp only [List.setIfInBounds_toArray, List.set_cons_zero, List.set_cons_succ]
  refine reg_take 16 ?_ ?_ ?_ (by kernel_rfl) (by kernel_rfl) (by kernel_rfl) (fun _ _ _ h => h) ?_ ?_ (by assumption) ?_
  rotate_left 2
  · simp only [List.getElem?_toArray, List.getElem?_cons_succ, List.getElem?_cons_zero]; exact rfl
  · rfl
  · intro w hSw; (try dsimp only at hSw); go_simp; try with_reducible rfl
  try simp only [Act.put]
  try simp only [List.setIfInBounds_toArray, List.set_cons_zero, List.set_cons_succ]
  refine reg_take 17 ?_ ?_ ?_ (by kernel_rfl) (by kernel_rfl) (by kernel_rfl) (fun _ _ _ h => h) ?_ ?_ (by assumption) ?_
  rotate_left 2
  · simp only [List.getElem?_toArray, List.getElem?_cons_succ, List.getElem?_cons_zero]; exact rfl
  · rfl
  · intro w hSw; (try dsimp only at hSw); go_simp; try with_reducible rfl
  try simp only [Act.put]
  try simp only [List.setIfInBounds_toArray, List.set_cons_zero, List.set_cons_succ]
  refine reg_take 18 ?_ ?_ ?_ (by kernel_rfl) (by kernel_rfl) (by kernel_rfl) (fun _ _ _ h => h) ?_ ?_ (by assumption) ?_
  rotate_left 2
  · simp only [List.getElem?_toArray, List.getElem?_cons_succ, List.getElem?_cons_zero]; exact rfl
  · rfl
  · intro w hSw; (try dsimp only at hSw); go_simp; try with_reducible rfl
  try simp only [Act.put]
  try simp only [List.setIfInBounds_toArray, List.set_cons_zero, List.set_cons_succ]
  refine reg_grab (fun WWi ai hWW hAA => ?_)
  rw [hWW]
  have HAi := Lib.hid hAA; clear hWW hAA hHeld
  obtain ⟨IVi, hIVi⟩ : ∃ IV : Array Bool → Act → World → Prop, ∀ l a w', IV l a w' ↔ ∃ (k : Nat) (bb0 bb1 bb2 bb3 : Bool) (v0_ v1_ v2_ v3_ p0_ p1_ p2_ p3_ : Value) (gq1 gq2 gq3 gq4 : Nat), k ≤ 4 ∧ l = #[true, true, true, true, decide (1 ≤ k), true, true, true, true, decide (2 ≤ k), true, true, true, true, decide (3 ≤ k), true, true, true, true, decide (4 ≤ k), bb0, bb1, bb2, bb3, false, false, false, false] ∧ a = ((((((((ai.put (some 23) v0_).put (some 28) v1_).put (some 33) v2_).put (some 38) v3_).put (some 9) p0_).put (some 10) p1_).put (some 11) p2_).put (some 12) p3_) ∧ FFi w' ∧ (1 ≤ k → RNum w' v0_ (2) (X1)) ∧ (2 ≤ k → RNum w' v1_ (2) (Y1)) ∧ (3 ≤ k → RNum w' v2_ (2) (X2)) ∧ (4 ≤ k → RNum w' v3_ (2) (Y2)) ∧ (bb0 = true → p0_ = .pointer (some ⟨gq1, 0, none⟩) ∧ Box w' gq1 [.bool false, .slice none 0 0] ∧ w4.heap.size ≤ gq1) ∧ (bb1 = true → p1_ = .pointer (some ⟨gq2, 0, none⟩) ∧ Box w' gq2 [.bool false, .slice none 0 0] ∧ w4.heap.size ≤ gq2) ∧ (bb2 = true → p2_ = .pointer (some ⟨gq3, 0, none⟩) ∧ Box w' gq3 [.bool false, .slice none 0 0] ∧ w4.heap.size ≤ gq3) ∧ (bb3 = true → p3_ = .pointer (some ⟨gq4, 0, none⟩) ∧ Box w' gq4 [.bool false, .slice none 0 0] ∧ w4.heap.size ≤ gq4) ∧ (bb0 = true → bb1 = true → gq1 ≠ gq2) ∧ (bb0 = true → bb2 = true → gq1 ≠ gq3) ∧ (bb0 = true → bb3 = true → gq1 ≠ gq4) ∧ (bb1 = true → bb2 = true → gq2 ≠ gq3) ∧ (bb1 = true → bb3 = true → gq2 ≠ gq4) ∧ (bb2 = true → bb3 = true → gq3 ≠ gq4) := ⟨_, fun _ _ _ => Iff.rfl⟩
  refine wpAnyH_until IVi ?_ _ _ _ _ ((hIVi _ _ _).2 ⟨0, false, false, false, false, (ai.tmps.getD 23 undef), (ai.tmps.getD 28 undef), (ai.tmps.getD 33 undef), (ai.tmps.getD 38 undef), (ai.tmps.getD 9 undef), (ai.tmps.getD 10 undef), (ai.tmps.getD 11 undef), (ai.tmps.getD 12 undef), 0, 0, 0, 0, Nat.zero_le _, rfl, (by simp only [put_same]), zF, (fun h => absurd h (by omega)), (fun h => absurd h (by omega)), (fun h => absurd h (by omega)), (fun h => absurd h (by omega)), (fun h => by cases h), (fun h => by cases h), (fun h => by cases h), (fun h => by cases h), (fun h => by cases h), (fun h => by cases h), (fun h => by cases h), (fun h => by cases h), (fun h => by cases h), (fun h => by cases h)⟩) (by kernel_rfl)
  clear zF
  intro ll aa w5 hI
  obtain ⟨k, bb0, bb1, bb2, bb3, v0_, v1_, v2_, v3_, p0_, p1_, p2_, p3_, gq1, gq2, gq3, gq4, hk, rfl, rfl, zF, rr1, rr2, rr3, rr4, zz0, zz1, zz2, zz3, n0_1, n0_2, n0_3, n1_2, n1_3, n2_3⟩ := (hIVi _ _ _).1 hI
  clear hI
  by_cases hL : k = 4 ∧ bb0 = true ∧ bb1 = true ∧ bb2 = true ∧ bb3 = true
  · left
    obtain ⟨rfl, rfl, rfl, rfl, rfl⟩ := hL
    have f1_0 := rr1 (by omega)
    obtain ⟨m1, o1, n1, c1, rfl⟩ := f1_0.shape
    have f2_0 := rr2 (by omega)
    obtain ⟨m2, o2, n2, c2, rfl⟩ := f2_0.shape
    have f3_0 := rr3 (by omega)
    obtain ⟨m3, o3, n3, c3, rfl⟩ := f3_0.shape
    have f4_0 := rr4 (by omega)
    obtain ⟨m4, o4, n4, c4, rfl⟩ := f4_0.shape
    obtain ⟨rfl, q1_0, hgq1⟩ := zz0 rfl
    obtain ⟨rfl, q2_0, hgq2⟩ := zz1 rfl
    obtain ⟨rfl, q3_0, hgq3⟩ := zz2 rfl
    obtain ⟨rfl, q4_0, hgq4⟩ := zz3 rfl
    have hnq1q2 := n0_1 rfl rfl
    have hnq1q3 := n0_2 rfl rfl
    have hnq1q4 := n0_3 rfl rfl
    have hnq2q3 := n1_2 rfl rfl
    have hnq2q4 := n1_3 rfl rfl
    have hnq3q4 := n2_3 rfl rfl
    clear hk rr1 rr2 rr3 rr4 zz0 zz1 zz2 zz3 n0_1 n0_2 n0_3 n1_2 n1_3 n2_3
    show wpAnyH _ _ _ _ _ 4 _ _ _
    rw [HAi.out]
    try simp only [Act.put]
    try simp only [List.setIfInBounds_toArray, List.set_cons_zero, List.set_cons_succ]
    obtain ⟨hB_0, pa_0, pb_0, pv_0, pu_0, hWi_0⟩ := (hFFi _).1 zF
    clear zF
    clear hWi_0
    obtain ⟨sf1a, sf1b, sf1c, sf1d⟩ := q1_0.open2
    obtain ⟨sg1a, sg1b⟩ := Box.put2 q1_0 (.bool m1)
    refine reg_call 24 ?_ (by kernel_rfl) ?_ (fun K hK => ?_)
    rotate_left 1
    · simp only [List.getElem?_toArray, List.getElem?_cons_succ, List.getElem?_cons_zero]; exact rfl
    go_simp
    have hB_1 := below_setAll hB_0 (g := gq1) (by omega) [.bool m1, .slice o1 n1 c1]
    have pa_1 := pa_0.farAll (g' := gq1) (by omega) [.bool m1, .slice o1 n1 c1]
    have pb_1 := pb_0.farAll (g' := gq1) (by omega) [.bool m1, .slice o1 n1 c1]
    have pv_1 := pv_0.farAll (g' := gq1) (by omega) [.bool m1, .slice o1 n1 c1]
    have pu_1 := pu_0.farAll (g' := gq1) (by omega) [.bool m1, .slice o1 n1 c1]
    have f1_1 := f1_0.setAll q1_0 (noWord2 _ _ _ _) [.bool m1, .slice o1 n1 c1] rfl
    have f2_1 := f2_0.setAll q1_0 (noWord2 _ _ _ _) [.bool m1, .slice o1 n1 c1] rfl
    have f3_1 := f3_0.setAll q1_0 (noWord2 _ _ _ _) [.bool m1, .slice o1 n1 c1] rfl
    have f4_1 := f4_0.setAll q1_0 (noWord2 _ _ _ _) [.bool m1, .slice o1 n1 c1] rfl
    have q2_1 := q2_0.farAll (g' := gq1) (by omega) [.bool m1, .slice o1 n1 c1]
    have q3_1 := q3_0.farAll (g' := gq1) (by omega) [.bool m1, .slice o1 n1 c1]
    have q4_1 := q4_0.farAll (g' := gq1) (by omega) [.bool m1, .slice o1 n1 c1]
    have q1_1 := q1_0.setAll [.bool m1, .slice o1 n1 c1] rfl
    simp only [setAll, Nat.zero_add] at hB_1 pa_1 pb_1 pv_1 pu_1 f1_1 f2_1 f3_1 f4_1 q1_1 q2_1 q3_1 q4_1
    clear sf1a sf1b sf1c sf1d sg1a sg1b
    clear hB_0 pa_0 pb_0 pv_0 pu_0 f1_0 f2_0 f3_0 f4_0 q2_0 q3_0 q4_0 q1_0
    refine hK.out _ _ ⟨pa_1.c0, pa_1.c1, pb_1.c0, pb_1.c1, pv_1.c0, pv_1.c1, pu_1.c0, pu_1.c1⟩ (fun hHeld => ?_)
    clear hK K
    try simp only [Act.put]
    try simp only [List.setIfInBounds_toArray, List.set_cons_zero, List.set_cons_succ]
    generalize (World.setCell (World.setCell w5 ⟨gq1, 0, none⟩ (.bool m1)) ⟨gq1, 1, none⟩ (.slice o1 n1 c1)) = w6 at *
    obtain ⟨sf2a, sf2b, sf2c, sf2d⟩ := q2_1.open2
    obtain ⟨sg2a, sg2b⟩ := Box.put2 q2_1 (.bool m2)
    refine reg_call 25 ?_ (by kernel_rfl) ?_ (fun K hK => ?_)
    rotate_left 1
    · simp only [List.getElem?_toArray, List.getElem?_cons_succ, List.getElem?_cons_zero]; exact rfl
    go_simp
    have hB_2 := below_setAll hB_1 (g := gq2) (by omega) [.bool m2, .slice o2 n2 c2]
    have pa_2 := pa_1.farAll (g' := gq2) (by omega) [.bool m2, .slice o2 n2 c2]
    have pb_2 := pb_1.farAll (g' := gq2) (by omega) [.bool m2, .slice o2 n2 c2]
    have pv_2 := pv_1.farAll (g' := gq2) (by omega) [.bool m2, .slice o2 n2 c2]
    have pu_2 := pu_1.farAll (g' := gq2) (by omega) [.bool m2, .slice o2 n2 c2]
    have f1_2 := f1_1.setAll q2_1 (noWord2 _ _ _ _) [.bool m2, .slice o2 n2 c2] rfl
    have f2_2 := f2_1.setAll q2_1 (noWord2 _ _ _ _) [.bool m2, .slice o2 n2 c2] rfl
    have f3_2 := f3_1.setAll q2_1 (noWord2 _ _ _ _) [.bool m2, .slice o2 n2 c2] rfl
    have f4_2 := f4_1.setAll q2_1 (noWord2 _ _ _ _) [.bool m2, .slice o2 n2 c2] rfl
    have q1_2 := q1_1.farAll (g' := gq2) (by omega) [.bool m2, .slice o2 n2 c2]
    have q3_2 := q3_1.farAll (g' := gq2) (by omega) [.bool m2, .slice o2 n2 c2]
    have q4_2 := q4_1.farAll (g' := gq2) (by omega) [.bool m2, .slice o2 n2 c2]
    have q2_2 := q2_1.setAll [.bool m2, .slice o2 n2 c2] rfl
    simp only [setAll, Nat.zero_add] at hB_2 pa_2 pb_2 pv_2 pu_2 f1_2 f2_2 f3_2 f4_2 q1_2 q2_2 q3_2 q4_2
    clear sf2a sf2b sf2c sf2d sg2a sg2b
    clear hB_1 pa_1 pb_1 pv_1 pu_1 f1_1 f2_1 f3_1 f4_1 q1_1 q3_1 q4_1 q2_1
    refine hK.out _ _ ⟨pa_2.c0, pa_2.c1, pb_2.c0, pb_2.c1, pv_2.c0, pv_2.c1, pu_2.c0, pu_2.c1⟩ (fun hHeld => ?_)
    clear hK K
    try simp only [Act.put]
    try simp only [List.setIfInBounds_toArray, List.set_cons_zero, List.set_cons_succ]
    generalize (World.setCell (World.setCell w6 ⟨gq2, 0, none⟩ (.bool m2)) ⟨gq2, 1, none⟩ (.slice o2 n2 c2)) = w7 at *
    obtain ⟨sf3a, sf3b, sf3c, sf3d⟩ := q3_2.open2
    obtain ⟨sg3a, sg3b⟩ := Box.put2 q3_2 (.bool m3)
    refine reg_call 26 ?_ (by kernel_rfl) ?_ (fun K hK => ?_)
    rotate_left 1
    · simp only [List.getElem?_toArray, List.getElem?_cons_succ, List.getElem?_cons_zero]; exact rfl
    go_simp
    have hB_3 := below_setAll hB_2 (g := gq3) (by omega) [.bool m3, .slice o3 n3 c3]
    have pa_3 := pa_2.farAll (g' := gq3) (by omega) [.bool m3, .slice o3 n3 c3]
    have pb_3 := pb_2.farAll (g' := gq3) (by omega) [.bool m3, .slice o3 n3 c3]
    have pv_3 := pv_2.farAll (g' := gq3) (by omega) [.bool m3, .slice o3 n3 c3]
    have pu_3 := pu_2.farAll (g' := gq3) (by omega) [.bool m3, .slice o3 n3 c3]
    have f1_3 := f1_2.setAll q3_2 (noWord2 _ _ _ _) [.bool m3, .slice o3 n3 c3] rfl
    have f2_3 := f2_2.setAll q3_2 (noWord2 _ _ _ _) [.bool m3, .slice o3 n3 c3] rfl
    have f3_3 := f3_2.setAll q3_2 (noWord2 _ _ _ _) [.bool m3, .slice o3 n3 c3] rfl
    have f4_3 := f4_2.setAll q3_2 (noWord2 _ _ _ _) [.bool m3, .slice o3 n3 c3] rfl
    have q1_3 := q1_2.farAll (g' := gq3) (by omega) [.bool m3, .slice o3 n3 c3]
    have q2_3 := q2_2.farAll (g' := gq3) (by omega) [.bool m3, .slice o3 n3 c3]
    have q4_3 := q4_2.farAll (g' := gq3) (by omega) [.bool m3, .slice o3 n3 c3]
    have q3_3 := q3_2.setAll [.bool m3, .slice o3 n3 c3] rfl
    simp only [setAll, Nat.zero_add] at hB_3 pa_3 pb_3 pv_3 pu_3 f1_3 f2_3 f3_3 f4_3 q1_3 q2_3 q3_3 q4_3
    clear sf3a sf3b sf3c sf3d sg3a sg3b
    clear hB_2 pa_2 pb_2 pv_2 pu_2 f1_2 f2_2 f3_2 f4_2 q1_2 q2_2 q4_2 q3_2
    refine hK.out _ _ ⟨pa_3.c0, pa_3.c1, pb_3.c0, pb_3.c1, pv_3.c0, pv_3.c1, pu_3.c0, pu_3.c1⟩ (fun hHeld => ?_)
    clear hK K
    try simp only [Act.put]
    try simp only [List.setIfInBounds_toArray, List.set_cons_zero, List.set_cons_succ]
    generalize (World.setCell (World.setCell w7 ⟨gq3, 0, none⟩ (.bool m3)) ⟨gq3, 1, none⟩ (.slice o3 n3 c3)) = w8 at *
    obtain ⟨sf4a, sf4b, sf4c, sf4d⟩ := q4_3.open2
    obtain ⟨sg4a, sg4b⟩ := Box.put2 q4_3 (.bool m4)
    refine reg_call 27 ?_ (by kernel_rfl) ?_ (fun K hK => ?_)
    rotate_left 1
    · simp only [List.getElem?_toArray, List.getElem?_cons_succ, List.getElem?_cons_zero]; exact rfl
    go_simp
    have hB_4 := below_setAll hB_3 (g := gq4) (by omega) [.bool m4, .slice o4 n4 c4]
    have pa_4 := pa_3.farAll (g' := gq4) (by omega) [.bool m4, .slice o4 n4 c4]
    have pb_4 := pb_3.farAll (g' := gq4) (by omega) [.bool m4, .slice o4 n4 c4]
    have pv_4 := pv_3.farAll (g' := gq4) (by omega) [.bool m4, .slice o4 n4 c4]
    have pu_4 := pu_3.farAll (g' := gq4) (by omega) [.bool m4, .slice o4 n4 c4]
    have f1_4 := f1_3.setAll q4_3 (noWord2 _ _ _ _) [.bool m4, .slice o4 n4 c4] rfl
    have f2_4 := f2_3.setAll q4_3 (noWord2 _ _ _ _) [.bool m4, .slice o4 n4 c4] rfl
    have f3_4 := f3_3.setAll q4_3 (noWord2 _ _ _ _) [.bool m4, .slice o4 n4 c4] rfl
    have f4_4 := f4_3.setAll q4_3 (noWord2 _ _ _ _) [.bool m4, .slice o4 n4 c4] rfl
    have q1_4 := q1_3.farAll (g' := gq4) (by omega) [.bool m4, .slice o4 n4 c4]
    have q2_4 := q2_3.farAll (g' := gq4) (by omega) [.bool m4, .slice o4 n4 c4]
    have q3_4 := q3_3.farAll (g' := gq4) (by omega) [.bool m4, .slice o4 n4 c4]
    have q4_4 := q4_3.setAll [.bool m4, .slice o4 n4 c4] rfl
    simp only [setAll, Nat.zero_add] at hB_4 pa_4 pb_4 pv_4 pu_4 f1_4 f2_4 f3_4 f4_4 q1_4 q2_4 q3_4 q4_4
    clear sf4a sf4b sf4c sf4d sg4a sg4b
    clear hB_3 pa_3 pb_3 pv_3 pu_3 f1_3 f2_3 f3_3 f4_3 q1_3 q2_3 q3_3 q4_3
    refine hK.out _ _ ⟨pa_4.c0, pa_4.c1, pb_4.c0, pb_4.c1, pv_4.c0, pv_4.c1, pu_4.c0, pu_4.c1⟩ (fun hHeld => ?_)
    clear hK K
    try simp only [Act.put]
    try simp only [List.setIfInBounds_toArray, List.set_cons_zero, List.set_cons_succ]
    generalize (World.setCell (World.setCell w8 ⟨gq4, 0, none⟩ (.bool m4)) ⟨gq4, 1, none⟩ (.slice o4 n4 c4)) = w9 at *
    refine wpAnyH_done (by kernel_rfl) ?_ _
    refine NoPanic.normal ?_
    obtain ⟨pae0, pae1, pae2, pae3⟩ := pa_4.open2
    obtain ⟨pbe0, pbe1, pbe2, pbe3⟩ := pb_4.open2
    obtain ⟨pve0, pve1, pve2, pve3⟩ := pv_4.open2
    obtain ⟨pue0, pue1, pue2, pue3⟩ := pu_4.open2
    go_wp2
    clear pae0 pae1 pae2 pae3 pbe0 pbe1 pbe2 pbe3 pve0 pve1 pve2 pve3 pue0 pue1 pue2 pue3
    have hWj_0 := Below.refl w9.heap.size w9
    have hsj : w.heap.size ≤ w9.heap.size := hB_4.size
    have hljpa := pa_4.lt
    have hljpb := pb_4.lt
    have hljpv := pv_4.lt
    have hljpu := pu_4.lt
    have hljq1 := q1_4.lt
    have hljq2 := q2_4.lt
    have hljq3 := q3_4.lt
    have hljq4 := q4_4.lt
    have hB_5 := hB_4.drew'
    have pa_5 := pa_4.drew
    have pb_5 := pb_4.drew
    have pv_5 := pv_4.drew
    have pu_5 := pu_4.drew
    have f1_5 := f1_4.drew
    have f2_5 := f2_4.drew
    have f3_5 := f3_4.drew
    have f4_5 := f4_4.drew
    have q1_5 := q1_4.drew
    have q2_5 := q2_4.drew
    have q3_5 := q3_4.drew
    have q4_5 := q4_4.drew
    have hWj_1 := hWj_0.drew'
    clear hB_4 pa_4 pb_4 pv_4 pu_4 f1_4 f2_4 f3_4 f4_4 q1_4 q2_4 q3_4 q4_4 hWj_0
    obtain ⟨FFj, hFFj⟩ : ∃ F : World → Prop, ∀ w', F w' ↔ (Below w.heap.size w w' ∧ Box w' (w.heap.size) [.int .i64 a0, .int .i64 a1] ∧ Box w' (w.heap.size + 1) [.int .i64 b0, .int .i64 b1] ∧ Box w' (w.heap.size + 1 + 1) [.int .i64 v0, .int .i64 v1] ∧ Box w' (w.heap.size + 1 + 1 + 1) [.int .i64 u0, .int .i64 u1] ∧ RNum w' (.agg #[.bool m1, .slice o1 n1 c1]) (2) (X1) ∧ RNum w' (.agg #[.bool m2, .slice o2 n2 c2]) (2) (Y1) ∧ RNum w' (.agg #[.bool m3, .slice o3 n3 c3]) (2) (X2) ∧ RNum w' (.agg #[.bool m4, .slice o4 n4 c4]) (2) (Y2) ∧ Box w' (gq1) [.bool m1, .slice o1 n1 c1] ∧ Box w' (gq2) [.bool m2, .slice o2 n2 c2] ∧ Box w' (gq3) [.bool m3, .slice o3 n3 c3] ∧ Box w' (gq4) [.bool m4, .slice o4 n4 c4] ∧ Below w9.heap.size w9 w') := ⟨_, fun _ => Iff.rfl⟩
    have cFj : ∀ {w' w'' : World}, FFj w' → Below w'.heap.size w' w'' → FFj w'' := by
      intro w' w'' h hb
      obtain ⟨y0, y1, y2, y3, y4, y5, y6, y7, y8, y9, y10, y11, y12, y13⟩ := (hFFj _).1 h
      exact (hFFj _).2 ⟨y0.trans (hb.mono y0.size), y1.below hb, y2.below hb, y3.below hb, y4.below hb, y5.below hb, y6.below hb, y7.below hb, y8.below hb, y9.below hb, y10.below hb, y11.below hb, y12.below hb, y13.trans (hb.mono y13.size)⟩
    have mFj : ∀ {w' : World}, FFj w' → w9.heap.size ≤ w'.heap.size := by
      intro w' h
      obtain ⟨y0, y1, y2, y3, y4, y5, y6, y7, y8, y9, y10, y11, y12, y13⟩ := (hFFj _).1 h
      exact y13.size
    have sFj : ∀ {w' : World}, FFj w' → (w'.cell? ⟨w.heap.size, 0, none⟩ = some (.int .i64 a0) ∧ w'.cell? ⟨w.heap.size, 1, none⟩ = some (.int .i64 a1) ∧ w'.cell? ⟨w.heap.size + 1, 0, none⟩ = some (.int .i64 b0) ∧ w'.cell? ⟨w.heap.size + 1, 1, none⟩ = some (.int .i64 b1) ∧ w'.cell? ⟨w.heap.size + 1 + 1, 0, none⟩ = some (.int .i64 v0) ∧ w'.cell? ⟨w.heap.size + 1 + 1, 1, none⟩ = some (.int .i64 v1) ∧ w'.cell? ⟨w.heap.size + 1 + 1 + 1, 0, none⟩ = some (.int .i64 u0) ∧ w'.cell? ⟨w.heap.size + 1 + 1 + 1, 1, none⟩ = some (.int .i64 u1)) := by
      intro w' h
      obtain ⟨y0, y1, y2, y3, y4, y5, y6, y7, y8, y9, y10, y11, y12, y13⟩ := (hFFj _).1 h
      exact ⟨y1.c0, y1.c1, y2.c0, y2.c1, y3.c0, y3.c1, y4.c0, y4.c1⟩
    have zF : FFj w9.drew := (hFFj _).2 ⟨hB_5, pa_5, pb_5, pv_5, pu_5, f1_5, f2_5, f3_5, f4_5, q1_5, q2_5, q3_5, q4_5, hWj_1⟩
    clear hB_5 pa_5 pb_5 pv_5 pu_5 f1_5 f2_5 f3_5 f4_5 q1_5 q2_5 q3_5 q4_5 hWj_1
    refine wp_region_noPanic ?_
    refine wp_region_held_drew (S := fun w' => w'.cell? ⟨w.heap.size, 0, none⟩ = some (.int .i64 a0) ∧ w'.cell? ⟨w.heap.size, 1, none⟩ = some (.int .i64 a1) ∧ w'.cell? ⟨w.heap.size + 1, 0, none⟩ = some (.int .i64 b0) ∧ w'.cell? ⟨w.heap.size + 1, 1, none⟩ = some (.int .i64 b1) ∧ w'.cell? ⟨w.heap.size + 1 + 1, 0, none⟩ = some (.int .i64 v0) ∧ w'.cell? ⟨w.heap.size + 1 + 1, 1, none⟩ = some (.int .i64 v1) ∧ w'.cell? ⟨w.heap.size + 1 + 1 + 1, 0, none⟩ = some (.int .i64 u0) ∧ w'.cell? ⟨w.heap.size + 1 + 1 + 1, 1, none⟩ = some (.int .i64 u1)) (by kernel_rfl) (sFj zF) (fun hHeld => ?_)
    refine reg_take 0 ?_ ?_ ?_ (by kernel_rfl) (by kernel_rfl) (by kernel_rfl) (fun _ _ _ h => h) ?_ ?_ (by assumption) ?_
    rotate_left 2
    · simp only [List.getElem?_toArray, List.getElem?_cons_zero]; exact rfl
    · rfl
    · intro w hSw; (try dsimp only at hSw); go_simp; try with_reducible rfl
    try simp only [Act.put]
    try simp only [List.setIfInBounds_toArray, List.set_cons_zero, List.set_cons_succ]
    refine reg_take 1 ?_ ?_ ?_ (by kernel_rfl) (by kernel_rfl) (by kernel_rfl) (fun _ _ _ h => h) ?_ ?_ (by assumption) ?_
    rotate_left 2
    · simp only [List.getElem?_toArray, List.getElem?_cons_succ, List.getElem?_cons_zero]; exact rfl
    · rfl
    · intro w hSw; (try dsimp only at hSw); go_simp; try with_reducible rfl
    try simp only [Act.put]
    try simp only [List.setIfInBounds_toArray, List.set_cons_zero, List.set_cons_succ]
    refine reg_take 2 ?_ ?_ ?_ (by kernel_rfl) (by kernel_rfl) (by kernel_rfl) (fun _ _ _ h => h) ?_ ?_ (by assumption) ?_
    rotate_left 2
    · simp only [List.getElem?_toArray, List.getElem?_cons_succ, List.getElem?_cons_zero]; exact rfl
    · rfl
    · intro w hSw; (try dsimp only at hSw); go_simp; try with_reducible rfl
    try simp only [Act.put]
    try simp only [List.setIfInBounds_toArray, List.set_cons_zero, List.set_cons_succ]
    refine reg_take 3 ?_ ?_ ?_ (by kernel_rfl) (by kernel_rfl) (by kernel_rfl) (fun _ _ _ h => h) ?_ ?_ (by assumption) ?_
    rotate_left 2
    · simp only [List.getElem?_toArray, List.getElem?_cons_succ, List.getElem?_cons_zero]; exact rfl
    · rfl
    · intro w hSw; (try dsimp only at hSw); go_simp; try with_reducible rfl
    try simp only [Act.put]
    try simp only [List.setIfInBounds_toArray, List.set_cons_zero, List.set_cons_succ]
    refine reg_take 5 ?_ ?_ ?_ (by kernel_rfl) (by kernel_rfl) (by kernel_rfl) (fun _ _ _ h => h) ?_ ?_ (by assumption) ?_
    rotate_left 2
    · simp only [List.getElem?_toArray, List.getElem?_cons_succ, List.getElem?_cons_zero]; exact rfl
    · rfl
    · intro w hSw; (try dsimp only at hSw); go_simp; try with_reducible rfl
    try simp only [Act.put]
    try simp only [List.setIfInBounds_toArray, List.set_cons_zero, List.set_cons_succ]
    refine reg_take 6 ?_ ?_ ?_ (by kernel_rfl) (by kernel_rfl) (by kernel_rfl) (fun _ _ _ h => h) ?_ ?_ (by assumption) ?_
    rotate_left 2
    · simp only [List.getElem?_toArray, List.getElem?_cons_succ, List.getElem?_cons_zero]; exact rfl
    · rfl
    · intro w hSw; (try dsimp only at hSw); go_simp; try with_reducible rfl
    try simp only [Act.put]
    try simp only [List.setIfInBounds_toArray, List.set_cons_zero, List.set_cons_succ]
    refine reg_take 7 ?_ ?_ ?_ (by kernel_rfl) (by kernel_rfl) (by kernel_rfl) (fun _ _ _ h => h) ?_ ?_ (by assumption) ?_
    rotate_left 2
    · simp only [List.getElem?_toArray, List.getElem?_cons_succ, List.getElem?_cons_zero]; exact rfl
    · rfl
    · intro w hSw; (try dsimp only at hSw); go_simp; try with_reducible rfl
    try simp only [Act.put]
    try simp only [List.setIfInBounds_toArray, List.set_cons_zero, List.set_cons_succ]
    refine reg_take 8 ?_ ?_ ?_ (by kernel_rfl) (by kernel_rfl) (by kernel_rfl) (fun _ _ _ h => h) ?_ ?_ (by assumption) ?_
    rotate_left 2
    · simp only [List.getElem?_toArray, List.getElem?_cons_succ, List.getElem?_cons_zero]; exact rfl
    · rfl
    · intro w hSw; (try dsimp only at hSw); go_simp; try with_reducible rfl
    try simp only [Act.put]
    try simp only [List.setIfInBounds_toArray, List.set_cons_zero, List.set_cons_succ]
    refine reg_grab (fun WWj aj hWW hAA => ?_)
    rw [hWW]
    have HAj := Lib.hid hAA; clear hWW hAA hHeld
    obtain ⟨IVj, hIVj⟩ : ∃ IV : Array Bool → Act → World → Prop, ∀ l a w', IV l a w' ↔ ∃ (k : Nat) (bb0 bb1 : Bool) (v0_ v1_ p0_ p1_ : Value) (gq5 gq6 : Nat), k ≤ 2 ∧ l = #[true, true, true, true, decide (1 ≤ k), true, true, true, true, decide (2 ≤ k), bb0, bb1, false, false] ∧ a = ((((aj.put (some 43) v0_).put (some 48) v1_).put (some 13) p0_).put (some 14) p1_) ∧ FFj w' ∧ (1 ≤ k → RNum w' v0_ (2) (X3)) ∧ (2 ≤ k → RNum w' v1_ (2) (Y3)) ∧ (bb0 = true → p0_ = .pointer (some ⟨gq5, 0, none⟩) ∧ Box w' gq5 [.bool false, .slice none 0 0] ∧ w9.heap.size ≤ gq5) ∧ (bb1 = true → p1_ = .pointer (some ⟨gq6, 0, none⟩) ∧ Box w' gq6 [.bool false, .slice none 0 0] ∧ w9.heap.size ≤ gq6) ∧ (bb0 = true → bb1 = true → gq5 ≠ gq6) := ⟨_, fun _ _ _ => Iff.rfl⟩
    refine wpAnyH_until IVj ?_ _ _ _ _ ((hIVj _ _ _).2 ⟨0, false, false, (aj.tmps.getD 43 undef), (aj.tmps.getD 48 undef), (aj.tmps.getD 13 undef), (aj.tmps.getD 14 undef), 0, 0, Nat.zero_le _, rfl, (by simp only [put_same]), zF, (fun h => absurd h (by omega)), (fun h => absurd h (by omega)), (fun h => by cases h), (fun h => by cases h), (fun h => by cases h)⟩) (by kernel_rfl)
    clear zF
    intro ll aa w10 hI
    obtain ⟨k, bb0, bb1, v0_, v1_, p0_, p1_, gq5, gq6, hk, rfl, rfl, zF, rr1, rr2, zz0, zz1, n0_1⟩ := (hIVj _ _ _).1 hI
    clear hI
    by_cases hL : k = 2 ∧ bb0 = true ∧ bb1 = true
    · left
      obtain ⟨rfl, rfl, rfl⟩ := hL
      have f5_0 := rr1 (by omega)
      obtain ⟨m5, o5, n5, c5, rfl⟩ := f5_0.shape
      have f6_0 := rr2 (by omega)
      obtain ⟨m6, o6, n6, c6, rfl⟩ := f6_0.shape
      obtain ⟨rfl, q5_0, hgq5⟩ := zz0 rfl
      obtain ⟨rfl, q6_0, hgq6⟩ := zz1 rfl
      have hnq5q6 := n0_1 rfl rfl
      clear hk rr1 rr2 zz0 zz1 n0_1
      show wpAnyH _ _ _ _ _ 2 _ _ _
      rw [HAj.out]
      try simp only [Act.put]
      try simp only [List.setIfInBounds_toArray, List.set_cons_zero, List.set_cons_succ]
      obtain ⟨hB_0, pa_0, pb_0, pv_0, pu_0, f1_0, f2_0, f3_0, f4_0, q1_0, q2_0, q3_0, q4_0, hWj_0⟩ := (hFFj _).1 zF
      clear zF
      clear hWj_0
      obtain ⟨sf5a, sf5b, sf5c, sf5d⟩ := q5_0.open2
      obtain ⟨sg5a, sg5b⟩ := Box.put2 q5_0 (.bool m5)
      refine reg_call 12 ?_ (by kernel_rfl) ?_ (fun K hK => ?_)
      rotate_left 1
      · simp only [List.getElem?_toArray, List.getElem?_cons_succ, List.getElem?_cons_zero]; exact rfl
      go_simp
      have hB_1 := below_setAll hB_0 (g := gq5) (by omega) [.bool m5, .slice o5 n5 c5]
      have pa_1 := pa_0.farAll (g' := gq5) (by omega) [.bool m5, .slice o5 n5 c5]
      have pb_1 := pb_0.farAll (g' := gq5) (by omega) [.bool m5, .slice o5 n5 c5]
      have pv_1 := pv_0.farAll (g' := gq5) (by omega) [.bool m5, .slice o5 n5 c5]
      have pu_1 := pu_0.farAll (g' := gq5) (by omega) [.bool m5, .slice o5 n5 c5]
      have f1_1 := f1_0.setAll q5_0 (noWord2 _ _ _ _) [.bool m5, .slice o5 n5 c5] rfl
      have f2_1 := f2_0.setAll q5_0 (noWord2 _ _ _ _) [.bool m5, .slice o5 n5 c5] rfl
      have f3_1 := f3_0.setAll q5_0 (noWord2 _ _ _ _) [.bool m5, .slice o5 n5 c5] rfl
      have f4_1 := f4_0.setAll q5_0 (noWord2 _ _ _ _) [.bool m5, .slice o5 n5 c5] rfl
      have q1_1 := q1_0.farAll (g' := gq5) (by omega) [.bool m5, .slice o5 n5 c5]
      have q2_1 := q2_0.farAll (g' := gq5) (by omega) [.bool m5, .slice o5 n5 c5]
      have q3_1 := q3_0.farAll (g' := gq5) (by omega) [.bool m5, .slice o5 n5 c5]
      have q4_1 := q4_0.farAll (g' := gq5) (by omega) [.bool m5, .slice o5 n5 c5]
      have f5_1 := f5_0.setAll q5_0 (noWord2 _ _ _ _) [.bool m5, .slice o5 n5 c5] rfl
      have f6_1 := f6_0.setAll q5_0 (noWord2 _ _ _ _) [.bool m5, .slice o5 n5 c5] rfl
      have q6_1 := q6_0.farAll (g' := gq5) (by omega) [.bool m5, .slice o5 n5 c5]
      have q5_1 := q5_0.setAll [.bool m5, .slice o5 n5 c5] rfl
      simp only [setAll, Nat.zero_add] at hB_1 pa_1 pb_1 pv_1 pu_1 f1_1 f2_1 f3_1 f4_1 q1_1 q2_1 q3_1 q4_1 f5_1 f6_1 q5_1 q6_1
      clear sf5a sf5b sf5c sf5d sg5a sg5b
      clear hB_0 pa_0 pb_0 pv_0 pu_0 f1_0 f2_0 f3_0 f4_0 q1_0 q2_0 q3_0 q4_0 f5_0 f6_0 q6_0 q5_0
      refine hK.out _ _ ⟨pa_1.c0, pa_1.c1, pb_1.c0, pb_1.c1, pv_1.c0, pv_1.c1, pu_1.c0, pu_1.c1⟩ (fun hHeld => ?_)
      clear hK K
      try simp only [Act.put]
      try simp only [List.setIfInBounds_toArray, List.set_cons_zero, List.set_cons_succ]
      generalize (World.setCell (World.setCell w10 ⟨gq5, 0, none⟩ (.bool m5)) ⟨gq5, 1, none⟩ (.slice o5 n5 c5)) = w11 at *
      obtain ⟨sf6a, sf6b, sf6c, sf6d⟩ := q6_1.open2
      obtain ⟨sg6a, sg6b⟩ := Box.put2 q6_1 (.bool m6)
      refine reg_call 13 ?_ (by kernel_rfl) ?_ (fun K hK => ?_)
      rotate_left 1
      · simp only [List.getElem?_toArray, List.getElem?_cons_succ, List.getElem?_cons_zero]; exact rfl
      go_simp
      have hB_2 := below_setAll hB_1 (g := gq6) (by omega) [.bool m6, .slice o6 n6 c6]
      have pa_2 := pa_1.farAll (g' := gq6) (by omega) [.bool m6, .slice o6 n6 c6]
      have pb_2 := pb_1.farAll (g' := gq6) (by omega) [.bool m6, .slice o6 n6 c6]
      have pv_2 := pv_1.farAll (g' := gq6) (by omega) [.bool m6, .slice o6 n6 c6]
      have pu_2 := pu_1.farAll (g' := gq6) (by omega) [.bool m6, .slice o6 n6 c6]
      have f1_2 := f1_1.setAll q6_1 (noWord2 _ _ _ _) [.bool m6, .slice o6 n6 c6] rfl
      have f2_2 := f2_1.setAll q6_1 (noWord2 _ _ _ _) [.bool m6, .slice o6 n6 c6] rfl
      have f3_2 := f3_1.setAll q6_1 (noWord2 _ _ _ _) [.bool m6, .slice o6 n6 c6] rfl
      have f4_2 := f4_1.setAll q6_1 (noWord2 _ _ _ _) [.bool m6, .slice o6 n6 c6] rfl
      have q1_2 := q1_1.farAll (g' := gq6) (by omega) [.bool m6, .slice o6 n6 c6]
      have q2_2 := q2_1.farAll (g' := gq6) (by omega) [.bool m6, .slice o6 n6 c6]
      have q3_2 := q3_1.farAll (g' := gq6) (by omega) [.bool m6, .slice o6 n6 c6]
      have q4_2 := q4_1.farAll (g' := gq6) (by omega) [.bool m6, .slice o6 n6 c6]
      have f5_2 := f5_1.setAll q6_1 (noWord2 _ _ _ _) [.bool m6, .slice o6 n6 c6] rfl
      have f6_2 := f6_1.setAll q6_1 (noWord2 _ _ _ _) [.bool m6, .slice o6 n6 c6] rfl
      have q5_2 := q5_1.farAll (g' := gq6) (by omega) [.bool m6, .slice o6 n6 c6]
      have q6_2 := q6_1.setAll [.bool m6, .slice o6 n6 c6] rfl
      simp only [setAll, Nat.zero_add] at hB_2 pa_2 pb_2 pv_2 pu_2 f1_2 f2_2 f3_2 f4_2 q1_2 q2_2 q3_2 q4_2 f5_2 f6_2 q5_2 q6_2
      clear sf6a sf6b sf6c sf6d sg6a sg6b
      clear hB_1 pa_1 pb_1 pv_1 pu_1 f1_1 f2_1 f3_1 f4_1 q1_1 q2_1 q3_1 q4_1 f5_1 f6_1 q5_1 q6_1
      refine hK.out _ _ ⟨pa_2.c0, pa_2.c1, pb_2.c0, pb_2.c1, pv_2.c0, pv_2.c1, pu_2.c0, pu_2.c1⟩ (fun hHeld => ?_)
      clear hK K
      try simp only [Act.put]
      try simp only [List.setIfInBounds_toArray, List.set_cons_zero, List.set_cons_succ]
      generalize (World.setCell (World.setCell w11 ⟨gq6, 0, none⟩ (.bool m6)) ⟨gq6, 1, none⟩ (.slice o6 n6 c6)) = w12 at *
      refine wpAnyH_done (by kernel_rfl) ?_ _
      refine NoPanic.normal ?_
      obtain ⟨pae0, pae1, pae2, pae3⟩ := pa_2.open2
      obtain ⟨pbe0, pbe1, pbe2, pbe3⟩ := pb_2.open2
      obtain ⟨pve0, pve1, pve2, pve3⟩ := pv_2.open2
      obtain ⟨pue0, pue1, pue2, pue3⟩ := pu_2.open2
      obtain ⟨q1e0, q1e1, q1e2, q1e3⟩ := q1_2.open2
      obtain ⟨q2e0, q2e1, q2e2, q2e3⟩ := q2_2.open2
      obtain ⟨q3e0, q3e1, q3e2, q3e3⟩ := q3_2.open2
      obtain ⟨q4e0, q4e1, q4e2, q4e3⟩ := q4_2.open2
      go_wp2
      clear pae0 pae1 pae2 pae3 pbe0 pbe1 pbe2 pbe3 pve0 pve1 pve2 pve3 pue0 pue1 pue2 pue3 q1e0 q1e1 q1e2 q1e3 q2e0 q2e1 q2e2 q2e3 q3e0 q3e1 q3e2 q3e3 q4e0 q4e1 q4e2 q4e3
      have hWk_0 := Below.refl w12.heap.size w12
      have hsk : w.heap.size ≤ w12.heap.size := hB_2.size
      have hlkpa := pa_2.lt
      have hlkpb := pb_2.lt
      have hlkpv := pv_2.lt
      have hlkpu := pu_2.lt
      have hlkq1 := q1_2.lt
      have hlkq2 := q2_2.lt
      have hlkq3 := q3_2.lt
      have hlkq4 := q4_2.lt
      have hlkq5 := q5_2.lt
      have hlkq6 := q6_2.lt
      have hB_3 := hB_2.drew'
      have pa_3 := pa_2.drew
      have pb_3 := pb_2.drew
      have pv_3 := pv_2.drew
      have pu_3 := pu_2.drew
      have f1_3 := f1_2.drew
      have f2_3 := f2_2.drew
      have f3_3 := f3_2.drew
      have f4_3 := f4_2.drew
      have q1_3 := q1_2.drew
      have q2_3 := q2_2.drew
      have q3_3 := q3_2.drew
      have q4_3 := q4_2.drew
      have f5_3 := f5_2.drew
      have f6_3 := f6_2.drew
      have q5_3 := q5_2.drew
      have q6_3 := q6_2.drew
      have hWk_1 := hWk_0.drew'
      clear hB_2 pa_2 pb_2 pv_2 pu_2 f1_2 f2_2 f3_2 f4_2 q1_2 q2_2 q3_2 q4_2 f5_2 f6_2 q5_2 q6_2 hWk_0
      obtain ⟨FFk, hFFk⟩ : ∃ F : World → Prop, ∀ w', F w' ↔ (Below w.heap.size w w' ∧ Box w' (w.heap.size) [.int .i64 a0, .int .i64 a1] ∧ Box w' (w.heap.size + 1) [.int .i64 b0, .int .i64 b1] ∧ Box w' (w.heap.size + 1 + 1) [.int .i64 v0, .int .i64 v1] ∧ Box w' (w.heap.size + 1 + 1 + 1) [.int .i64 u0, .int .i64 u1] ∧ RNum w' (.agg #[.bool m1, .slice o1 n1 c1]) (2) (X1) ∧ RNum w' (.agg #[.bool m2, .slice o2 n2 c2]) (2) (Y1) ∧ RNum w' (.agg #[.bool m3, .slice o3 n3 c3]) (2) (X2) ∧ RNum w' (.agg #[.bool m4, .slice o4 n4 c4]) (2) (Y2) ∧ Box w' (gq1) [.bool m1, .slice o1 n1 c1] ∧ Box w' (gq2) [.bool m2, .slice o2 n2 c2] ∧ Box w' (gq3) [.bool m3, .slice o3 n3 c3] ∧ Box w' (gq4) [.bool m4, .slice o4 n4 c4] ∧ RNum w' (.agg #[.bool m5, .slice o5 n5 c5]) (2) (X3) ∧ RNum w' (.agg #[.bool m6, .slice o6 n6 c6]) (2) (Y3) ∧ Box w' (gq5) [.bool m5, .slice o5 n5 c5] ∧ Box w' (gq6) [.bool m6, .slice o6 n6 c6] ∧ Below w12.heap.size w12 w') := ⟨_, fun _ => Iff.rfl⟩
      have cFk : ∀ {w' w'' : World}, FFk w' → Below w'.heap.size w' w'' → FFk w'' := by
        intro w' w'' h hb
        obtain ⟨y0, y1, y2, y3, y4, y5, y6, y7, y8, y9, y10, y11, y12, y13, y14, y15, y16, y17⟩ := (hFFk _).1 h
        exact (hFFk _).2 ⟨y0.trans (hb.mono y0.size), y1.below hb, y2.below hb, y3.below hb, y4.below hb, y5.below hb, y6.below hb, y7.below hb, y8.below hb, y9.below hb, y10.below hb, y11.below hb, y12.below hb, y13.below hb, y14.below hb, y15.below hb, y16.below hb, y17.trans (hb.mono y17.size)⟩
      have mFk : ∀ {w' : World}, FFk w' → w12.heap.size ≤ w'.heap.size := by
        intro w' h
        obtain ⟨y0, y1, y2, y3, y4, y5, y6, y7, y8, y9, y10, y11, y12, y13, y14, y15, y16, y17⟩ := (hFFk _).1 h
        exact y17.size
      have sFk : ∀ {w' : World}, FFk w' → (w'.cell? ⟨gq1, 0, none⟩ = some (.bool m1) ∧ w'.cell? ⟨gq1, 1, none⟩ = some (.slice o1 n1 c1) ∧ w'.cell? ⟨gq2, 0, none⟩ = some (.bool m2) ∧ w'.cell? ⟨gq2, 1, none⟩ = some (.slice o2 n2 c2) ∧ w'.cell? ⟨gq3, 0, none⟩ = some (.bool m3) ∧ w'.cell? ⟨gq3, 1, none⟩ = some (.slice o3 n3 c3) ∧ w'.cell? ⟨gq4, 0, none⟩ = some (.bool m4) ∧ w'.cell? ⟨gq4, 1, none⟩ = some (.slice o4 n4 c4)) := by
        intro w' h
        obtain ⟨y0, y1, y2, y3, y4, y5, y6, y7, y8, y9, y10, y11, y12, y13, y14, y15, y16, y17⟩ := (hFFk _).1 h
        exact ⟨y9.c0, y9.c1, y10.c0, y10.c1, y11.c0, y11.c1, y12.c0, y12.c1⟩
      have zF : FFk w12.drew := (hFFk _).2 ⟨hB_3, pa_3, pb_3, pv_3, pu_3, f1_3, f2_3, f3_3, f4_3, q1_3, q2_3, q3_3, q4_3, f5_3, f6_3, q5_3, q6_3, hWk_1⟩
      clear hB_3 pa_3 pb_3 pv_3 pu_3 f1_3 f2_3 f3_3 f4_3 q1_3 q2_3 q3_3 q4_3 f5_3 f6_3 q5_3 q6_3 hWk_1
      refine wp_region_noPanic ?_
      refine wp_region_held_drew (S := fun w' => w'.cell? ⟨gq1, 0, none⟩ = some (.bool m1) ∧ w'.cell? ⟨gq1, 1, none⟩ = some (.slice o1 n1 c1) ∧ w'.cell? ⟨gq2, 0, none⟩ = some (.bool m2) ∧ w'.cell? ⟨gq2, 1, none⟩ = some (.slice o2 n2 c2) ∧ w'.cell? ⟨gq3, 0, none⟩ = some (.bool m3) ∧ w'.cell? ⟨gq3, 1, none⟩ = some (.slice o3 n3 c3) ∧ w'.cell? ⟨gq4, 0, none⟩ = some (.bool m4) ∧ w'.cell? ⟨gq4, 1, none⟩ = some (.slice o4 n4 c4)) (by kernel_rfl) (sFk zF) (fun hHeld => ?_)
      refine reg_take 1 ?_ ?_ ?_ (by kernel_rfl) (by kernel_rfl) (by kernel_rfl) (fun _ _ _ h => h) ?_ ?_ (by assumption) ?_
      rotate_left 2
      · simp only [List.getElem?_toArray, List.getElem?_cons_succ, List.getElem?_cons_zero]; exact rfl
      · rfl
      · intro w hSw; (try dsimp only at hSw); go_simp; try with_reducible rfl
      try simp only [Act.put]
      try simp only [List.setIfInBounds_toArray, List.set_cons_zero, List.set_cons_succ]
      refine reg_take 2 ?_ ?_ ?_ (by kernel_rfl) (by kernel_rfl) (by kernel_rfl) (fun _ _ _ h => h) ?_ ?_ (by assumption) ?_
      rotate_left 2
      · simp only [List.getElem?_toArray, List.getElem?_cons_succ, List.getElem?_cons_zero]; exact rfl
      · rfl
      · intro w hSw; (try dsimp only at hSw); go_simp; try with_reducible rfl
      try simp only [Act.put]
      try simp only [List.setIfInBounds_toArray, List.set_cons_zero, List.set_cons_succ]
      refine reg_take 3 ?_ ?_ ?_ (by kernel_rfl) (by kernel_rfl) (by kernel_rfl) (fun _ _ _ h => h) ?_ ?_ (by assumption) ?_
      rotate_left 2
      · simp only [List.getElem?_toArray, List.getElem?_cons_succ, List.getElem?_cons_zero]; exact rfl
      · rfl
      · intro w hSw; (try dsimp only at hSw); go_simp; try with_reducible rfl
      try simp only [Act.put]
      try simp only [List.setIfInBounds_toArray, List.set_cons_zero, List.set_cons_succ]
      refine reg_take 4 ?_ ?_ ?_ (by kernel_rfl) (by kernel_rfl) (by kernel_rfl) (fun _ _ _ h => h) ?_ ?_ (by assumption) ?_
      rotate_left 2
      · simp only [List.getElem?_toArray, List.getElem?_cons_succ, List.getElem?_cons_zero]; exact rfl
      · rfl
      · intro w hSw; (try dsimp only at hSw); go_simp; try with_reducible rfl
      try simp only [Act.put]
      try simp only [List.setIfInBounds_toArray, List.set_cons_zero, List.set_cons_succ]
      refine reg_grab (fun WWk ak hWW hAA => ?_)
      rw [hWW]
      have HAk := Lib.hid hAA; clear hWW hAA hHeld
      obtain ⟨IVk, hIVk⟩ : ∃ IV : Array Bool → Act → World → Prop, ∀ l a w', IV l a w' ↔ ∃ (k : Nat) (bb0 : Bool) (v0_ v1_ v2_ p0_ : Value) (gq9 : Nat), k ≤ 3 ∧ l = #[decide (1 ≤ k), true, true, true, true, decide (2 ≤ k), decide (3 ≤ k), bb0, false] ∧ a = ((((ak.put (some 49) v0_).put (some 54) v1_).put (some 55) v2_).put (some 15) p0_) ∧ FFk w' ∧ (1 ≤ k → RNum w' v0_ (1) (2)) ∧ (2 ≤ k → RNum w' v1_ (5) (X1 * Y2 - Y1 * X2)) ∧ (3 ≤ k → RNum w' v2_ (6) (2 * (X1 * Y2 - Y1 * X2))) ∧ (bb0 = true → p0_ = .pointer (some ⟨gq9, 0, none⟩) ∧ Box w' gq9 [.bool false, .slice none 0 0] ∧ w12.heap.size ≤ gq9) := ⟨_, fun _ _ _ => Iff.rfl⟩
      refine wpAnyH_until IVk ?_ _ _ _ _ ((hIVk _ _ _).2 ⟨0, false, (ak.tmps.getD 49 undef), (ak.tmps.getD 54 undef), (ak.tmps.getD 55 undef), (ak.tmps.getD 15 undef), 0, Nat.zero_le _, rfl, (by simp only [put_same]), zF, (fun h => absurd h (by omega)), (fun h => absurd h (by omega)), (fun h => absurd h (by omega)), (fun h => by cases h)⟩) (by kernel_rfl)
      clear zF
      intro ll aa w13 hI
      obtain ⟨k, bb0, v0_, v1_, v2_, p0_, gq9, hk, rfl, rfl, zF, rr1, rr2, rr3, zz0⟩ := (hIVk _ _ _).1 hI
      clear hI
      by_cases hL : k = 3 ∧ bb0 = true
      · left
        obtain ⟨rfl, rfl⟩ := hL
        have f7_0 := rr1 (by omega)
        obtain ⟨m7, o7, n7, c7, rfl⟩ := f7_0.shape
        have f8_0 := rr2 (by omega)
        obtain ⟨m8, o8, n8, c8, rfl⟩ := f8_0.shape
        have f9_0 := rr3 (by omega)
        obtain ⟨m9, o9, n9, c9, rfl⟩ := f9_0.shape
        obtain ⟨rfl, q9_0, hgq9⟩ := zz0 rfl
        clear hk rr1 rr2 rr3 zz0
        show wpAnyH _ _ _ _ _ 1 _ _ _
        rw [HAk.out]
        try simp only [Act.put]
        try simp only [List.setIfInBounds_toArray, List.set_cons_zero, List.set_cons_succ]
        obtain ⟨hB_0, pa_0, pb_0, pv_0, pu_0, f1_0, f2_0, f3_0, f4_0, q1_0, q2_0, q3_0, q4_0, f5_0, f6_0, q5_0, q6_0, hWk_0⟩ := (hFFk _).1 zF
        clear zF
        clear hWk_0
        obtain ⟨sf7a, sf7b, sf7c, sf7d⟩ := q9_0.open2
        obtain ⟨sg7a, sg7b⟩ := Box.put2 q9_0 (.bool m9)
        refine reg_call 8 ?_ (by kernel_rfl) ?_ (fun K hK => ?_)
        rotate_left 1
        · simp only [List.getElem?_toArray, List.getElem?_cons_succ, List.getElem?_cons_zero]; exact rfl
        go_simp
        have hB_1 := below_setAll hB_0 (g := gq9) (by omega) [.bool m9, .slice o9 n9 c9]
        have pa_1 := pa_0.farAll (g' := gq9) (by omega) [.bool m9, .slice o9 n9 c9]
        have pb_1 := pb_0.farAll (g' := gq9) (by omega) [.bool m9, .slice o9 n9 c9]
        have pv_1 := pv_0.farAll (g' := gq9) (by omega) [.bool m9, .slice o9 n9 c9]
        have pu_1 := pu_0.farAll (g' := gq9) (by omega) [.bool m9, .slice o9 n9 c9]
        have f1_1 := f1_0.setAll q9_0 (noWord2 _ _ _ _) [.bool m9, .slice o9 n9 c9] rfl
        have f2_1 := f2_0.setAll q9_0 (noWord2 _ _ _ _) [.bool m9, .slice o9 n9 c9] rfl
        have f3_1 := f3_0.setAll q9_0 (noWord2 _ _ _ _) [.bool m9, .slice o9 n9 c9] rfl
        have f4_1 := f4_0.setAll q9_0 (noWord2 _ _ _ _) [.bool m9, .slice o9 n9 c9] rfl
        have q1_1 := q1_0.farAll (g' := gq9) (by omega) [.bool m9, .slice o9 n9 c9]
        have q2_1 := q2_0.farAll (g' := gq9) (by omega) [.bool m9, .slice o9 n9 c9]
        have q3_1 := q3_0.farAll (g' := gq9) (by omega) [.bool m9, .slice o9 n9 c9]
        have q4_1 := q4_0.farAll (g' := gq9) (by omega) [.bool m9, .slice o9 n9 c9]
        have f5_1 := f5_0.setAll q9_0 (noWord2 _ _ _ _) [.bool m9, .slice o9 n9 c9] rfl
        have f6_1 := f6_0.setAll q9_0 (noWord2 _ _ _ _) [.bool m9, .slice o9 n9 c9] rfl
        have q5_1 := q5_0.farAll (g' := gq9) (by omega) [.bool m9, .slice o9 n9 c9]
        have q6_1 := q6_0.farAll (g' := gq9) (by omega) [.bool m9, .slice o9 n9 c9]
        have f7_1 := f7_0.setAll q9_0 (noWord2 _ _ _ _) [.bool m9, .slice o9 n9 c9] rfl
        have f8_1 := f8_0.setAll q9_0 (noWord2 _ _ _ _) [.bool m9, .slice o9 n9 c9] rfl
        have f9_1 := f9_0.setAll q9_0 (noWord2 _ _ _ _) [.bool m9, .slice o9 n9 c9] rfl
        have q9_1 := q9_0.setAll [.bool m9, .slice o9 n9 c9] rfl
        simp only [setAll, Nat.zero_add] at hB_1 pa_1 pb_1 pv_1 pu_1 f1_1 f2_1 f3_1 f4_1 q1_1 q2_1 q3_1 q4_1 f5_1 f6_1 q5_1 q6_1 f7_1 f8_1 f9_1 q9_1
        clear sf7a sf7b sf7c sf7d sg7a sg7b
        clear hB_0 pa_0 pb_0 pv_0 pu_0 f1_0 f2_0 f3_0 f4_0 q1_0 q2_0 q3_0 q4_0 f5_0 f6_0 q5_0 q6_0 f7_0 f8_0 f9_0 q9_0
        refine hK.out _ _ ⟨q1_1.c0, q1_1.c1, q2_1.c0, q2_1.c1, q3_1.c0, q3_1.c1, q4_1.c0, q4_1.c1⟩ (fun hHeld => ?_)
        clear hK K
        try simp only [Act.put]
        try simp only [List.setIfInBounds_toArray, List.set_cons_zero, List.set_cons_succ]
        generalize (World.setCell (World.setCell w13 ⟨gq9, 0, none⟩ (.bool m9)) ⟨gq9, 1, none⟩ (.slice o9 n9 c9)) = w14 at *
        refine wpAnyH_done (by kernel_rfl) ?_ _
        refine NoPanic.normal ?_
        clear f7_1 f8_1
        rw [E1.out] at f9_1
        obtain ⟨pae0, pae1, pae2, pae3⟩ := pa_1.open2
        obtain ⟨pbe0, pbe1, pbe2, pbe3⟩ := pb_1.open2
        obtain ⟨pve0, pve1, pve2, pve3⟩ := pv_1.open2
        obtain ⟨pue0, pue1, pue2, pue3⟩ := pu_1.open2
        obtain ⟨q2e0, q2e1, q2e2, q2e3⟩ := q2_1.open2
        obtain ⟨q4e0, q4e1, q4e2, q4e3⟩ := q4_1.open2
        go_wp2
        clear pae0 pae1 pae2 pae3 pbe0 pbe1 pbe2 pbe3 pve0 pve1 pve2 pve3 pue0 pue1 pue2 pue3 q2e0 q2e1 q2e2 q2e3 q4e0 q4e1 q4e2 q4e3
        have hWl_0 := Below.refl w14.heap.size w14
        have hsl : w.heap.size ≤ w14.heap.size := hB_1.size
        have hllpa := pa_1.lt
        have hllpb := pb_1.lt
        have hllpv := pv_1.lt
        have hllpu := pu_1.lt
        have hllq1 := q1_1.lt
        have hllq2 := q2_1.lt
        have hllq3 := q3_1.lt
        have hllq4 := q4_1.lt
        have hllq5 := q5_1.lt
        have hllq6 := q6_1.lt
        have hllq9 := q9_1.lt
        have hB_2 := hB_1.drew'
        have pa_2 := pa_1.drew
        have pb_2 := pb_1.drew
        have pv_2 := pv_1.drew
        have pu_2 := pu_1.drew
        have f1_2 := f1_1.drew
        have f2_2 := f2_1.drew
        have f3_2 := f3_1.drew
        have f4_2 := f4_1.drew
        have q1_2 := q1_1.drew
        have q2_2 := q2_1.drew
        have q3_2 := q3_1.drew
        have q4_2 := q4_1.drew
        have f5_2 := f5_1.drew
        have f6_2 := f6_1.drew
        have q5_2 := q5_1.drew
        have q6_2 := q6_1.drew
        have f9_2 := f9_1.drew
        have q9_2 := q9_1.drew
        have hWl_1 := hWl_0.drew'
        clear hB_1 pa_1 pb_1 pv_1 pu_1 f1_1 f2_1 f3_1 f4_1 q1_1 q2_1 q3_1 q4_1 f5_1 f6_1 q5_1 q6_1 f9_1 q9_1 hWl_0
        obtain ⟨FFl, hFFl⟩ : ∃ F : World → Prop, ∀ w', F w' ↔ (Below w.heap.size w w' ∧ Box w' (w.heap.size) [.int .i64 a0, .int .i64 a1] ∧ Box w' (w.heap.size + 1) [.int .i64 b0, .int .i64 b1] ∧ Box w' (w.heap.size + 1 + 1) [.int .i64 v0, .int .i64 v1] ∧ Box w' (w.heap.size + 1 + 1 + 1) [.int .i64 u0, .int .i64 u1] ∧ RNum w' (.agg #[.bool m1, .slice o1 n1 c1]) (2) (X1) ∧ RNum w' (.agg #[.bool m2, .slice o2 n2 c2]) (2) (Y1) ∧ RNum w' (.agg #[.bool m3, .slice o3 n3 c3]) (2) (X2) ∧ RNum w' (.agg #[.bool m4, .slice o4 n4 c4]) (2) (Y2) ∧ Box w' (gq1) [.bool m1, .slice o1 n1 c1] ∧ Box w' (gq2) [.bool m2, .slice o2 n2 c2] ∧ Box w' (gq3) [.bool m3, .slice o3 n3 c3] ∧ Box w' (gq4) [.bool m4, .slice o4 n4 c4] ∧ RNum w' (.agg #[.bool m5, .slice o5 n5 c5]) (2) (X3) ∧ RNum w' (.agg #[.bool m6, .slice o6 n6 c6]) (2) (Y3) ∧ Box w' (gq5) [.bool m5, .slice o5 n5 c5] ∧ Box w' (gq6) [.bool m6, .slice o6 n6 c6] ∧ RNum w' (.agg #[.bool m9, .slice o9 n9 c9]) (6) (T) ∧ Box w' (gq9) [.bool m9, .slice o9 n9 c9] ∧ Below w14.heap.size w14 w') := ⟨_, fun _ => Iff.rfl⟩
        have cFl : ∀ {w' w'' : World}, FFl w' → Below w'.heap.size w' w'' → FFl w'' := by
          intro w' w'' h hb
          obtain ⟨y0, y1, y2, y3, y4, y5, y6, y7, y8, y9, y10, y11, y12, y13, y14, y15, y16, y17, y18, y19⟩ := (hFFl _).1 h
          exact (hFFl _).2 ⟨y0.trans (hb.mono y0.size), y1.below hb, y2.below hb, y3.below hb, y4.below hb, y5.below hb, y6.below hb, y7.below hb, y8.below hb, y9.below hb, y10.below hb, y11.below hb, y12.below hb, y13.below hb, y14.below hb, y15.below hb, y16.below hb, y17.below hb, y18.below hb, y19.trans (hb.mono y19.size)⟩
        have mFl : ∀ {w' : World}, FFl w' → w14.heap.size ≤ w'.heap.size := by
          intro w' h
          obtain ⟨y0, y1, y2, y3, y4, y5, y6, y7, y8, y9, y10, y11, y12, y13, y14, y15, y16, y17, y18, y19⟩ := (hFFl _).1 h
          exact y19.size
        have sFl : ∀ {w' : World}, FFl w' → (w'.cell? ⟨w.heap.size, 0, none⟩ = some (.int .i64 a0) ∧ w'.cell? ⟨w.heap.size, 1, none⟩ = some (.int .i64 a1) ∧ w'.cell? ⟨w.heap.size + 1, 0, none⟩ = some (.int .i64 b0) ∧ w'.cell? ⟨w.heap.size + 1, 1, none⟩ = some (.int .i64 b1) ∧ w'.cell? ⟨w.heap.size + 1 + 1, 0, none⟩ = some (.int .i64 v0) ∧ w'.cell? ⟨w.heap.size + 1 + 1, 1, none⟩ = some (.int .i64 v1) ∧ w'.cell? ⟨gq2, 0, none⟩ = some (.bool m2) ∧ w'.cell? ⟨gq2, 1, none⟩ = some (.slice o2 n2 c2) ∧ w'.cell? ⟨gq4, 0, none⟩ = some (.bool m4) ∧ w'.cell? ⟨gq4, 1, none⟩ = some (.slice o4 n4 c4)) := by
          intro w' h
          obtain ⟨y0, y1, y2, y3, y4, y5, y6, y7, y8, y9, y10, y11, y12, y13, y14, y15, y16, y17, y18, y19⟩ := (hFFl _).1 h
          exact ⟨y1.c0, y1.c1, y2.c0, y2.c1, y3.c0, y3.c1, y10.c0, y10.c1, y12.c0, y12.c1⟩
        have zF : FFl w14.drew := (hFFl _).2 ⟨hB_2, pa_2, pb_2, pv_2, pu_2, f1_2, f2_2, f3_2, f4_2, q1_2, q2_2, q3_2, q4_2, f5_2, f6_2, q5_2, q6_2, f9_2, q9_2, hWl_1⟩
        clear hB_2 pa_2 pb_2 pv_2 pu_2 f1_2 f2_2 f3_2 f4_2 q1_2 q2_2 q3_2 q4_2 f5_2 f6_2 q5_2 q6_2 f9_2 q9_2 hWl_1
        refine wp_region_noPanic ?_
        refine wp_region_held_drew (S := fun w' => w'.cell? ⟨w.heap.size, 0, none⟩ = some (.int .i64 a0) ∧ w'.cell? ⟨w.heap.size, 1, none⟩ = some (.int .i64 a1) ∧ w'.cell? ⟨w.heap.size + 1, 0, none⟩ = some (.int .i64 b0) ∧ w'.cell? ⟨w.heap.size + 1, 1, none⟩ = some (.int .i64 b1) ∧ w'.cell? ⟨w.heap.size + 1 + 1, 0, none⟩ = some (.int .i64 v0) ∧ w'.cell? ⟨w.heap.size + 1 + 1, 1, none⟩ = some (.int .i64 v1) ∧ w'.cell? ⟨gq2, 0, none⟩ = some (.bool m2) ∧ w'.cell? ⟨gq2, 1, none⟩ = some (.slice o2 n2 c2) ∧ w'.cell? ⟨gq4, 0, none⟩ = some (.bool m4) ∧ w'.cell? ⟨gq4, 1, none⟩ = some (.slice o4 n4 c4)) (by kernel_rfl) (sFl zF) (fun hHeld => ?_)
        refine reg_take 0 ?_ ?_ ?_ (by kernel_rfl) (by kernel_rfl) (by kernel_rfl) (fun _ _ _ h => h) ?_ ?_ (by assumption) ?_
        rotate_left 2
        · simp only [List.getElem?_toArray, List.getElem?_cons_zero]; exact rfl
        · rfl
        · intro w hSw; (try dsimp only at hSw); go_simp; try with_reducible rfl
        try simp only [Act.put]
        try simp only [List.setIfInBounds_toArray, List.set_cons_zero, List.set_cons_succ]
        refine reg_take 1 ?_ ?_ ?_ (by kernel_rfl) (by kernel_rfl) (by kernel_rfl) (fun _ _ _ h => h) ?_ ?_ (by assumption) ?_
        rotate_left 2
        · simp only [List.getElem?_toArray, List.getElem?_cons_succ, List.getElem?_cons_zero]; exact rfl
        · rfl
        · intro w hSw; (try dsimp only at hSw); go_simp; try with_reducible rfl
        try simp only [Act.put]
        try simp only [List.setIfInBounds_toArray, List.set_cons_zero, List.set_cons_succ]
        refine reg_take 3 ?_ ?_ ?_ (by kernel_rfl) (by kernel_rfl) (by kernel_rfl) (fun _ _ _ h => h) ?_ ?_ (by assumption) ?_
        rotate_left 2
        · simp only [List.getElem?_toArray, List.getElem?_cons_succ, List.getElem?_cons_zero]; exact rfl
        · rfl
        · intro w hSw; (try dsimp only at hSw); go_simp; try with_reducible rfl
        try simp only [Act.put]
        try simp only [List.setIfInBounds_toArray, List.set_cons_zero, List.set_cons_succ]
        refine reg_take 4 ?_ ?_ ?_ (by kernel_rfl) (by kernel_rfl) (by kernel_rfl) (fun _ _ _ h => h) ?_ ?_ (by assumption) ?_
        rotate_left 2
        · simp only [List.getElem?_toArray, List.getElem?_cons_succ, List.getElem?_cons_zero]; exact rfl
        · rfl
        · intro w hSw; (try dsimp only at hSw); go_simp; try with_reducible rfl
        try simp only [Act.put]
        try simp only [List.setIfInBounds_toArray, List.set_cons_zero, List.set_cons_succ]
        refine reg_take 5 ?_ ?_ ?_ (by kernel_rfl) (by kernel_rfl) (by kernel_rfl) (fun _ _ _ h => h) ?_ ?_ (by assumption) ?_
        rotate_left 2
        · simp only [List.getElem?_toArray, List.getElem?_cons_succ, List.getElem?_cons_zero]; exact rfl
        · rfl
        · intro w hSw; (try dsimp only at hSw); go_simp; try with_reducible rfl
        try simp only [Act.put]
        try simp only [List.setIfInBounds_toArray, List.set_cons_zero, List.set_cons_succ]
        refine reg_take 7 ?_ ?_ ?_ (by kernel_rfl) (by kernel_rfl) (by kernel_rfl) (fun _ _ _ h => h) ?_ ?_ (by assumption) ?_
        rotate_left 2
        · simp only [List.getElem?_toArray, List.getElem?_cons_succ, List.getElem?_cons_zero]; exact rfl
        · rfl
        · intro w hSw; (try dsimp only at hSw); go_simp; try with_reducible rfl
        try simp only [Act.put]
        try simp only [List.setIfInBounds_toArray, List.set_cons_zero, List.set_cons_succ]
        refine reg_grab (fun WWl al hWW hAA => ?_)
        rw [hWW]
        have HAl := Lib.hid hAA; clear hWW hAA hHeld
        obtain ⟨IVl, hIVl⟩ : ∃ IV : Array Bool → Act → World → Prop, ∀ l a w', IV l a w' ↔ ∃ (k : Nat) (bb0 : Bool) (v0_ v1_ v2_ p0_ : Value) (gq12 : Nat), k ≤ 3 ∧ l = #[true, true, decide (1 ≤ k), true, true, true, decide (2 ≤ k), true, decide (3 ≤ k), bb0, false] ∧ a = ((((al.put (some 58) v0_).put (some 62) v1_).put (some 64) v2_).put (some 16) p0_) ∧ FFl w' ∧ (1 ≤ k → RNum w' v0_ (5) (S1)) ∧ (2 ≤ k → RNum w' v1_ (5) (S2)) ∧ (3 ≤ k → RNum w' v2_ (8) (S1 * Y2 - Y1 * S2)) ∧ (bb0 = true → p0_ = .pointer (some ⟨gq12, 0, none⟩) ∧ Box w' gq12 [.bool false, .slice none 0 0] ∧ w14.heap.size ≤ gq12) := ⟨_, fun _ _ _ => Iff.rfl⟩
        refine wpAnyH_until IVl ?_ _ _ _ _ ((hIVl _ _ _).2 ⟨0, false, (al.tmps.getD 58 undef), (al.tmps.getD 62 undef), (al.tmps.getD 64 undef), (al.tmps.getD 16 undef), 0, Nat.zero_le _, rfl, (by simp only [put_same]), zF, (fun h => absurd h (by omega)), (fun h => absurd h (by omega)), (fun h => absurd h (by omega)), (fun h => by cases h)⟩) (by kernel_rfl)
        clear zF
        intro ll aa w15 hI
        obtain ⟨k, bb0, v0_, v1_, v2_, p0_, gq12, hk, rfl, rfl, zF, rr1, rr2, rr3, zz0⟩ := (hIVl _ _ _).1 hI
        clear hI
        by_cases hL : k = 3 ∧ bb0 = true
        · left
          obtain ⟨rfl, rfl⟩ := hL
          have f10_0 := rr1 (by omega)
          obtain ⟨m10, o10, n10, c10, rfl⟩ := f10_0.shape
          have f11_0 := rr2 (by omega)
          obtain ⟨m11, o11, n11, c11, rfl⟩ := f11_0.shape
          have f12_0 := rr3 (by omega)
          obtain ⟨m12, o12, n12, c12, rfl⟩ := f12_0.shape
          obtain ⟨rfl, q12_0, hgq12⟩ := zz0 rfl
          clear hk rr1 rr2 rr3 zz0
          show wpAnyH _ _ _ _ _ 1 _ _ _
          rw [HAl.out]
          try simp only [Act.put]
          try simp only [List.setIfInBounds_toArray, List.set_cons_zero, List.set_cons_succ]
          obtain ⟨hB_0, pa_0, pb_0, pv_0, pu_0, f1_0, f2_0, f3_0, f4_0, q1_0, q2_0, q3_0, q4_0, f5_0, f6_0, q5_0, q6_0, f9_0, q9_0, hWl_0⟩ := (hFFl _).1 zF
          clear zF
          clear hWl_0
          obtain ⟨sf8a, sf8b, sf8c, sf8d⟩ := q12_0.open2
          obtain ⟨sg8a, sg8b⟩ := Box.put2 q12_0 (.bool m12)
          refine reg_call 10 ?_ (by kernel_rfl) ?_ (fun K hK => ?_)
          rotate_left 1
          · simp only [List.getElem?_toArray, List.getElem?_cons_succ, List.getElem?_cons_zero]; exact rfl
          go_simp
          have hB_1 := below_setAll hB_0 (g := gq12) (by omega) [.bool m12, .slice o12 n12 c12]
          have pa_1 := pa_0.farAll (g' := gq12) (by omega) [.bool m12, .slice o12 n12 c12]
          have pb_1 := pb_0.farAll (g' := gq12) (by omega) [.bool m12, .slice o12 n12 c12]
          have pv_1 := pv_0.farAll (g' := gq12) (by omega) [.bool m12, .slice o12 n12 c12]
          have pu_1 := pu_0.farAll (g' := gq12) (by omega) [.bool m12, .slice o12 n12 c12]
          have f1_1 := f1_0.setAll q12_0 (noWord2 _ _ _ _) [.bool m12, .slice o12 n12 c12] rfl
          have f2_1 := f2_0.setAll q12_0 (noWord2 _ _ _ _) [.bool m12, .slice o12 n12 c12] rfl
          have f3_1 := f3_0.setAll q12_0 (noWord2 _ _ _ _) [.bool m12, .slice o12 n12 c12] rfl
          have f4_1 := f4_0.setAll q12_0 (noWord2 _ _ _ _) [.bool m12, .slice o12 n12 c12] rfl
          have q1_1 := q1_0.farAll (g' := gq12) (by omega) [.bool m12, .slice o12 n12 c12]
          have q2_1 := q2_0.farAll (g' := gq12) (by omega) [.bool m12, .slice o12 n12 c12]
          have q3_1 := q3_0.farAll (g' := gq12) (by omega) [.bool m12, .slice o12 n12 c12]
          have q4_1 := q4_0.farAll (g' := gq12) (by omega) [.bool m12, .slice o12 n12 c12]
          have f5_1 := f5_0.setAll q12_0 (noWord2 _ _ _ _) [.bool m12, .slice o12 n12 c12] rfl
          have f6_1 := f6_0.setAll q12_0 (noWord2 _ _ _ _) [.bool m12, .slice o12 n12 c12] rfl
          have q5_1 := q5_0.farAll (g' := gq12) (by omega) [.bool m12, .slice o12 n12 c12]
          have q6_1 := q6_0.farAll (g' := gq12) (by omega) [.bool m12, .slice o12 n12 c12]
          have f9_1 := f9_0.setAll q12_0 (noWord2 _ _ _ _) [.bool m12, .slice o12 n12 c12] rfl
          have q9_1 := q9_0.farAll (g' := gq12) (by omega) [.bool m12, .slice o12 n12 c12]
          have f10_1 := f10_0.setAll q12_0 (noWord2 _ _ _ _) [.bool m12, .slice o12 n12 c12] rfl
          have f11_1 := f11_0.setAll q12_0 (noWord2 _ _ _ _) [.bool m12, .slice o12 n12 c12] rfl
          have f12_1 := f12_0.setAll q12_0 (noWord2 _ _ _ _) [.bool m12, .slice o12 n12 c12] rfl
          have q12_1 := q12_0.setAll [.bool m12, .slice o12 n12 c12] rfl
          simp only [setAll, Nat.zero_add] at hB_1 pa_1 pb_1 pv_1 pu_1 f1_1 f2_1 f3_1 f4_1 q1_1 q2_1 q3_1 q4_1 f5_1 f6_1 q5_1 q6_1 f9_1 q9_1 f10_1 f11_1 f12_1 q12_1
          clear sf8a sf8b sf8c sf8d sg8a sg8b
          clear hB_0 pa_0 pb_0 pv_0 pu_0 f1_0 f2_0 f3_0 f4_0 q1_0 q2_0 q3_0 q4_0 f5_0 f6_0 q5_0 q6_0 f9_0 q9_0 f10_0 f11_0 f12_0 q12_0
          refine hK.out _ _ ⟨pa_1.c0, pa_1.c1, pb_1.c0, pb_1.c1, pv_1.c0, pv_1.c1, q2_1.c0, q2_1.c1, q4_1.c0, q4_1.c1⟩ (fun hHeld => ?_)
          clear hK K
          try simp only [Act.put]
          try simp only [List.setIfInBounds_toArray, List.set_cons_zero, List.set_cons_succ]
          generalize (World.setCell (World.setCell w15 ⟨gq12, 0, none⟩ (.bool m12)) ⟨gq12, 1, none⟩ (.slice o12 n12 c12)) = w16 at *
          refine wpAnyH_done (by kernel_rfl) ?_ _
          refine NoPanic.normal ?_
          clear f10_1 f11_1 q2_1 q4_1 f2_1 f4_1
          rw [E2.out] at f12_1
          obtain ⟨pae0, pae1, pae2, pae3⟩ := pa_1.open2
          obtain ⟨pbe0, pbe1, pbe2, pbe3⟩ := pb_1.open2
          obtain ⟨pve0, pve1, pve2, pve3⟩ := pv_1.open2
          obtain ⟨pue0, pue1, pue2, pue3⟩ := pu_1.open2
          obtain ⟨q1e0, q1e1, q1e2, q1e3⟩ := q1_1.open2
          obtain ⟨q3e0, q3e1, q3e2, q3e3⟩ := q3_1.open2
          go_wp2
          clear pae0 pae1 pae2 pae3 pbe0 pbe1 pbe2 pbe3 pve0 pve1 pve2 pve3 pue0 pue1 pue2 pue3 q1e0 q1e1 q1e2 q1e3 q3e0 q3e1 q3e2 q3e3
          have hWo_0 := Below.refl w16.heap.size w16
          have hso : w.heap.size ≤ w16.heap.size := hB_1.size
          have hlopa := pa_1.lt
          have hlopb := pb_1.lt
          have hlopv := pv_1.lt
          have hlopu := pu_1.lt
          have hloq1 := q1_1.lt
          have hloq3 := q3_1.lt
          have hloq5 := q5_1.lt
          have hloq6 := q6_1.lt
          have hloq9 := q9_1.lt
          have hloq12 := q12_1.lt
          have hB_2 := hB_1.drew'
          have pa_2 := pa_1.drew
          have pb_2 := pb_1.drew
          have pv_2 := pv_1.drew
          have pu_2 := pu_1.drew
          have f1_2 := f1_1.drew
          have f3_2 := f3_1.drew
          have q1_2 := q1_1.drew
          have q3_2 := q3_1.drew
          have f5_2 := f5_1.drew
          have f6_2 := f6_1.drew
          have q5_2 := q5_1.drew
          have q6_2 := q6_1.drew
          have f9_2 := f9_1.drew
          have q9_2 := q9_1.drew
          have f12_2 := f12_1.drew
          have q12_2 := q12_1.drew
          have hWo_1 := hWo_0.drew'
          clear hB_1 pa_1 pb_1 pv_1 pu_1 f1_1 f3_1 q1_1 q3_1 f5_1 f6_1 q5_1 q6_1 f9_1 q9_1 f12_1 q12_1 hWo_0
          obtain ⟨FFo, hFFo⟩ : ∃ F : World → Prop, ∀ w', F w' ↔ (Below w.heap.size w w' ∧ Box w' (w.heap.size) [.int .i64 a0, .int .i64 a1] ∧ Box w' (w.heap.size + 1) [.int .i64 b0, .int .i64 b1] ∧ Box w' (w.heap.size + 1 + 1) [.int .i64 v0, .int .i64 v1] ∧ Box w' (w.heap.size + 1 + 1 + 1) [.int .i64 u0, .int .i64 u1] ∧ RNum w' (.agg #[.bool m1, .slice o1 n1 c1]) (2) (X1) ∧ RNum w' (.agg #[.bool m3, .slice o3 n3 c3]) (2) (X2) ∧ Box w' (gq1) [.bool m1, .slice o1 n1 c1] ∧ Box w' (gq3) [.bool m3, .slice o3 n3 c3] ∧ RNum w' (.agg #[.bool m5, .slice o5 n5 c5]) (2) (X3) ∧ RNum w' (.agg #[.bool m6, .slice o6 n6 c6]) (2) (Y3) ∧ Box w' (gq5) [.bool m5, .slice o5 n5 c5] ∧ Box w' (gq6) [.bool m6, .slice o6 n6 c6] ∧ RNum w' (.agg #[.bool m9, .slice o9 n9 c9]) (6) (T) ∧ Box w' (gq9) [.bool m9, .slice o9 n9 c9] ∧ RNum w' (.agg #[.bool m12, .slice o12 n12 c12]) (8) (U) ∧ Box w' (gq12) [.bool m12, .slice o12 n12 c12] ∧ Below w16.heap.size w16 w') := ⟨_, fun _ => Iff.rfl⟩
          have cFo : ∀ {w' w'' : World}, FFo w' → Below w'.heap.size w' w'' → FFo w'' := by
            intro w' w'' h hb
            obtain ⟨y0, y1, y2, y3, y4, y5, y6, y7, y8, y9, y10, y11, y12, y13, y14, y15, y16, y17⟩ := (hFFo _).1 h
            exact (hFFo _).2 ⟨y0.trans (hb.mono y0.size), y1.below hb, y2.below hb, y3.below hb, y4.below hb, y5.below hb, y6.below hb, y7.below hb, y8.below hb, y9.below hb, y10.below hb, y11.below hb, y12.below hb, y13.below hb, y14.below hb, y15.below hb, y16.below hb, y17.trans (hb.mono y17.size)⟩
          have mFo : ∀ {w' : World}, FFo w' → w16.heap.size ≤ w'.heap.size := by
            intro w' h
            obtain ⟨y0, y1, y2, y3, y4, y5, y6, y7, y8, y9, y10, y11, y12, y13, y14, y15, y16, y17⟩ := (hFFo _).1 h
            exact y17.size
          have sFo : ∀ {w' : World}, FFo w' → (w'.cell? ⟨w.heap.size, 0, none⟩ = some (.int .i64 a0) ∧ w'.cell? ⟨w.heap.size, 1, none⟩ = some (.int .i64 a1) ∧ w'.cell? ⟨w.heap.size + 1, 0, none⟩ = some (.int .i64 b0) ∧ w'.cell? ⟨w.heap.size + 1, 1, none⟩ = some (.int .i64 b1) ∧ w'.cell? ⟨w.heap.size + 1 + 1, 0, none⟩ = some (.int .i64 v0) ∧ w'.cell? ⟨w.heap.size + 1 + 1, 1, none⟩ = some (.int .i64 v1) ∧ w'.cell? ⟨gq1, 0, none⟩ = some (.bool m1) ∧ w'.cell? ⟨gq1, 1, none⟩ = some (.slice o1 n1 c1) ∧ w'.cell? ⟨gq3, 0, none⟩ = some (.bool m3) ∧ w'.cell? ⟨gq3, 1, none⟩ = some (.slice o3 n3 c3)) := by
            intro w' h
            obtain ⟨y0, y1, y2, y3, y4, y5, y6, y7, y8, y9, y10, y11, y12, y13, y14, y15, y16, y17⟩ := (hFFo _).1 h
            exact ⟨y1.c0, y1.c1, y2.c0, y2.c1, y3.c0, y3.c1, y7.c0, y7.c1, y8.c0, y8.c1⟩
          have zF : FFo w16.drew := (hFFo _).2 ⟨hB_2, pa_2, pb_2, pv_2, pu_2, f1_2, f3_2, q1_2, q3_2, f5_2, f6_2, q5_2, q6_2, f9_2, q9_2, f12_2, q12_2, hWo_1⟩
          clear hB_2 pa_2 pb_2 pv_2 pu_2 f1_2 f3_2 q1_2 q3_2 f5_2 f6_2 q5_2 q6_2 f9_2 q9_2 f12_2 q12_2 hWo_1
          refine wp_region_noPanic ?_
          refine wp_region_held_drew (S := fun w' => w'.cell? ⟨w.heap.size, 0, none⟩ = some (.int .i64 a0) ∧ w'.cell? ⟨w.heap.size, 1, none⟩ = some (.int .i64 a1) ∧ w'.cell? ⟨w.heap.size + 1, 0, none⟩ = some (.int .i64 b0) ∧ w'.cell? ⟨w.heap.size + 1, 1, none⟩ = some (.int .i64 b1) ∧ w'.cell? ⟨w.heap.size + 1 + 1, 0, none⟩ = some (.int .i64 v0) ∧ w'.cell? ⟨w.heap.size + 1 + 1, 1, none⟩ = some (.int .i64 v1) ∧ w'.cell? ⟨gq1, 0, none⟩ = some (.bool m1) ∧ w'.cell? ⟨gq1, 1, none⟩ = some (.slice o1 n1 c1) ∧ w'.cell? ⟨gq3, 0, none⟩ = some (.bool m3) ∧ w'.cell? ⟨gq3, 1, none⟩ = some (.slice o3 n3 c3)) (by kernel_rfl) (sFo zF) (fun hHeld => ?_)
          refine reg_take 0 ?_ ?_ ?_ (by kernel_rfl) (by kernel_rfl) (by kernel_rfl) (fun _ _ _ h => h) ?_ ?_ (by assumption) ?_
          rotate_left 2
          · simp only [List.getElem?_toArray, List.getElem?_cons_zero]; exact rfl
          · rfl
          · intro w hSw; (try dsimp only at hSw); go_simp; try with_reducible rfl
          try simp only [Act.put]
          try simp only [List.setIfInBounds_toArray, List.set_cons_zero, List.set_cons_succ]
          refine reg_take 1 ?_ ?_ ?_ (by kernel_rfl) (by kernel_rfl) (by kernel_rfl) (fun _ _ _ h => h) ?_ ?_ (by assumption) ?_
          rotate_left 2
          · simp only [List.getElem?_toArray, List.getElem?_cons_succ, List.getElem?_cons_zero]; exact rfl
          · rfl
          · intro w hSw; (try dsimp only at hSw); go_simp; try with_reducible rfl
          try simp only [Act.put]
          try simp only [List.setIfInBounds_toArray, List.set_cons_zero, List.set_cons_succ]
          refine reg_take 2 ?_ ?_ ?_ (by kernel_rfl) (by kernel_rfl) (by kernel_rfl) (fun _ _ _ h => h) ?_ ?_ (by assumption) ?_
          rotate_left 2
          · simp only [List.getElem?_toArray, List.getElem?_cons_succ, List.getElem?_cons_zero]; exact rfl
          · rfl
          · intro w hSw; (try dsimp only at hSw); go_simp; try with_reducible rfl
          try simp only [Act.put]
          try simp only [List.setIfInBounds_toArray, List.set_cons_zero, List.set_cons_succ]
          refine reg_take 4 ?_ ?_ ?_ (by kernel_rfl) (by kernel_rfl) (by kernel_rfl) (fun _ _ _ h => h) ?_ ?_ (by assumption) ?_
          rotate_left 2
          · simp only [List.getElem?_toArray, List.getElem?_cons_succ, List.getElem?_cons_zero]; exact rfl
          · rfl
          · intro w hSw; (try dsimp only at hSw); go_simp; try with_reducible rfl
          try simp only [Act.put]
          try simp only [List.setIfInBounds_toArray, List.set_cons_zero, List.set_cons_succ]
          refine reg_take 5 ?_ ?_ ?_ (by kernel_rfl) (by kernel_rfl) (by kernel_rfl) (fun _ _ _ h => h) ?_ ?_ (by assumption) ?_
          rotate_left 2
          · simp only [List.getElem?_toArray, List.getElem?_cons_succ, List.getElem?_cons_zero]; exact rfl
          · rfl
          · intro w hSw; (try dsimp only at hSw); go_simp; try with_reducible rfl
          try simp only [Act.put]
          try simp only [List.setIfInBounds_toArray, List.set_cons_zero, List.set_cons_succ]
          refine reg_take 6 ?_ ?_ ?_ (by kernel_rfl) (by kernel_rfl) (by kernel_rfl) (fun _ _ _ h => h) ?_ ?_ (by assumption) ?_
          rotate_left 2
          · simp only [List.getElem?_toArray, List.getElem?_cons_succ, List.getElem?_cons_zero]; exact rfl
          · rfl
          · intro w hSw; (try dsimp only at hSw); go_simp; try with_reducible rfl
          try simp only [Act.put]
          try simp only [List.setIfInBounds_toArray, List.set_cons_zero, List.set_cons_succ]
          refine reg_grab (fun WWo ao hWW hAA => ?_)
          rw [hWW]
          have HAo := Lib.hid hAA; clear hWW hAA hHeld
          obtain ⟨IVo, hIVo⟩ : ∃ IV : Array Bool → Act → World → Prop, ∀ l a w', IV l a w' ↔ ∃ (k : Nat) (bb0 : Bool) (v0_ v1_ v2_ p0_ : Value) (gq15 : Nat), k ≤ 3 ∧ l = #[true, true, true, decide (1 ≤ k), true, true, true, decide (2 ≤ k), decide (3 ≤ k), bb0, false] ∧ a = ((((ao.put (some 68) v0_).put (some 72) v1_).put (some 73) v2_).put (some 17) p0_) ∧ FFo w' ∧ (1 ≤ k → RNum w' v0_ (5) (S1)) ∧ (2 ≤ k → RNum w' v1_ (5) (S2)) ∧ (3 ≤ k → RNum w' v2_ (8) (X1 * S2 - S1 * X2)) ∧ (bb0 = true → p0_ = .pointer (some ⟨gq15, 0, none⟩) ∧ Box w' gq15 [.bool false, .slice none 0 0] ∧ w16.heap.size ≤ gq15) := ⟨_, fun _ _ _ => Iff.rfl⟩
          refine wpAnyH_until IVo ?_ _ _ _ _ ((hIVo _ _ _).2 ⟨0, false, (ao.tmps.getD 68 undef), (ao.tmps.getD 72 undef), (ao.tmps.getD 73 undef), (ao.tmps.getD 17 undef), 0, Nat.zero_le _, rfl, (by simp only [put_same]), zF, (fun h => absurd h (by omega)), (fun h => absurd h (by omega)), (fun h => absurd h (by omega)), (fun h => by cases h)⟩) (by kernel_rfl)
          clear zF
          intro ll aa w17 hI
          obtain ⟨k, bb0, v0_, v1_, v2_, p0_, gq15, hk, rfl, rfl, zF, rr1, rr2, rr3, zz0⟩ := (hIVo _ _ _).1 hI
          clear hI
          by_cases hL : k = 3 ∧ bb0 = true
          · left
            obtain ⟨rfl, rfl⟩ := hL
            have f13_0 := rr1 (by omega)
            obtain ⟨m13, o13, n13, c13, rfl⟩ := f13_0.shape
            have f14_0 := rr2 (by omega)
            obtain ⟨m14, o14, n14, c14, rfl⟩ := f14_0.shape
            have f15_0 := rr3 (by omega)
            obtain ⟨m15, o15, n15, c15, rfl⟩ := f15_0.shape
            obtain ⟨rfl, q15_0, hgq15⟩ := zz0 rfl
            clear hk rr1 rr2 rr3 zz0
            show wpAnyH _ _ _ _ _ 1 _ _ _
            rw [HAo.out]
            try simp only [Act.put]
            try simp only [List.setIfInBounds_toArray, List.set_cons_zero, List.set_cons_succ]
            obtain ⟨hB_0, pa_0, pb_0, pv_0, pu_0, f1_0, f3_0, q1_0, q3_0, f5_0, f6_0, q5_0, q6_0, f9_0, q9_0, f12_0, q12_0, hWo_0⟩ := (hFFo _).1 zF
            clear zF
            clear hWo_0
            obtain ⟨sf9a, sf9b, sf9c, sf9d⟩ := q15_0.open2
            obtain ⟨sg9a, sg9b⟩ := Box.put2 q15_0 (.bool m15)
            refine reg_call 10 ?_ (by kernel_rfl) ?_ (fun K hK => ?_)
            rotate_left 1
            · simp only [List.getElem?_toArray, List.getElem?_cons_succ, List.getElem?_cons_zero]; exact rfl
            go_simp
            have hB_1 := below_setAll hB_0 (g := gq15) (by omega) [.bool m15, .slice o15 n15 c15]
            have pa_1 := pa_0.farAll (g' := gq15) (by omega) [.bool m15, .slice o15 n15 c15]
            have pb_1 := pb_0.farAll (g' := gq15) (by omega) [.bool m15, .slice o15 n15 c15]
            have pv_1 := pv_0.farAll (g' := gq15) (by omega) [.bool m15, .slice o15 n15 c15]
            have pu_1 := pu_0.farAll (g' := gq15) (by omega) [.bool m15, .slice o15 n15 c15]
            have f1_1 := f1_0.setAll q15_0 (noWord2 _ _ _ _) [.bool m15, .slice o15 n15 c15] rfl
            have f3_1 := f3_0.setAll q15_0 (noWord2 _ _ _ _) [.bool m15, .slice o15 n15 c15] rfl
            have q1_1 := q1_0.farAll (g' := gq15) (by omega) [.bool m15, .slice o15 n15 c15]
            have q3_1 := q3_0.farAll (g' := gq15) (by omega) [.bool m15, .slice o15 n15 c15]
            have f5_1 := f5_0.setAll q15_0 (noWord2 _ _ _ _) [.bool m15, .slice o15 n15 c15] rfl
            have f6_1 := f6_0.setAll q15_0 (noWord2 _ _ _ _) [.bool m15, .slice o15 n15 c15] rfl
            have q5_1 := q5_0.farAll (g' := gq15) (by omega) [.bool m15, .slice o15 n15 c15]
            have q6_1 := q6_0.farAll (g' := gq15) (by omega) [.bool m15, .slice o15 n15 c15]
            have f9_1 := f9_0.setAll q15_0 (noWord2 _ _ _ _) [.bool m15, .slice o15 n15 c15] rfl
            have q9_1 := q9_0.farAll (g' := gq15) (by omega) [.bool m15, .slice o15 n15 c15]
            have f12_1 := f12_0.setAll q15_0 (noWord2 _ _ _ _) [.bool m15, .slice o15 n15 c15] rfl
            have q12_1 := q12_0.farAll (g' := gq15) (by omega) [.bool m15, .slice o15 n15 c15]
            have f13_1 := f13_0.setAll q15_0 (noWord2 _ _ _ _) [.bool m15, .slice o15 n15 c15] rfl
            have f14_1 := f14_0.setAll q15_0 (noWord2 _ _ _ _) [.bool m15, .slice o15 n15 c15] rfl
            have f15_1 := f15_0.setAll q15_0 (noWord2 _ _ _ _) [.bool m15, .slice o15 n15 c15] rfl
            have q15_1 := q15_0.setAll [.bool m15, .slice o15 n15 c15] rfl
            simp only [setAll, Nat.zero_add] at hB_1 pa_1 pb_1 pv_1 pu_1 f1_1 f3_1 q1_1 q3_1 f5_1 f6_1 q5_1 q6_1 f9_1 q9_1 f12_1 q12_1 f13_1 f14_1 f15_1 q15_1
            clear sf9a sf9b sf9c sf9d sg9a sg9b
            clear hB_0 pa_0 pb_0 pv_0 pu_0 f1_0 f3_0 q1_0 q3_0 f5_0 f6_0 q5_0 q6_0 f9_0 q9_0 f12_0 q12_0 f13_0 f14_0 f15_0 q15_0
            refine hK.out _ _ ⟨pa_1.c0, pa_1.c1, pb_1.c0, pb_1.c1, pv_1.c0, pv_1.c1, q1_1.c0, q1_1.c1, q3_1.c0, q3_1.c1⟩ (fun hHeld => ?_)
            clear hK K
            try simp only [Act.put]
            try simp only [List.setIfInBounds_toArray, List.set_cons_zero, List.set_cons_succ]
            generalize (World.setCell (World.setCell w17 ⟨gq15, 0, none⟩ (.bool m15)) ⟨gq15, 1, none⟩ (.slice o15 n15 c15)) = w18 at *
            refine wpAnyH_done (by kernel_rfl) ?_ _
            refine NoPanic.normal ?_
            clear f13_1 f14_1 q1_1 q3_1 f1_1 f3_1 pb_1 pv_1
            rw [E3.out] at f15_1
            obtain ⟨pae0, pae1, pae2, pae3⟩ := pa_1.open2
            obtain ⟨pue0, pue1, pue2, pue3⟩ := pu_1.open2
            obtain ⟨q5e0, q5e1, q5e2, q5e3⟩ := q5_1.open2
            obtain ⟨q6e0, q6e1, q6e2, q6e3⟩ := q6_1.open2
            obtain ⟨q9e0, q9e1, q9e2, q9e3⟩ := q9_1.open2
            obtain ⟨q12e0, q12e1, q12e2, q12e3⟩ := q12_1.open2
            obtain ⟨q15e0, q15e1, q15e2, q15e3⟩ := q15_1.open2
            go_wp2
            clear pae0 pae1 pae2 pae3 pue0 pue1 pue2 pue3 q5e0 q5e1 q5e2 q5e3 q6e0 q6e1 q6e2 q6e3 q9e0 q9e1 q9e2 q9e3 q12e0 q12e1 q12e2 q12e3 q15e0 q15e1 q15e2 q15e3
            have hWp_0 := Below.refl w18.heap.size w18
            have hsp : w.heap.size ≤ w18.heap.size := hB_1.size
            have hlppa := pa_1.lt
            have hlppu := pu_1.lt
            have hlpq5 := q5_1.lt
            have hlpq6 := q6_1.lt
            have hlpq9 := q9_1.lt
            have hlpq12 := q12_1.lt
            have hlpq15 := q15_1.lt
            have hB_2 := hB_1.drew'
            have pa_2 := pa_1.drew
            have pu_2 := pu_1.drew
            have f5_2 := f5_1.drew
            have f6_2 := f6_1.drew
            have q5_2 := q5_1.drew
            have q6_2 := q6_1.drew
            have f9_2 := f9_1.drew
            have q9_2 := q9_1.drew
            have f12_2 := f12_1.drew
            have q12_2 := q12_1.drew
            have f15_2 := f15_1.drew
            have q15_2 := q15_1.drew
            have hWp_1 := hWp_0.drew'
            clear hB_1 pa_1 pu_1 f5_1 f6_1 q5_1 q6_1 f9_1 q9_1 f12_1 q12_1 f15_1 q15_1 hWp_0
            obtain ⟨FFp, hFFp⟩ : ∃ F : World → Prop, ∀ w', F w' ↔ (Below w.heap.size w w' ∧ Box w' (w.heap.size) [.int .i64 a0, .int .i64 a1] ∧ Box w' (w.heap.size + 1 + 1 + 1) [.int .i64 u0, .int .i64 u1] ∧ RNum w' (.agg #[.bool m5, .slice o5 n5 c5]) (2) (X3) ∧ RNum w' (.agg #[.bool m6, .slice o6 n6 c6]) (2) (Y3) ∧ Box w' (gq5) [.bool m5, .slice o5 n5 c5] ∧ Box w' (gq6) [.bool m6, .slice o6 n6 c6] ∧ RNum w' (.agg #[.bool m9, .slice o9 n9 c9]) (6) (T) ∧ Box w' (gq9) [.bool m9, .slice o9 n9 c9] ∧ RNum w' (.agg #[.bool m12, .slice o12 n12 c12]) (8) (U) ∧ Box w' (gq12) [.bool m12, .slice o12 n12 c12] ∧ RNum w' (.agg #[.bool m15, .slice o15 n15 c15]) (8) (V) ∧ Box w' (gq15) [.bool m15, .slice o15 n15 c15] ∧ Below w18.heap.size w18 w') := ⟨_, fun _ => Iff.rfl⟩
            have cFp : ∀ {w' w'' : World}, FFp w' → Below w'.heap.size w' w'' → FFp w'' := by
              intro w' w'' h hb
              obtain ⟨y0, y1, y2, y3, y4, y5, y6, y7, y8, y9, y10, y11, y12, y13⟩ := (hFFp _).1 h
              exact (hFFp _).2 ⟨y0.trans (hb.mono y0.size), y1.below hb, y2.below hb, y3.below hb, y4.below hb, y5.below hb, y6.below hb, y7.below hb, y8.below hb, y9.below hb, y10.below hb, y11.below hb, y12.below hb, y13.trans (hb.mono y13.size)⟩
            have mFp : ∀ {w' : World}, FFp w' → w18.heap.size ≤ w'.heap.size := by
              intro w' h
              obtain ⟨y0, y1, y2, y3, y4, y5, y6, y7, y8, y9, y10, y11, y12, y13⟩ := (hFFp _).1 h
              exact y13.size
            have sFp : ∀ {w' : World}, FFp w' → (w'.cell? ⟨w.heap.size, 0, none⟩ = some (.int .i64 a0) ∧ w'.cell? ⟨w.heap.size, 1, none⟩ = some (.int .i64 a1) ∧ w'.cell? ⟨w.heap.size + 1 + 1 + 1, 0, none⟩ = some (.int .i64 u0) ∧ w'.cell? ⟨w.heap.size + 1 + 1 + 1, 1, none⟩ = some (.int .i64 u1) ∧ w'.cell? ⟨gq5, 0, none⟩ = some (.bool m5) ∧ w'.cell? ⟨gq5, 1, none⟩ = some (.slice o5 n5 c5) ∧ w'.cell? ⟨gq6, 0, none⟩ = some (.bool m6) ∧ w'.cell? ⟨gq6, 1, none⟩ = some (.slice o6 n6 c6) ∧ w'.cell? ⟨gq9, 0, none⟩ = some (.bool m9) ∧ w'.cell? ⟨gq9, 1, none⟩ = some (.slice o9 n9 c9) ∧ w'.cell? ⟨gq12, 0, none⟩ = some (.bool m12) ∧ w'.cell? ⟨gq12, 1, none⟩ = some (.slice o12 n12 c12) ∧ w'.cell? ⟨gq15, 0, none⟩ = some (.bool m15) ∧ w'.cell? ⟨gq15, 1, none⟩ = some (.slice o15 n15 c15)) := by
              intro w' h
              obtain ⟨y0, y1, y2, y3, y4, y5, y6, y7, y8, y9, y10, y11, y12, y13⟩ := (hFFp _).1 h
              exact ⟨y1.c0, y1.c1, y2.c0, y2.c1, y5.c0, y5.c1, y6.c0, y6.c1, y8.c0, y8.c1, y10.c0, y10.c1, y12.c0, y12.c1⟩
            have zF : FFp w18.drew := (hFFp _).2 ⟨hB_2, pa_2, pu_2, f5_2, f6_2, q5_2, q6_2, f9_2, q9_2, f12_2, q12_2, f15_2, q15_2, hWp_1⟩
            clear hB_2 pa_2 pu_2 f5_2 f6_2 q5_2 q6_2 f9_2 q9_2 f12_2 q12_2 f15_2 q15_2 hWp_1
            refine wp_region_noPanic ?_
            refine wp_region_held_drew (S := fun w' => w'.cell? ⟨w.heap.size, 0, none⟩ = some (.int .i64 a0) ∧ w'.cell? ⟨w.heap.size, 1, none⟩ = some (.int .i64 a1) ∧ w'.cell? ⟨w.heap.size + 1 + 1 + 1, 0, none⟩ = some (.int .i64 u0) ∧ w'.cell? ⟨w.heap.size + 1 + 1 + 1, 1, none⟩ = some (.int .i64 u1) ∧ w'.cell? ⟨gq5, 0, none⟩ = some (.bool m5) ∧ w'.cell? ⟨gq5, 1, none⟩ = some (.slice o5 n5 c5) ∧ w'.cell? ⟨gq6, 0, none⟩ = some (.bool m6) ∧ w'.cell? ⟨gq6, 1, none⟩ = some (.slice o6 n6 c6) ∧ w'.cell? ⟨gq9, 0, none⟩ = some (.bool m9) ∧ w'.cell? ⟨gq9, 1, none⟩ = some (.slice o9 n9 c9) ∧ w'.cell? ⟨gq12, 0, none⟩ = some (.bool m12) ∧ w'.cell? ⟨gq12, 1, none⟩ = some (.slice o12 n12 c12) ∧ w'.cell? ⟨gq15, 0, none⟩ = some (.bool m15) ∧ w'.cell? ⟨gq15, 1, none⟩ = some (.slice o15 n15 c15)) (by kernel_rfl) (sFp zF) (fun hHeld => ?_)
            refine reg_take 0 ?_ ?_ ?_ (by kernel_rfl) (by kernel_rfl) (by kernel_rfl) (fun _ _ _ h => h) ?_ ?_ (by assumption) ?_
            rotate_left 2
            · simp only [List.getElem?_toArray, List.getElem?_cons_zero]; exact rfl
            · rfl
            · intro w hSw; (try dsimp only at hSw); go_simp; try with_reducible rfl
            try simp only [Act.put]
            try simp only [List.setIfInBounds_toArray, List.set_cons_zero, List.set_cons_succ]
            refine reg_take 1 ?_ ?_ ?_ (by kernel_rfl) (by kernel_rfl) (by kernel_rfl) (fun _ _ _ h => h) ?_ ?_ (by assumption) ?_
            rotate_left 2
            · simp only [List.getElem?_toArray, List.getElem?_cons_succ, List.getElem?_cons_zero]; exact rfl
            · rfl
            · intro w hSw; (try dsimp only at hSw); go_simp; try with_reducible rfl
            try simp only [Act.put]
            try simp only [List.setIfInBounds_toArray, List.set_cons_zero, List.set_cons_succ]
            refine reg_take 2 ?_ ?_ ?_ (by kernel_rfl) (by kernel_rfl) (by kernel_rfl) (fun _ _ _ h => h) ?_ ?_ (by assumption) ?_
            rotate_left 2
            · simp only [List.getElem?_toArray, List.getElem?_cons_succ, List.getElem?_cons_zero]; exact rfl
            · rfl
            · intro w hSw; (try dsimp only at hSw); go_simp; try with_reducible rfl
            try simp only [Act.put]
            try simp only [List.setIfInBounds_toArray, List.set_cons_zero, List.set_cons_succ]
            refine reg_take 6 ?_ ?_ ?_ (by kernel_rfl) (by kernel_rfl) (by kernel_rfl) (fun _ _ _ h => h) ?_ ?_ (by assumption) ?_
            rotate_left 2
            · simp only [List.getElem?_toArray, List.getElem?_cons_succ, List.getElem?_cons_zero]; exact rfl
            · rfl
            · intro w hSw; (try dsimp only at hSw); go_simp; try with_reducible rfl
            try simp only [Act.put]
            try simp only [List.setIfInBounds_toArray, List.set_cons_zero, List.set_cons_succ]
            refine reg_take 7 ?_ ?_ ?_ (by kernel_rfl) (by kernel_rfl) (by kernel_rfl) (fun _ _ _ h => h) ?_ ?_ (by assumption) ?_
            rotate_left 2
            · simp only [List.getElem?_toArray, List.getElem?_cons_succ, List.getElem?_cons_zero]; exact rfl
            · rfl
            · intro w hSw; (try dsimp only at hSw); go_simp; try with_reducible rfl
            try simp only [Act.put]
            try simp only [List.setIfInBounds_toArray, List.set_cons_zero, List.set_cons_succ]
            refine reg_take 9 ?_ ?_ ?_ (by kernel_rfl) (by kernel_rfl) (by kernel_rfl) (fun _ _ _ h => h) ?_ ?_ (by assumption) ?_
            rotate_left 2
            · simp only [List.getElem?_toArray, List.getElem?_cons_succ, List.getElem?_cons_zero]; exact rfl
            · rfl
            · intro w hSw; (try dsimp only at hSw); go_simp; try with_reducible rfl
            try simp only [Act.put]
            try simp only [List.setIfInBounds_toArray, List.set_cons_zero, List.set_cons_succ]
            refine reg_take 10 ?_ ?_ ?_ (by kernel_rfl) (by kernel_rfl) (by kernel_rfl) (fun _ _ _ h => h) ?_ ?_ (by assumption) ?_
            rotate_left 2
            · simp only [List.getElem?_toArray, List.getElem?_cons_succ, List.getElem?_cons_zero]; exact rfl
            · rfl
            · intro w hSw; (try dsimp only at hSw); go_simp; try with_reducible rfl
            try simp only [Act.put]
            try simp only [List.setIfInBounds_toArray, List.set_cons_zero, List.set_cons_succ]
            refine reg_grab (fun WWp ap hWW hAA => ?_)
            rw [hWW]
            have HAp := Lib.hid hAA; clear hWW hAA hHeld
            obtain ⟨IVp, hIVp⟩ : ∃ IV : Array Bool → Act → World → Prop, ∀ l a w', IV l a w' ↔ ∃ (k : Nat) (bb0 : Bool) (v0_ v1_ v2_ v3_ v4_ v5_ v6_ v7_ p0_ : Value) (gq23 : Nat), k ≤ 8 ∧ l = #[true, true, true, decide (1 ≤ k), decide (2 ≤ k), decide (3 ≤ k), true, true, decide (4 ≤ k), true, true, decide (5 ≤ k), decide (6 ≤ k), decide (7 ≤ k), decide (8 ≤ k), bb0, false] ∧ a = (((((((((ap.put (some 77) v0_).put (some 78) v1_).put (some 79) v2_).put (some 82) v3_).put (some 85) v4_).put (some 86) v5_).put (some 87) v6_).put (some 88) v7_).put (some 18) p0_) ∧ FFp w' ∧ (1 ≤ k → RNum w' v0_ (5) (S3)) ∧ (2 ≤ k → RNum w' v1_ (11) (T * S3)) ∧ (3 ≤ k → RNum w' v2_ (1) (2)) ∧ (4 ≤ k → RNum w' v3_ (10) (X3 * U)) ∧ (5 ≤ k → RNum w' v4_ (10) (Y3 * V)) ∧ (6 ≤ k → RNum w' v5_ (11) (X3 * U + Y3 * V)) ∧ (7 ≤ k → RNum w' v6_ (12) (2 * (X3 * U + Y3 * V))) ∧ (8 ≤ k → RNum w' v7_ (13) (T * S3 - 2 * (X3 * U + Y3 * V))) ∧ (bb0 = true → p0_ = .pointer (some ⟨gq23, 0, none⟩) ∧ Box w' gq23 [.bool false, .slice none 0 0] ∧ w18.heap.size ≤ gq23) := ⟨_, fun _ _ _ => Iff.rfl⟩
            refine wpAnyH_until IVp ?_ _ _ _ _ ((hIVp _ _ _).2 ⟨0, false, (ap.tmps.getD 77 undef), (ap.tmps.getD 78 undef), (ap.tmps.getD 79 undef), (ap.tmps.getD 82 undef), (ap.tmps.getD 85 undef), (ap.tmps.getD 86 undef), (ap.tmps.getD 87 undef), (ap.tmps.getD 88 undef), (ap.tmps.getD 18 undef), 0, Nat.zero_le _, rfl, (by simp only [put_same]), zF, (fun h => absurd h (by omega)), (fun h => absurd h (by omega)), (fun h => absurd h (by omega)), (fun h => absurd h (by omega)), (fun h => absurd h (by omega)), (fun h => absurd h (by omega)), (fun h => absurd h (by omega)), (fun h => absurd h (by omega)), (fun h => by cases h)⟩) (by kernel_rfl)
            clear zF
            intro ll aa w19 hI
            obtain ⟨k, bb0, v0_, v1_, v2_, v3_, v4_, v5_, v6_, v7_, p0_, gq23, hk, rfl, rfl, zF, rr1, rr2, rr3, rr4, rr5, rr6, rr7, rr8, zz0⟩ := (hIVp _ _ _).1 hI
            clear hI
            by_cases hL : k = 8 ∧ bb0 = true
            · left
              obtain ⟨rfl, rfl⟩ := hL
              have f16_0 := rr1 (by omega)
              obtain ⟨m16, o16, n16, c16, rfl⟩ := f16_0.shape
              have f17_0 := rr2 (by omega)
              obtain ⟨m17, o17, n17, c17, rfl⟩ := f17_0.shape
              have f18_0 := rr3 (by omega)
              obtain ⟨m18, o18, n18, c18, rfl⟩ := f18_0.shape
              have f19_0 := rr4 (by omega)
              obtain ⟨m19, o19, n19, c19, rfl⟩ := f19_0.shape
              have f20_0 := rr5 (by omega)
              obtain ⟨m20, o20, n20, c20, rfl⟩ := f20_0.shape
              have f21_0 := rr6 (by omega)
              obtain ⟨m21, o21, n21, c21, rfl⟩ := f21_0.shape
              have f22_0 := rr7 (by omega)
              obtain ⟨m22, o22, n22, c22, rfl⟩ := f22_0.shape
              have f23_0 := rr8 (by omega)
              obtain ⟨m23, o23, n23, c23, rfl⟩ := f23_0.shape
              obtain ⟨rfl, q23_0, hgq23⟩ := zz0 rfl
              clear hk rr1 rr2 rr3 rr4 rr5 rr6 rr7 rr8 zz0
              show wpAnyH _ _ _ _ _ 1 _ _ _
              rw [HAp.out]
              try simp only [Act.put]
              try simp only [List.setIfInBounds_toArray, List.set_cons_zero, List.set_cons_succ]
              obtain ⟨hB_0, pa_0, pu_0, f5_0, f6_0, q5_0, q6_0, f9_0, q9_0, f12_0, q12_0, f15_0, q15_0, hWp_0⟩ := (hFFp _).1 zF
              clear zF
              clear hWp_0
              obtain ⟨sf10a, sf10b, sf10c, sf10d⟩ := q23_0.open2
              obtain ⟨sg10a, sg10b⟩ := Box.put2 q23_0 (.bool m23)
              refine reg_call 16 ?_ (by kernel_rfl) ?_ (fun K hK => ?_)
              rotate_left 1
              · simp only [List.getElem?_toArray, List.getElem?_cons_succ, List.getElem?_cons_zero]; exact rfl
              go_simp
              have hB_1 := below_setAll hB_0 (g := gq23) (by omega) [.bool m23, .slice o23 n23 c23]
              have pa_1 := pa_0.farAll (g' := gq23) (by omega) [.bool m23, .slice o23 n23 c23]
              have pu_1 := pu_0.farAll (g' := gq23) (by omega) [.bool m23, .slice o23 n23 c23]
              have f5_1 := f5_0.setAll q23_0 (noWord2 _ _ _ _) [.bool m23, .slice o23 n23 c23] rfl
              have f6_1 := f6_0.setAll q23_0 (noWord2 _ _ _ _) [.bool m23, .slice o23 n23 c23] rfl
              have q5_1 := q5_0.farAll (g' := gq23) (by omega) [.bool m23, .slice o23 n23 c23]
              have q6_1 := q6_0.farAll (g' := gq23) (by omega) [.bool m23, .slice o23 n23 c23]
              have f9_1 := f9_0.setAll q23_0 (noWord2 _ _ _ _) [.bool m23, .slice o23 n23 c23] rfl
              have q9_1 := q9_0.farAll (g' := gq23) (by omega) [.bool m23, .slice o23 n23 c23]
              have f12_1 := f12_0.setAll q23_0 (noWord2 _ _ _ _) [.bool m23, .slice o23 n23 c23] rfl
              have q12_1 := q12_0.farAll (g' := gq23) (by omega) [.bool m23, .slice o23 n23 c23]
              have f15_1 := f15_0.setAll q23_0 (noWord2 _ _ _ _) [.bool m23, .slice o23 n23 c23] rfl
              have q15_1 := q15_0.farAll (g' := gq23) (by omega) [.bool m23, .slice o23 n23 c23]
              have f16_1 := f16_0.setAll q23_0 (noWord2 _ _ _ _) [.bool m23, .slice o23 n23 c23] rfl
              have f17_1 := f17_0.setAll q23_0 (noWord2 _ _ _ _) [.bool m23, .slice o23 n23 c23] rfl
              have f18_1 := f18_0.setAll q23_0 (noWord2 _ _ _ _) [.bool m23, .slice o23 n23 c23] rfl
              have f19_1 := f19_0.setAll q23_0 (noWord2 _ _ _ _) [.bool m23, .slice o23 n23 c23] rfl
              have f20_1 := f20_0.setAll q23_0 (noWord2 _ _ _ _) [.bool m23, .slice o23 n23 c23] rfl
              have f21_1 := f21_0.setAll q23_0 (noWord2 _ _ _ _) [.bool m23, .slice o23 n23 c23] rfl
              have f22_1 := f22_0.setAll q23_0 (noWord2 _ _ _ _) [.bool m23, .slice o23 n23 c23] rfl
              have f23_1 := f23_0.setAll q23_0 (noWord2 _ _ _ _) [.bool m23, .slice o23 n23 c23] rfl
              have q23_1 := q23_0.setAll [.bool m23, .slice o23 n23 c23] rfl
              simp only [setAll, Nat.zero_add] at hB_1 pa_1 pu_1 f5_1 f6_1 q5_1 q6_1 f9_1 q9_1 f12_1 q12_1 f15_1 q15_1 f16_1 f17_1 f18_1 f19_1 f20_1 f21_1 f22_1 f23_1 q23_1
              clear sf10a sf10b sf10c sf10d sg10a sg10b
              clear hB_0 pa_0 pu_0 f5_0 f6_0 q5_0 q6_0 f9_0 q9_0 f12_0 q12_0 f15_0 q15_0 f16_0 f17_0 f18_0 f19_0 f20_0 f21_0 f22_0 f23_0 q23_0
              refine hK.out _ _ ⟨pa_1.c0, pa_1.c1, pu_1.c0, pu_1.c1, q5_1.c0, q5_1.c1, q6_1.c0, q6_1.c1, q9_1.c0, q9_1.c1, q12_1.c0, q12_1.c1, q15_1.c0, q15_1.c1⟩ (fun hHeld => ?_)
              clear hK K
              try simp only [Act.put]
              try simp only [List.setIfInBounds_toArray, List.set_cons_zero, List.set_cons_succ]
              generalize (World.setCell (World.setCell w19 ⟨gq23, 0, none⟩ (.bool m23)) ⟨gq23, 1, none⟩ (.slice o23 n23 c23)) = w20 at *
              refine wpAnyH_done (by kernel_rfl) ?_ _
              refine NoPanic.normal ?_
              rw [E4.out] at f23_1
              clear f16_1 f17_1 f18_1 f19_1 f20_1 f21_1 f22_1 pa_1 pu_1 q5_1 q6_1 q12_1 q15_1 f5_1 f6_1 f12_1 f15_1
              obtain ⟨q23e0, q23e1, q23e2, q23e3⟩ := q23_1.open2
              obtain ⟨q9e0, q9e1, q9e2, q9e3⟩ := q9_1.open2
              go_wp2
              clear q23e0 q23e1 q23e2 q23e3 q9e0 q9e1 q9e2 q9e3
              have hB_2 := hB_1.drew'
              have f9_2 := f9_1.drew
              have q9_2 := q9_1.drew
              have f23_2 := f23_1.drew
              have q23_2 := q23_1.drew
              clear hB_1 f9_1 q9_1 f23_1 q23_1
              go_region_held3 (fun w' => w'.cell? ⟨gq23, 0, none⟩ = some (.bool m23) ∧ w'.cell? ⟨gq23, 1, none⟩ = some (.slice o23 n23 c23) ∧ w'.cell? ⟨gq9, 0, none⟩ = some (.bool m9) ∧ w'.cell? ⟨gq9, 1, none⟩ = some (.slice o9 n9 c9))
                (first | with_reducible exact ⟨q23_2.c0, q23_2.c1, q9_2.c0, q9_2.c1⟩ | with_reducible exact ⟨q23_3.c0, q23_3.c1, q9_3.c0, q9_3.c1⟩ | with_reducible exact ⟨q23_4.c0, q23_4.c1, q9_4.c0, q9_4.c1⟩ | fail)
                (first
                  | (go_at_call 16; (with_reducible refine (Sign_named _ 13 P s _ (by omega) f23_2.num HP.out).mono ?_); rintro e w21 ⟨rfl, hb21⟩; have hB_3 := hB_2.trans (hb21.mono hB_2.size); have f9_3 := f9_2.below hb21; have q9_3 := q9_2.below hb21; have f23_3 := f23_2.below hb21; have q23_3 := q23_2.below hb21; clear hb21 hB_2 f9_2 q9_2 f23_2 q23_2)
                  | (go_at_call 16; (with_reducible refine (Sign_named _ 6 T t _ (by omega) f9_3.num HT.out).mono ?_); rintro e w22 ⟨rfl, hb22⟩; have hB_4 := hB_3.trans (hb22.mono hB_3.size); have f9_4 := f9_3.below hb22; have q9_4 := q9_3.below hb22; have f23_4 := f23_3.below hb22; have q23_4 := q23_3.below hb22; clear hb22 hB_3 f9_3 q9_3 f23_3 q23_3))
              go_wp2
              go_ret
              exact ⟨rfl, hB_4⟩
            · right
              refine ⟨?_, fun i hi => ?_⟩
              · clear zF rr1 rr2 rr3 rr4 rr5 rr6 rr7 rr8 zz0
                obtain rfl | rfl | rfl | rfl | rfl | rfl | rfl | rfl | rfl : k = 0 ∨ k = 1 ∨ k = 2 ∨ k = 3 ∨ k = 4 ∨ k = 5 ∨ k = 6 ∨ k = 7 ∨ k = 8 := by omega
                all_goals cases bb0
                all_goals first | exact absurd ⟨rfl, rfl⟩ hL | exact of_decide_eq_true (by kernel_rfl)
              have hd : (k = 0 ∧ i = 3) ∨ (k = 1 ∧ i = 4) ∨ (k = 2 ∧ i = 5) ∨ (k = 3 ∧ i = 8) ∨ (k = 4 ∧ i = 11) ∨ (k = 5 ∧ i = 12) ∨ (k = 6 ∧ i = 13) ∨ (k = 7 ∧ i = 14) ∨ (bb0 = false ∧ i = 15) := by
                clear zF rr1 rr2 rr3 rr4 rr5 rr6 rr7 rr8 zz0
                revert i
                obtain rfl | rfl | rfl | rfl | rfl | rfl | rfl | rfl | rfl : k = 0 ∨ k = 1 ∨ k = 2 ∨ k = 3 ∨ k = 4 ∨ k = 5 ∨ k = 6 ∨ k = 7 ∨ k = 8 := by omega
                all_goals cases bb0
                all_goals first | exact absurd ⟨rfl, rfl⟩ hL | exact of_decide_eq_true (by kernel_rfl)
              clear hi hL
              rcases hd with ⟨rfl, rfl⟩ | ⟨rfl, rfl⟩ | ⟨rfl, rfl⟩ | ⟨rfl, rfl⟩ | ⟨rfl, rfl⟩ | ⟨rfl, rfl⟩ | ⟨rfl, rfl⟩ | ⟨rfl, rfl⟩ | ⟨rfl, rfl⟩
              · refine step_of 3 ?_ ?_ (fun K hK => ?_)
                rotate_left 1
                · simp only [List.getElem?_toArray, List.getElem?_cons_succ, List.getElem?_cons_zero]; exact rfl
                rw [HAp.out]
                try simp only [Act.put]
                try simp only [List.setIfInBounds_toArray, List.set_cons_zero, List.set_cons_succ]
                go_simp
                refine (K8.out _).mono ?_
                rintro e w23 ⟨m16, o16, n16, c16, rfl, f16_0, hb⟩
                go_wp2_with fail
                refine hK.out _ _ (sFp (cFp zF hb)) ?_
                exact (hIVp _ _ _).2 ⟨1, bb0, (.agg #[.bool m16, .slice o16 n16 c16]), v1_, v2_, v3_, v4_, v5_, v6_, v7_, p0_, gq23, (by omega), rfl, (by simp only [HAp.out, Act.put, List.setIfInBounds_toArray, List.set_cons_zero, List.set_cons_succ]), (cFp zF hb), (fun _ => f16_0), (fun h => absurd h (by omega)), (fun h => absurd h (by omega)), (fun h => absurd h (by omega)), (fun h => absurd h (by omega)), (fun h => absurd h (by omega)), (fun h => absurd h (by omega)), (fun h => absurd h (by omega)), (fun h => ⟨(zz0 h).1, (zz0 h).2.1.below hb, (zz0 h).2.2⟩)⟩
              · obtain ⟨-, -, -, -, -, -, -, f9_0, -, -, -, -, -, -⟩ := (hFFp _).1 zF
                have f16_0 := rr1 (by omega)
                refine step_of 4 ?_ ?_ (fun K hK => ?_)
                rotate_left 1
                · simp only [List.getElem?_toArray, List.getElem?_cons_succ, List.getElem?_cons_zero]; exact rfl
                rw [HAp.out]
                try simp only [Act.put]
                try simp only [List.setIfInBounds_toArray, List.set_cons_zero, List.set_cons_succ]
                go_simp
                refine (nMul_any _ _ 6 5 _ _ _ (by omega) (by omega) f9_0.num f16_0.num).mono ?_
                rintro e w24 ⟨m17, o17, n17, c17, rfl, f17_0, hb⟩
                go_wp2_with fail
                refine hK.out _ _ (sFp (cFp zF hb)) ?_
                exact (hIVp _ _ _).2 ⟨2, bb0, v0_, (.agg #[.bool m17, .slice o17 n17 c17]), v2_, v3_, v4_, v5_, v6_, v7_, p0_, gq23, (by omega), rfl, (by simp only [HAp.out, Act.put, List.setIfInBounds_toArray, List.set_cons_zero, List.set_cons_succ]), (cFp zF hb), (fun _ => (rr1 (by omega)).below hb), (fun _ => f17_0), (fun h => absurd h (by omega)), (fun h => absurd h (by omega)), (fun h => absurd h (by omega)), (fun h => absurd h (by omega)), (fun h => absurd h (by omega)), (fun h => absurd h (by omega)), (fun h => ⟨(zz0 h).1, (zz0 h).2.1.below hb, (zz0 h).2.2⟩)⟩
              · refine step_of 5 ?_ ?_ (fun K hK => ?_)
                rotate_left 1
                · simp only [List.getElem?_toArray, List.getElem?_cons_succ, List.getElem?_cons_zero]; exact rfl
                rw [HAp.out]
                try simp only [Act.put]
                try simp only [List.setIfInBounds_toArray, List.set_cons_zero, List.set_cons_succ]
                go_simp
                refine (nOf_any 2 (by omega) (by omega) _).mono ?_
                rintro e w25 ⟨m18, o18, n18, c18, rfl, f18_0, hb⟩
                go_wp2_with fail
                refine hK.out _ _ (sFp (cFp zF hb)) ?_
                exact (hIVp _ _ _).2 ⟨3, bb0, v0_, v1_, (.agg #[.bool m18, .slice o18 n18 c18]), v3_, v4_, v5_, v6_, v7_, p0_, gq23, (by omega), rfl, (by simp only [HAp.out, Act.put, List.setIfInBounds_toArray, List.set_cons_zero, List.set_cons_succ]), (cFp zF hb), (fun _ => (rr1 (by omega)).below hb), (fun _ => (rr2 (by omega)).below hb), (fun _ => f18_0), (fun h => absurd h (by omega)), (fun h => absurd h (by omega)), (fun h => absurd h (by omega)), (fun h => absurd h (by omega)), (fun h => absurd h (by omega)), (fun h => ⟨(zz0 h).1, (zz0 h).2.1.below hb, (zz0 h).2.2⟩)⟩
              · obtain ⟨-, -, -, f5_0, -, -, -, -, -, f12_0, -, -, -, -⟩ := (hFFp _).1 zF
                refine step_of 8 ?_ ?_ (fun K hK => ?_)
                rotate_left 1
                · simp only [List.getElem?_toArray, List.getElem?_cons_succ, List.getElem?_cons_zero]; exact rfl
                rw [HAp.out]
                try simp only [Act.put]
                try simp only [List.setIfInBounds_toArray, List.set_cons_zero, List.set_cons_succ]
                go_simp
                refine (nMul_any _ _ 2 8 _ _ _ (by omega) (by omega) f5_0.num f12_0.num).mono ?_
                rintro e w26 ⟨m19, o19, n19, c19, rfl, f19_0, hb⟩
                go_wp2_with fail
                refine hK.out _ _ (sFp (cFp zF hb)) ?_
                exact (hIVp _ _ _).2 ⟨4, bb0, v0_, v1_, v2_, (.agg #[.bool m19, .slice o19 n19 c19]), v4_, v5_, v6_, v7_, p0_, gq23, (by omega), rfl, (by simp only [HAp.out, Act.put, List.setIfInBounds_toArray, List.set_cons_zero, List.set_cons_succ]), (cFp zF hb), (fun _ => (rr1 (by omega)).below hb), (fun _ => (rr2 (by omega)).below hb), (fun _ => (rr3 (by omega)).below hb), (fun _ => f19_0), (fun h => absurd h (by omega)), (fun h => absurd h (by omega)), (fun h => absurd h (by omega)), (fun h => absurd h (by omega)), (fun h => ⟨(zz0 h).1, (zz0 h).2.1.below hb, (zz0 h).2.2⟩)⟩
              · obtain ⟨-, -, -, -, f6_0, -, -, -, -, -, -, f15_0, -, -⟩ := (hFFp _).1 zF
                refine step_of 11 ?_ ?_ (fun K hK => ?_)
                rotate_left 1
                · simp only [List.getElem?_toArray, List.getElem?_cons_succ, List.getElem?_cons_zero]; exact rfl
                rw [HAp.out]
                try simp only [Act.put]
                try simp only [List.setIfInBounds_toArray, List.set_cons_zero, List.set_cons_succ]
                go_simp
                refine (nMul_any _ _ 2 8 _ _ _ (by omega) (by omega) f6_0.num f15_0.num).mono ?_
                rintro e w27 ⟨m20, o20, n20, c20, rfl, f20_0, hb⟩
                go_wp2_with fail
                refine hK.out _ _ (sFp (cFp zF hb)) ?_
                exact (hIVp _ _ _).2 ⟨5, bb0, v0_, v1_, v2_, v3_, (.agg #[.bool m20, .slice o20 n20 c20]), v5_, v6_, v7_, p0_, gq23, (by omega), rfl, (by simp only [HAp.out, Act.put, List.setIfInBounds_toArray, List.set_cons_zero, List.set_cons_succ]), (cFp zF hb), (fun _ => (rr1 (by omega)).below hb), (fun _ => (rr2 (by omega)).below hb), (fun _ => (rr3 (by omega)).below hb), (fun _ => (rr4 (by omega)).below hb), (fun _ => f20_0), (fun h => absurd h (by omega)), (fun h => absurd h (by omega)), (fun h => absurd h (by omega)), (fun h => ⟨(zz0 h).1, (zz0 h).2.1.below hb, (zz0 h).2.2⟩)⟩
              · have f19_0 := rr4 (by omega)
                have f20_0 := rr5 (by omega)
                refine step_of 12 ?_ ?_ (fun K hK => ?_)
                rotate_left 1
                · simp only [List.getElem?_toArray, List.getElem?_cons_succ, List.getElem?_cons_zero]; exact rfl
                rw [HAp.out]
                try simp only [Act.put]
                try simp only [List.setIfInBounds_toArray, List.set_cons_zero, List.set_cons_succ]
                go_simp
                refine (nAdd_any _ _ 10 10 _ _ _ (by omega) (by omega) f19_0.num f20_0.num).mono ?_
                rintro e w28 ⟨m21, o21, n21, c21, rfl, f21_0, hb⟩
                go_wp2_with fail
                refine hK.out _ _ (sFp (cFp zF hb)) ?_
                exact (hIVp _ _ _).2 ⟨6, bb0, v0_, v1_, v2_, v3_, v4_, (.agg #[.bool m21, .slice o21 n21 c21]), v6_, v7_, p0_, gq23, (by omega), rfl, (by simp only [HAp.out, Act.put, List.setIfInBounds_toArray, List.set_cons_zero, List.set_cons_succ]), (cFp zF hb), (fun _ => (rr1 (by omega)).below hb), (fun _ => (rr2 (by omega)).below hb), (fun _ => (rr3 (by omega)).below hb), (fun _ => (rr4 (by omega)).below hb), (fun _ => (rr5 (by omega)).below hb), (fun _ => f21_0), (fun h => absurd h (by omega)), (fun h => absurd h (by omega)), (fun h => ⟨(zz0 h).1, (zz0 h).2.1.below hb, (zz0 h).2.2⟩)⟩
              · have f18_0 := rr3 (by omega)
                have f21_0 := rr6 (by omega)
                refine step_of 13 ?_ ?_ (fun K hK => ?_)
                rotate_left 1
                · simp only [List.getElem?_toArray, List.getElem?_cons_succ, List.getElem?_cons_zero]; exact rfl
                rw [HAp.out]
                try simp only [Act.put]
                try simp only [List.setIfInBounds_toArray, List.set_cons_zero, List.set_cons_succ]
                go_simp
                refine (nMul_any _ _ 1 11 _ _ _ (by omega) (by omega) f18_0.num f21_0.num).mono ?_
                rintro e w29 ⟨m22, o22, n22, c22, rfl, f22_0, hb⟩
                go_wp2_with fail
                refine hK.out _ _ (sFp (cFp zF hb)) ?_
                exact (hIVp _ _ _).2 ⟨7, bb0, v0_, v1_, v2_, v3_, v4_, v5_, (.agg #[.bool m22, .slice o22 n22 c22]), v7_, p0_, gq23, (by omega), rfl, (by simp only [HAp.out, Act.put, List.setIfInBounds_toArray, List.set_cons_zero, List.set_cons_succ]), (cFp zF hb), (fun _ => (rr1 (by omega)).below hb), (fun _ => (rr2 (by omega)).below hb), (fun _ => (rr3 (by omega)).below hb), (fun _ => (rr4 (by omega)).below hb), (fun _ => (rr5 (by omega)).below hb), (fun _ => (rr6 (by omega)).below hb), (fun _ => f22_0), (fun h => absurd h (by omega)), (fun h => ⟨(zz0 h).1, (zz0 h).2.1.below hb, (zz0 h).2.2⟩)⟩
              · have f17_0 := rr2 (by omega)
                have f22_0 := rr7 (by omega)
                refine step_of 14 ?_ ?_ (fun K hK => ?_)
                rotate_left 1
                · simp only [List.getElem?_toArray, List.getElem?_cons_succ, List.getElem?_cons_zero]; exact rfl
                rw [HAp.out]
                try simp only [Act.put]
                try simp only [List.setIfInBounds_toArray, List.set_cons_zero, List.set_cons_succ]
                go_simp
                refine (nSub_any _ _ 11 12 _ _ _ (by omega) (by omega) f17_0.num f22_0.num).mono ?_
                rintro e w30 ⟨m23, o23, n23, c23, rfl, f23_0, hb⟩
                go_wp2_with fail
                refine hK.out _ _ (sFp (cFp zF hb)) ?_
                exact (hIVp _ _ _).2 ⟨8, bb0, v0_, v1_, v2_, v3_, v4_, v5_, v6_, (.agg #[.bool m23, .slice o23 n23 c23]), p0_, gq23, (by omega), rfl, (by simp only [HAp.out, Act.put, List.setIfInBounds_toArray, List.set_cons_zero, List.set_cons_succ]), (cFp zF hb), (fun _ => (rr1 (by omega)).below hb), (fun _ => (rr2 (by omega)).below hb), (fun _ => (rr3 (by omega)).below hb), (fun _ => (rr4 (by omega)).below hb), (fun _ => (rr5 (by omega)).below hb), (fun _ => (rr6 (by omega)).below hb), (fun _ => (rr7 (by omega)).below hb), (fun _ => f23_0), (fun h => ⟨(zz0 h).1, (zz0 h).2.1.below hb, (zz0 h).2.2⟩)⟩
              · refine step_of 15 ?_ ?_ (fun K hK => ?_)
                rotate_left 1
                · simp only [List.getElem?_toArray, List.getElem?_cons_succ, List.getElem?_cons_zero]; exact rfl
                rw [HAp.out]
                try simp only [Act.put]
                try simp only [List.setIfInBounds_toArray, List.set_cons_zero, List.set_cons_succ]
                go_simp
                have hgn := mFp zF
                obtain ⟨wn, hwn, q23_0, hb, -⟩ := new_box w19 _ rfl [.bool false, .slice none 0 0] 29
                rw [hwn]
                refine hK.out _ _ (sFp (cFp zF hb)) ?_
                exact (hIVp _ _ _).2 ⟨k, true, v0_, v1_, v2_, v3_, v4_, v5_, v6_, v7_, (.pointer (some ⟨w19.heap.size, 0, none⟩)), w19.heap.size, hk, rfl, (by simp only [HAp.out, Act.put, List.setIfInBounds_toArray, List.set_cons_zero, List.set_cons_succ]), (cFp zF hb), (fun h => (rr1 h).below hb), (fun h => (rr2 h).below hb), (fun h => (rr3 h).below hb), (fun h => (rr4 h).below hb), (fun h => (rr5 h).below hb), (fun h => (rr6 h).below hb), (fun h => (rr7 h).below hb), (fun h => (rr8 h).below hb), (fun _ => ⟨rfl, q23_0, hgn⟩)⟩
          · right
            refine ⟨?_, fun i hi => ?_⟩
            · clear zF rr1 rr2 rr3 zz0
              obtain rfl | rfl | rfl | rfl : k = 0 ∨ k = 1 ∨ k = 2 ∨ k = 3 := by omega
              all_goals cases bb0
              all_goals first | exact absurd ⟨rfl, rfl⟩ hL | exact of_decide_eq_true (by kernel_rfl)
            have hd : (k = 0 ∧ i = 3) ∨ (k = 1 ∧ i = 7) ∨ (k = 2 ∧ i = 8) ∨ (bb0 = false ∧ i = 9) := by
              clear zF rr1 rr2 rr3 zz0
              revert i
              obtain rfl | rfl | rfl | rfl : k = 0 ∨ k = 1 ∨ k = 2 ∨ k = 3 := by omega
              all_goals cases bb0
              all_goals first | exact absurd ⟨rfl, rfl⟩ hL | exact of_decide_eq_true (by kernel_rfl)
            clear hi hL
            rcases hd with ⟨rfl, rfl⟩ | ⟨rfl, rfl⟩ | ⟨rfl, rfl⟩ | ⟨rfl, rfl⟩
            · refine step_of 3 ?_ ?_ (fun K hK => ?_)
              rotate_left 1
              · simp only [List.getElem?_toArray, List.getElem?_cons_succ, List.getElem?_cons_zero]; exact rfl
              rw [HAo.out]
              try simp only [Act.put]
              try simp only [List.setIfInBounds_toArray, List.set_cons_zero, List.set_cons_succ]
              go_simp
              refine (K6.out _).mono ?_
              rintro e w31 ⟨m13, o13, n13, c13, rfl, f13_0, hb⟩
              go_wp2_with fail
              refine hK.out _ _ (sFo (cFo zF hb)) ?_
              exact (hIVo _ _ _).2 ⟨1, bb0, (.agg #[.bool m13, .slice o13 n13 c13]), v1_, v2_, p0_, gq15, (by omega), rfl, (by simp only [HAo.out, Act.put, List.setIfInBounds_toArray, List.set_cons_zero, List.set_cons_succ]), (cFo zF hb), (fun _ => f13_0), (fun h => absurd h (by omega)), (fun h => absurd h (by omega)), (fun h => ⟨(zz0 h).1, (zz0 h).2.1.below hb, (zz0 h).2.2⟩)⟩
            · refine step_of 7 ?_ ?_ (fun K hK => ?_)
              rotate_left 1
              · simp only [List.getElem?_toArray, List.getElem?_cons_succ, List.getElem?_cons_zero]; exact rfl
              rw [HAo.out]
              try simp only [Act.put]
              try simp only [List.setIfInBounds_toArray, List.set_cons_zero, List.set_cons_succ]
              go_simp
              refine (K7.out _).mono ?_
              rintro e w32 ⟨m14, o14, n14, c14, rfl, f14_0, hb⟩
              go_wp2_with fail
              refine hK.out _ _ (sFo (cFo zF hb)) ?_
              exact (hIVo _ _ _).2 ⟨2, bb0, v0_, (.agg #[.bool m14, .slice o14 n14 c14]), v2_, p0_, gq15, (by omega), rfl, (by simp only [HAo.out, Act.put, List.setIfInBounds_toArray, List.set_cons_zero, List.set_cons_succ]), (cFo zF hb), (fun _ => (rr1 (by omega)).below hb), (fun _ => f14_0), (fun h => absurd h (by omega)), (fun h => ⟨(zz0 h).1, (zz0 h).2.1.below hb, (zz0 h).2.2⟩)⟩
            · obtain ⟨-, -, -, -, -, f1_0, f3_0, -, -, -, -, -, -, -, -, -, -, -⟩ := (hFFo _).1 zF
              have f13_0 := rr1 (by omega)
              have f14_0 := rr2 (by omega)
              refine step_of 8 ?_ ?_ (fun K hK => ?_)
              rotate_left 1
              · simp only [List.getElem?_toArray, List.getElem?_cons_succ, List.getElem?_cons_zero]; exact rfl
              rw [HAo.out]
              try simp only [Act.put]
              try simp only [List.setIfInBounds_toArray, List.set_cons_zero, List.set_cons_succ]
              go_simp
              refine (det_any _ _ _ _ 2 5 2 5 _ _ _ _ _ (by omega) (by omega) (by omega) (by omega) f1_0.num f13_0.num f3_0.num f14_0.num).mono ?_
              rintro e w33 ⟨m15, o15, n15, c15, rfl, f15_0, hb⟩
              go_wp2_with fail
              refine hK.out _ _ (sFo (cFo zF hb)) ?_
              exact (hIVo _ _ _).2 ⟨3, bb0, v0_, v1_, (.agg #[.bool m15, .slice o15 n15 c15]), p0_, gq15, (by omega), rfl, (by simp only [HAo.out, Act.put, List.setIfInBounds_toArray, List.set_cons_zero, List.set_cons_succ]), (cFo zF hb), (fun _ => (rr1 (by omega)).below hb), (fun _ => (rr2 (by omega)).below hb), (fun _ => f15_0), (fun h => ⟨(zz0 h).1, (zz0 h).2.1.below hb, (zz0 h).2.2⟩)⟩
            · refine step_of 9 ?_ ?_ (fun K hK => ?_)
              rotate_left 1
              · simp only [List.getElem?_toArray, List.getElem?_cons_succ, List.getElem?_cons_zero]; exact rfl
              rw [HAo.out]
              try simp only [Act.put]
              try simp only [List.setIfInBounds_toArray, List.set_cons_zero, List.set_cons_succ]
              go_simp
              have hgn := mFo zF
              obtain ⟨wn, hwn, q15_0, hb, -⟩ := new_box w17 _ rfl [.bool false, .slice none 0 0] 29
              rw [hwn]
              refine hK.out _ _ (sFo (cFo zF hb)) ?_
              exact (hIVo _ _ _).2 ⟨k, true, v0_, v1_, v2_, (.pointer (some ⟨w17.heap.size, 0, none⟩)), w17.heap.size, hk, rfl, (by simp only [HAo.out, Act.put, List.setIfInBounds_toArray, List.set_cons_zero, List.set_cons_succ]), (cFo zF hb), (fun h => (rr1 h).below hb), (fun h => (rr2 h).below hb), (fun h => (rr3 h).below hb), (fun _ => ⟨rfl, q15_0, hgn⟩)⟩
        · right
          refine ⟨?_, fun i hi => ?_⟩
          · clear zF rr1 rr2 rr3 zz0
            obtain rfl | rfl | rfl | rfl : k = 0 ∨ k = 1 ∨ k = 2 ∨ k = 3 := by omega
            all_goals cases bb0
            all_goals first | exact absurd ⟨rfl, rfl⟩ hL | exact of_decide_eq_true (by kernel_rfl)
          have hd : (k = 0 ∧ i = 2) ∨ (k = 1 ∧ i = 6) ∨ (k = 2 ∧ i = 8) ∨ (bb0 = false ∧ i = 9) := by
            clear zF rr1 rr2 rr3 zz0
            revert i
            obtain rfl | rfl | rfl | rfl : k = 0 ∨ k = 1 ∨ k = 2 ∨ k = 3 := by omega
            all_goals cases bb0
            all_goals first | exact absurd ⟨rfl, rfl⟩ hL | exact of_decide_eq_true (by kernel_rfl)
          clear hi hL
          rcases hd with ⟨rfl, rfl⟩ | ⟨rfl, rfl⟩ | ⟨rfl, rfl⟩ | ⟨rfl, rfl⟩
          · refine step_of 2 ?_ ?_ (fun K hK => ?_)
            rotate_left 1
            · simp only [List.getElem?_toArray, List.getElem?_cons_succ, List.getElem?_cons_zero]; exact rfl
            rw [HAl.out]
            try simp only [Act.put]
            try simp only [List.setIfInBounds_toArray, List.set_cons_zero, List.set_cons_succ]
            go_simp
            refine (K6.out _).mono ?_
            rintro e w34 ⟨m10, o10, n10, c10, rfl, f10_0, hb⟩
            go_wp2_with fail
            refine hK.out _ _ (sFl (cFl zF hb)) ?_
            exact (hIVl _ _ _).2 ⟨1, bb0, (.agg #[.bool m10, .slice o10 n10 c10]), v1_, v2_, p0_, gq12, (by omega), rfl, (by simp only [HAl.out, Act.put, List.setIfInBounds_toArray, List.set_cons_zero, List.set_cons_succ]), (cFl zF hb), (fun _ => f10_0), (fun h => absurd h (by omega)), (fun h => absurd h (by omega)), (fun h => ⟨(zz0 h).1, (zz0 h).2.1.below hb, (zz0 h).2.2⟩)⟩
          · refine step_of 6 ?_ ?_ (fun K hK => ?_)
            rotate_left 1
            · simp only [List.getElem?_toArray, List.getElem?_cons_succ, List.getElem?_cons_zero]; exact rfl
            rw [HAl.out]
            try simp only [Act.put]
            try simp only [List.setIfInBounds_toArray, List.set_cons_zero, List.set_cons_succ]
            go_simp
            refine (K7.out _).mono ?_
            rintro e w35 ⟨m11, o11, n11, c11, rfl, f11_0, hb⟩
            go_wp2_with fail
            refine hK.out _ _ (sFl (cFl zF hb)) ?_
            exact (hIVl _ _ _).2 ⟨2, bb0, v0_, (.agg #[.bool m11, .slice o11 n11 c11]), v2_, p0_, gq12, (by omega), rfl, (by simp only [HAl.out, Act.put, List.setIfInBounds_toArray, List.set_cons_zero, List.set_cons_succ]), (cFl zF hb), (fun _ => (rr1 (by omega)).below hb), (fun _ => f11_0), (fun h => absurd h (by omega)), (fun h => ⟨(zz0 h).1, (zz0 h).2.1.below hb, (zz0 h).2.2⟩)⟩
          · obtain ⟨-, -, -, -, -, -, f2_0, -, f4_0, -, -, -, -, -, -, -, -, -, -, -⟩ := (hFFl _).1 zF
            have f10_0 := rr1 (by omega)
            have f11_0 := rr2 (by omega)
            refine step_of 8 ?_ ?_ (fun K hK => ?_)
            rotate_left 1
            · simp only [List.getElem?_toArray, List.getElem?_cons_succ, List.getElem?_cons_zero]; exact rfl
            rw [HAl.out]
            try simp only [Act.put]
            try simp only [List.setIfInBounds_toArray, List.set_cons_zero, List.set_cons_succ]
            go_simp
            refine (det_any _ _ _ _ 5 2 5 2 _ _ _ _ _ (by omega) (by omega) (by omega) (by omega) f10_0.num f2_0.num f11_0.num f4_0.num).mono ?_
            rintro e w36 ⟨m12, o12, n12, c12, rfl, f12_0, hb⟩
            go_wp2_with fail
            refine hK.out _ _ (sFl (cFl zF hb)) ?_
            exact (hIVl _ _ _).2 ⟨3, bb0, v0_, v1_, (.agg #[.bool m12, .slice o12 n12 c12]), p0_, gq12, (by omega), rfl, (by simp only [HAl.out, Act.put, List.setIfInBounds_toArray, List.set_cons_zero, List.set_cons_succ]), (cFl zF hb), (fun _ => (rr1 (by omega)).below hb), (fun _ => (rr2 (by omega)).below hb), (fun _ => f12_0), (fun h => ⟨(zz0 h).1, (zz0 h).2.1.below hb, (zz0 h).2.2⟩)⟩
          · refine step_of 9 ?_ ?_ (fun K hK => ?_)
            rotate_left 1
            · simp only [List.getElem?_toArray, List.getElem?_cons_succ, List.getElem?_cons_zero]; exact rfl
            rw [HAl.out]
            try simp only [Act.put]
            try simp only [List.setIfInBounds_toArray, List.set_cons_zero, List.set_cons_succ]
            go_simp
            have hgn := mFl zF
            obtain ⟨wn, hwn, q12_0, hb, -⟩ := new_box w15 _ rfl [.bool false, .slice none 0 0] 29
            rw [hwn]
            refine hK.out _ _ (sFl (cFl zF hb)) ?_
            exact (hIVl _ _ _).2 ⟨k, true, v0_, v1_, v2_, (.pointer (some ⟨w15.heap.size, 0, none⟩)), w15.heap.size, hk, rfl, (by simp only [HAl.out, Act.put, List.setIfInBounds_toArray, List.set_cons_zero, List.set_cons_succ]), (cFl zF hb), (fun h => (rr1 h).below hb), (fun h => (rr2 h).below hb), (fun h => (rr3 h).below hb), (fun _ => ⟨rfl, q12_0, hgn⟩)⟩
      · right
        refine ⟨?_, fun i hi => ?_⟩
        · clear zF rr1 rr2 rr3 zz0
          obtain rfl | rfl | rfl | rfl : k = 0 ∨ k = 1 ∨ k = 2 ∨ k = 3 := by omega
          all_goals cases bb0
          all_goals first | exact absurd ⟨rfl, rfl⟩ hL | exact of_decide_eq_true (by kernel_rfl)
        have hd : (k = 0 ∧ i = 0) ∨ (k = 1 ∧ i = 5) ∨ (k = 2 ∧ i = 6) ∨ (bb0 = false ∧ i = 7) := by
          clear zF rr1 rr2 rr3 zz0
          revert i
          obtain rfl | rfl | rfl | rfl : k = 0 ∨ k = 1 ∨ k = 2 ∨ k = 3 := by omega
          all_goals cases bb0
          all_goals first | exact absurd ⟨rfl, rfl⟩ hL | exact of_decide_eq_true (by kernel_rfl)
        clear hi hL
        rcases hd with ⟨rfl, rfl⟩ | ⟨rfl, rfl⟩ | ⟨rfl, rfl⟩ | ⟨rfl, rfl⟩
        · refine step_of 0 ?_ ?_ (fun K hK => ?_)
          rotate_left 1
          · simp only [List.getElem?_toArray, List.getElem?_cons_zero]; exact rfl
          rw [HAk.out]
          try simp only [Act.put]
          try simp only [List.setIfInBounds_toArray, List.set_cons_zero, List.set_cons_succ]
          go_simp
          refine (nOf_any 2 (by omega) (by omega) _).mono ?_
          rintro e w37 ⟨m7, o7, n7, c7, rfl, f7_0, hb⟩
          go_wp2_with fail
          refine hK.out _ _ (sFk (cFk zF hb)) ?_
          exact (hIVk _ _ _).2 ⟨1, bb0, (.agg #[.bool m7, .slice o7 n7 c7]), v1_, v2_, p0_, gq9, (by omega), rfl, (by simp only [HAk.out, Act.put, List.setIfInBounds_toArray, List.set_cons_zero, List.set_cons_succ]), (cFk zF hb), (fun _ => f7_0), (fun h => absurd h (by omega)), (fun h => absurd h (by omega)), (fun h => ⟨(zz0 h).1, (zz0 h).2.1.below hb, (zz0 h).2.2⟩)⟩
        · obtain ⟨-, -, -, -, -, f1_0, f2_0, f3_0, f4_0, -, -, -, -, -, -, -, -, -⟩ := (hFFk _).1 zF
          refine step_of 5 ?_ ?_ (fun K hK => ?_)
          rotate_left 1
          · simp only [List.getElem?_toArray, List.getElem?_cons_succ, List.getElem?_cons_zero]; exact rfl
          rw [HAk.out]
          try simp only [Act.put]
          try simp only [List.setIfInBounds_toArray, List.set_cons_zero, List.set_cons_succ]
          go_simp
          refine (det_any _ _ _ _ 2 2 2 2 _ _ _ _ _ (by omega) (by omega) (by omega) (by omega) f1_0.num f2_0.num f3_0.num f4_0.num).mono ?_
          rintro e w38 ⟨m8, o8, n8, c8, rfl, f8_0, hb⟩
          go_wp2_with fail
          refine hK.out _ _ (sFk (cFk zF hb)) ?_
          exact (hIVk _ _ _).2 ⟨2, bb0, v0_, (.agg #[.bool m8, .slice o8 n8 c8]), v2_, p0_, gq9, (by omega), rfl, (by simp only [HAk.out, Act.put, List.setIfInBounds_toArray, List.set_cons_zero, List.set_cons_succ]), (cFk zF hb), (fun _ => (rr1 (by omega)).below hb), (fun _ => f8_0), (fun h => absurd h (by omega)), (fun h => ⟨(zz0 h).1, (zz0 h).2.1.below hb, (zz0 h).2.2⟩)⟩
        · have f7_0 := rr1 (by omega)
          have f8_0 := rr2 (by omega)
          refine step_of 6 ?_ ?_ (fun K hK => ?_)
          rotate_left 1
          · simp only [List.getElem?_toArray, List.getElem?_cons_succ, List.getElem?_cons_zero]; exact rfl
          rw [HAk.out]
          try simp only [Act.put]
          try simp only [List.setIfInBounds_toArray, List.set_cons_zero, List.set_cons_succ]
          go_simp
          refine (nMul_any _ _ 1 5 _ _ _ (by omega) (by omega) f7_0.num f8_0.num).mono ?_
          rintro e w39 ⟨m9, o9, n9, c9, rfl, f9_0, hb⟩
          go_wp2_with fail
          refine hK.out _ _ (sFk (cFk zF hb)) ?_
          exact (hIVk _ _ _).2 ⟨3, bb0, v0_, v1_, (.agg #[.bool m9, .slice o9 n9 c9]), p0_, gq9, (by omega), rfl, (by simp only [HAk.out, Act.put, List.setIfInBounds_toArray, List.set_cons_zero, List.set_cons_succ]), (cFk zF hb), (fun _ => (rr1 (by omega)).below hb), (fun _ => (rr2 (by omega)).below hb), (fun _ => f9_0), (fun h => ⟨(zz0 h).1, (zz0 h).2.1.below hb, (zz0 h).2.2⟩)⟩
        · refine step_of 7 ?_ ?_ (fun K hK => ?_)
          rotate_left 1
          · simp only [List.getElem?_toArray, List.getElem?_cons_succ, List.getElem?_cons_zero]; exact rfl
          rw [HAk.out]
          try simp only [Act.put]
          try simp only [List.setIfInBounds_toArray, List.set_cons_zero, List.set_cons_succ]
          go_simp
          have hgn := mFk zF
          obtain ⟨wn, hwn, q9_0, hb, -⟩ := new_box w13 _ rfl [.bool false, .slice none 0 0] 29
          rw [hwn]
          refine hK.out _ _ (sFk (cFk zF hb)) ?_
          exact (hIVk _ _ _).2 ⟨k, true, v0_, v1_, v2_, (.pointer (some ⟨w13.heap.size, 0, none⟩)), w13.heap.size, hk, rfl, (by simp only [HAk.out, Act.put, List.setIfInBounds_toArray, List.set_cons_zero, List.set_cons_succ]), (cFk zF hb), (fun h => (rr1 h).below hb), (fun h => (rr2 h).below hb), (fun h => (rr3 h).below hb), (fun _ => ⟨rfl, q9_0, hgn⟩)⟩
    · right
      refine ⟨?_, fun i hi => ?_⟩
      · clear zF rr1 rr2 zz0 zz1 n0_1
        obtain rfl | rfl | rfl : k = 0 ∨ k = 1 ∨ k = 2 := by omega
        all_goals cases bb0
        all_goals cases bb1
        all_goals first | exact absurd ⟨rfl, rfl, rfl⟩ hL | exact of_decide_eq_true (by kernel_rfl)
      have hd : (k = 0 ∧ i = 4) ∨ (k = 1 ∧ i = 9) ∨ (bb0 = false ∧ i = 10) ∨ (bb1 = false ∧ i = 11) := by
        clear zF rr1 rr2 zz0 zz1 n0_1
        revert i
        obtain rfl | rfl | rfl : k = 0 ∨ k = 1 ∨ k = 2 := by omega
        all_goals cases bb0
        all_goals cases bb1
        all_goals first | exact absurd ⟨rfl, rfl, rfl⟩ hL | exact of_decide_eq_true (by kernel_rfl)
      clear hi hL
      rcases hd with ⟨rfl, rfl⟩ | ⟨rfl, rfl⟩ | ⟨rfl, rfl⟩ | ⟨rfl, rfl⟩
      · refine step_of 4 ?_ ?_ (fun K hK => ?_)
        rotate_left 1
        · simp only [List.getElem?_toArray, List.getElem?_cons_succ, List.getElem?_cons_zero]; exact rfl
        rw [HAj.out]
        try simp only [Act.put]
        try simp only [List.setIfInBounds_toArray, List.set_cons_zero, List.set_cons_succ]
        go_simp
        refine (K4.out _).mono ?_
        rintro e w40 ⟨m5, o5, n5, c5, rfl, f5_0, hb⟩
        go_wp2_with fail
        refine hK.out _ _ (sFj (cFj zF hb)) ?_
        exact (hIVj _ _ _).2 ⟨1, bb0, bb1, (.agg #[.bool m5, .slice o5 n5 c5]), v1_, p0_, p1_, gq5, gq6, (by omega), rfl, (by simp only [HAj.out, Act.put, List.setIfInBounds_toArray, List.set_cons_zero, List.set_cons_succ]), (cFj zF hb), (fun _ => f5_0), (fun h => absurd h (by omega)), (fun h => ⟨(zz0 h).1, (zz0 h).2.1.below hb, (zz0 h).2.2⟩), (fun h => ⟨(zz1 h).1, (zz1 h).2.1.below hb, (zz1 h).2.2⟩), n0_1⟩
      · refine step_of 9 ?_ ?_ (fun K hK => ?_)
        rotate_left 1
        · simp only [List.getElem?_toArray, List.getElem?_cons_succ, List.getElem?_cons_zero]; exact rfl
        rw [HAj.out]
        try simp only [Act.put]
        try simp only [List.setIfInBounds_toArray, List.set_cons_zero, List.set_cons_succ]
        go_simp
        refine (K5.out _).mono ?_
        rintro e w41 ⟨m6, o6, n6, c6, rfl, f6_0, hb⟩
        go_wp2_with fail
        refine hK.out _ _ (sFj (cFj zF hb)) ?_
        exact (hIVj _ _ _).2 ⟨2, bb0, bb1, v0_, (.agg #[.bool m6, .slice o6 n6 c6]), p0_, p1_, gq5, gq6, (by omega), rfl, (by simp only [HAj.out, Act.put, List.setIfInBounds_toArray, List.set_cons_zero, List.set_cons_succ]), (cFj zF hb), (fun _ => (rr1 (by omega)).below hb), (fun _ => f6_0), (fun h => ⟨(zz0 h).1, (zz0 h).2.1.below hb, (zz0 h).2.2⟩), (fun h => ⟨(zz1 h).1, (zz1 h).2.1.below hb, (zz1 h).2.2⟩), n0_1⟩
      · refine step_of 10 ?_ ?_ (fun K hK => ?_)
        rotate_left 1
        · simp only [List.getElem?_toArray, List.getElem?_cons_succ, List.getElem?_cons_zero]; exact rfl
        rw [HAj.out]
        try simp only [Act.put]
        try simp only [List.setIfInBounds_toArray, List.set_cons_zero, List.set_cons_succ]
        go_simp
        have hgn := mFj zF
        have hl1 : bb1 = true → gq6 < w10.heap.size := fun h => (zz1 h).2.1.lt
        obtain ⟨wn, hwn, q5_0, hb, -⟩ := new_box w10 _ rfl [.bool false, .slice none 0 0] 29
        rw [hwn]
        refine hK.out _ _ (sFj (cFj zF hb)) ?_
        exact (hIVj _ _ _).2 ⟨k, true, bb1, v0_, v1_, (.pointer (some ⟨w10.heap.size, 0, none⟩)), p1_, w10.heap.size, gq6, hk, rfl, (by simp only [HAj.out, Act.put, List.setIfInBounds_toArray, List.set_cons_zero, List.set_cons_succ]), (cFj zF hb), (fun h => (rr1 h).below hb), (fun h => (rr2 h).below hb), (fun _ => ⟨rfl, q5_0, hgn⟩), (fun h => ⟨(zz1 h).1, (zz1 h).2.1.below hb, (zz1 h).2.2⟩), (fun _ h => by have := hl1 h; omega)⟩
      · refine step_of 11 ?_ ?_ (fun K hK => ?_)
        rotate_left 1
        · simp only [List.getElem?_toArray, List.getElem?_cons_succ, List.getElem?_cons_zero]; exact rfl
        rw [HAj.out]
        try simp only [Act.put]
        try simp only [List.setIfInBounds_toArray, List.set_cons_zero, List.set_cons_succ]
        go_simp
        have hgn := mFj zF
        have hl0 : bb0 = true → gq5 < w10.heap.size := fun h => (zz0 h).2.1.lt
        obtain ⟨wn, hwn, q6_0, hb, -⟩ := new_box w10 _ rfl [.bool false, .slice none 0 0] 29
        rw [hwn]
        refine hK.out _ _ (sFj (cFj zF hb)) ?_
        exact (hIVj _ _ _).2 ⟨k, bb0, true, v0_, v1_, p0_, (.pointer (some ⟨w10.heap.size, 0, none⟩)), gq5, w10.heap.size, hk, rfl, (by simp only [HAj.out, Act.put, List.setIfInBounds_toArray, List.set_cons_zero, List.set_cons_succ]), (cFj zF hb), (fun h => (rr1 h).below hb), (fun h => (rr2 h).below hb), (fun h => ⟨(zz0 h).1, (zz0 h).2.1.below hb, (zz0 h).2.2⟩), (fun _ => ⟨rfl, q6_0, hgn⟩), (fun h _ => by have := hl0 h; omega)⟩
  · right
    refine ⟨?_, fun i hi => ?_⟩
    · clear zF rr1 rr2 rr3 rr4 zz0 zz1 zz2 zz3 n0_1 n0_2 n0_3 n1_2 n1_3 n2_3
      obtain rfl | rfl | rfl | rfl | rfl : k = 0 ∨ k = 1 ∨ k = 2 ∨ k = 3 ∨ k = 4 := by omega
      all_goals cases bb0
      all_goals cases bb1
      all_goals cases bb2
      all_goals cases bb3
      all_goals first | exact absurd ⟨rfl, rfl, rfl, rfl, rfl⟩ hL | exact of_decide_eq_true (by kernel_rfl)
    have hd : (k = 0 ∧ i = 4) ∨ (k = 1 ∧ i = 9) ∨ (k = 2 ∧ i = 14) ∨ (k = 3 ∧ i = 19) ∨ (bb0 = false ∧ i = 20) ∨ (bb1 = false ∧ i = 21) ∨ (bb2 = false ∧ i = 22) ∨ (bb3 = false ∧ i = 23) := by
      clear zF rr1 rr2 rr3 rr4 zz0 zz1 zz2 zz3 n0_1 n0_2 n0_3 n1_2 n1_3 n2_3
      revert i
      obtain rfl | rfl | rfl | rfl | rfl : k = 0 ∨ k = 1 ∨ k = 2 ∨ k = 3 ∨ k = 4 := by omega
      all_goals cases bb0
      all_goals cases bb1
      all_goals cases bb2
      all_goals cases bb3
      all_goals first | exact absurd ⟨rfl, rfl, rfl, rfl, rfl⟩ hL | exact of_decide_eq_true (by kernel_rfl)
    clear hi hL
    rcases hd with ⟨rfl, rfl⟩ | ⟨rfl, rfl⟩ | ⟨rfl, rfl⟩ | ⟨rfl, rfl⟩ | ⟨rfl, rfl⟩ | ⟨rfl, rfl⟩ | ⟨rfl, rfl⟩ | ⟨rfl, rfl⟩
    · refine step_of 4 ?_ ?_ (fun K hK => ?_)
      rotate_left 1
      · simp only [List.getElem?_toArray, List.getElem?_cons_succ, List.getElem?_cons_zero]; exact rfl
      rw [HAi.out]
      try simp only [Act.put]
      try simp only [List.setIfInBounds_toArray, List.set_cons_zero, List.set_cons_succ]
      go_simp
      refine (K0.out _).mono ?_
      rintro e w42 ⟨m1, o1, n1, c1, rfl, f1_0, hb⟩
      go_wp2_with fail
      refine hK.out _ _ (sFi (cFi zF hb)) ?_
      exact (hIVi _ _ _).2 ⟨1, bb0, bb1, bb2, bb3, (.agg #[.bool m1, .slice o1 n1 c1]), v1_, v2_, v3_, p0_, p1_, p2_, p3_, gq1, gq2, gq3, gq4, (by omega), rfl, (by simp only [HAi.out, Act.put, List.setIfInBounds_toArray, List.set_cons_zero, List.set_cons_succ]), (cFi zF hb), (fun _ => f1_0), (fun h => absurd h (by omega)), (fun h => absurd h (by omega)), (fun h => absurd h (by omega)), (fun h => ⟨(zz0 h).1, (zz0 h).2.1.below hb, (zz0 h).2.2⟩), (fun h => ⟨(zz1 h).1, (zz1 h).2.1.below hb, (zz1 h).2.2⟩), (fun h => ⟨(zz2 h).1, (zz2 h).2.1.below hb, (zz2 h).2.2⟩), (fun h => ⟨(zz3 h).1, (zz3 h).2.1.below hb, (zz3 h).2.2⟩), n0_1, n0_2, n0_3, n1_2, n1_3, n2_3⟩
    · refine step_of 9 ?_ ?_ (fun K hK => ?_)
      rotate_left 1
      · simp only [List.getElem?_toArray, List.getElem?_cons_succ, List.getElem?_cons_zero]; exact rfl
      rw [HAi.out]
      try simp only [Act.put]
      try simp only [List.setIfInBounds_toArray, List.set_cons_zero, List.set_cons_succ]
      go_simp
      refine (K1.out _).mono ?_
      rintro e w43 ⟨m2, o2, n2, c2, rfl, f2_0, hb⟩
      go_wp2_with fail
      refine hK.out _ _ (sFi (cFi zF hb)) ?_
      exact (hIVi _ _ _).2 ⟨2, bb0, bb1, bb2, bb3, v0_, (.agg #[.bool m2, .slice o2 n2 c2]), v2_, v3_, p0_, p1_, p2_, p3_, gq1, gq2, gq3, gq4, (by omega), rfl, (by simp only [HAi.out, Act.put, List.setIfInBounds_toArray, List.set_cons_zero, List.set_cons_succ]), (cFi zF hb), (fun _ => (rr1 (by omega)).below hb), (fun _ => f2_0), (fun h => absurd h (by omega)), (fun h => absurd h (by omega)), (fun h => ⟨(zz0 h).1, (zz0 h).2.1.below hb, (zz0 h).2.2⟩), (fun h => ⟨(zz1 h).1, (zz1 h).2.1.below hb, (zz1 h).2.2⟩), (fun h => ⟨(zz2 h).1, (zz2 h).2.1.below hb, (zz2 h).2.2⟩), (fun h => ⟨(zz3 h).1, (zz3 h).2.1.below hb, (zz3 h).2.2⟩), n0_1, n0_2, n0_3, n1_2, n1_3, n2_3⟩
    · refine step_of 14 ?_ ?_ (fun K hK => ?_)
      rotate_left 1
      · simp only [List.getElem?_toArray, List.getElem?_cons_succ, List.getElem?_cons_zero]; exact rfl
      rw [HAi.out]
      try simp only [Act.put]
      try simp only [List.setIfInBounds_toArray, List.set_cons_zero, List.set_cons_succ]
      go_simp
      refine (K2.out _).mono ?_
      rintro e w44 ⟨m3, o3, n3, c3, rfl, f3_0, hb⟩
      go_wp2_with fail
      refine hK.out _ _ (sFi (cFi zF hb)) ?_
      exact (hIVi _ _ _).2 ⟨3, bb0, bb1, bb2, bb3, v0_, v1_, (.agg #[.bool m3, .slice o3 n3 c3]), v3_, p0_, p1_, p2_, p3_, gq1, gq2, gq3, gq4, (by omega), rfl, (by simp only [HAi.out, Act.put, List.setIfInBounds_toArray, List.set_cons_zero, List.set_cons_succ]), (cFi zF hb), (fun _ => (rr1 (by omega)).below hb), (fun _ => (rr2 (by omega)).below hb), (fun _ => f3_0), (fun h => absurd h (by omega)), (fun h => ⟨(zz0 h).1, (zz0 h).2.1.below hb, (zz0 h).2.2⟩), (fun h => ⟨(zz1 h).1, (zz1 h).2.1.below hb, (zz1 h).2.2⟩), (fun h => ⟨(zz2 h).1, (zz2 h).2.1.below hb, (zz2 h).2.2⟩), (fun h => ⟨(zz3 h).1, (zz3 h).2.1.below hb, (zz3 h).2.2⟩), n0_1, n0_2, n0_3, n1_2, n1_3, n2_3⟩
    · refine step_of 19 ?_ ?_ (fun K hK => ?_)
      rotate_left 1
      · simp only [List.getElem?_toArray, List.getElem?_cons_succ, List.getElem?_cons_zero]; exact rfl
      rw [HAi.out]
      try simp only [Act.put]
      try simp only [List.setIfInBounds_toArray, List.set_cons_zero, List.set_cons_succ]
      go_simp
      refine (K3.out _).mono ?_
      rintro e w45 ⟨m4, o4, n4, c4, rfl, f4_0, hb⟩
      go_wp2_with fail
      refine hK.out _ _ (sFi (cFi zF hb)) ?_
      exact (hIVi _ _ _).2 ⟨4, bb0, bb1, bb2, bb3, v0_, v1_, v2_, (.agg #[.bool m4, .slice o4 n4 c4]), p0_, p1_, p2_, p3_, gq1, gq2, gq3, gq4, (by omega), rfl, (by simp only [HAi.out, Act.put, List.setIfInBounds_toArray, List.set_cons_zero, List.set_cons_succ]), (cFi zF hb), (fun _ => (rr1 (by omega)).below hb), (fun _ => (rr2 (by omega)).below hb), (fun _ => (rr3 (by omega)).below hb), (fun _ => f4_0), (fun h => ⟨(zz0 h).1, (zz0 h).2.1.below hb, (zz0 h).2.2⟩), (fun h => ⟨(zz1 h).1, (zz1 h).2.1.below hb, (zz1 h).2.2⟩), (fun h => ⟨(zz2 h).1, (zz2 h).2.1.below hb, (zz2 h).2.2⟩), (fun h => ⟨(zz3 h).1, (zz3 h).2.1.below hb, (zz3 h).2.2⟩), n0_1, n0_2, n0_3, n1_2, n1_3, n2_3⟩
    · refine step_of 20 ?_ ?_ (fun K hK => ?_)
      rotate_left 1
      · simp only [List.getElem?_toArray, List.getElem?_cons_succ, List.getElem?_cons_zero]; exact rfl
      rw [HAi.out]
      try simp only [Act.put]
      try simp only [List.setIfInBounds_toArray, List.set_cons_zero, List.set_cons_succ]
      go_simp
      have hgn := mFi zF
      have hl1 : bb1 = true → gq2 < w5.heap.size := fun h => (zz1 h).2.1.lt
      have hl2 : bb2 = true → gq3 < w5.heap.size := fun h => (zz2 h).2.1.lt
      have hl3 : bb3 = true → gq4 < w5.heap.size := fun h => (zz3 h).2.1.lt
      obtain ⟨wn, hwn, q1_0, hb, -⟩ := new_box w5 _ rfl [.bool false, .slice none 0 0] 29
      rw [hwn]
      refine hK.out _ _ (sFi (cFi zF hb)) ?_
      exact (hIVi _ _ _).2 ⟨k, true, bb1, bb2, bb3, v0_, v1_, v2_, v3_, (.pointer (some ⟨w5.heap.size, 0, none⟩)), p1_, p2_, p3_, w5.heap.size, gq2, gq3, gq4, hk, rfl, (by simp only [HAi.out, Act.put, List.setIfInBounds_toArray, List.set_cons_zero, List.set_cons_succ]), (cFi zF hb), (fun h => (rr1 h).below hb), (fun h => (rr2 h).below hb), (fun h => (rr3 h).below hb), (fun h => (rr4 h).below hb), (fun _ => ⟨rfl, q1_0, hgn⟩), (fun h => ⟨(zz1 h).1, (zz1 h).2.1.below hb, (zz1 h).2.2⟩), (fun h => ⟨(zz2 h).1, (zz2 h).2.1.below hb, (zz2 h).2.2⟩), (fun h => ⟨(zz3 h).1, (zz3 h).2.1.below hb, (zz3 h).2.2⟩), (fun _ h => by have := hl1 h; omega), (fun _ h => by have := hl2 h; omega), (fun _ h => by have := hl3 h; omega), n1_2, n1_3, n2_3⟩
    · refine step_of 21 ?_ ?_ (fun K hK => ?_)
      rotate_left 1
      · simp only [List.getElem?_toArray, List.getElem?_cons_succ, List.getElem?_cons_zero]; exact rfl
      rw [HAi.out]
      try simp only [Act.put]
      try simp only [List.setIfInBounds_toArray, List.set_cons_zero, List.set_cons_succ]
      go_simp
      have hgn := mFi zF
      have hl0 : bb0 = true → gq1 < w5.heap.size := fun h => (zz0 h).2.1.lt
      have hl2 : bb2 = true → gq3 < w5.heap.size := fun h => (zz2 h).2.1.lt
      have hl3 : bb3 = true → gq4 < w5.heap.size := fun h => (zz3 h).2.1.lt
      obtain ⟨wn, hwn, q2_0, hb, -⟩ := new_box w5 _ rfl [.bool false, .slice none 0 0] 29
      rw [hwn]
      refine hK.out _ _ (sFi (cFi zF hb)) ?_
      exact (hIVi _ _ _).2 ⟨k, bb0, true, bb2, bb3, v0_, v1_, v2_, v3_, p0_, (.pointer (some ⟨w5.heap.size, 0, none⟩)), p2_, p3_, gq1, w5.heap.size, gq3, gq4, hk, rfl, (by simp only [HAi.out, Act.put, List.setIfInBounds_toArray, List.set_cons_zero, List.set_cons_succ]), (cFi zF hb), (fun h => (rr1 h).below hb), (fun h => (rr2 h).below hb), (fun h => (rr3 h).below hb), (fun h => (rr4 h).below hb), (fun h => ⟨(zz0 h).1, (zz0 h).2.1.below hb, (zz0 h).2.2⟩), (fun _ => ⟨rfl, q2_0, hgn⟩), (fun h => ⟨(zz2 h).1, (zz2 h).2.1.below hb, (zz2 h).2.2⟩), (fun h => ⟨(zz3 h).1, (zz3 h).2.1.below hb, (zz3 h).2.2⟩), (fun h _ => by have := hl0 h; omega), n0_2, n0_3, (fun _ h => by have := hl2 h; omega), (fun _ h => by have := hl3 h; omega), n2_3⟩
    · refine step_of 22 ?_ ?_ (fun K hK => ?_)
      rotate_left 1
      · simp only [List.getElem?_toArray, List.getElem?_cons_succ, List.getElem?_cons_zero]; exact rfl
      rw [HAi.out]
      try simp only [Act.put]
      try simp only [List.setIfInBounds_toArray, List.set_cons_zero, List.set_cons_succ]
      go_simp
      have hgn := mFi zF
      have hl0 : bb0 = true → gq1 < w5.heap.size := fun h => (zz0 h).2.1.lt
      have hl1 : bb1 = true → gq2 < w5.heap.size := fun h => (zz1 h).2.1.lt
      have hl3 : bb3 = true → gq4 < w5.heap.size := fun h => (zz3 h).2.1.lt
      obtain ⟨wn, hwn, q3_0, hb, -⟩ := new_box w5 _ rfl [.bool false, .slice none 0 0] 29
      rw [hwn]
      refine hK.out _ _ (sFi (cFi zF hb)) ?_
      exact (hIVi _ _ _).2 ⟨k, bb0, bb1, true, bb3, v0_, v1_, v2_, v3_, p0_, p1_, (.pointer (some ⟨w5.heap.size, 0, none⟩)), p3_, gq1, gq2, w5.heap.size, gq4, hk, rfl, (by simp only [HAi.out, Act.put, List.setIfInBounds_toArray, List.set_cons_zero, List.set_cons_succ]), (cFi zF hb), (fun h => (rr1 h).below hb), (fun h => (rr2 h).below hb), (fun h => (rr3 h).below hb), (fun h => (rr4 h).below hb), (fun h => ⟨(zz0 h).1, (zz0 h).2.1.below hb, (zz0 h).2.2⟩), (fun h => ⟨(zz1 h).1, (zz1 h).2.1.below hb, (zz1 h).2.2⟩), (fun _ => ⟨rfl, q3_0, hgn⟩), (fun h => ⟨(zz3 h).1, (zz3 h).2.1.below hb, (zz3 h).2.2⟩), n0_1, (fun h _ => by have := hl0 h; omega), n0_3, (fun h _ => by have := hl1 h; omega), n1_3, (fun _ h => by have := hl3 h; omega)⟩
    · refine step_of 23 ?_ ?_ (fun K hK => ?_)
      rotate_left 1
      · simp only [List.getElem?_toArray, List.getElem?_cons_succ, List.getElem?_cons_zero]; exact rfl
      rw [HAi.out]
      try simp only [Act.put]
      try simp only [List.setIfInBounds_toArray, List.set_cons_zero, List.set_cons_succ]
      go_simp
      have hgn := mFi zF
      have hl0 : bb0 = true → gq1 < w5.heap.size := fun h => (zz0 h).2.1.lt
      have hl1 : bb1 = true → gq2 < w5.heap.size := fun h => (zz1 h).2.1.lt
      have hl2 : bb2 = true → gq3 < w5.heap.size := fun h => (zz2 h).2.1.lt
      obtain ⟨wn, hwn, q4_0, hb, -⟩ := new_box w5 _ rfl [.bool false, .slice none 0 0] 29
      rw [hwn]
      refine hK.out _ _ (sFi (cFi zF hb)) ?_
      exact (hIVi _ _ _).2 ⟨k, bb0, bb1, bb2, true, v0_, v1_, v2_, v3_, p0_, p1_, p2_, (.pointer (some ⟨w5.heap.size, 0, none⟩)), gq1, gq2, gq3, w5.heap.size, hk, rfl, (by simp only [HAi.out, Act.put, List.setIfInBounds_toArray, List.set_cons_zero, List.set_cons_succ]), (cFi zF hb), (fun h => (rr1 h).below hb), (fun h => (rr2 h).below hb), (fun h => (rr3 h).below hb), (fun h => (rr4 h).below hb), (fun h => ⟨(zz0 h).1, (zz0 h).2.1.below hb, (zz0 h).2.2⟩), (fun h => ⟨(zz1 h).1, (zz1 h).2.1.below hb, (zz1 h).2.2⟩), (fun h => ⟨(zz2 h).1, (zz2 h).2.1.below hb, (zz2 h).2.2⟩), (fun _ => ⟨rfl, q4_0, hgn⟩), n0_1, n0_2, (fun h _ => by have := hl0 h; omega), n1_2, (fun h _ => by have := hl1 h; omega), (fun h _ => by have := hl2 h; omega)⟩
end Go.Proofs.Ytjciefoademlnaa
/- The statement PredCircles, walked. -/
namespace Go.Proofs.Ytjciefoademlnaa
open Go.RowKit Go.MagM
set_option maxRecDepth 100000 in
set_option maxHeartbeats 16000000 in
theorem PredCircles_w_z (x0 x1 y0 y1 z0 z1 t0 t1 a0 a1 b0 b1 v0 v1 u0 u1 : Int) (tm0 : ∀ w, Calls Try.prog 10 #[.agg #[.int .i64 x0, .int .i64 x1]] w fun e w' => e = .returned (.agg #[.int .i64 a0, .int .i64 a1]) ∧ Below w.heap.size w w') (tm1 : ∀ w, Calls Try.prog 10 #[.agg #[.int .i64 y0, .int .i64 y1]] w fun e w' => e = .returned (.agg #[.int .i64 b0, .int .i64 b1]) ∧ Below w.heap.size w w') (tm2 : ∀ w, Calls Try.prog 10 #[.agg #[.int .i64 z0, .int .i64 z1]] w fun e w' => e = .returned (.agg #[.int .i64 v0, .int .i64 v1]) ∧ Below w.heap.size w w') (tm3 : ∀ w, Calls Try.prog 10 #[.agg #[.int .i64 t0, .int .i64 t1]] w fun e w' => e = .returned (.agg #[.int .i64 u0, .int .i64 u1]) ∧ Below w.heap.size w w') (k0 : ∀ w, Calls Try.prog 15 #[.agg #[.int .i64 a0, .int .i64 a1], .agg #[.int .i64 b0, .int .i64 b1], .agg #[.int .i64 v0, .int .i64 v1]] w fun e w' => e = .returned (.int .i64 (0)) ∧ Below w.heap.size w w') (w : World) :
    Calls Try.prog 4 #[.agg #[.int .i64 x0, .int .i64 x1, .int .i64 y0, .int .i64 y1, .int .i64 z0, .int .i64 z1, .int .i64 t0, .int .i64 t1]] w fun e w' => e = .returned (.bool true) ∧ Below w.heap.size w w' := by
  have hB_0 := Below.refl w.heap.size w
  have TM0 := Lib.hid tm0; have TM1 := Lib.hid tm1; have TM2 := Lib.hid tm2; have TM3 := Lib.hid tm3; have K0 := Lib.hid k0
  clear tm0 tm1 tm2 tm3 k0
  obtain ⟨w1, hw1, pl_0, hb1, hs1⟩ := new_box w (w.heap.size) rfl [.int .i64 x0, .int .i64 x1, .int .i64 y0, .int .i64 y1, .int .i64 z0, .int .i64 z1, .int .i64 t0, .int .i64 t1] 37
  have hb1' : Below w.heap.size w w1 := hb1.mono (by omega)
  clear hb1
  have hB_1 := hB_0.trans (hb1'.mono hB_0.size)
  clear hb1' hB_0
  go_enter Try.func4, Try.ntmps4
  obtain ⟨ple0, ple1, ple2, ple3, ple4, ple5, ple6, ple7, ple8, ple9, ple10, ple11, ple12, ple13, ple14, ple15⟩ := pl_0.open8
  go_wp2_with fail
  refine (pfit_any _).mono ?_
  rintro e w2 ⟨rfl, hb2⟩
  clear ple0 ple1 ple2 ple3 ple4 ple5 ple6 ple7 ple8 ple9 ple10 ple11 ple12 ple13 ple14 ple15
  have hB_2 := hB_1.trans (hb2.mono hB_1.size)
  have pl_1 := pl_0.below hb2
  clear hb2 hB_1 pl_0
  obtain ⟨ple0, ple1, ple2, ple3, ple4, ple5, ple6, ple7, ple8, ple9, ple10, ple11, ple12, ple13, ple14, ple15⟩ := pl_1.open8
  go_wp2
  clear ple0 ple1 ple2 ple3 ple4 ple5 ple6 ple7 ple8 ple9 ple10 ple11 ple12 ple13 ple14 ple15
  have hWi_0 := Below.refl w2.heap.size w2
  have hsi : w.heap.size ≤ w2.heap.size := hB_2.size
  have hlipl := pl_1.lt
  have hB_3 := hB_2.drew'
  have pl_2 := pl_1.drew
  have hWi_1 := hWi_0.drew'
  clear hB_2 pl_1 hWi_0
  obtain ⟨FFi, hFFi⟩ : ∃ F : World → Prop, ∀ w', F w' ↔ (Below w.heap.size w w' ∧ Box w' (w.heap.size) [.int .i64 x0, .int .i64 x1, .int .i64 y0, .int .i64 y1, .int .i64 z0, .int .i64 z1, .int .i64 t0, .int .i64 t1] ∧ Below w2.heap.size w2 w') := ⟨_, fun _ => Iff.rfl⟩
  have cFi : ∀ {w' w'' : World}, FFi w' → Below w'.heap.size w' w'' → FFi w'' := by
    intro w' w'' h hb
    obtain ⟨y0, y1, y2⟩ := (hFFi _).1 h
    exact (hFFi _).2 ⟨y0.trans (hb.mono y0.size), y1.below hb, y2.trans (hb.mono y2.size)⟩
  have mFi : ∀ {w' : World}, FFi w' → w2.heap.size ≤ w'.heap.size := by
    intro w' h
    obtain ⟨y0, y1, y2⟩ := (hFFi _).1 h
    exact y2.size
  have sFi : ∀ {w' : World}, FFi w' → (w'.cell? ⟨w.heap.size, 0, none⟩ = some (.int .i64 x0) ∧ w'.cell? ⟨w.heap.size, 1, none⟩ = some (.int .i64 x1) ∧ w'.cell? ⟨w.heap.size, 2, none⟩ = some (.int .i64 y0) ∧ w'.cell? ⟨w.heap.size, 3, none⟩ = some (.int .i64 y1) ∧ w'.cell? ⟨w.heap.size, 4, none⟩ = some (.int .i64 z0) ∧ w'.cell? ⟨w.heap.size, 5, none⟩ = some (.int .i64 z1) ∧ w'.cell? ⟨w.heap.size, 6, none⟩ = some (.int .i64 t0) ∧ w'.cell? ⟨w.heap.size, 7, none⟩ = some (.int .i64 t1)) := by
    intro w' h
    obtain ⟨y0, y1, y2⟩ := (hFFi _).1 h
    exact ⟨y1.c0, y1.c1, y1.c2, y1.c3, y1.c4, y1.c5, y1.c6, y1.c7⟩
  have zF : FFi w2.drew := (hFFi _).2 ⟨hB_3, pl_2, hWi_1⟩
  clear hB_3 pl_2 hWi_1
  refine wp_region_noPanic ?_
  refine wp_region_held_drew (S := fun w' => w'.cell? ⟨w.heap.size, 0, none⟩ = some (.int .i64 x0) ∧ w'.cell? ⟨w.heap.size, 1, none⟩ = some (.int .i64 x1) ∧ w'.cell? ⟨w.heap.size, 2, none⟩ = some (.int .i64 y0) ∧ w'.cell? ⟨w.heap.size, 3, none⟩ = some (.int .i64 y1) ∧ w'.cell? ⟨w.heap.size, 4, none⟩ = some (.int .i64 z0) ∧ w'.cell? ⟨w.heap.size, 5, none⟩ = some (.int .i64 z1) ∧ w'.cell? ⟨w.heap.size, 6, none⟩ = some (.int .i64 t0) ∧ w'.cell? ⟨w.heap.size, 7, none⟩ = some (.int .i64 t1)) (by kernel_rfl) (sFi zF) (fun hHeld => ?_)
  refine reg_take 0 ?_ ?_ ?_ (by kernel_rfl) (by kernel_rfl) (by kernel_rfl) (fun _ _ _ h => h) ?_ ?_ (by assumption) ?_
  rotate_left 2
  · simp only [List.getElem?_toArray, List.getElem?_cons_zero]; exact rfl
  · rfl
  · intro w hSw; (try dsimp only at hSw); go_simp; try with_reducible rfl
  try simp only [Act.put]
  try simp only [List.setIfInBounds_toArray, List.set_cons_zero, List.set_cons_succ]
  refine reg_take 1 ?_ ?_ ?_ (by kernel_rfl) (by kernel_rfl) (by kernel_rfl) (fun _ _ _ h => h) ?_ ?_ (by assumption) ?_
  rotate_left 2
  · simp only [List.getElem?_toArray, List.getElem?_cons_succ, List.getElem?_cons_zero]; exact rfl
  · rfl
  · intro w hSw; (try dsimp only at hSw); go_simp; try with_reducible rfl
  try simp only [Act.put]
  try simp only [List.setIfInBounds_toArray, List.set_cons_zero, List.set_cons_succ]
  refine reg_take 3 ?_ ?_ ?_ (by kernel_rfl) (by kernel_rfl) (by kernel_rfl) (fun _ _ _ h => h) ?_ ?_ (by assumption) ?_
  rotate_left 2
  · simp only [List.getElem?_toArray, List.getElem?_cons_succ, List.getElem?_cons_zero]; exact rfl
  · rfl
  · intro w hSw; (try dsimp only at hSw); go_simp; try with_reducible rfl
  try simp only [Act.put]
  try simp only [List.setIfInBounds_toArray, List.set_cons_zero, List.set_cons_succ]
  refine reg_take 4 ?_ ?_ ?_ (by kernel_rfl) (by kernel_rfl) (by kernel_rfl) (fun _ _ _ h => h) ?_ ?_ (by assumption) ?_
  rotate_left 2
  · simp only [List.getElem?_toArray, List.getElem?_cons_succ, List.getElem?_cons_zero]; exact rfl
  · rfl
  · intro w hSw; (try dsimp only at hSw); go_simp; try with_reducible rfl
  try simp only [Act.put]
  try simp only [List.setIfInBounds_toArray, List.set_cons_zero, List.set_cons_succ]
  refine reg_take 6 ?_ ?_ ?_ (by kernel_rfl) (by kernel_rfl) (by kernel_rfl) (fun _ _ _ h => h) ?_ ?_ (by assumption) ?_
  rotate_left 2
  · simp only [List.getElem?_toArray, List.getElem?_cons_succ, List.getElem?_cons_zero]; exact rfl
  · rfl
  · intro w hSw; (try dsimp only at hSw); go_simp; try with_reducible rfl
  try simp only [Act.put]
  try simp only [List.setIfInBounds_toArray, List.set_cons_zero, List.set_cons_succ]
  refine reg_take 7 ?_ ?_ ?_ (by kernel_rfl) (by kernel_rfl) (by kernel_rfl) (fun _ _ _ h => h) ?_ ?_ (by assumption) ?_
  rotate_left 2
  · simp only [List.getElem?_toArray, List.getElem?_cons_succ, List.getElem?_cons_zero]; exact rfl
  · rfl
  · intro w hSw; (try dsimp only at hSw); go_simp; try with_reducible rfl
  try simp only [Act.put]
  try simp only [List.setIfInBounds_toArray, List.set_cons_zero, List.set_cons_succ]
  refine reg_take 9 ?_ ?_ ?_ (by kernel_rfl) (by kernel_rfl) (by kernel_rfl) (fun _ _ _ h => h) ?_ ?_ (by assumption) ?_
  rotate_left 2
  · simp only [List.getElem?_toArray, List.getElem?_cons_succ, List.getElem?_cons_zero]; exact rfl
  · rfl
  · intro w hSw; (try dsimp only at hSw); go_simp; try with_reducible rfl
  try simp only [Act.put]
  try simp only [List.setIfInBounds_toArray, List.set_cons_zero, List.set_cons_succ]
  refine reg_take 10 ?_ ?_ ?_ (by kernel_rfl) (by kernel_rfl) (by kernel_rfl) (fun _ _ _ h => h) ?_ ?_ (by assumption) ?_
  rotate_left 2
  · simp only [List.getElem?_toArray, List.getElem?_cons_succ, List.getElem?_cons_zero]; exact rfl
  · rfl
  · intro w hSw; (try dsimp only at hSw); go_simp; try with_reducible rfl
  try simp only [Act.put]
  try simp only [List.setIfInBounds_toArray, List.set_cons_zero, List.set_cons_succ]
  refine reg_grab (fun WWi ai hWW hAA => ?_)
  rw [hWW]
  have HAi := Lib.hid hAA; clear hWW hAA hHeld
  obtain ⟨IVi, hIVi⟩ : ∃ IV : Array Bool → Act → World → Prop, ∀ l a w', IV l a w' ↔ ∃ (k : Nat) (bb0 bb1 bb2 bb3 : Bool) (v0_ v1_ v2_ v3_ p0_ p1_ p2_ p3_ : Value) (gpa gpb gpv gpu : Nat), k ≤ 4 ∧ l = #[true, true, decide (1 ≤ k), true, true, decide (2 ≤ k), true, true, decide (3 ≤ k), true, true, decide (4 ≤ k), bb0, bb1, bb2, bb3, false, false, false, false] ∧ a = ((((((((ai.put (some 12) v0_).put (some 15) v1_).put (some 18) v2_).put (some 21) v3_).put (some 3) p0_).put (some 4) p1_).put (some 5) p2_).put (some 6) p3_) ∧ FFi w' ∧ (1 ≤ k → v0_ = .agg #[.int .i64 a0, .int .i64 a1]) ∧ (2 ≤ k → v1_ = .agg #[.int .i64 b0, .int .i64 b1]) ∧ (3 ≤ k → v2_ = .agg #[.int .i64 v0, .int .i64 v1]) ∧ (4 ≤ k → v3_ = .agg #[.int .i64 u0, .int .i64 u1]) ∧ (bb0 = true → p0_ = .pointer (some ⟨gpa, 0, none⟩) ∧ Box w' gpa [.int .i64 0, .int .i64 0] ∧ w2.heap.size ≤ gpa) ∧ (bb1 = true → p1_ = .pointer (some ⟨gpb, 0, none⟩) ∧ Box w' gpb [.int .i64 0, .int .i64 0] ∧ w2.heap.size ≤ gpb) ∧ (bb2 = true → p2_ = .pointer (some ⟨gpv, 0, none⟩) ∧ Box w' gpv [.int .i64 0, .int .i64 0] ∧ w2.heap.size ≤ gpv) ∧ (bb3 = true → p3_ = .pointer (some ⟨gpu, 0, none⟩) ∧ Box w' gpu [.int .i64 0, .int .i64 0] ∧ w2.heap.size ≤ gpu) ∧ (bb0 = true → bb1 = true → gpa ≠ gpb) ∧ (bb0 = true → bb2 = true → gpa ≠ gpv) ∧ (bb0 = true → bb3 = true → gpa ≠ gpu) ∧ (bb1 = true → bb2 = true → gpb ≠ gpv) ∧ (bb1 = true → bb3 = true → gpb ≠ gpu) ∧ (bb2 = true → bb3 = true → gpv ≠ gpu) := ⟨_, fun _ _ _ => Iff.rfl⟩
  refine wpAnyH_until IVi ?_ _ _ _ _ ((hIVi _ _ _).2 ⟨0, false, false, false, false, (ai.tmps.getD 12 undef), (ai.tmps.getD 15 undef), (ai.tmps.getD 18 undef), (ai.tmps.getD 21 undef), (ai.tmps.getD 3 undef), (ai.tmps.getD 4 undef), (ai.tmps.getD 5 undef), (ai.tmps.getD 6 undef), 0, 0, 0, 0, Nat.zero_le _, rfl, (by simp only [put_same]), zF, (fun h => absurd h (by omega)), (fun h => absurd h (by omega)), (fun h => absurd h (by omega)), (fun h => absurd h (by omega)), (fun h => by cases h), (fun h => by cases h), (fun h => by cases h), (fun h => by cases h), (fun h => by cases h), (fun h => by cases h), (fun h => by cases h), (fun h => by cases h), (fun h => by cases h), (fun h => by cases h)⟩) (by kernel_rfl)
  clear zF
  intro ll aa w3 hI
  obtain ⟨k, bb0, bb1, bb2, bb3, v0_, v1_, v2_, v3_, p0_, p1_, p2_, p3_, gpa, gpb, gpv, gpu, hk, rfl, rfl, zF, rr1, rr2, rr3, rr4, zz0, zz1, zz2, zz3, n0_1, n0_2, n0_3, n1_2, n1_3, n2_3⟩ := (hIVi _ _ _).1 hI
  clear hI
  by_cases hL : k = 4 ∧ bb0 = true ∧ bb1 = true ∧ bb2 = true ∧ bb3 = true
  · left
    obtain ⟨rfl, rfl, rfl, rfl, rfl⟩ := hL
    obtain rfl := rr1 (by omega)
    obtain rfl := rr2 (by omega)
    obtain rfl := rr3 (by omega)
    obtain rfl := rr4 (by omega)
    obtain ⟨rfl, pa_0, hgpa⟩ := zz0 rfl
    obtain ⟨rfl, pb_0, hgpb⟩ := zz1 rfl
    obtain ⟨rfl, pv_0, hgpv⟩ := zz2 rfl
    obtain ⟨rfl, pu_0, hgpu⟩ := zz3 rfl
    have hnpapb := n0_1 rfl rfl
    have hnpapv := n0_2 rfl rfl
    have hnpapu := n0_3 rfl rfl
    have hnpbpv := n1_2 rfl rfl
    have hnpbpu := n1_3 rfl rfl
    have hnpvpu := n2_3 rfl rfl
    clear hk zz0 zz1 zz2 zz3 n0_1 n0_2 n0_3 n1_2 n1_3 n2_3
    show wpAnyH _ _ _ _ _ 4 _ _ _
    rw [HAi.out]
    try simp only [Act.put]
    try simp only [List.setIfInBounds_toArray, List.set_cons_zero, List.set_cons_succ]
    obtain ⟨hB_0, pl_0, hWi_0⟩ := (hFFi _).1 zF
    clear zF
    clear hWi_0
    obtain ⟨sf1a, sf1b, sf1c, sf1d⟩ := pa_0.open2
    obtain ⟨sg1a, sg1b⟩ := Box.put2 pa_0 (.int .i64 a0)
    refine reg_call 16 ?_ (by kernel_rfl) ?_ (fun K hK => ?_)
    rotate_left 1
    · simp only [List.getElem?_toArray, List.getElem?_cons_succ, List.getElem?_cons_zero]; exact rfl
    go_simp
    have hB_1 := below_setAll hB_0 (g := gpa) (by omega) [.int .i64 a0, .int .i64 a1]
    have pl_1 := pl_0.farAll (g' := gpa) (by omega) [.int .i64 a0, .int .i64 a1]
    have pb_1 := pb_0.farAll (g' := gpa) (by omega) [.int .i64 a0, .int .i64 a1]
    have pv_1 := pv_0.farAll (g' := gpa) (by omega) [.int .i64 a0, .int .i64 a1]
    have pu_1 := pu_0.farAll (g' := gpa) (by omega) [.int .i64 a0, .int .i64 a1]
    have pa_1 := pa_0.setAll [.int .i64 a0, .int .i64 a1] rfl
    simp only [setAll, Nat.zero_add] at hB_1 pl_1 pa_1 pb_1 pv_1 pu_1
    clear sf1a sf1b sf1c sf1d sg1a sg1b
    clear hB_0 pl_0 pb_0 pv_0 pu_0 pa_0
    refine hK.out _ _ ⟨pl_1.c0, pl_1.c1, pl_1.c2, pl_1.c3, pl_1.c4, pl_1.c5, pl_1.c6, pl_1.c7⟩ (fun hHeld => ?_)
    clear hK K
    try simp only [Act.put]
    try simp only [List.setIfInBounds_toArray, List.set_cons_zero, List.set_cons_succ]
    generalize (World.setCell (World.setCell w3 ⟨gpa, 0, none⟩ (.int .i64 a0)) ⟨gpa, 1, none⟩ (.int .i64 a1)) = w4 at *
    obtain ⟨sf2a, sf2b, sf2c, sf2d⟩ := pb_1.open2
    obtain ⟨sg2a, sg2b⟩ := Box.put2 pb_1 (.int .i64 b0)
    refine reg_call 17 ?_ (by kernel_rfl) ?_ (fun K hK => ?_)
    rotate_left 1
    · simp only [List.getElem?_toArray, List.getElem?_cons_succ, List.getElem?_cons_zero]; exact rfl
    go_simp
    have hB_2 := below_setAll hB_1 (g := gpb) (by omega) [.int .i64 b0, .int .i64 b1]
    have pl_2 := pl_1.farAll (g' := gpb) (by omega) [.int .i64 b0, .int .i64 b1]
    have pa_2 := pa_1.farAll (g' := gpb) (by omega) [.int .i64 b0, .int .i64 b1]
    have pv_2 := pv_1.farAll (g' := gpb) (by omega) [.int .i64 b0, .int .i64 b1]
    have pu_2 := pu_1.farAll (g' := gpb) (by omega) [.int .i64 b0, .int .i64 b1]
    have pb_2 := pb_1.setAll [.int .i64 b0, .int .i64 b1] rfl
    simp only [setAll, Nat.zero_add] at hB_2 pl_2 pa_2 pb_2 pv_2 pu_2
    clear sf2a sf2b sf2c sf2d sg2a sg2b
    clear hB_1 pl_1 pa_1 pv_1 pu_1 pb_1
    refine hK.out _ _ ⟨pl_2.c0, pl_2.c1, pl_2.c2, pl_2.c3, pl_2.c4, pl_2.c5, pl_2.c6, pl_2.c7⟩ (fun hHeld => ?_)
    clear hK K
    try simp only [Act.put]
    try simp only [List.setIfInBounds_toArray, List.set_cons_zero, List.set_cons_succ]
    generalize (World.setCell (World.setCell w4 ⟨gpb, 0, none⟩ (.int .i64 b0)) ⟨gpb, 1, none⟩ (.int .i64 b1)) = w5 at *
    obtain ⟨sf3a, sf3b, sf3c, sf3d⟩ := pv_2.open2
    obtain ⟨sg3a, sg3b⟩ := Box.put2 pv_2 (.int .i64 v0)
    refine reg_call 18 ?_ (by kernel_rfl) ?_ (fun K hK => ?_)
    rotate_left 1
    · simp only [List.getElem?_toArray, List.getElem?_cons_succ, List.getElem?_cons_zero]; exact rfl
    go_simp
    have hB_3 := below_setAll hB_2 (g := gpv) (by omega) [.int .i64 v0, .int .i64 v1]
    have pl_3 := pl_2.farAll (g' := gpv) (by omega) [.int .i64 v0, .int .i64 v1]
    have pa_3 := pa_2.farAll (g' := gpv) (by omega) [.int .i64 v0, .int .i64 v1]
    have pb_3 := pb_2.farAll (g' := gpv) (by omega) [.int .i64 v0, .int .i64 v1]
    have pu_3 := pu_2.farAll (g' := gpv) (by omega) [.int .i64 v0, .int .i64 v1]
    have pv_3 := pv_2.setAll [.int .i64 v0, .int .i64 v1] rfl
    simp only [setAll, Nat.zero_add] at hB_3 pl_3 pa_3 pb_3 pv_3 pu_3
    clear sf3a sf3b sf3c sf3d sg3a sg3b
    clear hB_2 pl_2 pa_2 pb_2 pu_2 pv_2
    refine hK.out _ _ ⟨pl_3.c0, pl_3.c1, pl_3.c2, pl_3.c3, pl_3.c4, pl_3.c5, pl_3.c6, pl_3.c7⟩ (fun hHeld => ?_)
    clear hK K
    try simp only [Act.put]
    try simp only [List.setIfInBounds_toArray, List.set_cons_zero, List.set_cons_succ]
    generalize (World.setCell (World.setCell w5 ⟨gpv, 0, none⟩ (.int .i64 v0)) ⟨gpv, 1, none⟩ (.int .i64 v1)) = w6 at *
    obtain ⟨sf4a, sf4b, sf4c, sf4d⟩ := pu_3.open2
    obtain ⟨sg4a, sg4b⟩ := Box.put2 pu_3 (.int .i64 u0)
    refine reg_call 19 ?_ (by kernel_rfl) ?_ (fun K hK => ?_)
    rotate_left 1
    · simp only [List.getElem?_toArray, List.getElem?_cons_succ, List.getElem?_cons_zero]; exact rfl
    go_simp
    have hB_4 := below_setAll hB_3 (g := gpu) (by omega) [.int .i64 u0, .int .i64 u1]
    have pl_4 := pl_3.farAll (g' := gpu) (by omega) [.int .i64 u0, .int .i64 u1]
    have pa_4 := pa_3.farAll (g' := gpu) (by omega) [.int .i64 u0, .int .i64 u1]
    have pb_4 := pb_3.farAll (g' := gpu) (by omega) [.int .i64 u0, .int .i64 u1]
    have pv_4 := pv_3.farAll (g' := gpu) (by omega) [.int .i64 u0, .int .i64 u1]
    have pu_4 := pu_3.setAll [.int .i64 u0, .int .i64 u1] rfl
    simp only [setAll, Nat.zero_add] at hB_4 pl_4 pa_4 pb_4 pv_4 pu_4
    clear sf4a sf4b sf4c sf4d sg4a sg4b
    clear hB_3 pl_3 pa_3 pb_3 pv_3 pu_3
    refine hK.out _ _ ⟨pl_4.c0, pl_4.c1, pl_4.c2, pl_4.c3, pl_4.c4, pl_4.c5, pl_4.c6, pl_4.c7⟩ (fun hHeld => ?_)
    clear hK K
    try simp only [Act.put]
    try simp only [List.setIfInBounds_toArray, List.set_cons_zero, List.set_cons_succ]
    generalize (World.setCell (World.setCell w6 ⟨gpu, 0, none⟩ (.int .i64 u0)) ⟨gpu, 1, none⟩ (.int .i64 u1)) = w7 at *
    refine wpAnyH_done (by kernel_rfl) ?_ _
    refine NoPanic.normal ?_
    clear pl_4
    obtain ⟨pae0, pae1, pae2, pae3⟩ := pa_4.open2
    obtain ⟨pbe0, pbe1, pbe2, pbe3⟩ := pb_4.open2
    obtain ⟨pve0, pve1, pve2, pve3⟩ := pv_4.open2
    obtain ⟨pue0, pue1, pue2, pue3⟩ := pu_4.open2
    go_wp2_with fail
    refine (K0.out _).mono ?_
    rintro e w8 ⟨rfl, hb8⟩
    clear pae0 pae1 pae2 pae3 pbe0 pbe1 pbe2 pbe3 pve0 pve1 pve2 pve3 pue0 pue1 pue2 pue3
    have hB_5 := hB_4.trans (hb8.mono hB_4.size)
    have pa_5 := pa_4.below hb8
    have pb_5 := pb_4.below hb8
    have pv_5 := pv_4.below hb8
    have pu_5 := pu_4.below hb8
    clear hb8 hB_4 pa_4 pb_4 pv_4 pu_4
    obtain ⟨pae0, pae1, pae2, pae3⟩ := pa_5.open2
    obtain ⟨pbe0, pbe1, pbe2, pbe3⟩ := pb_5.open2
    obtain ⟨pve0, pve1, pve2, pve3⟩ := pv_5.open2
    obtain ⟨pue0, pue1, pue2, pue3⟩ := pu_5.open2
    go_wp2
    go_ret
    exact ⟨rfl, hB_5⟩
  · right
    refine ⟨?_, fun i hi => ?_⟩
    · clear zF rr1 rr2 rr3 rr4 zz0 zz1 zz2 zz3 n0_1 n0_2 n0_3 n1_2 n1_3 n2_3
      obtain rfl | rfl | rfl | rfl | rfl : k = 0 ∨ k = 1 ∨ k = 2 ∨ k = 3 ∨ k = 4 := by omega
      all_goals cases bb0
      all_goals cases bb1
      all_goals cases bb2
      all_goals cases bb3
      all_goals first | exact absurd ⟨rfl, rfl, rfl, rfl, rfl⟩ hL | exact of_decide_eq_true (by kernel_rfl)
    have hd : (k = 0 ∧ i = 2) ∨ (k = 1 ∧ i = 5) ∨ (k = 2 ∧ i = 8) ∨ (k = 3 ∧ i = 11) ∨ (bb0 = false ∧ i = 12) ∨ (bb1 = false ∧ i = 13) ∨ (bb2 = false ∧ i = 14) ∨ (bb3 = false ∧ i = 15) := by
      clear zF rr1 rr2 rr3 rr4 zz0 zz1 zz2 zz3 n0_1 n0_2 n0_3 n1_2 n1_3 n2_3
      revert i
      obtain rfl | rfl | rfl | rfl | rfl : k = 0 ∨ k = 1 ∨ k = 2 ∨ k = 3 ∨ k = 4 := by omega
      all_goals cases bb0
      all_goals cases bb1
      all_goals cases bb2
      all_goals cases bb3
      all_goals first | exact absurd ⟨rfl, rfl, rfl, rfl, rfl⟩ hL | exact of_decide_eq_true (by kernel_rfl)
    clear hi hL
    rcases hd with ⟨rfl, rfl⟩ | ⟨rfl, rfl⟩ | ⟨rfl, rfl⟩ | ⟨rfl, rfl⟩ | ⟨rfl, rfl⟩ | ⟨rfl, rfl⟩ | ⟨rfl, rfl⟩ | ⟨rfl, rfl⟩
    · refine step_of 2 ?_ ?_ (fun K hK => ?_)
      rotate_left 1
      · simp only [List.getElem?_toArray, List.getElem?_cons_succ, List.getElem?_cons_zero]; exact rfl
      rw [HAi.out]
      try simp only [Act.put]
      try simp only [List.setIfInBounds_toArray, List.set_cons_zero, List.set_cons_succ]
      go_simp
      refine (TM0.out _).mono ?_
      rintro e w9 ⟨rfl, hb⟩
      go_wp2_with fail
      refine hK.out _ _ (sFi (cFi zF hb)) ?_
      exact (hIVi _ _ _).2 ⟨1, bb0, bb1, bb2, bb3, (.agg #[.int .i64 a0, .int .i64 a1]), v1_, v2_, v3_, p0_, p1_, p2_, p3_, gpa, gpb, gpv, gpu, (by omega), rfl, (by simp only [HAi.out, Act.put, List.setIfInBounds_toArray, List.set_cons_zero, List.set_cons_succ]), (cFi zF hb), (fun _ => rfl), (fun h => absurd h (by omega)), (fun h => absurd h (by omega)), (fun h => absurd h (by omega)), (fun h => ⟨(zz0 h).1, (zz0 h).2.1.below hb, (zz0 h).2.2⟩), (fun h => ⟨(zz1 h).1, (zz1 h).2.1.below hb, (zz1 h).2.2⟩), (fun h => ⟨(zz2 h).1, (zz2 h).2.1.below hb, (zz2 h).2.2⟩), (fun h => ⟨(zz3 h).1, (zz3 h).2.1.below hb, (zz3 h).2.2⟩), n0_1, n0_2, n0_3, n1_2, n1_3, n2_3⟩
    · obtain rfl := rr1 (by omega)
      refine step_of 5 ?_ ?_ (fun K hK => ?_)
      rotate_left 1
      · simp only [List.getElem?_toArray, List.getElem?_cons_succ, List.getElem?_cons_zero]; exact rfl
      rw [HAi.out]
      try simp only [Act.put]
      try simp only [List.setIfInBounds_toArray, List.set_cons_zero, List.set_cons_succ]
      go_simp
      refine (TM1.out _).mono ?_
      rintro e w10 ⟨rfl, hb⟩
      go_wp2_with fail
      refine hK.out _ _ (sFi (cFi zF hb)) ?_
      exact (hIVi _ _ _).2 ⟨2, bb0, bb1, bb2, bb3, _, (.agg #[.int .i64 b0, .int .i64 b1]), v2_, v3_, p0_, p1_, p2_, p3_, gpa, gpb, gpv, gpu, (by omega), rfl, (by simp only [HAi.out, Act.put, List.setIfInBounds_toArray, List.set_cons_zero, List.set_cons_succ]), (cFi zF hb), (fun _ => rfl), (fun _ => rfl), (fun h => absurd h (by omega)), (fun h => absurd h (by omega)), (fun h => ⟨(zz0 h).1, (zz0 h).2.1.below hb, (zz0 h).2.2⟩), (fun h => ⟨(zz1 h).1, (zz1 h).2.1.below hb, (zz1 h).2.2⟩), (fun h => ⟨(zz2 h).1, (zz2 h).2.1.below hb, (zz2 h).2.2⟩), (fun h => ⟨(zz3 h).1, (zz3 h).2.1.below hb, (zz3 h).2.2⟩), n0_1, n0_2, n0_3, n1_2, n1_3, n2_3⟩
    · obtain rfl := rr1 (by omega)
      obtain rfl := rr2 (by omega)
      refine step_of 8 ?_ ?_ (fun K hK => ?_)
      rotate_left 1
      · simp only [List.getElem?_toArray, List.getElem?_cons_succ, List.getElem?_cons_zero]; exact rfl
      rw [HAi.out]
      try simp only [Act.put]
      try simp only [List.setIfInBounds_toArray, List.set_cons_zero, List.set_cons_succ]
      go_simp
      refine (TM2.out _).mono ?_
      rintro e w11 ⟨rfl, hb⟩
      go_wp2_with fail
      refine hK.out _ _ (sFi (cFi zF hb)) ?_
      exact (hIVi _ _ _).2 ⟨3, bb0, bb1, bb2, bb3, _, _, (.agg #[.int .i64 v0, .int .i64 v1]), v3_, p0_, p1_, p2_, p3_, gpa, gpb, gpv, gpu, (by omega), rfl, (by simp only [HAi.out, Act.put, List.setIfInBounds_toArray, List.set_cons_zero, List.set_cons_succ]), (cFi zF hb), (fun _ => rfl), (fun _ => rfl), (fun _ => rfl), (fun h => absurd h (by omega)), (fun h => ⟨(zz0 h).1, (zz0 h).2.1.below hb, (zz0 h).2.2⟩), (fun h => ⟨(zz1 h).1, (zz1 h).2.1.below hb, (zz1 h).2.2⟩), (fun h => ⟨(zz2 h).1, (zz2 h).2.1.below hb, (zz2 h).2.2⟩), (fun h => ⟨(zz3 h).1, (zz3 h).2.1.below hb, (zz3 h).2.2⟩), n0_1, n0_2, n0_3, n1_2, n1_3, n2_3⟩
    · obtain rfl := rr1 (by omega)
      obtain rfl := rr2 (by omega)
      obtain rfl := rr3 (by omega)
      refine step_of 11 ?_ ?_ (fun K hK => ?_)
      rotate_left 1
      · simp only [List.getElem?_toArray, List.getElem?_cons_succ, List.getElem?_cons_zero]; exact rfl
      rw [HAi.out]
      try simp only [Act.put]
      try simp only [List.setIfInBounds_toArray, List.set_cons_zero, List.set_cons_succ]
      go_simp
      refine (TM3.out _).mono ?_
      rintro e w12 ⟨rfl, hb⟩
      go_wp2_with fail
      refine hK.out _ _ (sFi (cFi zF hb)) ?_
      exact (hIVi _ _ _).2 ⟨4, bb0, bb1, bb2, bb3, _, _, _, (.agg #[.int .i64 u0, .int .i64 u1]), p0_, p1_, p2_, p3_, gpa, gpb, gpv, gpu, (by omega), rfl, (by simp only [HAi.out, Act.put, List.setIfInBounds_toArray, List.set_cons_zero, List.set_cons_succ]), (cFi zF hb), (fun _ => rfl), (fun _ => rfl), (fun _ => rfl), (fun _ => rfl), (fun h => ⟨(zz0 h).1, (zz0 h).2.1.below hb, (zz0 h).2.2⟩), (fun h => ⟨(zz1 h).1, (zz1 h).2.1.below hb, (zz1 h).2.2⟩), (fun h => ⟨(zz2 h).1, (zz2 h).2.1.below hb, (zz2 h).2.2⟩), (fun h => ⟨(zz3 h).1, (zz3 h).2.1.below hb, (zz3 h).2.2⟩), n0_1, n0_2, n0_3, n1_2, n1_3, n2_3⟩
    · refine step_of 12 ?_ ?_ (fun K hK => ?_)
      rotate_left 1
      · simp only [List.getElem?_toArray, List.getElem?_cons_succ, List.getElem?_cons_zero]; exact rfl
      rw [HAi.out]
      try simp only [Act.put]
      try simp only [List.setIfInBounds_toArray, List.set_cons_zero, List.set_cons_succ]
      go_simp
      have hgn := mFi zF
      have hl1 : bb1 = true → gpb < w3.heap.size := fun h => (zz1 h).2.1.lt
      have hl2 : bb2 = true → gpv < w3.heap.size := fun h => (zz2 h).2.1.lt
      have hl3 : bb3 = true → gpu < w3.heap.size := fun h => (zz3 h).2.1.lt
      obtain ⟨wn, hwn, pa_0, hb, -⟩ := new_box w3 _ rfl [.int .i64 0, .int .i64 0] 23
      rw [hwn]
      refine hK.out _ _ (sFi (cFi zF hb)) ?_
      exact (hIVi _ _ _).2 ⟨k, true, bb1, bb2, bb3, v0_, v1_, v2_, v3_, (.pointer (some ⟨w3.heap.size, 0, none⟩)), p1_, p2_, p3_, w3.heap.size, gpb, gpv, gpu, hk, rfl, (by simp only [HAi.out, Act.put, List.setIfInBounds_toArray, List.set_cons_zero, List.set_cons_succ]), (cFi zF hb), rr1, rr2, rr3, rr4, (fun _ => ⟨rfl, pa_0, hgn⟩), (fun h => ⟨(zz1 h).1, (zz1 h).2.1.below hb, (zz1 h).2.2⟩), (fun h => ⟨(zz2 h).1, (zz2 h).2.1.below hb, (zz2 h).2.2⟩), (fun h => ⟨(zz3 h).1, (zz3 h).2.1.below hb, (zz3 h).2.2⟩), (fun _ h => by have := hl1 h; omega), (fun _ h => by have := hl2 h; omega), (fun _ h => by have := hl3 h; omega), n1_2, n1_3, n2_3⟩
    · refine step_of 13 ?_ ?_ (fun K hK => ?_)
      rotate_left 1
      · simp only [List.getElem?_toArray, List.getElem?_cons_succ, List.getElem?_cons_zero]; exact rfl
      rw [HAi.out]
      try simp only [Act.put]
      try simp only [List.setIfInBounds_toArray, List.set_cons_zero, List.set_cons_succ]
      go_simp
      have hgn := mFi zF
      have hl0 : bb0 = true → gpa < w3.heap.size := fun h => (zz0 h).2.1.lt
      have hl2 : bb2 = true → gpv < w3.heap.size := fun h => (zz2 h).2.1.lt
      have hl3 : bb3 = true → gpu < w3.heap.size := fun h => (zz3 h).2.1.lt
      obtain ⟨wn, hwn, pb_0, hb, -⟩ := new_box w3 _ rfl [.int .i64 0, .int .i64 0] 23
      rw [hwn]
      refine hK.out _ _ (sFi (cFi zF hb)) ?_
      exact (hIVi _ _ _).2 ⟨k, bb0, true, bb2, bb3, v0_, v1_, v2_, v3_, p0_, (.pointer (some ⟨w3.heap.size, 0, none⟩)), p2_, p3_, gpa, w3.heap.size, gpv, gpu, hk, rfl, (by simp only [HAi.out, Act.put, List.setIfInBounds_toArray, List.set_cons_zero, List.set_cons_succ]), (cFi zF hb), rr1, rr2, rr3, rr4, (fun h => ⟨(zz0 h).1, (zz0 h).2.1.below hb, (zz0 h).2.2⟩), (fun _ => ⟨rfl, pb_0, hgn⟩), (fun h => ⟨(zz2 h).1, (zz2 h).2.1.below hb, (zz2 h).2.2⟩), (fun h => ⟨(zz3 h).1, (zz3 h).2.1.below hb, (zz3 h).2.2⟩), (fun h _ => by have := hl0 h; omega), n0_2, n0_3, (fun _ h => by have := hl2 h; omega), (fun _ h => by have := hl3 h; omega), n2_3⟩
    · refine step_of 14 ?_ ?_ (fun K hK => ?_)
      rotate_left 1
      · simp only [List.getElem?_toArray, List.getElem?_cons_succ, List.getElem?_cons_zero]; exact rfl
      rw [HAi.out]
      try simp only [Act.put]
      try simp only [List.setIfInBounds_toArray, List.set_cons_zero, List.set_cons_succ]
      go_simp
      have hgn := mFi zF
      have hl0 : bb0 = true → gpa < w3.heap.size := fun h => (zz0 h).2.1.lt
      have hl1 : bb1 = true → gpb < w3.heap.size := fun h => (zz1 h).2.1.lt
      have hl3 : bb3 = true → gpu < w3.heap.size := fun h => (zz3 h).2.1.lt
      obtain ⟨wn, hwn, pv_0, hb, -⟩ := new_box w3 _ rfl [.int .i64 0, .int .i64 0] 23
      rw [hwn]
      refine hK.out _ _ (sFi (cFi zF hb)) ?_
      exact (hIVi _ _ _).2 ⟨k, bb0, bb1, true, bb3, v0_, v1_, v2_, v3_, p0_, p1_, (.pointer (some ⟨w3.heap.size, 0, none⟩)), p3_, gpa, gpb, w3.heap.size, gpu, hk, rfl, (by simp only [HAi.out, Act.put, List.setIfInBounds_toArray, List.set_cons_zero, List.set_cons_succ]), (cFi zF hb), rr1, rr2, rr3, rr4, (fun h => ⟨(zz0 h).1, (zz0 h).2.1.below hb, (zz0 h).2.2⟩), (fun h => ⟨(zz1 h).1, (zz1 h).2.1.below hb, (zz1 h).2.2⟩), (fun _ => ⟨rfl, pv_0, hgn⟩), (fun h => ⟨(zz3 h).1, (zz3 h).2.1.below hb, (zz3 h).2.2⟩), n0_1, (fun h _ => by have := hl0 h; omega), n0_3, (fun h _ => by have := hl1 h; omega), n1_3, (fun _ h => by have := hl3 h; omega)⟩
    · refine step_of 15 ?_ ?_ (fun K hK => ?_)
      rotate_left 1
      · simp only [List.getElem?_toArray, List.getElem?_cons_succ, List.getElem?_cons_zero]; exact rfl
      rw [HAi.out]
      try simp only [Act.put]
      try simp only [List.setIfInBounds_toArray, List.set_cons_zero, List.set_cons_succ]
      go_simp
      have hgn := mFi zF
      have hl0 : bb0 = true → gpa < w3.heap.size := fun h => (zz0 h).2.1.lt
      have hl1 : bb1 = true → gpb < w3.heap.size := fun h => (zz1 h).2.1.lt
      have hl2 : bb2 = true → gpv < w3.heap.size := fun h => (zz2 h).2.1.lt
      obtain ⟨wn, hwn, pu_0, hb, -⟩ := new_box w3 _ rfl [.int .i64 0, .int .i64 0] 23
      rw [hwn]
      refine hK.out _ _ (sFi (cFi zF hb)) ?_
      exact (hIVi _ _ _).2 ⟨k, bb0, bb1, bb2, true, v0_, v1_, v2_, v3_, p0_, p1_, p2_, (.pointer (some ⟨w3.heap.size, 0, none⟩)), gpa, gpb, gpv, w3.heap.size, hk, rfl, (by simp only [HAi.out, Act.put, List.setIfInBounds_toArray, List.set_cons_zero, List.set_cons_succ]), (cFi zF hb), rr1, rr2, rr3, rr4, (fun h => ⟨(zz0 h).1, (zz0 h).2.1.below hb, (zz0 h).2.2⟩), (fun h => ⟨(zz1 h).1, (zz1 h).2.1.below hb, (zz1 h).2.2⟩), (fun h => ⟨(zz2 h).1, (zz2 h).2.1.below hb, (zz2 h).2.2⟩), (fun _ => ⟨rfl, pu_0, hgn⟩), n0_1, n0_2, (fun h _ => by have := hl0 h; omega), n1_2, (fun h _ => by have := hl1 h; omega), (fun h _ => by have := hl2 h; omega)⟩
set_option maxRecDepth 100000 in
set_option maxHeartbeats 16000000 in
theorem PredCircles_w_p (x0 x1 y0 y1 z0 z1 t0 t1 a0 a1 b0 b1 v0 v1 u0 u1 : Int) (s r : Int) (tm0 : ∀ w, Calls Try.prog 10 #[.agg #[.int .i64 x0, .int .i64 x1]] w fun e w' => e = .returned (.agg #[.int .i64 a0, .int .i64 a1]) ∧ Below w.heap.size w w') (tm1 : ∀ w, Calls Try.prog 10 #[.agg #[.int .i64 y0, .int .i64 y1]] w fun e w' => e = .returned (.agg #[.int .i64 b0, .int .i64 b1]) ∧ Below w.heap.size w w') (tm2 : ∀ w, Calls Try.prog 10 #[.agg #[.int .i64 z0, .int .i64 z1]] w fun e w' => e = .returned (.agg #[.int .i64 v0, .int .i64 v1]) ∧ Below w.heap.size w w') (tm3 : ∀ w, Calls Try.prog 10 #[.agg #[.int .i64 t0, .int .i64 t1]] w fun e w' => e = .returned (.agg #[.int .i64 u0, .int .i64 u1]) ∧ Below w.heap.size w w') (k0 : ∀ w, Calls Try.prog 15 #[.agg #[.int .i64 a0, .int .i64 a1], .agg #[.int .i64 b0, .int .i64 b1], .agg #[.int .i64 v0, .int .i64 v1]] w fun e w' => e = .returned (.int .i64 (1)) ∧ Below w.heap.size w w') (k1 : ∀ w, Calls Try.prog 17 #[.agg #[.int .i64 a0, .int .i64 a1], .agg #[.int .i64 b0, .int .i64 b1], .agg #[.int .i64 v0, .int .i64 v1], .agg #[.int .i64 u0, .int .i64 u1]] w fun e w' => e = .returned (.int .i64 s) ∧ Below w.heap.size w w') (k2 : ∀ w, Calls Try.prog 18 #[.agg #[.int .i64 a0, .int .i64 a1], .agg #[.int .i64 b0, .int .i64 b1], .agg #[.int .i64 v0, .int .i64 v1], .agg #[.int .i64 u0, .int .i64 u1]] w fun e w' => e = .returned (.int .i64 r) ∧ Below w.heap.size w w') (k3 : ∀ w, Calls Try.prog 17 #[.agg #[.int .i64 b0, .int .i64 b1], .agg #[.int .i64 v0, .int .i64 v1], .agg #[.int .i64 a0, .int .i64 a1], .agg #[.int .i64 u0, .int .i64 u1]] w fun e w' => e = .returned (.int .i64 s) ∧ Below w.heap.size w w') (k4 : ∀ w, Calls Try.prog 17 #[.agg #[.int .i64 a0, .int .i64 a1], .agg #[.int .i64 b0, .int .i64 b1], .agg #[.int .i64 v0, .int .i64 v1], .agg #[.int .i64 b0, .int .i64 b1]] w fun e w' => e = .returned (.int .i64 0) ∧ Below w.heap.size w w') (e1 : IntKind.i64.wrap (-r) = s) (w : World) :
    Calls Try.prog 4 #[.agg #[.int .i64 x0, .int .i64 x1, .int .i64 y0, .int .i64 y1, .int .i64 z0, .int .i64 z1, .int .i64 t0, .int .i64 t1]] w fun e w' => e = .returned (.bool true) ∧ Below w.heap.size w w' := by
  have hB_0 := Below.refl w.heap.size w
  have TM0 := Lib.hid tm0; have TM1 := Lib.hid tm1; have TM2 := Lib.hid tm2; have TM3 := Lib.hid tm3; have K0 := Lib.hid k0; have K1 := Lib.hid k1; have K2 := Lib.hid k2; have K3 := Lib.hid k3; have K4 := Lib.hid k4; have E1 := Lib.hid e1
  clear tm0 tm1 tm2 tm3 k0 k1 k2 k3 k4 e1
  obtain ⟨w1, hw1, pl_0, hb1, hs1⟩ := new_box w (w.heap.size) rfl [.int .i64 x0, .int .i64 x1, .int .i64 y0, .int .i64 y1, .int .i64 z0, .int .i64 z1, .int .i64 t0, .int .i64 t1] 37
  have hb1' : Below w.heap.size w w1 := hb1.mono (by omega)
  clear hb1
  have hB_1 := hB_0.trans (hb1'.mono hB_0.size)
  clear hb1' hB_0
  go_enter Try.func4, Try.ntmps4
  obtain ⟨ple0, ple1, ple2, ple3, ple4, ple5, ple6, ple7, ple8, ple9, ple10, ple11, ple12, ple13, ple14, ple15⟩ := pl_0.open8
  go_wp2_with fail
  refine (pfit_any _).mono ?_
  rintro e w2 ⟨rfl, hb2⟩
  clear ple0 ple1 ple2 ple3 ple4 ple5 ple6 ple7 ple8 ple9 ple10 ple11 ple12 ple13 ple14 ple15
  have hB_2 := hB_1.trans (hb2.mono hB_1.size)
  have pl_1 := pl_0.below hb2
  clear hb2 hB_1 pl_0
  obtain ⟨ple0, ple1, ple2, ple3, ple4, ple5, ple6, ple7, ple8, ple9, ple10, ple11, ple12, ple13, ple14, ple15⟩ := pl_1.open8
  go_wp2
  clear ple0 ple1 ple2 ple3 ple4 ple5 ple6 ple7 ple8 ple9 ple10 ple11 ple12 ple13 ple14 ple15
  have hWi_0 := Below.refl w2.heap.size w2
  have hsi : w.heap.size ≤ w2.heap.size := hB_2.size
  have hlipl := pl_1.lt
  have hB_3 := hB_2.drew'
  have pl_2 := pl_1.drew
  have hWi_1 := hWi_0.drew'
  clear hB_2 pl_1 hWi_0
  obtain ⟨FFi, hFFi⟩ : ∃ F : World → Prop, ∀ w', F w' ↔ (Below w.heap.size w w' ∧ Box w' (w.heap.size) [.int .i64 x0, .int .i64 x1, .int .i64 y0, .int .i64 y1, .int .i64 z0, .int .i64 z1, .int .i64 t0, .int .i64 t1] ∧ Below w2.heap.size w2 w') := ⟨_, fun _ => Iff.rfl⟩
  have cFi : ∀ {w' w'' : World}, FFi w' → Below w'.heap.size w' w'' → FFi w'' := by
    intro w' w'' h hb
    obtain ⟨y0, y1, y2⟩ := (hFFi _).1 h
    exact (hFFi _).2 ⟨y0.trans (hb.mono y0.size), y1.below hb, y2.trans (hb.mono y2.size)⟩
  have mFi : ∀ {w' : World}, FFi w' → w2.heap.size ≤ w'.heap.size := by
    intro w' h
    obtain ⟨y0, y1, y2⟩ := (hFFi _).1 h
    exact y2.size
  have sFi : ∀ {w' : World}, FFi w' → (w'.cell? ⟨w.heap.size, 0, none⟩ = some (.int .i64 x0) ∧ w'.cell? ⟨w.heap.size, 1, none⟩ = some (.int .i64 x1) ∧ w'.cell? ⟨w.heap.size, 2, none⟩ = some (.int .i64 y0) ∧ w'.cell? ⟨w.heap.size, 3, none⟩ = some (.int .i64 y1) ∧ w'.cell? ⟨w.heap.size, 4, none⟩ = some (.int .i64 z0) ∧ w'.cell? ⟨w.heap.size, 5, none⟩ = some (.int .i64 z1) ∧ w'.cell? ⟨w.heap.size, 6, none⟩ = some (.int .i64 t0) ∧ w'.cell? ⟨w.heap.size, 7, none⟩ = some (.int .i64 t1)) := by
    intro w' h
    obtain ⟨y0, y1, y2⟩ := (hFFi _).1 h
    exact ⟨y1.c0, y1.c1, y1.c2, y1.c3, y1.c4, y1.c5, y1.c6, y1.c7⟩
  have zF : FFi w2.drew := (hFFi _).2 ⟨hB_3, pl_2, hWi_1⟩
  clear hB_3 pl_2 hWi_1
  refine wp_region_noPanic ?_
  refine wp_region_held_drew (S := fun w' => w'.cell? ⟨w.heap.size, 0, none⟩ = some (.int .i64 x0) ∧ w'.cell? ⟨w.heap.size, 1, none⟩ = some (.int .i64 x1) ∧ w'.cell? ⟨w.heap.size, 2, none⟩ = some (.int .i64 y0) ∧ w'.cell? ⟨w.heap.size, 3, none⟩ = some (.int .i64 y1) ∧ w'.cell? ⟨w.heap.size, 4, none⟩ = some (.int .i64 z0) ∧ w'.cell? ⟨w.heap.size, 5, none⟩ = some (.int .i64 z1) ∧ w'.cell? ⟨w.heap.size, 6, none⟩ = some (.int .i64 t0) ∧ w'.cell? ⟨w.heap.size, 7, none⟩ = some (.int .i64 t1)) (by kernel_rfl) (sFi zF) (fun hHeld => ?_)
  refine reg_take 0 ?_ ?_ ?_ (by kernel_rfl) (by kernel_rfl) (by kernel_rfl) (fun _ _ _ h => h) ?_ ?_ (by assumption) ?_
  rotate_left 2
  · simp only [List.getElem?_toArray, List.getElem?_cons_zero]; exact rfl
  · rfl
  · intro w hSw; (try dsimp only at hSw); go_simp; try with_reducible rfl
  try simp only [Act.put]
  try simp only [List.setIfInBounds_toArray, List.set_cons_zero, List.set_cons_succ]
  refine reg_take 1 ?_ ?_ ?_ (by kernel_rfl) (by kernel_rfl) (by kernel_rfl) (fun _ _ _ h => h) ?_ ?_ (by assumption) ?_
  rotate_left 2
  · simp only [List.getElem?_toArray, List.getElem?_cons_succ, List.getElem?_cons_zero]; exact rfl
  · rfl
  · intro w hSw; (try dsimp only at hSw); go_simp; try with_reducible rfl
  try simp only [Act.put]
  try simp only [List.setIfInBounds_toArray, List.set_cons_zero, List.set_cons_succ]
  refine reg_take 3 ?_ ?_ ?_ (by kernel_rfl) (by kernel_rfl) (by kernel_rfl) (fun _ _ _ h => h) ?_ ?_ (by assumption) ?_
  rotate_left 2
  · simp only [List.getElem?_toArray, List.getElem?_cons_succ, List.getElem?_cons_zero]; exact rfl
  · rfl
  · intro w hSw; (try dsimp only at hSw); go_simp; try with_reducible rfl
  try simp only [Act.put]
  try simp only [List.setIfInBounds_toArray, List.set_cons_zero, List.set_cons_succ]
  refine reg_take 4 ?_ ?_ ?_ (by kernel_rfl) (by kernel_rfl) (by kernel_rfl) (fun _ _ _ h => h) ?_ ?_ (by assumption) ?_
  rotate_left 2
  · simp only [List.getElem?_toArray, List.getElem?_cons_succ, List.getElem?_cons_zero]; exact rfl
  · rfl
  · intro w hSw; (try dsimp only at hSw); go_simp; try with_reducible rfl
  try simp only [Act.put]
  try simp only [List.setIfInBounds_toArray, List.set_cons_zero, List.set_cons_succ]
  refine reg_take 6 ?_ ?_ ?_ (by kernel_rfl) (by kernel_rfl) (by kernel_rfl) (fun _ _ _ h => h) ?_ ?_ (by assumption) ?_
  rotate_left 2
  · simp only [List.getElem?_toArray, List.getElem?_cons_succ, List.getElem?_cons_zero]; exact rfl
  · rfl
  · intro w hSw; (try dsimp only at hSw); go_simp; try with_reducible rfl
  try simp only [Act.put]
  try simp only [List.setIfInBounds_toArray, List.set_cons_zero, List.set_cons_succ]
  refine reg_take 7 ?_ ?_ ?_ (by kernel_rfl) (by kernel_rfl) (by kernel_rfl) (fun _ _ _ h => h) ?_ ?_ (by assumption) ?_
  rotate_left 2
  · simp only [List.getElem?_toArray, List.getElem?_cons_succ, List.getElem?_cons_zero]; exact rfl
  · rfl
  · intro w hSw; (try dsimp only at hSw); go_simp; try with_reducible rfl
  try simp only [Act.put]
  try simp only [List.setIfInBounds_toArray, List.set_cons_zero, List.set_cons_succ]
  refine reg_take 9 ?_ ?_ ?_ (by kernel_rfl) (by kernel_rfl) (by kernel_rfl) (fun _ _ _ h => h) ?_ ?_ (by assumption) ?_
  rotate_left 2
  · simp only [List.getElem?_toArray, List.getElem?_cons_succ, List.getElem?_cons_zero]; exact rfl
  · rfl
  · intro w hSw; (try dsimp only at hSw); go_simp; try with_reducible rfl
  try simp only [Act.put]
  try simp only [List.setIfInBounds_toArray, List.set_cons_zero, List.set_cons_succ]
  refine reg_take 10 ?_ ?_ ?_ (by kernel_rfl) (by kernel_rfl) (by kernel_rfl) (fun _ _ _ h => h) ?_ ?_ (by assumption) ?_
  rotate_left 2
  · simp only [List.getElem?_toArray, List.getElem?_cons_succ, List.getElem?_cons_zero]; exact rfl
  · rfl
  · intro w hSw; (try dsimp only at hSw); go_simp; try with_reducible rfl
  try simp only [Act.put]
  try simp only [List.setIfInBounds_toArray, List.set_cons_zero, List.set_cons_succ]
  refine reg_grab (fun WWi ai hWW hAA => ?_)
  rw [hWW]
  have HAi := Lib.hid hAA; clear hWW hAA hHeld
  obtain ⟨IVi, hIVi⟩ : ∃ IV : Array Bool → Act → World → Prop, ∀ l a w', IV l a w' ↔ ∃ (k : Nat) (bb0 bb1 bb2 bb3 : Bool) (v0_ v1_ v2_ v3_ p0_ p1_ p2_ p3_ : Value) (gpa gpb gpv gpu : Nat), k ≤ 4 ∧ l = #[true, true, decide (1 ≤ k), true, true, decide (2 ≤ k), true, true, decide (3 ≤ k), true, true, decide (4 ≤ k), bb0, bb1, bb2, bb3, false, false, false, false] ∧ a = ((((((((ai.put (some 12) v0_).put (some 15) v1_).put (some 18) v2_).put (some 21) v3_).put (some 3) p0_).put (some 4) p1_).put (some 5) p2_).put (some 6) p3_) ∧ FFi w' ∧ (1 ≤ k → v0_ = .agg #[.int .i64 a0, .int .i64 a1]) ∧ (2 ≤ k → v1_ = .agg #[.int .i64 b0, .int .i64 b1]) ∧ (3 ≤ k → v2_ = .agg #[.int .i64 v0, .int .i64 v1]) ∧ (4 ≤ k → v3_ = .agg #[.int .i64 u0, .int .i64 u1]) ∧ (bb0 = true → p0_ = .pointer (some ⟨gpa, 0, none⟩) ∧ Box w' gpa [.int .i64 0, .int .i64 0] ∧ w2.heap.size ≤ gpa) ∧ (bb1 = true → p1_ = .pointer (some ⟨gpb, 0, none⟩) ∧ Box w' gpb [.int .i64 0, .int .i64 0] ∧ w2.heap.size ≤ gpb) ∧ (bb2 = true → p2_ = .pointer (some ⟨gpv, 0, none⟩) ∧ Box w' gpv [.int .i64 0, .int .i64 0] ∧ w2.heap.size ≤ gpv) ∧ (bb3 = true → p3_ = .pointer (some ⟨gpu, 0, none⟩) ∧ Box w' gpu [.int .i64 0, .int .i64 0] ∧ w2.heap.size ≤ gpu) ∧ (bb0 = true → bb1 = true → gpa ≠ gpb) ∧ (bb0 = true → bb2 = true → gpa ≠ gpv) ∧ (bb0 = true → bb3 = true → gpa ≠ gpu) ∧ (bb1 = true → bb2 = true → gpb ≠ gpv) ∧ (bb1 = true → bb3 = true → gpb ≠ gpu) ∧ (bb2 = true → bb3 = true → gpv ≠ gpu) := ⟨_, fun _ _ _ => Iff.rfl⟩
  refine wpAnyH_until IVi ?_ _ _ _ _ ((hIVi _ _ _).2 ⟨0, false, false, false, false, (ai.tmps.getD 12 undef), (ai.tmps.getD 15 undef), (ai.tmps.getD 18 undef), (ai.tmps.getD 21 undef), (ai.tmps.getD 3 undef), (ai.tmps.getD 4 undef), (ai.tmps.getD 5 undef), (ai.tmps.getD 6 undef), 0, 0, 0, 0, Nat.zero_le _, rfl, (by simp only [put_same]), zF, (fun h => absurd h (by omega)), (fun h => absurd h (by omega)), (fun h => absurd h (by omega)), (fun h => absurd h (by omega)), (fun h => by cases h), (fun h => by cases h), (fun h => by cases h), (fun h => by cases h), (fun h => by cases h), (fun h => by cases h), (fun h => by cases h), (fun h => by cases h), (fun h => by cases h), (fun h => by cases h)⟩) (by kernel_rfl)
  clear zF
  intro ll aa w3 hI
  obtain ⟨k, bb0, bb1, bb2, bb3, v0_, v1_, v2_, v3_, p0_, p1_, p2_, p3_, gpa, gpb, gpv, gpu, hk, rfl, rfl, zF, rr1, rr2, rr3, rr4, zz0, zz1, zz2, zz3, n0_1, n0_2, n0_3, n1_2, n1_3, n2_3⟩ := (hIVi _ _ _).1 hI
  clear hI
  by_cases hL : k = 4 ∧ bb0 = true ∧ bb1 = true ∧ bb2 = true ∧ bb3 = true
  · left
    obtain ⟨rfl, rfl, rfl, rfl, rfl⟩ := hL
    obtain rfl := rr1 (by omega)
    obtain rfl := rr2 (by omega)
    obtain rfl := rr3 (by omega)
    obtain rfl := rr4 (by omega)
    obtain ⟨rfl, pa_0, hgpa⟩ := zz0 rfl
    obtain ⟨rfl, pb_0, hgpb⟩ := zz1 rfl
    obtain ⟨rfl, pv_0, hgpv⟩ := zz2 rfl
    obtain ⟨rfl, pu_0, hgpu⟩ := zz3 rfl
    have hnpapb := n0_1 rfl rfl
    have hnpapv := n0_2 rfl rfl
    have hnpapu := n0_3 rfl rfl
    have hnpbpv := n1_2 rfl rfl
    have hnpbpu := n1_3 rfl rfl
    have hnpvpu := n2_3 rfl rfl
    clear hk zz0 zz1 zz2 zz3 n0_1 n0_2 n0_3 n1_2 n1_3 n2_3
    show wpAnyH _ _ _ _ _ 4 _ _ _
    rw [HAi.out]
    try simp only [Act.put]
    try simp only [List.setIfInBounds_toArray, List.set_cons_zero, List.set_cons_succ]
    obtain ⟨hB_0, pl_0, hWi_0⟩ := (hFFi _).1 zF
    clear zF
    clear hWi_0
    obtain ⟨sf1a, sf1b, sf1c, sf1d⟩ := pa_0.open2
    obtain ⟨sg1a, sg1b⟩ := Box.put2 pa_0 (.int .i64 a0)
    refine reg_call 16 ?_ (by kernel_rfl) ?_ (fun K hK => ?_)
    rotate_left 1
    · simp only [List.getElem?_toArray, List.getElem?_cons_succ, List.getElem?_cons_zero]; exact rfl
    go_simp
    have hB_1 := below_setAll hB_0 (g := gpa) (by omega) [.int .i64 a0, .int .i64 a1]
    have pl_1 := pl_0.farAll (g' := gpa) (by omega) [.int .i64 a0, .int .i64 a1]
    have pb_1 := pb_0.farAll (g' := gpa) (by omega) [.int .i64 a0, .int .i64 a1]
    have pv_1 := pv_0.farAll (g' := gpa) (by omega) [.int .i64 a0, .int .i64 a1]
    have pu_1 := pu_0.farAll (g' := gpa) (by omega) [.int .i64 a0, .int .i64 a1]
    have pa_1 := pa_0.setAll [.int .i64 a0, .int .i64 a1] rfl
    simp only [setAll, Nat.zero_add] at hB_1 pl_1 pa_1 pb_1 pv_1 pu_1
    clear sf1a sf1b sf1c sf1d sg1a sg1b
    clear hB_0 pl_0 pb_0 pv_0 pu_0 pa_0
    refine hK.out _ _ ⟨pl_1.c0, pl_1.c1, pl_1.c2, pl_1.c3, pl_1.c4, pl_1.c5, pl_1.c6, pl_1.c7⟩ (fun hHeld => ?_)
    clear hK K
    try simp only [Act.put]
    try simp only [List.setIfInBounds_toArray, List.set_cons_zero, List.set_cons_succ]
    generalize (World.setCell (World.setCell w3 ⟨gpa, 0, none⟩ (.int .i64 a0)) ⟨gpa, 1, none⟩ (.int .i64 a1)) = w4 at *
    obtain ⟨sf2a, sf2b, sf2c, sf2d⟩ := pb_1.open2
    obtain ⟨sg2a, sg2b⟩ := Box.put2 pb_1 (.int .i64 b0)
    refine reg_call 17 ?_ (by kernel_rfl) ?_ (fun K hK => ?_)
    rotate_left 1
    · simp only [List.getElem?_toArray, List.getElem?_cons_succ, List.getElem?_cons_zero]; exact rfl
    go_simp
    have hB_2 := below_setAll hB_1 (g := gpb) (by omega) [.int .i64 b0, .int .i64 b1]
    have pl_2 := pl_1.farAll (g' := gpb) (by omega) [.int .i64 b0, .int .i64 b1]
    have pa_2 := pa_1.farAll (g' := gpb) (by omega) [.int .i64 b0, .int .i64 b1]
    have pv_2 := pv_1.farAll (g' := gpb) (by omega) [.int .i64 b0, .int .i64 b1]
    have pu_2 := pu_1.farAll (g' := gpb) (by omega) [.int .i64 b0, .int .i64 b1]
    have pb_2 := pb_1.setAll [.int .i64 b0, .int .i64 b1] rfl
    simp only [setAll, Nat.zero_add] at hB_2 pl_2 pa_2 pb_2 pv_2 pu_2
    clear sf2a sf2b sf2c sf2d sg2a sg2b
    clear hB_1 pl_1 pa_1 pv_1 pu_1 pb_1
    refine hK.out _ _ ⟨pl_2.c0, pl_2.c1, pl_2.c2, pl_2.c3, pl_2.c4, pl_2.c5, pl_2.c6, pl_2.c7⟩ (fun hHeld => ?_)
    clear hK K
    try simp only [Act.put]
    try simp only [List.setIfInBounds_toArray, List.set_cons_zero, List.set_cons_succ]
    generalize (World.setCell (World.setCell w4 ⟨gpb, 0, none⟩ (.int .i64 b0)) ⟨gpb, 1, none⟩ (.int .i64 b1)) = w5 at *
    obtain ⟨sf3a, sf3b, sf3c, sf3d⟩ := pv_2.open2
    obtain ⟨sg3a, sg3b⟩ := Box.put2 pv_2 (.int .i64 v0)
    refine reg_call 18 ?_ (by kernel_rfl) ?_ (fun K hK => ?_)
    rotate_left 1
    · simp only [List.getElem?_toArray, List.getElem?_cons_succ, List.getElem?_cons_zero]; exact rfl
    go_simp
    have hB_3 := below_setAll hB_2 (g := gpv) (by omega) [.int .i64 v0, .int .i64 v1]
    have pl_3 := pl_2.farAll (g' := gpv) (by omega) [.int .i64 v0, .int .i64 v1]
    have pa_3 := pa_2.farAll (g' := gpv) (by omega) [.int .i64 v0, .int .i64 v1]
    have pb_3 := pb_2.farAll (g' := gpv) (by omega) [.int .i64 v0, .int .i64 v1]
    have pu_3 := pu_2.farAll (g' := gpv) (by omega) [.int .i64 v0, .int .i64 v1]
    have pv_3 := pv_2.setAll [.int .i64 v0, .int .i64 v1] rfl
    simp only [setAll, Nat.zero_add] at hB_3 pl_3 pa_3 pb_3 pv_3 pu_3
    clear sf3a sf3b sf3c sf3d sg3a sg3b
    clear hB_2 pl_2 pa_2 pb_2 pu_2 pv_2
    refine hK.out _ _ ⟨pl_3.c0, pl_3.c1, pl_3.c2, pl_3.c3, pl_3.c4, pl_3.c5, pl_3.c6, pl_3.c7⟩ (fun hHeld => ?_)
    clear hK K
    try simp only [Act.put]
    try simp only [List.setIfInBounds_toArray, List.set_cons_zero, List.set_cons_succ]
    generalize (World.setCell (World.setCell w5 ⟨gpv, 0, none⟩ (.int .i64 v0)) ⟨gpv, 1, none⟩ (.int .i64 v1)) = w6 at *
    obtain ⟨sf4a, sf4b, sf4c, sf4d⟩ := pu_3.open2
    obtain ⟨sg4a, sg4b⟩ := Box.put2 pu_3 (.int .i64 u0)
    refine reg_call 19 ?_ (by kernel_rfl) ?_ (fun K hK => ?_)
    rotate_left 1
    · simp only [List.getElem?_toArray, List.getElem?_cons_succ, List.getElem?_cons_zero]; exact rfl
    go_simp
    have hB_4 := below_setAll hB_3 (g := gpu) (by omega) [.int .i64 u0, .int .i64 u1]
    have pl_4 := pl_3.farAll (g' := gpu) (by omega) [.int .i64 u0, .int .i64 u1]
    have pa_4 := pa_3.farAll (g' := gpu) (by omega) [.int .i64 u0, .int .i64 u1]
    have pb_4 := pb_3.farAll (g' := gpu) (by omega) [.int .i64 u0, .int .i64 u1]
    have pv_4 := pv_3.farAll (g' := gpu) (by omega) [.int .i64 u0, .int .i64 u1]
    have pu_4 := pu_3.setAll [.int .i64 u0, .int .i64 u1] rfl
    simp only [setAll, Nat.zero_add] at hB_4 pl_4 pa_4 pb_4 pv_4 pu_4
    clear sf4a sf4b sf4c sf4d sg4a sg4b
    clear hB_3 pl_3 pa_3 pb_3 pv_3 pu_3
    refine hK.out _ _ ⟨pl_4.c0, pl_4.c1, pl_4.c2, pl_4.c3, pl_4.c4, pl_4.c5, pl_4.c6, pl_4.c7⟩ (fun hHeld => ?_)
    clear hK K
    try simp only [Act.put]
    try simp only [List.setIfInBounds_toArray, List.set_cons_zero, List.set_cons_succ]
    generalize (World.setCell (World.setCell w6 ⟨gpu, 0, none⟩ (.int .i64 u0)) ⟨gpu, 1, none⟩ (.int .i64 u1)) = w7 at *
    refine wpAnyH_done (by kernel_rfl) ?_ _
    refine NoPanic.normal ?_
    clear pl_4
    obtain ⟨pae0, pae1, pae2, pae3⟩ := pa_4.open2
    obtain ⟨pbe0, pbe1, pbe2, pbe3⟩ := pb_4.open2
    obtain ⟨pve0, pve1, pve2, pve3⟩ := pv_4.open2
    obtain ⟨pue0, pue1, pue2, pue3⟩ := pu_4.open2
    go_wp2_with fail
    refine (K0.out _).mono ?_
    rintro e w8 ⟨rfl, hb8⟩
    clear pae0 pae1 pae2 pae3 pbe0 pbe1 pbe2 pbe3 pve0 pve1 pve2 pve3 pue0 pue1 pue2 pue3
    have hB_5 := hB_4.trans (hb8.mono hB_4.size)
    have pa_5 := pa_4.below hb8
    have pb_5 := pb_4.below hb8
    have pv_5 := pv_4.below hb8
    have pu_5 := pu_4.below hb8
    clear hb8 hB_4 pa_4 pb_4 pv_4 pu_4
    obtain ⟨pae0, pae1, pae2, pae3⟩ := pa_5.open2
    obtain ⟨pbe0, pbe1, pbe2, pbe3⟩ := pb_5.open2
    obtain ⟨pve0, pve1, pve2, pve3⟩ := pv_5.open2
    obtain ⟨pue0, pue1, pue2, pue3⟩ := pu_5.open2
    have e1 := E1.out
    go_wp2_with fail
    refine (K1.out _).mono ?_
    rintro e w9 ⟨rfl, hb9⟩
    clear pae0 pae1 pae2 pae3 pbe0 pbe1 pbe2 pbe3 pve0 pve1 pve2 pve3 pue0 pue1 pue2 pue3
    have hB_6 := hB_5.trans (hb9.mono hB_5.size)
    have pa_6 := pa_5.below hb9
    have pb_6 := pb_5.below hb9
    have pv_6 := pv_5.below hb9
    have pu_6 := pu_5.below hb9
    clear hb9 hB_5 pa_5 pb_5 pv_5 pu_5
    obtain ⟨pae0, pae1, pae2, pae3⟩ := pa_6.open2
    obtain ⟨pbe0, pbe1, pbe2, pbe3⟩ := pb_6.open2
    obtain ⟨pve0, pve1, pve2, pve3⟩ := pv_6.open2
    obtain ⟨pue0, pue1, pue2, pue3⟩ := pu_6.open2
    go_wp2_with fail
    refine (K2.out _).mono ?_
    rintro e w10 ⟨rfl, hb10⟩
    clear pae0 pae1 pae2 pae3 pbe0 pbe1 pbe2 pbe3 pve0 pve1 pve2 pve3 pue0 pue1 pue2 pue3
    have hB_7 := hB_6.trans (hb10.mono hB_6.size)
    have pa_7 := pa_6.below hb10
    have pb_7 := pb_6.below hb10
    have pv_7 := pv_6.below hb10
    have pu_7 := pu_6.below hb10
    clear hb10 hB_6 pa_6 pb_6 pv_6 pu_6
    obtain ⟨pae0, pae1, pae2, pae3⟩ := pa_7.open2
    obtain ⟨pbe0, pbe1, pbe2, pbe3⟩ := pb_7.open2
    obtain ⟨pve0, pve1, pve2, pve3⟩ := pv_7.open2
    obtain ⟨pue0, pue1, pue2, pue3⟩ := pu_7.open2
    go_wp2_with fail
    refine (K3.out _).mono ?_
    rintro e w11 ⟨rfl, hb11⟩
    clear pae0 pae1 pae2 pae3 pbe0 pbe1 pbe2 pbe3 pve0 pve1 pve2 pve3 pue0 pue1 pue2 pue3
    have hB_8 := hB_7.trans (hb11.mono hB_7.size)
    have pa_8 := pa_7.below hb11
    have pb_8 := pb_7.below hb11
    have pv_8 := pv_7.below hb11
    have pu_8 := pu_7.below hb11
    clear hb11 hB_7 pa_7 pb_7 pv_7 pu_7
    obtain ⟨pae0, pae1, pae2, pae3⟩ := pa_8.open2
    obtain ⟨pbe0, pbe1, pbe2, pbe3⟩ := pb_8.open2
    obtain ⟨pve0, pve1, pve2, pve3⟩ := pv_8.open2
    obtain ⟨pue0, pue1, pue2, pue3⟩ := pu_8.open2
    go_wp2_with fail
    refine (K4.out _).mono ?_
    rintro e w12 ⟨rfl, hb12⟩
    clear pae0 pae1 pae2 pae3 pbe0 pbe1 pbe2 pbe3 pve0 pve1 pve2 pve3 pue0 pue1 pue2 pue3
    have hB_9 := hB_8.trans (hb12.mono hB_8.size)
    have pa_9 := pa_8.below hb12
    have pb_9 := pb_8.below hb12
    have pv_9 := pv_8.below hb12
    have pu_9 := pu_8.below hb12
    clear hb12 hB_8 pa_8 pb_8 pv_8 pu_8
    obtain ⟨pae0, pae1, pae2, pae3⟩ := pa_9.open2
    obtain ⟨pbe0, pbe1, pbe2, pbe3⟩ := pb_9.open2
    obtain ⟨pve0, pve1, pve2, pve3⟩ := pv_9.open2
    obtain ⟨pue0, pue1, pue2, pue3⟩ := pu_9.open2
    go_wp2
    go_ret
    exact ⟨rfl, hB_9⟩
  · right
    refine ⟨?_, fun i hi => ?_⟩
    · clear zF rr1 rr2 rr3 rr4 zz0 zz1 zz2 zz3 n0_1 n0_2 n0_3 n1_2 n1_3 n2_3
      obtain rfl | rfl | rfl | rfl | rfl : k = 0 ∨ k = 1 ∨ k = 2 ∨ k = 3 ∨ k = 4 := by omega
      all_goals cases bb0
      all_goals cases bb1
      all_goals cases bb2
      all_goals cases bb3
      all_goals first | exact absurd ⟨rfl, rfl, rfl, rfl, rfl⟩ hL | exact of_decide_eq_true (by kernel_rfl)
    have hd : (k = 0 ∧ i = 2) ∨ (k = 1 ∧ i = 5) ∨ (k = 2 ∧ i = 8) ∨ (k = 3 ∧ i = 11) ∨ (bb0 = false ∧ i = 12) ∨ (bb1 = false ∧ i = 13) ∨ (bb2 = false ∧ i = 14) ∨ (bb3 = false ∧ i = 15) := by
      clear zF rr1 rr2 rr3 rr4 zz0 zz1 zz2 zz3 n0_1 n0_2 n0_3 n1_2 n1_3 n2_3
      revert i
      obtain rfl | rfl | rfl | rfl | rfl : k = 0 ∨ k = 1 ∨ k = 2 ∨ k = 3 ∨ k = 4 := by omega
      all_goals cases bb0
      all_goals cases bb1
      all_goals cases bb2
      all_goals cases bb3
      all_goals first | exact absurd ⟨rfl, rfl, rfl, rfl, rfl⟩ hL | exact of_decide_eq_true (by kernel_rfl)
    clear hi hL
    rcases hd with ⟨rfl, rfl⟩ | ⟨rfl, rfl⟩ | ⟨rfl, rfl⟩ | ⟨rfl, rfl⟩ | ⟨rfl, rfl⟩ | ⟨rfl, rfl⟩ | ⟨rfl, rfl⟩ | ⟨rfl, rfl⟩
    · refine step_of 2 ?_ ?_ (fun K hK => ?_)
      rotate_left 1
      · simp only [List.getElem?_toArray, List.getElem?_cons_succ, List.getElem?_cons_zero]; exact rfl
      rw [HAi.out]
      try simp only [Act.put]
      try simp only [List.setIfInBounds_toArray, List.set_cons_zero, List.set_cons_succ]
      go_simp
      refine (TM0.out _).mono ?_
      rintro e w13 ⟨rfl, hb⟩
      go_wp2_with fail
      refine hK.out _ _ (sFi (cFi zF hb)) ?_
      exact (hIVi _ _ _).2 ⟨1, bb0, bb1, bb2, bb3, (.agg #[.int .i64 a0, .int .i64 a1]), v1_, v2_, v3_, p0_, p1_, p2_, p3_, gpa, gpb, gpv, gpu, (by omega), rfl, (by simp only [HAi.out, Act.put, List.setIfInBounds_toArray, List.set_cons_zero, List.set_cons_succ]), (cFi zF hb), (fun _ => rfl), (fun h => absurd h (by omega)), (fun h => absurd h (by omega)), (fun h => absurd h (by omega)), (fun h => ⟨(zz0 h).1, (zz0 h).2.1.below hb, (zz0 h).2.2⟩), (fun h => ⟨(zz1 h).1, (zz1 h).2.1.below hb, (zz1 h).2.2⟩), (fun h => ⟨(zz2 h).1, (zz2 h).2.1.below hb, (zz2 h).2.2⟩), (fun h => ⟨(zz3 h).1, (zz3 h).2.1.below hb, (zz3 h).2.2⟩), n0_1, n0_2, n0_3, n1_2, n1_3, n2_3⟩
    · obtain rfl := rr1 (by omega)
      refine step_of 5 ?_ ?_ (fun K hK => ?_)
      rotate_left 1
      · simp only [List.getElem?_toArray, List.getElem?_cons_succ, List.getElem?_cons_zero]; exact rfl
      rw [HAi.out]
      try simp only [Act.put]
      try simp only [List.setIfInBounds_toArray, List.set_cons_zero, List.set_cons_succ]
      go_simp
      refine (TM1.out _).mono ?_
      rintro e w14 ⟨rfl, hb⟩
      go_wp2_with fail
      refine hK.out _ _ (sFi (cFi zF hb)) ?_
      exact (hIVi _ _ _).2 ⟨2, bb0, bb1, bb2, bb3, _, (.agg #[.int .i64 b0, .int .i64 b1]), v2_, v3_, p0_, p1_, p2_, p3_, gpa, gpb, gpv, gpu, (by omega), rfl, (by simp only [HAi.out, Act.put, List.setIfInBounds_toArray, List.set_cons_zero, List.set_cons_succ]), (cFi zF hb), (fun _ => rfl), (fun _ => rfl), (fun h => absurd h (by omega)), (fun h => absurd h (by omega)), (fun h => ⟨(zz0 h).1, (zz0 h).2.1.below hb, (zz0 h).2.2⟩), (fun h => ⟨(zz1 h).1, (zz1 h).2.1.below hb, (zz1 h).2.2⟩), (fun h => ⟨(zz2 h).1, (zz2 h).2.1.below hb, (zz2 h).2.2⟩), (fun h => ⟨(zz3 h).1, (zz3 h).2.1.below hb, (zz3 h).2.2⟩), n0_1, n0_2, n0_3, n1_2, n1_3, n2_3⟩
    · obtain rfl := rr1 (by omega)
      obtain rfl := rr2 (by omega)
      refine step_of 8 ?_ ?_ (fun K hK => ?_)
      rotate_left 1
      · simp only [List.getElem?_toArray, List.getElem?_cons_succ, List.getElem?_cons_zero]; exact rfl
      rw [HAi.out]
      try simp only [Act.put]
      try simp only [List.setIfInBounds_toArray, List.set_cons_zero, List.set_cons_succ]
      go_simp
      refine (TM2.out _).mono ?_
      rintro e w15 ⟨rfl, hb⟩
      go_wp2_with fail
      refine hK.out _ _ (sFi (cFi zF hb)) ?_
      exact (hIVi _ _ _).2 ⟨3, bb0, bb1, bb2, bb3, _, _, (.agg #[.int .i64 v0, .int .i64 v1]), v3_, p0_, p1_, p2_, p3_, gpa, gpb, gpv, gpu, (by omega), rfl, (by simp only [HAi.out, Act.put, List.setIfInBounds_toArray, List.set_cons_zero, List.set_cons_succ]), (cFi zF hb), (fun _ => rfl), (fun _ => rfl), (fun _ => rfl), (fun h => absurd h (by omega)), (fun h => ⟨(zz0 h).1, (zz0 h).2.1.below hb, (zz0 h).2.2⟩), (fun h => ⟨(zz1 h).1, (zz1 h).2.1.below hb, (zz1 h).2.2⟩), (fun h => ⟨(zz2 h).1, (zz2 h).2.1.below hb, (zz2 h).2.2⟩), (fun h => ⟨(zz3 h).1, (zz3 h).2.1.below hb, (zz3 h).2.2⟩), n0_1, n0_2, n0_3, n1_2, n1_3, n2_3⟩
    · obtain rfl := rr1 (by omega)
      obtain rfl := rr2 (by omega)
      obtain rfl := rr3 (by omega)
      refine step_of 11 ?_ ?_ (fun K hK => ?_)
      rotate_left 1
      · simp only [List.getElem?_toArray, List.getElem?_cons_succ, List.getElem?_cons_zero]; exact rfl
      rw [HAi.out]
      try simp only [Act.put]
      try simp only [List.setIfInBounds_toArray, List.set_cons_zero, List.set_cons_succ]
      go_simp
      refine (TM3.out _).mono ?_
      rintro e w16 ⟨rfl, hb⟩
      go_wp2_with fail
      refine hK.out _ _ (sFi (cFi zF hb)) ?_
      exact (hIVi _ _ _).2 ⟨4, bb0, bb1, bb2, bb3, _, _, _, (.agg #[.int .i64 u0, .int .i64 u1]), p0_, p1_, p2_, p3_, gpa, gpb, gpv, gpu, (by omega), rfl, (by simp only [HAi.out, Act.put, List.setIfInBounds_toArray, List.set_cons_zero, List.set_cons_succ]), (cFi zF hb), (fun _ => rfl), (fun _ => rfl), (fun _ => rfl), (fun _ => rfl), (fun h => ⟨(zz0 h).1, (zz0 h).2.1.below hb, (zz0 h).2.2⟩), (fun h => ⟨(zz1 h).1, (zz1 h).2.1.below hb, (zz1 h).2.2⟩), (fun h => ⟨(zz2 h).1, (zz2 h).2.1.below hb, (zz2 h).2.2⟩), (fun h => ⟨(zz3 h).1, (zz3 h).2.1.below hb, (zz3 h).2.2⟩), n0_1, n0_2, n0_3, n1_2, n1_3, n2_3⟩
    · refine step_of 12 ?_ ?_ (fun K hK => ?_)
      rotate_left 1
      · simp only [List.getElem?_toArray, List.getElem?_cons_succ, List.getElem?_cons_zero]; exact rfl
      rw [HAi.out]
      try simp only [Act.put]
      try simp only [List.setIfInBounds_toArray, List.set_cons_zero, List.set_cons_succ]
      go_simp
      have hgn := mFi zF
      have hl1 : bb1 = true → gpb < w3.heap.size := fun h => (zz1 h).2.1.lt
      have hl2 : bb2 = true → gpv < w3.heap.size := fun h => (zz2 h).2.1.lt
      have hl3 : bb3 = true → gpu < w3.heap.size := fun h => (zz3 h).2.1.lt
      obtain ⟨wn, hwn, pa_0, hb, -⟩ := new_box w3 _ rfl [.int .i64 0, .int .i64 0] 23
      rw [hwn]
      refine hK.out _ _ (sFi (cFi zF hb)) ?_
      exact (hIVi _ _ _).2 ⟨k, true, bb1, bb2, bb3, v0_, v1_, v2_, v3_, (.pointer (some ⟨w3.heap.size, 0, none⟩)), p1_, p2_, p3_, w3.heap.size, gpb, gpv, gpu, hk, rfl, (by simp only [HAi.out, Act.put, List.setIfInBounds_toArray, List.set_cons_zero, List.set_cons_succ]), (cFi zF hb), rr1, rr2, rr3, rr4, (fun _ => ⟨rfl, pa_0, hgn⟩), (fun h => ⟨(zz1 h).1, (zz1 h).2.1.below hb, (zz1 h).2.2⟩), (fun h => ⟨(zz2 h).1, (zz2 h).2.1.below hb, (zz2 h).2.2⟩), (fun h => ⟨(zz3 h).1, (zz3 h).2.1.below hb, (zz3 h).2.2⟩), (fun _ h => by have := hl1 h; omega), (fun _ h => by have := hl2 h; omega), (fun _ h => by have := hl3 h; omega), n1_2, n1_3, n2_3⟩
    · refine step_of 13 ?_ ?_ (fun K hK => ?_)
      rotate_left 1
      · simp only [List.getElem?_toArray, List.getElem?_cons_succ, List.getElem?_cons_zero]; exact rfl
      rw [HAi.out]
      try simp only [Act.put]
      try simp only [List.setIfInBounds_toArray, List.set_cons_zero, List.set_cons_succ]
      go_simp
      have hgn := mFi zF
      have hl0 : bb0 = true → gpa < w3.heap.size := fun h => (zz0 h).2.1.lt
      have hl2 : bb2 = true → gpv < w3.heap.size := fun h => (zz2 h).2.1.lt
      have hl3 : bb3 = true → gpu < w3.heap.size := fun h => (zz3 h).2.1.lt
      obtain ⟨wn, hwn, pb_0, hb, -⟩ := new_box w3 _ rfl [.int .i64 0, .int .i64 0] 23
      rw [hwn]
      refine hK.out _ _ (sFi (cFi zF hb)) ?_
      exact (hIVi _ _ _).2 ⟨k, bb0, true, bb2, bb3, v0_, v1_, v2_, v3_, p0_, (.pointer (some ⟨w3.heap.size, 0, none⟩)), p2_, p3_, gpa, w3.heap.size, gpv, gpu, hk, rfl, (by simp only [HAi.out, Act.put, List.setIfInBounds_toArray, List.set_cons_zero, List.set_cons_succ]), (cFi zF hb), rr1, rr2, rr3, rr4, (fun h => ⟨(zz0 h).1, (zz0 h).2.1.below hb, (zz0 h).2.2⟩), (fun _ => ⟨rfl, pb_0, hgn⟩), (fun h => ⟨(zz2 h).1, (zz2 h).2.1.below hb, (zz2 h).2.2⟩), (fun h => ⟨(zz3 h).1, (zz3 h).2.1.below hb, (zz3 h).2.2⟩), (fun h _ => by have := hl0 h; omega), n0_2, n0_3, (fun _ h => by have := hl2 h; omega), (fun _ h => by have := hl3 h; omega), n2_3⟩
    · refine step_of 14 ?_ ?_ (fun K hK => ?_)
      rotate_left 1
      · simp only [List.getElem?_toArray, List.getElem?_cons_succ, List.getElem?_cons_zero]; exact rfl
      rw [HAi.out]
      try simp only [Act.put]
      try simp only [List.setIfInBounds_toArray, List.set_cons_zero, List.set_cons_succ]
      go_simp
      have hgn := mFi zF
      have hl0 : bb0 = true → gpa < w3.heap.size := fun h => (zz0 h).2.1.lt
      have hl1 : bb1 = true → gpb < w3.heap.size := fun h => (zz1 h).2.1.lt
      have hl3 : bb3 = true → gpu < w3.heap.size := fun h => (zz3 h).2.1.lt
      obtain ⟨wn, hwn, pv_0, hb, -⟩ := new_box w3 _ rfl [.int .i64 0, .int .i64 0] 23
      rw [hwn]
      refine hK.out _ _ (sFi (cFi zF hb)) ?_
      exact (hIVi _ _ _).2 ⟨k, bb0, bb1, true, bb3, v0_, v1_, v2_, v3_, p0_, p1_, (.pointer (some ⟨w3.heap.size, 0, none⟩)), p3_, gpa, gpb, w3.heap.size, gpu, hk, rfl, (by simp only [HAi.out, Act.put, List.setIfInBounds_toArray, List.set_cons_zero, List.set_cons_succ]), (cFi zF hb), rr1, rr2, rr3, rr4, (fun h => ⟨(zz0 h).1, (zz0 h).2.1.below hb, (zz0 h).2.2⟩), (fun h => ⟨(zz1 h).1, (zz1 h).2.1.below hb, (zz1 h).2.2⟩), (fun _ => ⟨rfl, pv_0, hgn⟩), (fun h => ⟨(zz3 h).1, (zz3 h).2.1.below hb, (zz3 h).2.2⟩), n0_1, (fun h _ => by have := hl0 h; omega), n0_3, (fun h _ => by have := hl1 h; omega), n1_3, (fun _ h => by have := hl3 h; omega)⟩
    · refine step_of 15 ?_ ?_ (fun K hK => ?_)
      rotate_left 1
      · simp only [List.getElem?_toArray, List.getElem?_cons_succ, List.getElem?_cons_zero]; exact rfl
      rw [HAi.out]
      try simp only [Act.put]
      try simp only [List.setIfInBounds_toArray, List.set_cons_zero, List.set_cons_succ]
      go_simp
      have hgn := mFi zF
      have hl0 : bb0 = true → gpa < w3.heap.size := fun h => (zz0 h).2.1.lt
      have hl1 : bb1 = true → gpb < w3.heap.size := fun h => (zz1 h).2.1.lt
      have hl2 : bb2 = true → gpv < w3.heap.size := fun h => (zz2 h).2.1.lt
      obtain ⟨wn, hwn, pu_0, hb, -⟩ := new_box w3 _ rfl [.int .i64 0, .int .i64 0] 23
      rw [hwn]
      refine hK.out _ _ (sFi (cFi zF hb)) ?_
      exact (hIVi _ _ _).2 ⟨k, bb0, bb1, bb2, true, v0_, v1_, v2_, v3_, p0_, p1_, p2_, (.pointer (some ⟨w3.heap.size, 0, none⟩)), gpa, gpb, gpv, w3.heap.size, hk, rfl, (by simp only [HAi.out, Act.put, List.setIfInBounds_toArray, List.set_cons_zero, List.set_cons_succ]), (cFi zF hb), rr1, rr2, rr3, rr4, (fun h => ⟨(zz0 h).1, (zz0 h).2.1.below hb, (zz0 h).2.2⟩), (fun h => ⟨(zz1 h).1, (zz1 h).2.1.below hb, (zz1 h).2.2⟩), (fun h => ⟨(zz2 h).1, (zz2 h).2.1.below hb, (zz2 h).2.2⟩), (fun _ => ⟨rfl, pu_0, hgn⟩), n0_1, n0_2, (fun h _ => by have := hl0 h; omega), n1_2, (fun h _ => by have := hl1 h; omega), (fun h _ => by have := hl2 h; omega)⟩
set_option maxRecDepth 100000 in
set_option maxHeartbeats 16000000 in
theorem PredCircles_w_m (x0 x1 y0 y1 z0 z1 t0 t1 a0 a1 b0 b1 v0 v1 u0 u1 : Int) (s r : Int) (tm0 : ∀ w, Calls Try.prog 10 #[.agg #[.int .i64 x0, .int .i64 x1]] w fun e w' => e = .returned (.agg #[.int .i64 a0, .int .i64 a1]) ∧ Below w.heap.size w w') (tm1 : ∀ w, Calls Try.prog 10 #[.agg #[.int .i64 y0, .int .i64 y1]] w fun e w' => e = .returned (.agg #[.int .i64 b0, .int .i64 b1]) ∧ Below w.heap.size w w') (tm2 : ∀ w, Calls Try.prog 10 #[.agg #[.int .i64 z0, .int .i64 z1]] w fun e w' => e = .returned (.agg #[.int .i64 v0, .int .i64 v1]) ∧ Below w.heap.size w w') (tm3 : ∀ w, Calls Try.prog 10 #[.agg #[.int .i64 t0, .int .i64 t1]] w fun e w' => e = .returned (.agg #[.int .i64 u0, .int .i64 u1]) ∧ Below w.heap.size w w') (k0 : ∀ w, Calls Try.prog 15 #[.agg #[.int .i64 a0, .int .i64 a1], .agg #[.int .i64 b0, .int .i64 b1], .agg #[.int .i64 v0, .int .i64 v1]] w fun e w' => e = .returned (.int .i64 (-1)) ∧ Below w.heap.size w w') (k1 : ∀ w, Calls Try.prog 17 #[.agg #[.int .i64 a0, .int .i64 a1], .agg #[.int .i64 v0, .int .i64 v1], .agg #[.int .i64 b0, .int .i64 b1], .agg #[.int .i64 u0, .int .i64 u1]] w fun e w' => e = .returned (.int .i64 s) ∧ Below w.heap.size w w') (k2 : ∀ w, Calls Try.prog 18 #[.agg #[.int .i64 a0, .int .i64 a1], .agg #[.int .i64 v0, .int .i64 v1], .agg #[.int .i64 b0, .int .i64 b1], .agg #[.int .i64 u0, .int .i64 u1]] w fun e w' => e = .returned (.int .i64 r) ∧ Below w.heap.size w w') (k3 : ∀ w, Calls Try.prog 17 #[.agg #[.int .i64 v0, .int .i64 v1], .agg #[.int .i64 b0, .int .i64 b1], .agg #[.int .i64 a0, .int .i64 a1], .agg #[.int .i64 u0, .int .i64 u1]] w fun e w' => e = .returned (.int .i64 s) ∧ Below w.heap.size w w') (k4 : ∀ w, Calls Try.prog 17 #[.agg #[.int .i64 a0, .int .i64 a1], .agg #[.int .i64 v0, .int .i64 v1], .agg #[.int .i64 b0, .int .i64 b1], .agg #[.int .i64 v0, .int .i64 v1]] w fun e w' => e = .returned (.int .i64 0) ∧ Below w.heap.size w w') (e1 : IntKind.i64.wrap (-r) = s) (w : World) :
    Calls Try.prog 4 #[.agg #[.int .i64 x0, .int .i64 x1, .int .i64 y0, .int .i64 y1, .int .i64 z0, .int .i64 z1, .int .i64 t0, .int .i64 t1]] w fun e w' => e = .returned (.bool true) ∧ Below w.heap.size w w' := by
  have hB_0 := Below.refl w.heap.size w
  have TM0 := Lib.hid tm0; have TM1 := Lib.hid tm1; have TM2 := Lib.hid tm2; have TM3 := Lib.hid tm3; have K0 := Lib.hid k0; have K1 := Lib.hid k1; have K2 := Lib.hid k2; have K3 := Lib.hid k3; have K4 := Lib.hid k4; have E1 := Lib.hid e1
  clear tm0 tm1 tm2 tm3 k0 k1 k2 k3 k4 e1
  obtain ⟨w1, hw1, pl_0, hb1, hs1⟩ := new_box w (w.heap.size) rfl [.int .i64 x0, .int .i64 x1, .int .i64 y0, .int .i64 y1, .int .i64 z0, .int .i64 z1, .int .i64 t0, .int .i64 t1] 37
  have hb1' : Below w.heap.size w w1 := hb1.mono (by omega)
  clear hb1
  have hB_1 := hB_0.trans (hb1'.mono hB_0.size)
  clear hb1' hB_0
  go_enter Try.func4, Try.ntmps4
  obtain ⟨ple0, ple1, ple2, ple3, ple4, ple5, ple6, ple7, ple8, ple9, ple10, ple11, ple12, ple13, ple14, ple15⟩ := pl_0.open8
  go_wp2_with fail
  refine (pfit_any _).mono ?_
  rintro e w2 ⟨rfl, hb2⟩
  clear ple0 ple1 ple2 ple3 ple4 ple5 ple6 ple7 ple8 ple9 ple10 ple11 ple12 ple13 ple14 ple15
  have hB_2 := hB_1.trans (hb2.mono hB_1.size)
  have pl_1 := pl_0.below hb2
  clear hb2 hB_1 pl_0
  obtain ⟨ple0, ple1, ple2, ple3, ple4, ple5, ple6, ple7, ple8, ple9, ple10, ple11, ple12, ple13, ple14, ple15⟩ := pl_1.open8
  go_wp2
  clear ple0 ple1 ple2 ple3 ple4 ple5 ple6 ple7 ple8 ple9 ple10 ple11 ple12 ple13 ple14 ple15
  have hWi_0 := Below.refl w2.heap.size w2
  have hsi : w.heap.size ≤ w2.heap.size := hB_2.size
  have hlipl := pl_1.lt
  have hB_3 := hB_2.drew'
  have pl_2 := pl_1.drew
  have hWi_1 := hWi_0.drew'
  clear hB_2 pl_1 hWi_0
  obtain ⟨FFi, hFFi⟩ : ∃ F : World → Prop, ∀ w', F w' ↔ (Below w.heap.size w w' ∧ Box w' (w.heap.size) [.int .i64 x0, .int .i64 x1, .int .i64 y0, .int .i64 y1, .int .i64 z0, .int .i64 z1, .int .i64 t0, .int .i64 t1] ∧ Below w2.heap.size w2 w') := ⟨_, fun _ => Iff.rfl⟩
  have cFi : ∀ {w' w'' : World}, FFi w' → Below w'.heap.size w' w'' → FFi w'' := by
    intro w' w'' h hb
    obtain ⟨y0, y1, y2⟩ := (hFFi _).1 h
    exact (hFFi _).2 ⟨y0.trans (hb.mono y0.size), y1.below hb, y2.trans (hb.mono y2.size)⟩
  have mFi : ∀ {w' : World}, FFi w' → w2.heap.size ≤ w'.heap.size := by
    intro w' h
    obtain ⟨y0, y1, y2⟩ := (hFFi _).1 h
    exact y2.size
  have sFi : ∀ {w' : World}, FFi w' → (w'.cell? ⟨w.heap.size, 0, none⟩ = some (.int .i64 x0) ∧ w'.cell? ⟨w.heap.size, 1, none⟩ = some (.int .i64 x1) ∧ w'.cell? ⟨w.heap.size, 2, none⟩ = some (.int .i64 y0) ∧ w'.cell? ⟨w.heap.size, 3, none⟩ = some (.int .i64 y1) ∧ w'.cell? ⟨w.heap.size, 4, none⟩ = some (.int .i64 z0) ∧ w'.cell? ⟨w.heap.size, 5, none⟩ = some (.int .i64 z1) ∧ w'.cell? ⟨w.heap.size, 6, none⟩ = some (.int .i64 t0) ∧ w'.cell? ⟨w.heap.size, 7, none⟩ = some (.int .i64 t1)) := by
    intro w' h
    obtain ⟨y0, y1, y2⟩ := (hFFi _).1 h
    exact ⟨y1.c0, y1.c1, y1.c2, y1.c3, y1.c4, y1.c5, y1.c6, y1.c7⟩
  have zF : FFi w2.drew := (hFFi _).2 ⟨hB_3, pl_2, hWi_1⟩
  clear hB_3 pl_2 hWi_1
  refine wp_region_noPanic ?_
  refine wp_region_held_drew (S := fun w' => w'.cell? ⟨w.heap.size, 0, none⟩ = some (.int .i64 x0) ∧ w'.cell? ⟨w.heap.size, 1, none⟩ = some (.int .i64 x1) ∧ w'.cell? ⟨w.heap.size, 2, none⟩ = some (.int .i64 y0) ∧ w'.cell? ⟨w.heap.size, 3, none⟩ = some (.int .i64 y1) ∧ w'.cell? ⟨w.heap.size, 4, none⟩ = some (.int .i64 z0) ∧ w'.cell? ⟨w.heap.size, 5, none⟩ = some (.int .i64 z1) ∧ w'.cell? ⟨w.heap.size, 6, none⟩ = some (.int .i64 t0) ∧ w'.cell? ⟨w.heap.size, 7, none⟩ = some (.int .i64 t1)) (by kernel_rfl) (sFi zF) (fun hHeld => ?_)
  refine reg_take 0 ?_ ?_ ?_ (by kernel_rfl) (by kernel_rfl) (by kernel_rfl) (fun _ _ _ h => h) ?_ ?_ (by assumption) ?_
  rotate_left 2
  · simp only [List.getElem?_toArray, List.getElem?_cons_zero]; exact rfl
  · rfl
  · intro w hSw; (try dsimp only at hSw); go_simp; try with_reducible rfl
  try simp only [Act.put]
  try simp only [List.setIfInBounds_toArray, List.set_cons_zero, List.set_cons_succ]
  refine reg_take 1 ?_ ?_ ?_ (by kernel_rfl) (by kernel_rfl) (by kernel_rfl) (fun _ _ _ h => h) ?_ ?_ (by assumption) ?_
  rotate_left 2
  · simp only [List.getElem?_toArray, List.getElem?_cons_succ, List.getElem?_cons_zero]; exact rfl
  · rfl
  · intro w hSw; (try dsimp only at hSw); go_simp; try with_reducible rfl
  try simp only [Act.put]
  try simp only [List.setIfInBounds_toArray, List.set_cons_zero, List.set_cons_succ]
  refine reg_take 3 ?_ ?_ ?_ (by kernel_rfl) (by kernel_rfl) (by kernel_rfl) (fun _ _ _ h => h) ?_ ?_ (by assumption) ?_
  rotate_left 2
  · simp only [List.getElem?_toArray, List.getElem?_cons_succ, List.getElem?_cons_zero]; exact rfl
  · rfl
  · intro w hSw; (try dsimp only at hSw); go_simp; try with_reducible rfl
  try simp only [Act.put]
  try simp only [List.setIfInBounds_toArray, List.set_cons_zero, List.set_cons_succ]
  refine reg_take 4 ?_ ?_ ?_ (by kernel_rfl) (by kernel_rfl) (by kernel_rfl) (fun _ _ _ h => h) ?_ ?_ (by assumption) ?_
  rotate_left 2
  · simp only [List.getElem?_toArray, List.getElem?_cons_succ, List.getElem?_cons_zero]; exact rfl
  · rfl
  · intro w hSw; (try dsimp only at hSw); go_simp; try with_reducible rfl
  try simp only [Act.put]
  try simp only [List.setIfInBounds_toArray, List.set_cons_zero, List.set_cons_succ]
  refine reg_take 6 ?_ ?_ ?_ (by kernel_rfl) (by kernel_rfl) (by kernel_rfl) (fun _ _ _ h => h) ?_ ?_ (by assumption) ?_
  rotate_left 2
  · simp only [List.getElem?_toArray, List.getElem?_cons_succ, List.getElem?_cons_zero]; exact rfl
  · rfl
  · intro w hSw; (try dsimp only at hSw); go_simp; try with_reducible rfl
  try simp only [Act.put]
  try simp only [List.setIfInBounds_toArray, List.set_cons_zero, List.set_cons_succ]
  refine reg_take 7 ?_ ?_ ?_ (by kernel_rfl) (by kernel_rfl) (by kernel_rfl) (fun _ _ _ h => h) ?_ ?_ (by assumption) ?_
  rotate_left 2
  · simp only [List.getElem?_toArray, List.getElem?_cons_succ, List.getElem?_cons_zero]; exact rfl
  · rfl
  · intro w hSw; (try dsimp only at hSw); go_simp; try with_reducible rfl
  try simp only [Act.put]
  try simp only [List.setIfInBounds_toArray, List.set_cons_zero, List.set_cons_succ]
  refine reg_take 9 ?_ ?_ ?_ (by kernel_rfl) (by kernel_rfl) (by kernel_rfl) (fun _ _ _ h => h) ?_ ?_ (by assumption) ?_
  rotate_left 2
  · simp only [List.getElem?_toArray, List.getElem?_cons_succ, List.getElem?_cons_zero]; exact rfl
  · rfl
  · intro w hSw; (try dsimp only at hSw); go_simp; try with_reducible rfl
  try simp only [Act.put]
  try simp only [List.setIfInBounds_toArray, List.set_cons_zero, List.set_cons_succ]
  refine reg_take 10 ?_ ?_ ?_ (by kernel_rfl) (by kernel_rfl) (by kernel_rfl) (fun _ _ _ h => h) ?_ ?_ (by assumption) ?_
  rotate_left 2
  · simp only [List.getElem?_toArray, List.getElem?_cons_succ, List.getElem?_cons_zero]; exact rfl
  · rfl
  · intro w hSw; (try dsimp only at hSw); go_simp; try with_reducible rfl
  try simp only [Act.put]
  try simp only [List.setIfInBounds_toArray, List.set_cons_zero, List.set_cons_succ]
  refine reg_grab (fun WWi ai hWW hAA => ?_)
  rw [hWW]
  have HAi := Lib.hid hAA; clear hWW hAA hHeld
  obtain ⟨IVi, hIVi⟩ : ∃ IV : Array Bool → Act → World → Prop, ∀ l a w', IV l a w' ↔ ∃ (k : Nat) (bb0 bb1 bb2 bb3 : Bool) (v0_ v1_ v2_ v3_ p0_ p1_ p2_ p3_ : Value) (gpa gpb gpv gpu : Nat), k ≤ 4 ∧ l = #[true, true, decide (1 ≤ k), true, true, decide (2 ≤ k), true, true, decide (3 ≤ k), true, true, decide (4 ≤ k), bb0, bb1, bb2, bb3, false, false, false, false] ∧ a = ((((((((ai.put (some 12) v0_).put (some 15) v1_).put (some 18) v2_).put (some 21) v3_).put (some 3) p0_).put (some 4) p1_).put (some 5) p2_).put (some 6) p3_) ∧ FFi w' ∧ (1 ≤ k → v0_ = .agg #[.int .i64 a0, .int .i64 a1]) ∧ (2 ≤ k → v1_ = .agg #[.int .i64 b0, .int .i64 b1]) ∧ (3 ≤ k → v2_ = .agg #[.int .i64 v0, .int .i64 v1]) ∧ (4 ≤ k → v3_ = .agg #[.int .i64 u0, .int .i64 u1]) ∧ (bb0 = true → p0_ = .pointer (some ⟨gpa, 0, none⟩) ∧ Box w' gpa [.int .i64 0, .int .i64 0] ∧ w2.heap.size ≤ gpa) ∧ (bb1 = true → p1_ = .pointer (some ⟨gpb, 0, none⟩) ∧ Box w' gpb [.int .i64 0, .int .i64 0] ∧ w2.heap.size ≤ gpb) ∧ (bb2 = true → p2_ = .pointer (some ⟨gpv, 0, none⟩) ∧ Box w' gpv [.int .i64 0, .int .i64 0] ∧ w2.heap.size ≤ gpv) ∧ (bb3 = true → p3_ = .pointer (some ⟨gpu, 0, none⟩) ∧ Box w' gpu [.int .i64 0, .int .i64 0] ∧ w2.heap.size ≤ gpu) ∧ (bb0 = true → bb1 = true → gpa ≠ gpb) ∧ (bb0 = true → bb2 = true → gpa ≠ gpv) ∧ (bb0 = true → bb3 = true → gpa ≠ gpu) ∧ (bb1 = true → bb2 = true → gpb ≠ gpv) ∧ (bb1 = true → bb3 = true → gpb ≠ gpu) ∧ (bb2 = true → bb3 = true → gpv ≠ gpu) := ⟨_, fun _ _ _ => Iff.rfl⟩
  refine wpAnyH_until IVi ?_ _ _ _ _ ((hIVi _ _ _).2 ⟨0, false, false, false, false, (ai.tmps.getD 12 undef), (ai.tmps.getD 15 undef), (ai.tmps.getD 18 undef), (ai.tmps.getD 21 undef), (ai.tmps.getD 3 undef), (ai.tmps.getD 4 undef), (ai.tmps.getD 5 undef), (ai.tmps.getD 6 undef), 0, 0, 0, 0, Nat.zero_le _, rfl, (by simp only [put_same]), zF, (fun h => absurd h (by omega)), (fun h => absurd h (by omega)), (fun h => absurd h (by omega)), (fun h => absurd h (by omega)), (fun h => by cases h), (fun h => by cases h), (fun h => by cases h), (fun h => by cases h), (fun h => by cases h), (fun h => by cases h), (fun h => by cases h), (fun h => by cases h), (fun h => by cases h), (fun h => by cases h)⟩) (by kernel_rfl)
  clear zF
  intro ll aa w3 hI
  obtain ⟨k, bb0, bb1, bb2, bb3, v0_, v1_, v2_, v3_, p0_, p1_, p2_, p3_, gpa, gpb, gpv, gpu, hk, rfl, rfl, zF, rr1, rr2, rr3, rr4, zz0, zz1, zz2, zz3, n0_1, n0_2, n0_3, n1_2, n1_3, n2_3⟩ := (hIVi _ _ _).1 hI
  clear hI
  by_cases hL : k = 4 ∧ bb0 = true ∧ bb1 = true ∧ bb2 = true ∧ bb3 = true
  · left
    obtain ⟨rfl, rfl, rfl, rfl, rfl⟩ := hL
    obtain rfl := rr1 (by omega)
    obtain rfl := rr2 (by omega)
    obtain rfl := rr3 (by omega)
    obtain rfl := rr4 (by omega)
    obtain ⟨rfl, pa_0, hgpa⟩ := zz0 rfl
    obtain ⟨rfl, pb_0, hgpb⟩ := zz1 rfl
    obtain ⟨rfl, pv_0, hgpv⟩ := zz2 rfl
    obtain ⟨rfl, pu_0, hgpu⟩ := zz3 rfl
    have hnpapb := n0_1 rfl rfl
    have hnpapv := n0_2 rfl rfl
    have hnpapu := n0_3 rfl rfl
    have hnpbpv := n1_2 rfl rfl
    have hnpbpu := n1_3 rfl rfl
    have hnpvpu := n2_3 rfl rfl
    clear hk zz0 zz1 zz2 zz3 n0_1 n0_2 n0_3 n1_2 n1_3 n2_3
    show wpAnyH _ _ _ _ _ 4 _ _ _
    rw [HAi.out]
    try simp only [Act.put]
    try simp only [List.setIfInBounds_toArray, List.set_cons_zero, List.set_cons_succ]
    obtain ⟨hB_0, pl_0, hWi_0⟩ := (hFFi _).1 zF
    clear zF
    clear hWi_0
    obtain ⟨sf1a, sf1b, sf1c, sf1d⟩ := pa_0.open2
    obtain ⟨sg1a, sg1b⟩ := Box.put2 pa_0 (.int .i64 a0)
    refine reg_call 16 ?_ (by kernel_rfl) ?_ (fun K hK => ?_)
    rotate_left 1
    · simp only [List.getElem?_toArray, List.getElem?_cons_succ, List.getElem?_cons_zero]; exact rfl
    go_simp
    have hB_1 := below_setAll hB_0 (g := gpa) (by omega) [.int .i64 a0, .int .i64 a1]
    have pl_1 := pl_0.farAll (g' := gpa) (by omega) [.int .i64 a0, .int .i64 a1]
    have pb_1 := pb_0.farAll (g' := gpa) (by omega) [.int .i64 a0, .int .i64 a1]
    have pv_1 := pv_0.farAll (g' := gpa) (by omega) [.int .i64 a0, .int .i64 a1]
    have pu_1 := pu_0.farAll (g' := gpa) (by omega) [.int .i64 a0, .int .i64 a1]
    have pa_1 := pa_0.setAll [.int .i64 a0, .int .i64 a1] rfl
    simp only [setAll, Nat.zero_add] at hB_1 pl_1 pa_1 pb_1 pv_1 pu_1
    clear sf1a sf1b sf1c sf1d sg1a sg1b
    clear hB_0 pl_0 pb_0 pv_0 pu_0 pa_0
    refine hK.out _ _ ⟨pl_1.c0, pl_1.c1, pl_1.c2, pl_1.c3, pl_1.c4, pl_1.c5, pl_1.c6, pl_1.c7⟩ (fun hHeld => ?_)
    clear hK K
    try simp only [Act.put]
    try simp only [List.setIfInBounds_toArray, List.set_cons_zero, List.set_cons_succ]
    generalize (World.setCell (World.setCell w3 ⟨gpa, 0, none⟩ (.int .i64 a0)) ⟨gpa, 1, none⟩ (.int .i64 a1)) = w4 at *
    obtain ⟨sf2a, sf2b, sf2c, sf2d⟩ := pb_1.open2
    obtain ⟨sg2a, sg2b⟩ := Box.put2 pb_1 (.int .i64 b0)
    refine reg_call 17 ?_ (by kernel_rfl) ?_ (fun K hK => ?_)
    rotate_left 1
    · simp only [List.getElem?_toArray, List.getElem?_cons_succ, List.getElem?_cons_zero]; exact rfl
    go_simp
    have hB_2 := below_setAll hB_1 (g := gpb) (by omega) [.int .i64 b0, .int .i64 b1]
    have pl_2 := pl_1.farAll (g' := gpb) (by omega) [.int .i64 b0, .int .i64 b1]
    have pa_2 := pa_1.farAll (g' := gpb) (by omega) [.int .i64 b0, .int .i64 b1]
    have pv_2 := pv_1.farAll (g' := gpb) (by omega) [.int .i64 b0, .int .i64 b1]
    have pu_2 := pu_1.farAll (g' := gpb) (by omega) [.int .i64 b0, .int .i64 b1]
    have pb_2 := pb_1.setAll [.int .i64 b0, .int .i64 b1] rfl
    simp only [setAll, Nat.zero_add] at hB_2 pl_2 pa_2 pb_2 pv_2 pu_2
    clear sf2a sf2b sf2c sf2d sg2a sg2b
    clear hB_1 pl_1 pa_1 pv_1 pu_1 pb_1
    refine hK.out _ _ ⟨pl_2.c0, pl_2.c1, pl_2.c2, pl_2.c3, pl_2.c4, pl_2.c5, pl_2.c6, pl_2.c7⟩ (fun hHeld => ?_)
    clear hK K
    try simp only [Act.put]
    try simp only [List.setIfInBounds_toArray, List.set_cons_zero, List.set_cons_succ]
    generalize (World.setCell (World.setCell w4 ⟨gpb, 0, none⟩ (.int .i64 b0)) ⟨gpb, 1, none⟩ (.int .i64 b1)) = w5 at *
    obtain ⟨sf3a, sf3b, sf3c, sf3d⟩ := pv_2.open2
    obtain ⟨sg3a, sg3b⟩ := Box.put2 pv_2 (.int .i64 v0)
    refine reg_call 18 ?_ (by kernel_rfl) ?_ (fun K hK => ?_)
    rotate_left 1
    · simp only [List.getElem?_toArray, List.getElem?_cons_succ, List.getElem?_cons_zero]; exact rfl
    go_simp
    have hB_3 := below_setAll hB_2 (g := gpv) (by omega) [.int .i64 v0, .int .i64 v1]
    have pl_3 := pl_2.farAll (g' := gpv) (by omega) [.int .i64 v0, .int .i64 v1]
    have pa_3 := pa_2.farAll (g' := gpv) (by omega) [.int .i64 v0, .int .i64 v1]
    have pb_3 := pb_2.farAll (g' := gpv) (by omega) [.int .i64 v0, .int .i64 v1]
    have pu_3 := pu_2.farAll (g' := gpv) (by omega) [.int .i64 v0, .int .i64 v1]
    have pv_3 := pv_2.setAll [.int .i64 v0, .int .i64 v1] rfl
    simp only [setAll, Nat.zero_add] at hB_3 pl_3 pa_3 pb_3 pv_3 pu_3
    clear sf3a sf3b sf3c sf3d sg3a sg3b
    clear hB_2 pl_2 pa_2 pb_2 pu_2 pv_2
    refine hK.out _ _ ⟨pl_3.c0, pl_3.c1, pl_3.c2, pl_3.c3, pl_3.c4, pl_3.c5, pl_3.c6, pl_3.c7⟩ (fun hHeld => ?_)
    clear hK K
    try simp only [Act.put]
    try simp only [List.setIfInBounds_toArray, List.set_cons_zero, List.set_cons_succ]
    generalize (World.setCell (World.setCell w5 ⟨gpv, 0, none⟩ (.int .i64 v0)) ⟨gpv, 1, none⟩ (.int .i64 v1)) = w6 at *
    obtain ⟨sf4a, sf4b, sf4c, sf4d⟩ := pu_3.open2
    obtain ⟨sg4a, sg4b⟩ := Box.put2 pu_3 (.int .i64 u0)
    refine reg_call 19 ?_ (by kernel_rfl) ?_ (fun K hK => ?_)
    rotate_left 1
    · simp only [List.getElem?_toArray, List.getElem?_cons_succ, List.getElem?_cons_zero]; exact rfl
    go_simp
    have hB_4 := below_setAll hB_3 (g := gpu) (by omega) [.int .i64 u0, .int .i64 u1]
    have pl_4 := pl_3.farAll (g' := gpu) (by omega) [.int .i64 u0, .int .i64 u1]
    have pa_4 := pa_3.farAll (g' := gpu) (by omega) [.int .i64 u0, .int .i64 u1]
    have pb_4 := pb_3.farAll (g' := gpu) (by omega) [.int .i64 u0, .int .i64 u1]
    have pv_4 := pv_3.farAll (g' := gpu) (by omega) [.int .i64 u0, .int .i64 u1]
    have pu_4 := pu_3.setAll [.int .i64 u0, .int .i64 u1] rfl
    simp only [setAll, Nat.zero_add] at hB_4 pl_4 pa_4 pb_4 pv_4 pu_4
    clear sf4a sf4b sf4c sf4d sg4a sg4b
    clear hB_3 pl_3 pa_3 pb_3 pv_3 pu_3
    refine hK.out _ _ ⟨pl_4.c0, pl_4.c1, pl_4.c2, pl_4.c3, pl_4.c4, pl_4.c5, pl_4.c6, pl_4.c7⟩ (fun hHeld => ?_)
    clear hK K
    try simp only [Act.put]
    try simp only [List.setIfInBounds_toArray, List.set_cons_zero, List.set_cons_succ]
    generalize (World.setCell (World.setCell w6 ⟨gpu, 0, none⟩ (.int .i64 u0)) ⟨gpu, 1, none⟩ (.int .i64 u1)) = w7 at *
    refine wpAnyH_done (by kernel_rfl) ?_ _
    refine NoPanic.normal ?_
    clear pl_4
    obtain ⟨pae0, pae1, pae2, pae3⟩ := pa_4.open2
    obtain ⟨pbe0, pbe1, pbe2, pbe3⟩ := pb_4.open2
    obtain ⟨pve0, pve1, pve2, pve3⟩ := pv_4.open2
    obtain ⟨pue0, pue1, pue2, pue3⟩ := pu_4.open2
    go_wp2_with fail
    refine (K0.out _).mono ?_
    rintro e w8 ⟨rfl, hb8⟩
    clear pae0 pae1 pae2 pae3 pbe0 pbe1 pbe2 pbe3 pve0 pve1 pve2 pve3 pue0 pue1 pue2 pue3
    have hB_5 := hB_4.trans (hb8.mono hB_4.size)
    have pa_5 := pa_4.below hb8
    have pb_5 := pb_4.below hb8
    have pv_5 := pv_4.below hb8
    have pu_5 := pu_4.below hb8
    clear hb8 hB_4 pa_4 pb_4 pv_4 pu_4
    obtain ⟨pae0, pae1, pae2, pae3⟩ := pa_5.open2
    obtain ⟨pbe0, pbe1, pbe2, pbe3⟩ := pb_5.open2
    obtain ⟨pve0, pve1, pve2, pve3⟩ := pv_5.open2
    obtain ⟨pue0, pue1, pue2, pue3⟩ := pu_5.open2
    clear pae0 pae1 pae2 pae3 pbe0 pbe1 pbe2 pbe3 pve0 pve1 pve2 pve3 pue0 pue1 pue2 pue3
    obtain ⟨swu0, swu1, swu2, swu3⟩ := pb_5.open2
    obtain ⟨sww0, sww1, sww2, sww3⟩ := pv_5.open2
    obtain ⟨sf5a, sf5b, sf5c, sf5d⟩ := pb_5.open2
    obtain ⟨sg5a, sg5b⟩ := Box.put2 pb_5 (.int .i64 v0)
    have hB_6 := below_setAll hB_5 (g := gpb) (by omega) [.int .i64 v0, .int .i64 v1]
    have pa_6 := pa_5.farAll (g' := gpb) (by omega) [.int .i64 v0, .int .i64 v1]
    have pv_6 := pv_5.farAll (g' := gpb) (by omega) [.int .i64 v0, .int .i64 v1]
    have pu_6 := pu_5.farAll (g' := gpb) (by omega) [.int .i64 v0, .int .i64 v1]
    have pb_6 := pb_5.setAll [.int .i64 v0, .int .i64 v1] rfl
    simp only [setAll, Nat.zero_add] at hB_6 pa_6 pb_6 pv_6 pu_6
    obtain ⟨sf6a, sf6b, sf6c, sf6d⟩ := pv_6.open2
    obtain ⟨sg6a, sg6b⟩ := Box.put2 pv_6 (.int .i64 b0)
    have hB_7 := below_setAll hB_6 (g := gpv) (by omega) [.int .i64 b0, .int .i64 b1]
    have pa_7 := pa_6.farAll (g' := gpv) (by omega) [.int .i64 b0, .int .i64 b1]
    have pb_7 := pb_6.farAll (g' := gpv) (by omega) [.int .i64 b0, .int .i64 b1]
    have pu_7 := pu_6.farAll (g' := gpv) (by omega) [.int .i64 b0, .int .i64 b1]
    have pv_7 := pv_6.setAll [.int .i64 b0, .int .i64 b1] rfl
    simp only [setAll, Nat.zero_add] at hB_7 pa_7 pb_7 pv_7 pu_7
    obtain ⟨pae0, pae1, pae2, pae3⟩ := pa_7.open2
    obtain ⟨pbe0, pbe1, pbe2, pbe3⟩ := pb_7.open2
    obtain ⟨pve0, pve1, pve2, pve3⟩ := pv_7.open2
    obtain ⟨pue0, pue1, pue2, pue3⟩ := pu_7.open2
    go_wp2_with fail
    clear sf5a sf5b sf5c sf5d sg5a sg5b sf6a sf6b sf6c sf6d sg6a sg6b hB_5 pa_5 pv_5 pu_5 pb_5 hB_6 pa_6 pb_6 pu_6 pv_6
    generalize (World.setCell (World.setCell (World.setCell (World.setCell w8 ⟨gpb, 0, none⟩ (.int .i64 v0)) ⟨gpb, 1, none⟩ (.int .i64 v1)) ⟨gpv, 0, none⟩ (.int .i64 b0)) ⟨gpv, 1, none⟩ (.int .i64 b1)) = w9 at *
    clear swu0 swu1 swu2 swu3 sww0 sww1 sww2 sww3
    clear pae0 pae1 pae2 pae3 pbe0 pbe1 pbe2 pbe3 pve0 pve1 pve2 pve3 pue0 pue1 pue2 pue3
    obtain ⟨pae0, pae1, pae2, pae3⟩ := pa_7.open2
    obtain ⟨pbe0, pbe1, pbe2, pbe3⟩ := pb_7.open2
    obtain ⟨pve0, pve1, pve2, pve3⟩ := pv_7.open2
    obtain ⟨pue0, pue1, pue2, pue3⟩ := pu_7.open2
    have e1 := E1.out
    go_wp2_with fail
    refine (K1.out _).mono ?_
    rintro e w10 ⟨rfl, hb10⟩
    clear pae0 pae1 pae2 pae3 pbe0 pbe1 pbe2 pbe3 pve0 pve1 pve2 pve3 pue0 pue1 pue2 pue3
    have hB_8 := hB_7.trans (hb10.mono hB_7.size)
    have pa_8 := pa_7.below hb10
    have pb_8 := pb_7.below hb10
    have pv_8 := pv_7.below hb10
    have pu_8 := pu_7.below hb10
    clear hb10 hB_7 pa_7 pb_7 pv_7 pu_7
    obtain ⟨pae0, pae1, pae2, pae3⟩ := pa_8.open2
    obtain ⟨pbe0, pbe1, pbe2, pbe3⟩ := pb_8.open2
    obtain ⟨pve0, pve1, pve2, pve3⟩ := pv_8.open2
    obtain ⟨pue0, pue1, pue2, pue3⟩ := pu_8.open2
    go_wp2_with fail
    refine (K2.out _).mono ?_
    rintro e w11 ⟨rfl, hb11⟩
    clear pae0 pae1 pae2 pae3 pbe0 pbe1 pbe2 pbe3 pve0 pve1 pve2 pve3 pue0 pue1 pue2 pue3
    have hB_9 := hB_8.trans (hb11.mono hB_8.size)
    have pa_9 := pa_8.below hb11
    have pb_9 := pb_8.below hb11
    have pv_9 := pv_8.below hb11
    have pu_9 := pu_8.below hb11
    clear hb11 hB_8 pa_8 pb_8 pv_8 pu_8
    obtain ⟨pae0, pae1, pae2, pae3⟩ := pa_9.open2
    obtain ⟨pbe0, pbe1, pbe2, pbe3⟩ := pb_9.open2
    obtain ⟨pve0, pve1, pve2, pve3⟩ := pv_9.open2
    obtain ⟨pue0, pue1, pue2, pue3⟩ := pu_9.open2
    go_wp2_with fail
    refine (K3.out _).mono ?_
    rintro e w12 ⟨rfl, hb12⟩
    clear pae0 pae1 pae2 pae3 pbe0 pbe1 pbe2 pbe3 pve0 pve1 pve2 pve3 pue0 pue1 pue2 pue3
    have hB_10 := hB_9.trans (hb12.mono hB_9.size)
    have pa_10 := pa_9.below hb12
    have pb_10 := pb_9.below hb12
    have pv_10 := pv_9.below hb12
    have pu_10 := pu_9.below hb12
    clear hb12 hB_9 pa_9 pb_9 pv_9 pu_9
    obtain ⟨pae0, pae1, pae2, pae3⟩ := pa_10.open2
    obtain ⟨pbe0, pbe1, pbe2, pbe3⟩ := pb_10.open2
    obtain ⟨pve0, pve1, pve2, pve3⟩ := pv_10.open2
    obtain ⟨pue0, pue1, pue2, pue3⟩ := pu_10.open2
    go_wp2_with fail
    refine (K4.out _).mono ?_
    rintro e w13 ⟨rfl, hb13⟩
    clear pae0 pae1 pae2 pae3 pbe0 pbe1 pbe2 pbe3 pve0 pve1 pve2 pve3 pue0 pue1 pue2 pue3
    have hB_11 := hB_10.trans (hb13.mono hB_10.size)
    have pa_11 := pa_10.below hb13
    have pb_11 := pb_10.below hb13
    have pv_11 := pv_10.below hb13
    have pu_11 := pu_10.below hb13
    clear hb13 hB_10 pa_10 pb_10 pv_10 pu_10
    obtain ⟨pae0, pae1, pae2, pae3⟩ := pa_11.open2
    obtain ⟨pbe0, pbe1, pbe2, pbe3⟩ := pb_11.open2
    obtain ⟨pve0, pve1, pve2, pve3⟩ := pv_11.open2
    obtain ⟨pue0, pue1, pue2, pue3⟩ := pu_11.open2
    go_wp2
    go_ret
    exact ⟨rfl, hB_11⟩
  · right
    refine ⟨?_, fun i hi => ?_⟩
    · clear zF rr1 rr2 rr3 rr4 zz0 zz1 zz2 zz3 n0_1 n0_2 n0_3 n1_2 n1_3 n2_3
      obtain rfl | rfl | rfl | rfl | rfl : k = 0 ∨ k = 1 ∨ k = 2 ∨ k = 3 ∨ k = 4 := by omega
      all_goals cases bb0
      all_goals cases bb1
      all_goals cases bb2
      all_goals cases bb3
      all_goals first | exact absurd ⟨rfl, rfl, rfl, rfl, rfl⟩ hL | exact of_decide_eq_true (by kernel_rfl)
    have hd : (k = 0 ∧ i = 2) ∨ (k = 1 ∧ i = 5) ∨ (k = 2 ∧ i = 8) ∨ (k = 3 ∧ i = 11) ∨ (bb0 = false ∧ i = 12) ∨ (bb1 = false ∧ i = 13) ∨ (bb2 = false ∧ i = 14) ∨ (bb3 = false ∧ i = 15) := by
      clear zF rr1 rr2 rr3 rr4 zz0 zz1 zz2 zz3 n0_1 n0_2 n0_3 n1_2 n1_3 n2_3
      revert i
      obtain rfl | rfl | rfl | rfl | rfl : k = 0 ∨ k = 1 ∨ k = 2 ∨ k = 3 ∨ k = 4 := by omega
      all_goals cases bb0
      all_goals cases bb1
      all_goals cases bb2
      all_goals cases bb3
      all_goals first | exact absurd ⟨rfl, rfl, rfl, rfl, rfl⟩ hL | exact of_decide_eq_true (by kernel_rfl)
    clear hi hL
    rcases hd with ⟨rfl, rfl⟩ | ⟨rfl, rfl⟩ | ⟨rfl, rfl⟩ | ⟨rfl, rfl⟩ | ⟨rfl, rfl⟩ | ⟨rfl, rfl⟩ | ⟨rfl, rfl⟩ | ⟨rfl, rfl⟩
    · refine step_of 2 ?_ ?_ (fun K hK => ?_)
      rotate_left 1
      · simp only [List.getElem?_toArray, List.getElem?_cons_succ, List.getElem?_cons_zero]; exact rfl
      rw [HAi.out]
      try simp only [Act.put]
      try simp only [List.setIfInBounds_toArray, List.set_cons_zero, List.set_cons_succ]
      go_simp
      refine (TM0.out _).mono ?_
      rintro e w14 ⟨rfl, hb⟩
      go_wp2_with fail
      refine hK.out _ _ (sFi (cFi zF hb)) ?_
      exact (hIVi _ _ _).2 ⟨1, bb0, bb1, bb2, bb3, (.agg #[.int .i64 a0, .int .i64 a1]), v1_, v2_, v3_, p0_, p1_, p2_, p3_, gpa, gpb, gpv, gpu, (by omega), rfl, (by simp only [HAi.out, Act.put, List.setIfInBounds_toArray, List.set_cons_zero, List.set_cons_succ]), (cFi zF hb), (fun _ => rfl), (fun h => absurd h (by omega)), (fun h => absurd h (by omega)), (fun h => absurd h (by omega)), (fun h => ⟨(zz0 h).1, (zz0 h).2.1.below hb, (zz0 h).2.2⟩), (fun h => ⟨(zz1 h).1, (zz1 h).2.1.below hb, (zz1 h).2.2⟩), (fun h => ⟨(zz2 h).1, (zz2 h).2.1.below hb, (zz2 h).2.2⟩), (fun h => ⟨(zz3 h).1, (zz3 h).2.1.below hb, (zz3 h).2.2⟩), n0_1, n0_2, n0_3, n1_2, n1_3, n2_3⟩
    · obtain rfl := rr1 (by omega)
      refine step_of 5 ?_ ?_ (fun K hK => ?_)
      rotate_left 1
      · simp only [List.getElem?_toArray, List.getElem?_cons_succ, List.getElem?_cons_zero]; exact rfl
      rw [HAi.out]
      try simp only [Act.put]
      try simp only [List.setIfInBounds_toArray, List.set_cons_zero, List.set_cons_succ]
      go_simp
      refine (TM1.out _).mono ?_
      rintro e w15 ⟨rfl, hb⟩
      go_wp2_with fail
      refine hK.out _ _ (sFi (cFi zF hb)) ?_
      exact (hIVi _ _ _).2 ⟨2, bb0, bb1, bb2, bb3, _, (.agg #[.int .i64 b0, .int .i64 b1]), v2_, v3_, p0_, p1_, p2_, p3_, gpa, gpb, gpv, gpu, (by omega), rfl, (by simp only [HAi.out, Act.put, List.setIfInBounds_toArray, List.set_cons_zero, List.set_cons_succ]), (cFi zF hb), (fun _ => rfl), (fun _ => rfl), (fun h => absurd h (by omega)), (fun h => absurd h (by omega)), (fun h => ⟨(zz0 h).1, (zz0 h).2.1.below hb, (zz0 h).2.2⟩), (fun h => ⟨(zz1 h).1, (zz1 h).2.1.below hb, (zz1 h).2.2⟩), (fun h => ⟨(zz2 h).1, (zz2 h).2.1.below hb, (zz2 h).2.2⟩), (fun h => ⟨(zz3 h).1, (zz3 h).2.1.below hb, (zz3 h).2.2⟩), n0_1, n0_2, n0_3, n1_2, n1_3, n2_3⟩
    · obtain rfl := rr1 (by omega)
      obtain rfl := rr2 (by omega)
      refine step_of 8 ?_ ?_ (fun K hK => ?_)
      rotate_left 1
      · simp only [List.getElem?_toArray, List.getElem?_cons_succ, List.getElem?_cons_zero]; exact rfl
      rw [HAi.out]
      try simp only [Act.put]
      try simp only [List.setIfInBounds_toArray, List.set_cons_zero, List.set_cons_succ]
      go_simp
      refine (TM2.out _).mono ?_
      rintro e w16 ⟨rfl, hb⟩
      go_wp2_with fail
      refine hK.out _ _ (sFi (cFi zF hb)) ?_
      exact (hIVi _ _ _).2 ⟨3, bb0, bb1, bb2, bb3, _, _, (.agg #[.int .i64 v0, .int .i64 v1]), v3_, p0_, p1_, p2_, p3_, gpa, gpb, gpv, gpu, (by omega), rfl, (by simp only [HAi.out, Act.put, List.setIfInBounds_toArray, List.set_cons_zero, List.set_cons_succ]), (cFi zF hb), (fun _ => rfl), (fun _ => rfl), (fun _ => rfl), (fun h => absurd h (by omega)), (fun h => ⟨(zz0 h).1, (zz0 h).2.1.below hb, (zz0 h).2.2⟩), (fun h => ⟨(zz1 h).1, (zz1 h).2.1.below hb, (zz1 h).2.2⟩), (fun h => ⟨(zz2 h).1, (zz2 h).2.1.below hb, (zz2 h).2.2⟩), (fun h => ⟨(zz3 h).1, (zz3 h).2.1.below hb, (zz3 h).2.2⟩), n0_1, n0_2, n0_3, n1_2, n1_3, n2_3⟩
    · obtain rfl := rr1 (by omega)
      obtain rfl := rr2 (by omega)
      obtain rfl := rr3 (by omega)
      refine step_of 11 ?_ ?_ (fun K hK => ?_)
      rotate_left 1
      · simp only [List.getElem?_toArray, List.getElem?_cons_succ, List.getElem?_cons_zero]; exact rfl
      rw [HAi.out]
      try simp only [Act.put]
      try simp only [List.setIfInBounds_toArray, List.set_cons_zero, List.set_cons_succ]
      go_simp
      refine (TM3.out _).mono ?_
      rintro e w17 ⟨rfl, hb⟩
      go_wp2_with fail
      refine hK.out _ _ (sFi (cFi zF hb)) ?_
      exact (hIVi _ _ _).2 ⟨4, bb0, bb1, bb2, bb3, _, _, _, (.agg #[.int .i64 u0, .int .i64 u1]), p0_, p1_, p2_, p3_, gpa, gpb, gpv, gpu, (by omega), rfl, (by simp only [HAi.out, Act.put, List.setIfInBounds_toArray, List.set_cons_zero, List.set_cons_succ]), (cFi zF hb), (fun _ => rfl), (fun _ => rfl), (fun _ => rfl), (fun _ => rfl), (fun h => ⟨(zz0 h).1, (zz0 h).2.1.below hb, (zz0 h).2.2⟩), (fun h => ⟨(zz1 h).1, (zz1 h).2.1.below hb, (zz1 h).2.2⟩), (fun h => ⟨(zz2 h).1, (zz2 h).2.1.below hb, (zz2 h).2.2⟩), (fun h => ⟨(zz3 h).1, (zz3 h).2.1.below hb, (zz3 h).2.2⟩), n0_1, n0_2, n0_3, n1_2, n1_3, n2_3⟩
    · refine step_of 12 ?_ ?_ (fun K hK => ?_)
      rotate_left 1
      · simp only [List.getElem?_toArray, List.getElem?_cons_succ, List.getElem?_cons_zero]; exact rfl
      rw [HAi.out]
      try simp only [Act.put]
      try simp only [List.setIfInBounds_toArray, List.set_cons_zero, List.set_cons_succ]
      go_simp
      have hgn := mFi zF
      have hl1 : bb1 = true → gpb < w3.heap.size := fun h => (zz1 h).2.1.lt
      have hl2 : bb2 = true → gpv < w3.heap.size := fun h => (zz2 h).2.1.lt
      have hl3 : bb3 = true → gpu < w3.heap.size := fun h => (zz3 h).2.1.lt
      obtain ⟨wn, hwn, pa_0, hb, -⟩ := new_box w3 _ rfl [.int .i64 0, .int .i64 0] 23
      rw [hwn]
      refine hK.out _ _ (sFi (cFi zF hb)) ?_
      exact (hIVi _ _ _).2 ⟨k, true, bb1, bb2, bb3, v0_, v1_, v2_, v3_, (.pointer (some ⟨w3.heap.size, 0, none⟩)), p1_, p2_, p3_, w3.heap.size, gpb, gpv, gpu, hk, rfl, (by simp only [HAi.out, Act.put, List.setIfInBounds_toArray, List.set_cons_zero, List.set_cons_succ]), (cFi zF hb), rr1, rr2, rr3, rr4, (fun _ => ⟨rfl, pa_0, hgn⟩), (fun h => ⟨(zz1 h).1, (zz1 h).2.1.below hb, (zz1 h).2.2⟩), (fun h => ⟨(zz2 h).1, (zz2 h).2.1.below hb, (zz2 h).2.2⟩), (fun h => ⟨(zz3 h).1, (zz3 h).2.1.below hb, (zz3 h).2.2⟩), (fun _ h => by have := hl1 h; omega), (fun _ h => by have := hl2 h; omega), (fun _ h => by have := hl3 h; omega), n1_2, n1_3, n2_3⟩
    · refine step_of 13 ?_ ?_ (fun K hK => ?_)
      rotate_left 1
      · simp only [List.getElem?_toArray, List.getElem?_cons_succ, List.getElem?_cons_zero]; exact rfl
      rw [HAi.out]
      try simp only [Act.put]
      try simp only [List.setIfInBounds_toArray, List.set_cons_zero, List.set_cons_succ]
      go_simp
      have hgn := mFi zF
      have hl0 : bb0 = true → gpa < w3.heap.size := fun h => (zz0 h).2.1.lt
      have hl2 : bb2 = true → gpv < w3.heap.size := fun h => (zz2 h).2.1.lt
      have hl3 : bb3 = true → gpu < w3.heap.size := fun h => (zz3 h).2.1.lt
      obtain ⟨wn, hwn, pb_0, hb, -⟩ := new_box w3 _ rfl [.int .i64 0, .int .i64 0] 23
      rw [hwn]
      refine hK.out _ _ (sFi (cFi zF hb)) ?_
      exact (hIVi _ _ _).2 ⟨k, bb0, true, bb2, bb3, v0_, v1_, v2_, v3_, p0_, (.pointer (some ⟨w3.heap.size, 0, none⟩)), p2_, p3_, gpa, w3.heap.size, gpv, gpu, hk, rfl, (by simp only [HAi.out, Act.put, List.setIfInBounds_toArray, List.set_cons_zero, List.set_cons_succ]), (cFi zF hb), rr1, rr2, rr3, rr4, (fun h => ⟨(zz0 h).1, (zz0 h).2.1.below hb, (zz0 h).2.2⟩), (fun _ => ⟨rfl, pb_0, hgn⟩), (fun h => ⟨(zz2 h).1, (zz2 h).2.1.below hb, (zz2 h).2.2⟩), (fun h => ⟨(zz3 h).1, (zz3 h).2.1.below hb, (zz3 h).2.2⟩), (fun h _ => by have := hl0 h; omega), n0_2, n0_3, (fun _ h => by have := hl2 h; omega), (fun _ h => by have := hl3 h; omega), n2_3⟩
    · refine step_of 14 ?_ ?_ (fun K hK => ?_)
      rotate_left 1
      · simp only [List.getElem?_toArray, List.getElem?_cons_succ, List.getElem?_cons_zero]; exact rfl
      rw [HAi.out]
      try simp only [Act.put]
      try simp only [List.setIfInBounds_toArray, List.set_cons_zero, List.set_cons_succ]
      go_simp
      have hgn := mFi zF
      have hl0 : bb0 = true → gpa < w3.heap.size := fun h => (zz0 h).2.1.lt
      have hl1 : bb1 = true → gpb < w3.heap.size := fun h => (zz1 h).2.1.lt
      have hl3 : bb3 = true → gpu < w3.heap.size := fun h => (zz3 h).2.1.lt
      obtain ⟨wn, hwn, pv_0, hb, -⟩ := new_box w3 _ rfl [.int .i64 0, .int .i64 0] 23
      rw [hwn]
      refine hK.out _ _ (sFi (cFi zF hb)) ?_
      exact (hIVi _ _ _).2 ⟨k, bb0, bb1, true, bb3, v0_, v1_, v2_, v3_, p0_, p1_, (.pointer (some ⟨w3.heap.size, 0, none⟩)), p3_, gpa, gpb, w3.heap.size, gpu, hk, rfl, (by simp only [HAi.out, Act.put, List.setIfInBounds_toArray, List.set_cons_zero, List.set_cons_succ]), (cFi zF hb), rr1, rr2, rr3, rr4, (fun h => ⟨(zz0 h).1, (zz0 h).2.1.below hb, (zz0 h).2.2⟩), (fun h => ⟨(zz1 h).1, (zz1 h).2.1.below hb, (zz1 h).2.2⟩), (fun _ => ⟨rfl, pv_0, hgn⟩), (fun h => ⟨(zz3 h).1, (zz3 h).2.1.below hb, (zz3 h).2.2⟩), n0_1, (fun h _ => by have := hl0 h; omega), n0_3, (fun h _ => by have := hl1 h; omega), n1_3, (fun _ h => by have := hl3 h; omega)⟩
    · refine step_of 15 ?_ ?_ (fun K hK => ?_)
      rotate_left 1
      · simp only [List.getElem?_toArray, List.getElem?_cons_succ, List.getElem?_cons_zero]; exact rfl
      rw [HAi.out]
      try simp only [Act.put]
      try simp only [List.setIfInBounds_toArray, List.set_cons_zero, List.set_cons_succ]
      go_simp
      have hgn := mFi zF
      have hl0 : bb0 = true → gpa < w3.heap.size := fun h => (zz0 h).2.1.lt
      have hl1 : bb1 = true → gpb < w3.heap.size := fun h => (zz1 h).2.1.lt
      have hl2 : bb2 = true → gpv < w3.heap.size := fun h => (zz2 h).2.1.lt
      obtain ⟨wn, hwn, pu_0, hb, -⟩ := new_box w3 _ rfl [.int .i64 0, .int .i64 0] 23
      rw [hwn]
      refine hK.out _ _ (sFi (cFi zF hb)) ?_
      exact (hIVi _ _ _).2 ⟨k, bb0, bb1, bb2, true, v0_, v1_, v2_, v3_, p0_, p1_, p2_, (.pointer (some ⟨w3.heap.size, 0, none⟩)), gpa, gpb, gpv, w3.heap.size, hk, rfl, (by simp only [HAi.out, Act.put, List.setIfInBounds_toArray, List.set_cons_zero, List.set_cons_succ]), (cFi zF hb), rr1, rr2, rr3, rr4, (fun h => ⟨(zz0 h).1, (zz0 h).2.1.below hb, (zz0 h).2.2⟩), (fun h => ⟨(zz1 h).1, (zz1 h).2.1.below hb, (zz1 h).2.2⟩), (fun h => ⟨(zz2 h).1, (zz2 h).2.1.below hb, (zz2 h).2.2⟩), (fun _ => ⟨rfl, pu_0, hgn⟩), n0_1, n0_2, (fun h _ => by have := hl0 h; omega), n1_2, (fun h _ => by have := hl1 h; omega), (fun h _ => by have := hl2 h; omega)⟩
end Go.Proofs.Ytjciefoademlnaa
/- The statement PredCircles: from its walks to all inputs. -/
namespace Go.Proofs.Ytjciefoademlnaa
open Go.RowKit Go.MagM
theorem sign_two {z : Int} : (-(2 * z)).sign = -z.sign := by
  rcases Int.lt_trichotomy z 0 with h | h | h
  · rw [Int.sign_eq_neg_one_of_neg h, Int.sign_eq_one_of_pos (by omega)]; rfl
  · subst h; rfl
  · rw [Int.sign_eq_one_of_pos h, Int.sign_eq_neg_one_of_neg (by omega)]
set_option maxHeartbeats 4000000 in
theorem power_is (a0 a1 b0 b1 v0 v1 u0 u1 : Int) (ha0 : InP a0) (ha1 : InP a1) (hb0 : InP b0) (hb1 : InP b1) (hv0 : InP v0) (hv1 : InP v1) (hu0 : InP u0) (hu1 : InP u1) (hc : 0 < crs a0 a1 b0 b1 v0 v1) (w : World) :
    Calls Try.prog 18 #[.agg #[.int .i64 a0, .int .i64 a1], .agg #[.int .i64 b0, .int .i64 b1], .agg #[.int .i64 v0, .int .i64 v1], .agg #[.int .i64 u0, .int .i64 u1]] w fun e w' => e = .returned (.int .i64 (-(inc a0 a1 b0 b1 v0 v1 u0 u1).sign)) ∧ Below w.heap.size w w' := by
  have hP := inc_power a0 a1 b0 b1 v0 v1 u0 u1
  have hT : 2 * ((b0 - a0) * (v1 - a1) - (b1 - a1) * (v0 - a0)) = 2 * crs a0 a1 b0 b1 v0 v1 := rfl
  rw [hT] at hP
  have kX1 := (fun w => lessP b0 a0 hb0 ha0 w)
  have kY1 := (fun w => lessP b1 a1 hb1 ha1 w)
  have kX2 := (fun w => lessP v0 a0 hv0 ha0 w)
  have kY2 := (fun w => lessP v1 a1 hv1 ha1 w)
  have kX3 := (fun w => lessP u0 a0 hu0 ha0 w)
  have kY3 := (fun w => lessP u1 a1 hu1 ha1 w)
  have kS1 := (fun w => square_any a0 a1 b0 b1 ha0 ha1 hb0 hb1 w)
  have kS2 := (fun w => square_any a0 a1 v0 v1 ha0 ha1 hv0 hv1 w)
  have kS3 := (fun w => square_any a0 a1 u0 u1 ha0 ha1 hu0 hu1 w)
  generalize inc a0 a1 b0 b1 v0 v1 u0 u1 = J at *
  generalize crs a0 a1 b0 b1 v0 v1 = C at *
  generalize sqd a0 a1 b0 b1 = S1 at *
  generalize sqd a0 a1 v0 v1 = S2 at *
  generalize sqd a0 a1 u0 u1 = S3 at *
  generalize b0 - a0 = X1 at *
  generalize b1 - a1 = Y1 at *
  generalize v0 - a0 = X2 at *
  generalize v1 - a1 = Y2 at *
  generalize u0 - a0 = X3 at *
  generalize u1 - a1 = Y3 at *
  obtain ⟨U, hU⟩ : ∃ U, S1 * Y2 - Y1 * S2 = U := ⟨_, rfl⟩
  obtain ⟨V, hV⟩ : ∃ V, X1 * S2 - S1 * X2 = V := ⟨_, rfl⟩
  rw [hU, hV] at hP
  obtain ⟨D, hD⟩ : ∃ D, 2 * C = D := ⟨_, rfl⟩
  rw [hD] at hP hT
  have hD1 : D.sign = 1 := Int.sign_eq_one_of_pos (by omega)
  obtain ⟨M, hM⟩ : ∃ M, -(2 * J) = M := ⟨_, rfl⟩
  rw [hM] at hP
  have hs : M.sign = -J.sign := by rw [← hM, sign_two]
  exact power_w a0 a1 b0 b1 v0 v1 u0 u1 X1 Y1 X2 Y2 X3 Y3 S1 S2 S3 D U V M (-J.sign) 1 (-J.sign) kX1 kY1 kX2 kY2 kX3 kY3 kS1 kS2 kS3 hT hU hV hP hs hD1 (by rw [Int.mul_one]; exact sign_neg_wrap _) w
theorem sign_back_wrap (z : Int) : IntKind.i64.wrap (-(-z.sign)) = z.sign := by
  rcases sign_cases z with h | h | h <;> rw [h] <;> rfl
set_option maxHeartbeats 4000000 in
theorem PredCircles_tame (x0 x1 y0 y1 z0 z1 t0 t1 a0 a1 b0 b1 v0 v1 u0 u1 : Int) (ha0 : InP a0) (ha1 : InP a1) (hb0 : InP b0) (hb1 : InP b1) (hv0 : InP v0) (hv1 : InP v1) (hu0 : InP u0) (hu1 : InP u1) (ex0 : tame x0 = a0) (ex1 : tame x1 = a1) (ey0 : tame y0 = b0) (ey1 : tame y1 = b1) (ez0 : tame z0 = v0) (ez1 : tame z1 = v1) (et0 : tame t0 = u0) (et1 : tame t1 = u1) (w : World) :
    Calls Try.prog 4 #[.agg #[.int .i64 x0, .int .i64 x1, .int .i64 y0, .int .i64 y1, .int .i64 z0, .int .i64 z1, .int .i64 t0, .int .i64 t1]] w fun e w' => e = .returned (.bool true) ∧ Below w.heap.size w w' := by
  have kx : ∀ w, Calls Try.prog 10 #[.agg #[.int .i64 x0, .int .i64 x1]] w fun e w' => e = .returned (.agg #[.int .i64 a0, .int .i64 a1]) ∧ Below w.heap.size w w' := fun w => by rw [← ex0, ← ex1]; exact Tame_any x0 x1 w
  have ky : ∀ w, Calls Try.prog 10 #[.agg #[.int .i64 y0, .int .i64 y1]] w fun e w' => e = .returned (.agg #[.int .i64 b0, .int .i64 b1]) ∧ Below w.heap.size w w' := fun w => by rw [← ey0, ← ey1]; exact Tame_any y0 y1 w
  have kz : ∀ w, Calls Try.prog 10 #[.agg #[.int .i64 z0, .int .i64 z1]] w fun e w' => e = .returned (.agg #[.int .i64 v0, .int .i64 v1]) ∧ Below w.heap.size w w' := fun w => by rw [← ez0, ← ez1]; exact Tame_any z0 z1 w
  have kt : ∀ w, Calls Try.prog 10 #[.agg #[.int .i64 t0, .int .i64 t1]] w fun e w' => e = .returned (.agg #[.int .i64 u0, .int .i64 u1]) ∧ Below w.heap.size w w' := fun w => by rw [← et0, ← et1]; exact Tame_any t0 t1 w
  clear ex0 ex1 ey0 ey1 ez0 ez1 et0 et1
  rcases Int.lt_trichotomy (crs a0 a1 b0 b1 v0 v1) 0 with h | h | h
  · have hc : 0 < crs a0 a1 v0 v1 b0 b1 := by rw [crs_back]; omega
    exact PredCircles_w_m x0 x1 y0 y1 z0 z1 t0 t1 a0 a1 b0 b1 v0 v1 u0 u1 _ _ kx ky kz kt (fun w => Orient_is a0 a1 b0 b1 v0 v1 ha0 ha1 hb0 hb1 hv0 hv1 (Int.sign_eq_neg_one_of_neg h) w)
      (fun w => Circle_is a0 a1 v0 v1 b0 b1 u0 u1 ha0 ha1 hv0 hv1 hb0 hb1 hu0 hu1 rfl w) (fun w => power_is a0 a1 v0 v1 b0 b1 u0 u1 ha0 ha1 hv0 hv1 hb0 hb1 hu0 hu1 hc w) (fun w => Circle_is v0 v1 b0 b1 a0 a1 u0 u1 hv0 hv1 hb0 hb1 ha0 ha1 hu0 hu1 (congrArg Int.sign (inc_cyc _ _ _ _ _ _ _ _)) w) (fun w => Circle_is a0 a1 v0 v1 b0 b1 v0 v1 ha0 ha1 hv0 hv1 hb0 hb1 hv0 hv1 (by rw [inc_b]; rfl) w) (sign_back_wrap _) w
  · exact PredCircles_w_z x0 x1 y0 y1 z0 z1 t0 t1 a0 a1 b0 b1 v0 v1 u0 u1 kx ky kz kt (fun w => Orient_is a0 a1 b0 b1 v0 v1 ha0 ha1 hb0 hb1 hv0 hv1 (by rw [h]; rfl) w) w
  · exact PredCircles_w_p x0 x1 y0 y1 z0 z1 t0 t1 a0 a1 b0 b1 v0 v1 u0 u1 _ _ kx ky kz kt (fun w => Orient_is a0 a1 b0 b1 v0 v1 ha0 ha1 hb0 hb1 hv0 hv1 (Int.sign_eq_one_of_pos h) w)
      (fun w => Circle_is a0 a1 b0 b1 v0 v1 u0 u1 ha0 ha1 hb0 hb1 hv0 hv1 hu0 hu1 rfl w) (fun w => power_is a0 a1 b0 b1 v0 v1 u0 u1 ha0 ha1 hb0 hb1 hv0 hv1 hu0 hu1 h w) (fun w => Circle_is b0 b1 v0 v1 a0 a1 u0 u1 hb0 hb1 hv0 hv1 ha0 ha1 hu0 hu1 (congrArg Int.sign (inc_cyc _ _ _ _ _ _ _ _)) w) (fun w => Circle_is a0 a1 b0 b1 v0 v1 b0 b1 ha0 ha1 hb0 hb1 hv0 hv1 hb0 hb1 (by rw [inc_b]; rfl) w) (sign_back_wrap _) w
theorem PredCircles_walk (x0 x1 y0 y1 z0 z1 t0 t1 : Int) (w : World) : Calls Try.prog 4 #[.agg #[.int .i64 x0, .int .i64 x1, .int .i64 y0, .int .i64 y1, .int .i64 z0, .int .i64 z1, .int .i64 t0, .int .i64 t1]] w fun e w' => e = .returned (.bool true) ∧ Below w.heap.size w w' :=
  PredCircles_tame x0 x1 y0 y1 z0 z1 t0 t1 _ _ _ _ _ _ _ _ (tame_in x0) (tame_in x1) (tame_in y0) (tame_in y1) (tame_in z0) (tame_in z1) (tame_in t0) (tame_in t1) rfl rfl rfl rfl rfl rfl rfl rfl w
end Go.Proofs.Ytjciefoademlnaa
