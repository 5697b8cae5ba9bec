/- The statement NumLaws, walked. -/
import Derived.Test.YtbfdianmbpfjmaaNumO
namespace Go.Proofs.Ytbfdianmbpfjmaa
open Go.RowKit Go.MagM
theorem AnsNum.pre {w w1 w' : World} {e : Ending} {L : Nat} {X : Int} (h : AnsNum w1 w' e L X) (hb : Below w.heap.size w w1) : AnsNum w w' e L X := by
  obtain ⟨m, ao, n, c, h1, h2, h3⟩ := h; exact ⟨m, ao, n, c, h1, h2, hb.trans (h3.mono hb.size)⟩
set_option maxRecDepth 100000 in
set_option maxHeartbeats 8000000 in
theorem NumLaws_walk (am : Bool) (ao : Option Addr) (an ac : Nat) (f : Nat → Nat) (bm : Bool) (bo : Option Addr) (bn bc : Nat) (g : Nat → Nat) (cm : Bool) (co : Option Addr) (cn cc : Nat) (h : Nat → Nat) (w : World) (ahc : an ≤ ac) (ar : Reads w ao an f) (bhc : bn ≤ bc) (br : Reads w bo bn g) (chc : cn ≤ cc) (cr : Reads w co cn h) :
    Calls Try.prog 5 #[.agg #[.bool am, .slice ao an ac], .agg #[.bool bm, .slice bo bn bc], .agg #[.bool cm, .slice co cn cc]] w fun e w' => e = .returned (.bool true) ∧ Below w.heap.size w w' := by
  have hB_0 := Below.refl w.heap.size w
  obtain ⟨X, hX⟩ : ∃ X, sgn am (V f an) = X := ⟨_, rfl⟩
  have ax_0 : Num w (.agg #[.bool am, .slice ao an ac]) an X := ⟨_, _, _, rfl, ⟨ao, an, ac, f, rfl, ahc, Nat.le_refl _, ar, rfl⟩, hX.symm⟩
  clear ahc ar hX
  obtain ⟨Y, hY⟩ : ∃ Y, sgn bm (V g bn) = Y := ⟨_, rfl⟩
  have bx_0 : Num w (.agg #[.bool bm, .slice bo bn bc]) bn Y := ⟨_, _, _, rfl, ⟨bo, bn, bc, g, rfl, bhc, Nat.le_refl _, br, rfl⟩, hY.symm⟩
  clear bhc br hY
  obtain ⟨Z, hZ⟩ : ∃ Z, sgn cm (V h cn) = Z := ⟨_, rfl⟩
  have cx_0 : Num w (.agg #[.bool cm, .slice co cn cc]) cn Z := ⟨_, _, _, rfl, ⟨co, cn, cc, h, rfl, chc, Nat.le_refl _, cr, rfl⟩, hZ.symm⟩
  clear chc cr hZ
  go_enter Try.func5, Try.ntmps5
  go_wp2_with fail
  obtain ⟨pa_0, pb_0, pc_0, hb1⟩ := boxed3 w (.bool am) (.slice ao an ac) (.bool bm) (.slice bo bn bc) (.bool cm) (.slice co cn cc) 25
  have hB_1 := hB_0.trans (hb1.mono hB_0.size)
  have ax_1 := ax_0.below hb1
  have bx_1 := bx_0.below hb1
  have cx_1 := cx_0.below hb1
  clear hb1 hB_0 ax_0 bx_0 cx_0
  generalize (((w.alloc (Obj.cells #[Value.bool am, Value.slice ao an ac] 25)).alloc (Obj.cells #[Value.bool bm, Value.slice bo bn bc] 25)).alloc (Obj.cells #[Value.bool cm, Value.slice co cn cc] 25)) = w1 at *
  obtain ⟨pae0, pae1, pae2, pae3⟩ := (id pa_0)
  obtain ⟨pbe0, pbe1, pbe2, pbe3⟩ := (id pb_0)
  obtain ⟨pce0, pce1, pce2, pce3⟩ := (id pc_0)
  go_wp2_with fail
  refine (fit_any _).mono ?_
  rintro e w2 ⟨rfl, hb2⟩
  clear pae0 pae1 pae2 pae3 pbe0 pbe1 pbe2 pbe3 pce0 pce1 pce2 pce3
  have hB_2 := hB_1.trans (hb2.mono hB_1.size)
  have ax_2 := ax_1.below hb2
  have bx_2 := bx_1.below hb2
  have cx_2 := cx_1.below hb2
  have pa_1 := pa_0.below hb2
  have pb_1 := pb_0.below hb2
  have pc_1 := pc_0.below hb2
  clear hb2 hB_1 ax_1 bx_1 cx_1 pa_0 pb_0 pc_0
  obtain ⟨pae0, pae1, pae2, pae3⟩ := (id pa_1)
  obtain ⟨pbe0, pbe1, pbe2, pbe3⟩ := (id pb_1)
  obtain ⟨pce0, pce1, pce2, pce3⟩ := (id pc_1)
  by_cases hsh : an ≤ 20 ∧ bn ≤ 20 ∧ cn ≤ 20
  rotate_left
  · skip
    go_wp2_with fail
    refine (nshort3_no 20 _ _ am ao an ac bm bo bn bc cm co cn cc (by omega) hsh).mono ?_
    rintro e w3 ⟨rfl, hb3⟩
    clear pae0 pae1 pae2 pae3 pbe0 pbe1 pbe2 pbe3 pce0 pce1 pce2 pce3
    have hB_3 := hB_2.trans (hb3.mono hB_2.size)
    have ax_3 := ax_2.below hb3
    have bx_3 := bx_2.below hb3
    have cx_3 := cx_2.below hb3
    have pa_2 := pa_1.below hb3
    have pb_2 := pb_1.below hb3
    have pc_2 := pc_1.below hb3
    clear hb3 hB_2 ax_2 bx_2 cx_2 pa_1 pb_1 pc_1
    go_wp2
    go_ret
    exact ⟨rfl, hB_3⟩
  have hsa : an ≤ 20 := hsh.1
  have hsb : bn ≤ 20 := hsh.2.1
  have hsc : cn ≤ 20 := hsh.2.2
  go_wp2_with fail
  refine (nshort3_yes 20 _ _ am ao an ac bm bo bn bc cm co cn cc (by omega) hsh).mono ?_
  rintro e w3 ⟨rfl, hb3⟩
  clear pae0 pae1 pae2 pae3 pbe0 pbe1 pbe2 pbe3 pce0 pce1 pce2 pce3
  have hB_3 := hB_2.trans (hb3.mono hB_2.size)
  have ax_3 := ax_2.below hb3
  have bx_3 := bx_2.below hb3
  have cx_3 := cx_2.below hb3
  have pa_2 := pa_1.below hb3
  have pb_2 := pb_1.below hb3
  have pc_2 := pc_1.below hb3
  clear hb3 hB_2 ax_2 bx_2 cx_2 pa_1 pb_1 pc_1
  obtain ⟨pae0, pae1, pae2, pae3⟩ := (id pa_2)
  obtain ⟨pbe0, pbe1, pbe2, pbe3⟩ := (id pb_2)
  obtain ⟨pce0, pce1, pce2, pce3⟩ := (id pc_2)
  clear hsh
  go_wp2
  clear pae0 pae1 pae2 pae3 pbe0 pbe1 pbe2 pbe3 pce0 pce1 pce2 pce3
  have hWq_0 := Below.refl w3.heap.size w3
  have hsq : w.heap.size ≤ w3.heap.size := hB_3.size
  have hlqpa := box_lt pa_2
  have hlqpb := box_lt pb_2
  have hlqpc := box_lt pc_2
  have hB_4 := hB_3.drew'
  have ax_4 := ax_3.drew
  have bx_4 := bx_3.drew
  have cx_4 := cx_3.drew
  have pa_3 := pa_2.drew
  have pb_3 := pb_2.drew
  have pc_3 := pc_2.drew
  have hWq_1 := hWq_0.drew'
  refine wp_region_noPanic ?_
  refine wp_region_held_drew (S := fun w' => w'.cell? ⟨w.heap.size, 0, none⟩ = some (.bool am) ∧ w'.cell? ⟨w.heap.size, 1, none⟩ = some (.slice ao an ac) ∧ w'.cell? ⟨w.heap.size + 1, 0, none⟩ = some (.bool bm) ∧ w'.cell? ⟨w.heap.size + 1, 1, none⟩ = some (.slice bo bn bc) ∧ w'.cell? ⟨w.heap.size + 1 + 1, 0, none⟩ = some (.bool cm) ∧ w'.cell? ⟨w.heap.size + 1 + 1, 1, none⟩ = some (.slice co cn cc)) (by kernel_rfl) (⟨pa_3.c0, pa_3.c1, pb_3.c0, pb_3.c1, pc_3.c0, pc_3.c1⟩) (fun hHeld => ?_)
  refine reg_take 0 ?_ ?_ ?_ (by kernel_rfl) (by kernel_rfl) (by kernel_rfl) (fun _ _ _ h => h) ?_ ?_ (by assumption) ?_
  rotate_left 2
  · simp only [List.getElem?_toArray, List.getElem?_cons_zero]; exact rfl
  · rfl
  · intro w hSw; (try dsimp only at hSw); go_simp; try with_reducible rfl
  try simp only [Act.put, List.setIfInBounds_toArray, List.set_cons_zero, List.set_cons_succ]
  refine reg_take 1 ?_ ?_ ?_ (by kernel_rfl) (by kernel_rfl) (by kernel_rfl) (fun _ _ _ h => h) ?_ ?_ (by assumption) ?_
  rotate_left 2
  · simp only [List.getElem?_toArray, List.getElem?_cons_succ, List.getElem?_cons_zero]; exact rfl
  · rfl
  · intro w hSw; (try dsimp only at hSw); go_simp; try with_reducible rfl
  try simp only [Act.put, List.setIfInBounds_toArray, List.set_cons_zero, List.set_cons_succ]
  refine reg_take 2 ?_ ?_ ?_ (by kernel_rfl) (by kernel_rfl) (by kernel_rfl) (fun _ _ _ h => h) ?_ ?_ (by assumption) ?_
  rotate_left 2
  · simp only [List.getElem?_toArray, List.getElem?_cons_succ, List.getElem?_cons_zero]; exact rfl
  · rfl
  · intro w hSw; (try dsimp only at hSw); go_simp; try with_reducible rfl
  try simp only [Act.put, List.setIfInBounds_toArray, List.set_cons_zero, List.set_cons_succ]
  refine reg_take 5 ?_ ?_ ?_ (by kernel_rfl) (by kernel_rfl) (by kernel_rfl) (fun _ _ _ h => h) ?_ ?_ (by assumption) ?_
  rotate_left 2
  · simp only [List.getElem?_toArray, List.getElem?_cons_succ, List.getElem?_cons_zero]; exact rfl
  · rfl
  · intro w hSw; (try dsimp only at hSw); go_simp; try with_reducible rfl
  try simp only [Act.put, List.setIfInBounds_toArray, List.set_cons_zero, List.set_cons_succ]
  refine reg_take 6 ?_ ?_ ?_ (by kernel_rfl) (by kernel_rfl) (by kernel_rfl) (fun _ _ _ h => h) ?_ ?_ (by assumption) ?_
  rotate_left 2
  · simp only [List.getElem?_toArray, List.getElem?_cons_succ, List.getElem?_cons_zero]; exact rfl
  · rfl
  · intro w hSw; (try dsimp only at hSw); go_simp; try with_reducible rfl
  try simp only [Act.put, List.setIfInBounds_toArray, List.set_cons_zero, List.set_cons_succ]
  refine reg_take 8 ?_ ?_ ?_ (by kernel_rfl) (by kernel_rfl) (by kernel_rfl) (fun _ _ _ h => h) ?_ ?_ (by assumption) ?_
  rotate_left 2
  · simp only [List.getElem?_toArray, List.getElem?_cons_succ, List.getElem?_cons_zero]; exact rfl
  · rfl
  · intro w hSw; (try dsimp only at hSw); go_simp; try with_reducible rfl
  try simp only [Act.put, List.setIfInBounds_toArray, List.set_cons_zero, List.set_cons_succ]
  refine reg_take 9 ?_ ?_ ?_ (by kernel_rfl) (by kernel_rfl) (by kernel_rfl) (fun _ _ _ h => h) ?_ ?_ (by assumption) ?_
  rotate_left 2
  · simp only [List.getElem?_toArray, List.getElem?_cons_succ, List.getElem?_cons_zero]; exact rfl
  · rfl
  · intro w hSw; (try dsimp only at hSw); go_simp; try with_reducible rfl
  try simp only [Act.put, List.setIfInBounds_toArray, List.set_cons_zero, List.set_cons_succ]
  refine reg_grab (fun WWq aq hWW hAA => ?_)
  have HWq := Lib.hid hWW; have HAq := Lib.hid hAA; clear hWW hAA hHeld
  have stq_5tt : ∀ (w' : World) (m21 : Bool) (ao21 : Option Addr) (n21 c21 : Nat) (m22 : Bool) (ao22 : Option Addr) (n22 c22 : Nat) (m25 : Bool) (ao25 : Option Addr) (n25 c25 : Nat) (m28 : Bool) (ao28 : Option Addr) (n28 c28 : Nat) (m29 : Bool) (ao29 : Option Addr) (n29 c29 : Nat) (gone : Nat) (gtwo : Nat), Below w.heap.size w w' → Num w' (.agg #[.bool am, .slice ao an ac]) an X → Num w' (.agg #[.bool bm, .slice bo bn bc]) bn Y → Num w' (.agg #[.bool cm, .slice co cn cc]) cn Z → Box2 w' (w.heap.size) (.bool am) (.slice ao an ac) → Box2 w' (w.heap.size + 1) (.bool bm) (.slice bo bn bc) → Box2 w' (w.heap.size + 1 + 1) (.bool cm) (.slice co cn cc) → Below w3.heap.size w3 w' → RNum w' (.agg #[.bool m21, .slice ao21 n21 c21]) (max bn cn + 1) (Y + Z) → RNum w' (.agg #[.bool m22, .slice ao22 n22 c22]) (an + (max bn cn + 1)) (X * (Y + Z)) → RNum w' (.agg #[.bool m25, .slice ao25 n25 c25]) (cn + an) (Z * X) → RNum w' (.agg #[.bool m28, .slice ao28 n28 c28]) (bn + an) (Y * X) → RNum w' (.agg #[.bool m29, .slice ao29 n29 c29]) (max (cn + an) (bn + an) + 1) (Z * X + Y * X) → Box2 w' gone (.bool false) (.slice none 0 0) → Box2 w' gtwo (.bool false) (.slice none 0 0) → w3.heap.size ≤ gone → w3.heap.size ≤ gtwo → gone ≠ gtwo → WWq 2 #[true, true, true, true, true, true, true, true, true, true, true, true, true, true, false, false] (((((((aq.put (some 21) (.agg #[.bool m21, .slice ao21 n21 c21])).put (some 22) (.agg #[.bool m22, .slice ao22 n22 c22])).put (some 25) (.agg #[.bool m25, .slice ao25 n25 c25])).put (some 28) (.agg #[.bool m28, .slice ao28 n28 c28])).put (some 29) (.agg #[.bool m29, .slice ao29 n29 c29])).put (some 7) (.pointer (some ⟨gone, 0, none⟩))).put (some 8) (.pointer (some ⟨gtwo, 0, none⟩))) w' := by
    intro w4 m21 ao21 n21 c21 m22 ao22 n22 c22 m25 ao25 n25 c25 m28 ao28 n28 c28 m29 ao29 n29 c29 gone gtwo hB_0 ax_0 bx_0 cx_0 pa_0 pb_0 pc_0 hWq_0 r21_0 r22_0 r25_0 r28_0 r29_0 pone_0 ptwo_0 hgone hgtwo hnonetwo
    rw [HWq.out, HAq.out]
    try simp only [Act.put, List.setIfInBounds_toArray, List.set_cons_zero, List.set_cons_succ]
    obtain ⟨se0, se1, se2, se3⟩ := (id pone_0)
    obtain ⟨sf0, sf1, sf2, sf3⟩ := pone_0.set0 (.bool m22)
    refine reg_call 14 ?_ (by kernel_rfl) ?_ (fun K hK => ?_)
    rotate_left 1
    · simp only [List.getElem?_toArray, List.getElem?_cons_succ, List.getElem?_cons_zero]; exact rfl
    go_simp
    have hB_1 := below_set2 hB_0 (show _ ≤ gone by omega) (.bool m22) (.slice ao22 n22 c22)
    have ax_1 := ax_0.set2 (Box2.mk se0 se1 se2 se3) (.bool m22) (.slice ao22 n22 c22)
    have bx_1 := bx_0.set2 (Box2.mk se0 se1 se2 se3) (.bool m22) (.slice ao22 n22 c22)
    have cx_1 := cx_0.set2 (Box2.mk se0 se1 se2 se3) (.bool m22) (.slice ao22 n22 c22)
    have pa_1 := pa_0.far2 (g' := gone) (by omega) (.bool m22) (.slice ao22 n22 c22)
    have pb_1 := pb_0.far2 (g' := gone) (by omega) (.bool m22) (.slice ao22 n22 c22)
    have pc_1 := pc_0.far2 (g' := gone) (by omega) (.bool m22) (.slice ao22 n22 c22)
    have hWq_1 := below_set2 hWq_0 (show _ ≤ gone by omega) (.bool m22) (.slice ao22 n22 c22)
    have r21_1 := r21_0.set2 (Box2.mk se0 se1 se2 se3) (.bool m22) (.slice ao22 n22 c22)
    have r22_1 := r22_0.set2 (Box2.mk se0 se1 se2 se3) (.bool m22) (.slice ao22 n22 c22)
    have r25_1 := r25_0.set2 (Box2.mk se0 se1 se2 se3) (.bool m22) (.slice ao22 n22 c22)
    have r28_1 := r28_0.set2 (Box2.mk se0 se1 se2 se3) (.bool m22) (.slice ao22 n22 c22)
    have r29_1 := r29_0.set2 (Box2.mk se0 se1 se2 se3) (.bool m22) (.slice ao22 n22 c22)
    have pone_1 := pone_0.set2 (.bool m22) (.slice ao22 n22 c22)
    have ptwo_1 := ptwo_0.far2 hnonetwo.symm (.bool m22) (.slice ao22 n22 c22)
    clear se0 se1 se2 se3 sf0 sf1 sf2 sf3
    refine hK.out _ _ ⟨pa_1.c0, pa_1.c1, pb_1.c0, pb_1.c1, pc_1.c0, pc_1.c1⟩ (fun hHeld => ?_)
    clear hK K hHeld
    try simp only [Act.put, List.setIfInBounds_toArray, List.set_cons_zero, List.set_cons_succ]
    generalize (w4.setCell ⟨gone, 0, none⟩ (.bool m22)).setCell ⟨gone, 1, none⟩ (.slice ao22 n22 c22) = w5 at *
    obtain ⟨se0, se1, se2, se3⟩ := (id ptwo_1)
    obtain ⟨sf0, sf1, sf2, sf3⟩ := ptwo_1.set0 (.bool m29)
    refine reg_call 15 ?_ (by kernel_rfl) ?_ (fun K hK => ?_)
    rotate_left 1
    · simp only [List.getElem?_toArray, List.getElem?_cons_succ, List.getElem?_cons_zero]; exact rfl
    go_simp
    have hB_2 := below_set2 hB_1 (show _ ≤ gtwo by omega) (.bool m29) (.slice ao29 n29 c29)
    have ax_2 := ax_1.set2 (Box2.mk se0 se1 se2 se3) (.bool m29) (.slice ao29 n29 c29)
    have bx_2 := bx_1.set2 (Box2.mk se0 se1 se2 se3) (.bool m29) (.slice ao29 n29 c29)
    have cx_2 := cx_1.set2 (Box2.mk se0 se1 se2 se3) (.bool m29) (.slice ao29 n29 c29)
    have pa_2 := pa_1.far2 (g' := gtwo) (by omega) (.bool m29) (.slice ao29 n29 c29)
    have pb_2 := pb_1.far2 (g' := gtwo) (by omega) (.bool m29) (.slice ao29 n29 c29)
    have pc_2 := pc_1.far2 (g' := gtwo) (by omega) (.bool m29) (.slice ao29 n29 c29)
    have hWq_2 := below_set2 hWq_1 (show _ ≤ gtwo by omega) (.bool m29) (.slice ao29 n29 c29)
    have r21_2 := r21_1.set2 (Box2.mk se0 se1 se2 se3) (.bool m29) (.slice ao29 n29 c29)
    have r22_2 := r22_1.set2 (Box2.mk se0 se1 se2 se3) (.bool m29) (.slice ao29 n29 c29)
    have r25_2 := r25_1.set2 (Box2.mk se0 se1 se2 se3) (.bool m29) (.slice ao29 n29 c29)
    have r28_2 := r28_1.set2 (Box2.mk se0 se1 se2 se3) (.bool m29) (.slice ao29 n29 c29)
    have r29_2 := r29_1.set2 (Box2.mk se0 se1 se2 se3) (.bool m29) (.slice ao29 n29 c29)
    have pone_2 := pone_1.far2 hnonetwo (.bool m29) (.slice ao29 n29 c29)
    have ptwo_2 := ptwo_1.set2 (.bool m29) (.slice ao29 n29 c29)
    clear se0 se1 se2 se3 sf0 sf1 sf2 sf3
    refine hK.out _ _ ⟨pa_2.c0, pa_2.c1, pb_2.c0, pb_2.c1, pc_2.c0, pc_2.c1⟩ (fun hHeld => ?_)
    clear hK K hHeld
    try simp only [Act.put, List.setIfInBounds_toArray, List.set_cons_zero, List.set_cons_succ]
    generalize (w5.setCell ⟨gtwo, 0, none⟩ (.bool m29)).setCell ⟨gtwo, 1, none⟩ (.slice ao29 n29 c29) = w6 at *
    refine wpAnyH_done (by kernel_rfl) ?_ _
    refine NoPanic.normal ?_
    clear r21_2 r25_2 r28_2
    obtain ⟨pae0, pae1, pae2, pae3⟩ := (id pa_2)
    obtain ⟨pbe0, pbe1, pbe2, pbe3⟩ := (id pb_2)
    obtain ⟨pce0, pce1, pce2, pce3⟩ := (id pc_2)
    go_wp2_with fail
    refine ((sum_three _ 3 an bn cn X Y Z _ (by omega) (by omega) (by omega) (nums_three _ _ ax_2 bx_2 cx_2)).mono fun e w' h => h.pre ((Below.refl _ _).alloc (Nat.le_refl _) _)).mono ?_
    rintro e w7 ⟨m34, ao34, n34, c34, rfl, h34_0, hb7⟩
    clear pae0 pae1 pae2 pae3 pbe0 pbe1 pbe2 pbe3 pce0 pce1 pce2 pce3
    have hB_3 := hB_2.trans (hb7.mono hB_2.size)
    have ax_3 := ax_2.below hb7
    have bx_3 := bx_2.below hb7
    have cx_3 := cx_2.below hb7
    have pa_3 := pa_2.below hb7
    have pb_3 := pb_2.below hb7
    have pc_3 := pc_2.below hb7
    have hWq_3 := hWq_2.trans (hb7.mono hWq_2.size)
    have r22_3 := r22_2.below hb7
    have r29_3 := r29_2.below hb7
    have pone_3 := pone_2.below hb7
    have ptwo_3 := ptwo_2.below hb7
    clear hb7 hB_2 ax_2 bx_2 cx_2 pa_2 pb_2 pc_2 hWq_2 r22_2 r29_2 pone_2 ptwo_2
    go_wp2
    obtain ⟨sb_0, hb8⟩ := boxed1 w7 (.bool m34) (.slice ao34 n34 c34) 25
    have hB_4 := hB_3.trans (hb8.mono hB_3.size)
    have ax_4 := ax_3.below hb8
    have bx_4 := bx_3.below hb8
    have cx_4 := cx_3.below hb8
    have pa_4 := pa_3.below hb8
    have pb_4 := pb_3.below hb8
    have pc_4 := pc_3.below hb8
    have hWq_4 := hWq_3.trans (hb8.mono hWq_3.size)
    have r22_4 := r22_3.below hb8
    have r29_4 := r29_3.below hb8
    have pone_4 := pone_3.below hb8
    have ptwo_4 := ptwo_3.below hb8
    have h34_1 := h34_0.below hb8
    clear hb8 hB_3 ax_3 bx_3 cx_3 pa_3 pb_3 pc_3 hWq_3 r22_3 r29_3 pone_3 ptwo_3 h34_0
    generalize (w7.alloc (Obj.cells #[Value.bool m34, Value.slice ao34 n34 c34] 25)) = w8 at *
    have E1 : Hid (X * (Y + Z) = Z * X + Y * X) := Lib.hid (by rw [Int.mul_add, Int.mul_comm X Y, Int.mul_comm X Z]; omega)
    have E2 : Hid (X + Y + Z = Z + (Y + X)) := Lib.hid (by omega)
    have E3 : Hid (X + Y + Z - Z = Y + X) := Lib.hid (by omega)
    have hB_5 := hB_4.drew'
    have ax_5 := ax_4.drew
    have bx_5 := bx_4.drew
    have cx_5 := cx_4.drew
    have pa_5 := pa_4.drew
    have pb_5 := pb_4.drew
    have pc_5 := pc_4.drew
    have hWq_5 := hWq_4.drew'
    have r22_5 := r22_4.drew
    have r29_5 := r29_4.drew
    have pone_5 := pone_4.drew
    have ptwo_5 := ptwo_4.drew
    have h34_2 := h34_1.drew
    have sb_1 := sb_0.drew
    refine wp_region_noPanic ?_
    refine wp_region_held_drew (S := fun w' => w'.cell? ⟨w.heap.size, 0, none⟩ = some (.bool am) ∧ w'.cell? ⟨w.heap.size, 1, none⟩ = some (.slice ao an ac) ∧ w'.cell? ⟨w.heap.size + 1, 0, none⟩ = some (.bool bm) ∧ w'.cell? ⟨w.heap.size + 1, 1, none⟩ = some (.slice bo bn bc) ∧ w'.cell? ⟨w.heap.size + 1 + 1, 0, none⟩ = some (.bool cm) ∧ w'.cell? ⟨w.heap.size + 1 + 1, 1, none⟩ = some (.slice co cn cc) ∧ w'.cell? ⟨gone, 0, none⟩ = some (.bool m22) ∧ w'.cell? ⟨gone, 1, none⟩ = some (.slice ao22 n22 c22) ∧ w'.cell? ⟨gtwo, 0, none⟩ = some (.bool m29) ∧ w'.cell? ⟨gtwo, 1, none⟩ = some (.slice ao29 n29 c29) ∧ w'.cell? ⟨w7.heap.size, 0, none⟩ = some (.bool m34) ∧ w'.cell? ⟨w7.heap.size, 1, none⟩ = some (.slice ao34 n34 c34)) (by kernel_rfl) (⟨pa_5.c0, pa_5.c1, pb_5.c0, pb_5.c1, pc_5.c0, pc_5.c1, pone_5.c0, pone_5.c1, ptwo_5.c0, ptwo_5.c1, sb_1.c0, sb_1.c1⟩) (fun hHeld => ?_)
    refine reg_take 0 ?_ ?_ ?_ (by kernel_rfl) (by kernel_rfl) (by kernel_rfl) (fun _ _ _ h => h) ?_ ?_ (by assumption) ?_
    rotate_left 2
    · simp only [List.getElem?_toArray, List.getElem?_cons_zero]; exact rfl
    · rfl
    · intro w hSw; (try dsimp only at hSw); go_simp; try with_reducible rfl
    try simp only [Act.put, List.setIfInBounds_toArray, List.set_cons_zero, List.set_cons_succ]
    refine reg_take 1 ?_ ?_ ?_ (by kernel_rfl) (by kernel_rfl) (by kernel_rfl) (fun _ _ _ h => h) ?_ ?_ (by assumption) ?_
    rotate_left 2
    · simp only [List.getElem?_toArray, List.getElem?_cons_succ, List.getElem?_cons_zero]; exact rfl
    · rfl
    · intro w hSw; (try dsimp only at hSw); go_simp; try with_reducible rfl
    try simp only [Act.put, List.setIfInBounds_toArray, List.set_cons_zero, List.set_cons_succ]
    refine reg_call 2 ?_ (by kernel_rfl) ?_ (fun K hK => ?_)
    rotate_left 1
    · simp only [List.getElem?_toArray, List.getElem?_cons_succ, List.getElem?_cons_zero]; exact rfl
    go_simp
    refine (nCmp_even _ _ _ _ _ _ _ (by omega) (by omega) r22_5.num r29_5.num E1.out).mono ?_
    rintro e w9 ⟨rfl, hb9⟩
    have hB_6 := hB_5.trans (hb9.mono hB_5.size)
    have ax_6 := ax_5.below hb9
    have bx_6 := bx_5.below hb9
    have cx_6 := cx_5.below hb9
    have pa_6 := pa_5.below hb9
    have pb_6 := pb_5.below hb9
    have pc_6 := pc_5.below hb9
    have hWq_6 := hWq_5.trans (hb9.mono hWq_5.size)
    have r22_6 := r22_5.below hb9
    have r29_6 := r29_5.below hb9
    have pone_6 := pone_5.below hb9
    have ptwo_6 := ptwo_5.below hb9
    have h34_3 := h34_2.below hb9
    have sb_2 := sb_1.below hb9
    clear hb9 hB_5 ax_5 bx_5 cx_5 pa_5 pb_5 pc_5 hWq_5 r22_5 r29_5 pone_5 ptwo_5 h34_2 sb_1
    go_wp2_with fail
    refine hK.out _ _ ⟨pa_6.c0, pa_6.c1, pb_6.c0, pb_6.c1, pc_6.c0, pc_6.c1, pone_6.c0, pone_6.c1, ptwo_6.c0, ptwo_6.c1, sb_2.c0, sb_2.c1⟩ (fun hHeld => ?_)
    clear hK K
    try simp only [Act.put, List.setIfInBounds_toArray, List.set_cons_zero, List.set_cons_succ]
    refine reg_take 3 ?_ ?_ ?_ (by kernel_rfl) (by kernel_rfl) (by kernel_rfl) (fun _ _ _ h => h) ?_ ?_ (by assumption) ?_
    rotate_left 2
    · simp only [List.getElem?_toArray, List.getElem?_cons_succ, List.getElem?_cons_zero]; exact rfl
    · rfl
    · intro w hSw; (try dsimp only at hSw); go_simp; try with_reducible rfl
    try simp only [Act.put, List.setIfInBounds_toArray, List.set_cons_zero, List.set_cons_succ]
    refine reg_take 4 ?_ ?_ ?_ (by kernel_rfl) (by kernel_rfl) (by kernel_rfl) (fun _ _ _ h => h) ?_ ?_ (by assumption) ?_
    rotate_left 2
    · simp only [List.getElem?_toArray, List.getElem?_cons_succ, List.getElem?_cons_zero]; exact rfl
    · rfl
    · intro w hSw; (try dsimp only at hSw); go_simp; try with_reducible rfl
    try simp only [Act.put, List.setIfInBounds_toArray, List.set_cons_zero, List.set_cons_succ]
    refine reg_take 5 ?_ ?_ ?_ (by kernel_rfl) (by kernel_rfl) (by kernel_rfl) (fun _ _ _ h => h) ?_ ?_ (by assumption) ?_
    rotate_left 2
    · simp only [List.getElem?_toArray, List.getElem?_cons_succ, List.getElem?_cons_zero]; exact rfl
    · rfl
    · intro w hSw; (try dsimp only at hSw); go_simp; try with_reducible rfl
    try simp only [Act.put, List.setIfInBounds_toArray, List.set_cons_zero, List.set_cons_succ]
    refine reg_call 6 ?_ (by kernel_rfl) ?_ (fun K hK => ?_)
    rotate_left 1
    · simp only [List.getElem?_toArray, List.getElem?_cons_succ, List.getElem?_cons_zero]; exact rfl
    go_simp
    refine (Right_any _ _ _ _ (by omega) r22_6).mono ?_
    rintro e w10 ⟨rfl, hb10⟩
    have hB_7 := hB_6.trans (hb10.mono hB_6.size)
    have ax_7 := ax_6.below hb10
    have bx_7 := bx_6.below hb10
    have cx_7 := cx_6.below hb10
    have pa_7 := pa_6.below hb10
    have pb_7 := pb_6.below hb10
    have pc_7 := pc_6.below hb10
    have hWq_7 := hWq_6.trans (hb10.mono hWq_6.size)
    have r22_7 := r22_6.below hb10
    have r29_7 := r29_6.below hb10
    have pone_7 := pone_6.below hb10
    have ptwo_7 := ptwo_6.below hb10
    have h34_4 := h34_3.below hb10
    have sb_3 := sb_2.below hb10
    clear hb10 hB_6 ax_6 bx_6 cx_6 pa_6 pb_6 pc_6 hWq_6 r22_6 r29_6 pone_6 ptwo_6 h34_3 sb_2
    go_wp2_with fail
    refine hK.out _ _ ⟨pa_7.c0, pa_7.c1, pb_7.c0, pb_7.c1, pc_7.c0, pc_7.c1, pone_7.c0, pone_7.c1, ptwo_7.c0, ptwo_7.c1, sb_3.c0, sb_3.c1⟩ (fun hHeld => ?_)
    clear hK K
    try simp only [Act.put, List.setIfInBounds_toArray, List.set_cons_zero, List.set_cons_succ]
    refine reg_take 7 ?_ ?_ ?_ (by kernel_rfl) (by kernel_rfl) (by kernel_rfl) (fun _ _ _ h => h) ?_ ?_ (by assumption) ?_
    rotate_left 2
    · simp only [List.getElem?_toArray, List.getElem?_cons_succ, List.getElem?_cons_zero]; exact rfl
    · rfl
    · intro w hSw; (try dsimp only at hSw); go_simp; try with_reducible rfl
    try simp only [Act.put, List.setIfInBounds_toArray, List.set_cons_zero, List.set_cons_succ]
    refine reg_take 8 ?_ ?_ ?_ (by kernel_rfl) (by kernel_rfl) (by kernel_rfl) (fun _ _ _ h => h) ?_ ?_ (by assumption) ?_
    rotate_left 2
    · simp only [List.getElem?_toArray, List.getElem?_cons_succ, List.getElem?_cons_zero]; exact rfl
    · rfl
    · intro w hSw; (try dsimp only at hSw); go_simp; try with_reducible rfl
    try simp only [Act.put, List.setIfInBounds_toArray, List.set_cons_zero, List.set_cons_succ]
    refine reg_take 9 ?_ ?_ ?_ (by kernel_rfl) (by kernel_rfl) (by kernel_rfl) (fun _ _ _ h => h) ?_ ?_ (by assumption) ?_
    rotate_left 2
    · simp only [List.getElem?_toArray, List.getElem?_cons_succ, List.getElem?_cons_zero]; exact rfl
    · rfl
    · intro w hSw; (try dsimp only at hSw); go_simp; try with_reducible rfl
    try simp only [Act.put, List.setIfInBounds_toArray, List.set_cons_zero, List.set_cons_succ]
    refine reg_call 10 ?_ (by kernel_rfl) ?_ (fun K hK => ?_)
    rotate_left 1
    · simp only [List.getElem?_toArray, List.getElem?_cons_succ, List.getElem?_cons_zero]; exact rfl
    go_simp
    refine (Right_any _ _ _ _ (by omega) h34_4).mono ?_
    rintro e w11 ⟨rfl, hb11⟩
    have hB_8 := hB_7.trans (hb11.mono hB_7.size)
    have ax_8 := ax_7.below hb11
    have bx_8 := bx_7.below hb11
    have cx_8 := cx_7.below hb11
    have pa_8 := pa_7.below hb11
    have pb_8 := pb_7.below hb11
    have pc_8 := pc_7.below hb11
    have hWq_8 := hWq_7.trans (hb11.mono hWq_7.size)
    have r22_8 := r22_7.below hb11
    have r29_8 := r29_7.below hb11
    have pone_8 := pone_7.below hb11
    have ptwo_8 := ptwo_7.below hb11
    have h34_5 := h34_4.below hb11
    have sb_4 := sb_3.below hb11
    clear hb11 hB_7 ax_7 bx_7 cx_7 pa_7 pb_7 pc_7 hWq_7 r22_7 r29_7 pone_7 ptwo_7 h34_4 sb_3
    go_wp2_with fail
    refine hK.out _ _ ⟨pa_8.c0, pa_8.c1, pb_8.c0, pb_8.c1, pc_8.c0, pc_8.c1, pone_8.c0, pone_8.c1, ptwo_8.c0, ptwo_8.c1, sb_4.c0, sb_4.c1⟩ (fun hHeld => ?_)
    clear hK K
    try simp only [Act.put, List.setIfInBounds_toArray, List.set_cons_zero, List.set_cons_succ]
    refine reg_take 11 ?_ ?_ ?_ (by kernel_rfl) (by kernel_rfl) (by kernel_rfl) (fun _ _ _ h => h) ?_ ?_ (by assumption) ?_
    rotate_left 2
    · simp only [List.getElem?_toArray, List.getElem?_cons_succ, List.getElem?_cons_zero]; exact rfl
    · rfl
    · intro w hSw; (try dsimp only at hSw); go_simp; try with_reducible rfl
    try simp only [Act.put, List.setIfInBounds_toArray, List.set_cons_zero, List.set_cons_succ]
    refine reg_take 12 ?_ ?_ ?_ (by kernel_rfl) (by kernel_rfl) (by kernel_rfl) (fun _ _ _ h => h) ?_ ?_ (by assumption) ?_
    rotate_left 2
    · simp only [List.getElem?_toArray, List.getElem?_cons_succ, List.getElem?_cons_zero]; exact rfl
    · rfl
    · intro w hSw; (try dsimp only at hSw); go_simp; try with_reducible rfl
    try simp only [Act.put, List.setIfInBounds_toArray, List.set_cons_zero, List.set_cons_succ]
    refine reg_take 13 ?_ ?_ ?_ (by kernel_rfl) (by kernel_rfl) (by kernel_rfl) (fun _ _ _ h => h) ?_ ?_ (by assumption) ?_
    rotate_left 2
    · simp only [List.getElem?_toArray, List.getElem?_cons_succ, List.getElem?_cons_zero]; exact rfl
    · rfl
    · intro w hSw; (try dsimp only at hSw); go_simp; try with_reducible rfl
    try simp only [Act.put, List.setIfInBounds_toArray, List.set_cons_zero, List.set_cons_succ]
    refine reg_take 14 ?_ ?_ ?_ (by kernel_rfl) (by kernel_rfl) (by kernel_rfl) (fun _ _ _ h => h) ?_ ?_ (by assumption) ?_
    rotate_left 2
    · simp only [List.getElem?_toArray, List.getElem?_cons_succ, List.getElem?_cons_zero]; exact rfl
    · rfl
    · intro w hSw; (try dsimp only at hSw); go_simp; try with_reducible rfl
    try simp only [Act.put, List.setIfInBounds_toArray, List.set_cons_zero, List.set_cons_succ]
    refine reg_take 15 ?_ ?_ ?_ (by kernel_rfl) (by kernel_rfl) (by kernel_rfl) (fun _ _ _ h => h) ?_ ?_ (by assumption) ?_
    rotate_left 2
    · simp only [List.getElem?_toArray, List.getElem?_cons_succ, List.getElem?_cons_zero]; exact rfl
    · rfl
    · intro w hSw; (try dsimp only at hSw); go_simp; try with_reducible rfl
    try simp only [Act.put, List.setIfInBounds_toArray, List.set_cons_zero, List.set_cons_succ]
    refine reg_take 16 ?_ ?_ ?_ (by kernel_rfl) (by kernel_rfl) (by kernel_rfl) (fun _ _ _ h => h) ?_ ?_ (by assumption) ?_
    rotate_left 2
    · simp only [List.getElem?_toArray, List.getElem?_cons_succ, List.getElem?_cons_zero]; exact rfl
    · rfl
    · intro w hSw; (try dsimp only at hSw); go_simp; try with_reducible rfl
    try simp only [Act.put, List.setIfInBounds_toArray, List.set_cons_zero, List.set_cons_succ]
    refine reg_call 17 ?_ (by kernel_rfl) ?_ (fun K hK => ?_)
    rotate_left 1
    · simp only [List.getElem?_toArray, List.getElem?_cons_succ, List.getElem?_cons_zero]; exact rfl
    go_simp
    refine (nAdd_any _ _ _ _ _ _ _ (by omega) (by omega) bx_8 ax_8).mono ?_
    rintro e w12 ⟨m52, ao52, n52, c52, rfl, h52_0, hb12⟩
    have hB_9 := hB_8.trans (hb12.mono hB_8.size)
    have ax_9 := ax_8.below hb12
    have bx_9 := bx_8.below hb12
    have cx_9 := cx_8.below hb12
    have pa_9 := pa_8.below hb12
    have pb_9 := pb_8.below hb12
    have pc_9 := pc_8.below hb12
    have hWq_9 := hWq_8.trans (hb12.mono hWq_8.size)
    have r22_9 := r22_8.below hb12
    have r29_9 := r29_8.below hb12
    have pone_9 := pone_8.below hb12
    have ptwo_9 := ptwo_8.below hb12
    have h34_6 := h34_5.below hb12
    have sb_5 := sb_4.below hb12
    clear hb12 hB_8 ax_8 bx_8 cx_8 pa_8 pb_8 pc_8 hWq_8 r22_8 r29_8 pone_8 ptwo_8 h34_5 sb_4
    go_wp2_with fail
    refine hK.out _ _ ⟨pa_9.c0, pa_9.c1, pb_9.c0, pb_9.c1, pc_9.c0, pc_9.c1, pone_9.c0, pone_9.c1, ptwo_9.c0, ptwo_9.c1, sb_5.c0, sb_5.c1⟩ (fun hHeld => ?_)
    clear hK K
    try simp only [Act.put, List.setIfInBounds_toArray, List.set_cons_zero, List.set_cons_succ]
    refine reg_call 18 ?_ (by kernel_rfl) ?_ (fun K hK => ?_)
    rotate_left 1
    · simp only [List.getElem?_toArray, List.getElem?_cons_succ, List.getElem?_cons_zero]; exact rfl
    go_simp
    refine (nAdd_any _ _ _ _ _ _ _ (by omega) (by omega) cx_9 h52_0.num).mono ?_
    rintro e w13 ⟨m53, ao53, n53, c53, rfl, h53_0, hb13⟩
    have hB_10 := hB_9.trans (hb13.mono hB_9.size)
    have ax_10 := ax_9.below hb13
    have bx_10 := bx_9.below hb13
    have cx_10 := cx_9.below hb13
    have pa_10 := pa_9.below hb13
    have pb_10 := pb_9.below hb13
    have pc_10 := pc_9.below hb13
    have hWq_10 := hWq_9.trans (hb13.mono hWq_9.size)
    have r22_10 := r22_9.below hb13
    have r29_10 := r29_9.below hb13
    have pone_10 := pone_9.below hb13
    have ptwo_10 := ptwo_9.below hb13
    have h34_7 := h34_6.below hb13
    have sb_6 := sb_5.below hb13
    have h52_1 := h52_0.below hb13
    clear hb13 hB_9 ax_9 bx_9 cx_9 pa_9 pb_9 pc_9 hWq_9 r22_9 r29_9 pone_9 ptwo_9 h34_6 sb_5 h52_0
    go_wp2_with fail
    refine hK.out _ _ ⟨pa_10.c0, pa_10.c1, pb_10.c0, pb_10.c1, pc_10.c0, pc_10.c1, pone_10.c0, pone_10.c1, ptwo_10.c0, ptwo_10.c1, sb_6.c0, sb_6.c1⟩ (fun hHeld => ?_)
    clear hK K
    try simp only [Act.put, List.setIfInBounds_toArray, List.set_cons_zero, List.set_cons_succ]
    refine reg_call 19 ?_ (by kernel_rfl) ?_ (fun K hK => ?_)
    rotate_left 1
    · simp only [List.getElem?_toArray, List.getElem?_cons_succ, List.getElem?_cons_zero]; exact rfl
    go_simp
    refine (nCmp_even _ _ _ _ _ _ _ (by omega) (by omega) h34_7.num h53_0.num E2.out).mono ?_
    rintro e w14 ⟨rfl, hb14⟩
    have hB_11 := hB_10.trans (hb14.mono hB_10.size)
    have ax_11 := ax_10.below hb14
    have bx_11 := bx_10.below hb14
    have cx_11 := cx_10.below hb14
    have pa_11 := pa_10.below hb14
    have pb_11 := pb_10.below hb14
    have pc_11 := pc_10.below hb14
    have hWq_11 := hWq_10.trans (hb14.mono hWq_10.size)
    have r22_11 := r22_10.below hb14
    have r29_11 := r29_10.below hb14
    have pone_11 := pone_10.below hb14
    have ptwo_11 := ptwo_10.below hb14
    have h34_8 := h34_7.below hb14
    have sb_7 := sb_6.below hb14
    have h52_2 := h52_1.below hb14
    have h53_1 := h53_0.below hb14
    clear hb14 hB_10 ax_10 bx_10 cx_10 pa_10 pb_10 pc_10 hWq_10 r22_10 r29_10 pone_10 ptwo_10 h34_7 sb_6 h52_1 h53_0
    go_wp2_with fail
    refine hK.out _ _ ⟨pa_11.c0, pa_11.c1, pb_11.c0, pb_11.c1, pc_11.c0, pc_11.c1, pone_11.c0, pone_11.c1, ptwo_11.c0, ptwo_11.c1, sb_7.c0, sb_7.c1⟩ (fun hHeld => ?_)
    clear hK K
    try simp only [Act.put, List.setIfInBounds_toArray, List.set_cons_zero, List.set_cons_succ]
    refine reg_take 20 ?_ ?_ ?_ (by kernel_rfl) (by kernel_rfl) (by kernel_rfl) (fun _ _ _ h => h) ?_ ?_ (by assumption) ?_
    rotate_left 2
    · simp only [List.getElem?_toArray, List.getElem?_cons_succ, List.getElem?_cons_zero]; exact rfl
    · rfl
    · intro w hSw; (try dsimp only at hSw); go_simp; try with_reducible rfl
    try simp only [Act.put, List.setIfInBounds_toArray, List.set_cons_zero, List.set_cons_succ]
    refine reg_take 21 ?_ ?_ ?_ (by kernel_rfl) (by kernel_rfl) (by kernel_rfl) (fun _ _ _ h => h) ?_ ?_ (by assumption) ?_
    rotate_left 2
    · simp only [List.getElem?_toArray, List.getElem?_cons_succ, List.getElem?_cons_zero]; exact rfl
    · rfl
    · intro w hSw; (try dsimp only at hSw); go_simp; try with_reducible rfl
    try simp only [Act.put, List.setIfInBounds_toArray, List.set_cons_zero, List.set_cons_succ]
    refine reg_take 22 ?_ ?_ ?_ (by kernel_rfl) (by kernel_rfl) (by kernel_rfl) (fun _ _ _ h => h) ?_ ?_ (by assumption) ?_
    rotate_left 2
    · simp only [List.getElem?_toArray, List.getElem?_cons_succ, List.getElem?_cons_zero]; exact rfl
    · rfl
    · intro w hSw; (try dsimp only at hSw); go_simp; try with_reducible rfl
    try simp only [Act.put, List.setIfInBounds_toArray, List.set_cons_zero, List.set_cons_succ]
    refine reg_take 23 ?_ ?_ ?_ (by kernel_rfl) (by kernel_rfl) (by kernel_rfl) (fun _ _ _ h => h) ?_ ?_ (by assumption) ?_
    rotate_left 2
    · simp only [List.getElem?_toArray, List.getElem?_cons_succ, List.getElem?_cons_zero]; exact rfl
    · rfl
    · intro w hSw; (try dsimp only at hSw); go_simp; try with_reducible rfl
    try simp only [Act.put, List.setIfInBounds_toArray, List.set_cons_zero, List.set_cons_succ]
    refine reg_take 24 ?_ ?_ ?_ (by kernel_rfl) (by kernel_rfl) (by kernel_rfl) (fun _ _ _ h => h) ?_ ?_ (by assumption) ?_
    rotate_left 2
    · simp only [List.getElem?_toArray, List.getElem?_cons_succ, List.getElem?_cons_zero]; exact rfl
    · rfl
    · intro w hSw; (try dsimp only at hSw); go_simp; try with_reducible rfl
    try simp only [Act.put, List.setIfInBounds_toArray, List.set_cons_zero, List.set_cons_succ]
    refine reg_take 26 ?_ ?_ ?_ (by kernel_rfl) (by kernel_rfl) (by kernel_rfl) (fun _ _ _ h => h) ?_ ?_ (by assumption) ?_
    rotate_left 2
    · simp only [List.getElem?_toArray, List.getElem?_cons_succ, List.getElem?_cons_zero]; exact rfl
    · rfl
    · intro w hSw; (try dsimp only at hSw); go_simp; try with_reducible rfl
    try simp only [Act.put, List.setIfInBounds_toArray, List.set_cons_zero, List.set_cons_succ]
    refine reg_take 27 ?_ ?_ ?_ (by kernel_rfl) (by kernel_rfl) (by kernel_rfl) (fun _ _ _ h => h) ?_ ?_ (by assumption) ?_
    rotate_left 2
    · simp only [List.getElem?_toArray, List.getElem?_cons_succ, List.getElem?_cons_zero]; exact rfl
    · rfl
    · intro w hSw; (try dsimp only at hSw); go_simp; try with_reducible rfl
    try simp only [Act.put, List.setIfInBounds_toArray, List.set_cons_zero, List.set_cons_succ]
    refine reg_all2 25 28 ?_ ?_ (by kernel_rfl) ?_ ?_ (fun K hK => ?_) (fun K hK => ?_)
    rotate_left 2
    · simp only [List.getElem?_toArray, List.getElem?_cons_succ, List.getElem?_cons_zero]; exact rfl
    · simp only [List.getElem?_toArray, List.getElem?_cons_succ, List.getElem?_cons_zero]; exact rfl
    · go_simp
      refine (nSub_any _ _ _ _ _ _ _ (by omega) (by omega) h34_8.num cx_11).mono ?_
      rintro e w15 ⟨m60, ao60, n60, c60, rfl, h60_0, hb15⟩
      have hB_12 := hB_11.trans (hb15.mono hB_11.size)
      have ax_12 := ax_11.below hb15
      have bx_12 := bx_11.below hb15
      have cx_12 := cx_11.below hb15
      have pa_12 := pa_11.below hb15
      have pb_12 := pb_11.below hb15
      have pc_12 := pc_11.below hb15
      have hWq_12 := hWq_11.trans (hb15.mono hWq_11.size)
      have r22_12 := r22_11.below hb15
      have r29_12 := r29_11.below hb15
      have pone_12 := pone_11.below hb15
      have ptwo_12 := ptwo_11.below hb15
      have h34_9 := h34_8.below hb15
      have sb_8 := sb_7.below hb15
      have h52_3 := h52_2.below hb15
      have h53_2 := h53_1.below hb15
      clear hb15 hB_11 ax_11 bx_11 cx_11 pa_11 pb_11 pc_11 hWq_11 r22_11 r29_11 pone_11 ptwo_11 h34_8 sb_7 h52_2 h53_1
      go_wp2_with fail
      refine hK.out _ _ ⟨pa_12.c0, pa_12.c1, pb_12.c0, pb_12.c1, pc_12.c0, pc_12.c1, pone_12.c0, pone_12.c1, ptwo_12.c0, ptwo_12.c1, sb_8.c0, sb_8.c1⟩ (fun hHeld => ?_)
      clear hK K
      try simp only [Act.put, List.setIfInBounds_toArray, List.set_cons_zero, List.set_cons_succ]
      refine reg_call 28 ?_ (by kernel_rfl) ?_ (fun K hK => ?_)
      rotate_left 1
      · simp only [List.getElem?_toArray, List.getElem?_cons_succ, List.getElem?_cons_zero]; exact rfl
      go_simp
      have hb16 : Below w15.heap.size w15 (w15.alloc (Obj.cells #[Value.bool bm, Value.slice bo bn bc, Value.bool am, Value.slice ao an ac] 25)) := (Below.refl _ _).alloc (Nat.le_refl _) _
      have nl_0 := nums_two w15 25 bx_12 ax_12
      have hB_13 := hB_12.trans (hb16.mono hB_12.size)
      have ax_13 := ax_12.below hb16
      have bx_13 := bx_12.below hb16
      have cx_13 := cx_12.below hb16
      have pa_13 := pa_12.below hb16
      have pb_13 := pb_12.below hb16
      have pc_13 := pc_12.below hb16
      have hWq_13 := hWq_12.trans (hb16.mono hWq_12.size)
      have r22_13 := r22_12.below hb16
      have r29_13 := r29_12.below hb16
      have pone_13 := pone_12.below hb16
      have ptwo_13 := ptwo_12.below hb16
      have h34_10 := h34_9.below hb16
      have sb_9 := sb_8.below hb16
      have h52_4 := h52_3.below hb16
      have h53_3 := h53_2.below hb16
      have h60_1 := h60_0.below hb16
      refine hK.out _ _ ⟨pa_13.c0, pa_13.c1, pb_13.c0, pb_13.c1, pc_13.c0, pc_13.c1, pone_13.c0, pone_13.c1, ptwo_13.c0, ptwo_13.c1, sb_9.c0, sb_9.c1⟩ (fun hHeld => ?_)
      clear hK K hb16
      try simp only [Act.put, List.setIfInBounds_toArray, List.set_cons_zero, List.set_cons_succ]
      generalize w15.alloc (Obj.cells #[Value.bool bm, Value.slice bo bn bc, Value.bool am, Value.slice ao an ac] 25) = w16 at *
      refine reg_call 29 ?_ (by kernel_rfl) ?_ (fun K hK => ?_)
      rotate_left 1
      · simp only [List.getElem?_toArray, List.getElem?_cons_succ, List.getElem?_cons_zero]; exact rfl
      go_simp
      refine (sum_two _ 2 bn an Y X _ (by omega) (by omega) nl_0).mono ?_
      rintro e w17 ⟨m64, ao64, n64, c64, rfl, h64_0, hb17⟩
      have hB_14 := hB_13.trans (hb17.mono hB_13.size)
      have ax_14 := ax_13.below hb17
      have bx_14 := bx_13.below hb17
      have cx_14 := cx_13.below hb17
      have pa_14 := pa_13.below hb17
      have pb_14 := pb_13.below hb17
      have pc_14 := pc_13.below hb17
      have hWq_14 := hWq_13.trans (hb17.mono hWq_13.size)
      have r22_14 := r22_13.below hb17
      have r29_14 := r29_13.below hb17
      have pone_14 := pone_13.below hb17
      have ptwo_14 := ptwo_13.below hb17
      have h34_11 := h34_10.below hb17
      have sb_10 := sb_9.below hb17
      have h52_5 := h52_4.below hb17
      have h53_4 := h53_3.below hb17
      have h60_2 := h60_1.below hb17
      have nl_1 := nl_0.below hb17
      clear hb17 hB_13 ax_13 bx_13 cx_13 pa_13 pb_13 pc_13 hWq_13 r22_13 r29_13 pone_13 ptwo_13 h34_10 sb_9 h52_4 h53_3 h60_1 nl_0
      go_wp2_with fail
      refine hK.out _ _ ⟨pa_14.c0, pa_14.c1, pb_14.c0, pb_14.c1, pc_14.c0, pc_14.c1, pone_14.c0, pone_14.c1, ptwo_14.c0, ptwo_14.c1, sb_10.c0, sb_10.c1⟩ (fun hHeld => ?_)
      clear hK K
      try simp only [Act.put, List.setIfInBounds_toArray, List.set_cons_zero, List.set_cons_succ]
      refine reg_call 30 ?_ (by kernel_rfl) ?_ (fun K hK => ?_)
      rotate_left 1
      · simp only [List.getElem?_toArray, List.getElem?_cons_succ, List.getElem?_cons_zero]; exact rfl
      go_simp
      refine (nCmp_even _ _ _ _ _ _ _ (by omega) (by omega) h60_2.num h64_0.num E3.out).mono ?_
      rintro e w18 ⟨rfl, hb18⟩
      have hB_15 := hB_14.trans (hb18.mono hB_14.size)
      have ax_15 := ax_14.below hb18
      have bx_15 := bx_14.below hb18
      have cx_15 := cx_14.below hb18
      have pa_15 := pa_14.below hb18
      have pb_15 := pb_14.below hb18
      have pc_15 := pc_14.below hb18
      have hWq_15 := hWq_14.trans (hb18.mono hWq_14.size)
      have r22_15 := r22_14.below hb18
      have r29_15 := r29_14.below hb18
      have pone_15 := pone_14.below hb18
      have ptwo_15 := ptwo_14.below hb18
      have h34_12 := h34_11.below hb18
      have sb_11 := sb_10.below hb18
      have h52_6 := h52_5.below hb18
      have h53_5 := h53_4.below hb18
      have h60_3 := h60_2.below hb18
      have nl_2 := nl_1.below hb18
      have h64_1 := h64_0.below hb18
      clear hb18 hB_14 ax_14 bx_14 cx_14 pa_14 pb_14 pc_14 hWq_14 r22_14 r29_14 pone_14 ptwo_14 h34_11 sb_10 h52_5 h53_4 h60_2 nl_1 h64_0
      go_wp2_with fail
      refine hK.out _ _ ⟨pa_15.c0, pa_15.c1, pb_15.c0, pb_15.c1, pc_15.c0, pc_15.c1, pone_15.c0, pone_15.c1, ptwo_15.c0, ptwo_15.c1, sb_11.c0, sb_11.c1⟩ (fun hHeld => ?_)
      clear hK K
      try simp only [Act.put, List.setIfInBounds_toArray, List.set_cons_zero, List.set_cons_succ]
      refine reg_take 31 ?_ ?_ ?_ (by kernel_rfl) (by kernel_rfl) (by kernel_rfl) (fun _ _ _ h => h) ?_ ?_ (by assumption) ?_
      rotate_left 2
      · simp only [List.getElem?_toArray, List.getElem?_cons_succ, List.getElem?_cons_zero]; exact rfl
      · rfl
      · intro w hSw; (try dsimp only at hSw); go_simp; try with_reducible rfl
      try simp only [Act.put, List.setIfInBounds_toArray, List.set_cons_zero, List.set_cons_succ]
      refine reg_take 32 ?_ ?_ ?_ (by kernel_rfl) (by kernel_rfl) (by kernel_rfl) (fun _ _ _ h => h) ?_ ?_ (by assumption) ?_
      rotate_left 2
      · simp only [List.getElem?_toArray, List.getElem?_cons_succ, List.getElem?_cons_zero]; exact rfl
      · rfl
      · intro w hSw; (try dsimp only at hSw); go_simp; try with_reducible rfl
      try simp only [Act.put, List.setIfInBounds_toArray, List.set_cons_zero, List.set_cons_succ]
      refine reg_take 33 ?_ ?_ ?_ (by kernel_rfl) (by kernel_rfl) (by kernel_rfl) (fun _ _ _ h => h) ?_ ?_ (by assumption) ?_
      rotate_left 2
      · simp only [List.getElem?_toArray, List.getElem?_cons_succ, List.getElem?_cons_zero]; exact rfl
      · rfl
      · intro w hSw; (try dsimp only at hSw); go_simp; try with_reducible rfl
      try simp only [Act.put, List.setIfInBounds_toArray, List.set_cons_zero, List.set_cons_succ]
      refine reg_call 34 ?_ (by kernel_rfl) ?_ (fun K hK => ?_)
      rotate_left 1
      · simp only [List.getElem?_toArray, List.getElem?_cons_succ, List.getElem?_cons_zero]; exact rfl
      go_simp
      refine (sum_none _).mono ?_
      rintro e w19 ⟨m69, ao69, n69, c69, rfl, h69_0, hb19⟩
      have hB_16 := hB_15.trans (hb19.mono hB_15.size)
      have ax_16 := ax_15.below hb19
      have bx_16 := bx_15.below hb19
      have cx_16 := cx_15.below hb19
      have pa_16 := pa_15.below hb19
      have pb_16 := pb_15.below hb19
      have pc_16 := pc_15.below hb19
      have hWq_16 := hWq_15.trans (hb19.mono hWq_15.size)
      have r22_16 := r22_15.below hb19
      have r29_16 := r29_15.below hb19
      have pone_16 := pone_15.below hb19
      have ptwo_16 := ptwo_15.below hb19
      have h34_13 := h34_12.below hb19
      have sb_12 := sb_11.below hb19
      have h52_7 := h52_6.below hb19
      have h53_6 := h53_5.below hb19
      have h60_4 := h60_3.below hb19
      have nl_3 := nl_2.below hb19
      have h64_2 := h64_1.below hb19
      clear hb19 hB_15 ax_15 bx_15 cx_15 pa_15 pb_15 pc_15 hWq_15 r22_15 r29_15 pone_15 ptwo_15 h34_12 sb_11 h52_6 h53_5 h60_3 nl_2 h64_1
      go_wp2_with fail
      refine hK.out _ _ ⟨pa_16.c0, pa_16.c1, pb_16.c0, pb_16.c1, pc_16.c0, pc_16.c1, pone_16.c0, pone_16.c1, ptwo_16.c0, ptwo_16.c1, sb_12.c0, sb_12.c1⟩ (fun hHeld => ?_)
      clear hK K
      try simp only [Act.put, List.setIfInBounds_toArray, List.set_cons_zero, List.set_cons_succ]
      refine reg_call 35 ?_ (by kernel_rfl) ?_ (fun K hK => ?_)
      rotate_left 1
      · simp only [List.getElem?_toArray, List.getElem?_cons_succ, List.getElem?_cons_zero]; exact rfl
      go_simp
      refine (Sign_is _ _ _ 0 _ (by omega) h69_0.num Int.sign_zero).mono ?_
      rintro e w20 ⟨rfl, hb20⟩
      have hB_17 := hB_16.trans (hb20.mono hB_16.size)
      have ax_17 := ax_16.below hb20
      have bx_17 := bx_16.below hb20
      have cx_17 := cx_16.below hb20
      have pa_17 := pa_16.below hb20
      have pb_17 := pb_16.below hb20
      have pc_17 := pc_16.below hb20
      have hWq_17 := hWq_16.trans (hb20.mono hWq_16.size)
      have r22_17 := r22_16.below hb20
      have r29_17 := r29_16.below hb20
      have pone_17 := pone_16.below hb20
      have ptwo_17 := ptwo_16.below hb20
      have h34_14 := h34_13.below hb20
      have sb_13 := sb_12.below hb20
      have h52_8 := h52_7.below hb20
      have h53_7 := h53_6.below hb20
      have h60_5 := h60_4.below hb20
      have nl_4 := nl_3.below hb20
      have h64_3 := h64_2.below hb20
      have h69_1 := h69_0.below hb20
      clear hb20 hB_16 ax_16 bx_16 cx_16 pa_16 pb_16 pc_16 hWq_16 r22_16 r29_16 pone_16 ptwo_16 h34_13 sb_12 h52_7 h53_6 h60_4 nl_3 h64_2 h69_0
      go_wp2_with fail
      refine hK.out _ _ ⟨pa_17.c0, pa_17.c1, pb_17.c0, pb_17.c1, pc_17.c0, pc_17.c1, pone_17.c0, pone_17.c1, ptwo_17.c0, ptwo_17.c1, sb_13.c0, sb_13.c1⟩ (fun hHeld => ?_)
      clear hK K
      try simp only [Act.put, List.setIfInBounds_toArray, List.set_cons_zero, List.set_cons_succ]
      refine reg_take 36 ?_ ?_ ?_ (by kernel_rfl) (by kernel_rfl) (by kernel_rfl) (fun _ _ _ h => h) ?_ ?_ (by assumption) ?_
      rotate_left 2
      · simp only [List.getElem?_toArray, List.getElem?_cons_succ, List.getElem?_cons_zero]; exact rfl
      · rfl
      · intro w hSw; (try dsimp only at hSw); go_simp; try with_reducible rfl
      try simp only [Act.put, List.setIfInBounds_toArray, List.set_cons_zero, List.set_cons_succ]
      refine reg_take 37 ?_ ?_ ?_ (by kernel_rfl) (by kernel_rfl) (by kernel_rfl) (fun _ _ _ h => h) ?_ ?_ (by assumption) ?_
      rotate_left 2
      · simp only [List.getElem?_toArray, List.getElem?_cons_succ, List.getElem?_cons_zero]; exact rfl
      · rfl
      · intro w hSw; (try dsimp only at hSw); go_simp; try with_reducible rfl
      try simp only [Act.put, List.setIfInBounds_toArray, List.set_cons_zero, List.set_cons_succ]
      refine reg_take 38 ?_ ?_ ?_ (by kernel_rfl) (by kernel_rfl) (by kernel_rfl) (fun _ _ _ h => h) ?_ ?_ (by assumption) ?_
      rotate_left 2
      · simp only [List.getElem?_toArray, List.getElem?_cons_succ, List.getElem?_cons_zero]; exact rfl
      · rfl
      · intro w hSw; (try dsimp only at hSw); go_simp; try with_reducible rfl
      try simp only [Act.put, List.setIfInBounds_toArray, List.set_cons_zero, List.set_cons_succ]
      refine wpAnyH_done (by kernel_rfl) ?_ _
      refine NoPanic.normal ?_
      go_wp2
      go_ret
      exact ⟨rfl, hB_17⟩
    · go_simp
      have hb15 : Below w14.heap.size w14 (w14.alloc (Obj.cells #[Value.bool bm, Value.slice bo bn bc, Value.bool am, Value.slice ao an ac] 25)) := (Below.refl _ _).alloc (Nat.le_refl _) _
      have nl_0 := nums_two w14 25 bx_11 ax_11
      have hB_12 := hB_11.trans (hb15.mono hB_11.size)
      have ax_12 := ax_11.below hb15
      have bx_12 := bx_11.below hb15
      have cx_12 := cx_11.below hb15
      have pa_12 := pa_11.below hb15
      have pb_12 := pb_11.below hb15
      have pc_12 := pc_11.below hb15
      have hWq_12 := hWq_11.trans (hb15.mono hWq_11.size)
      have r22_12 := r22_11.below hb15
      have r29_12 := r29_11.below hb15
      have pone_12 := pone_11.below hb15
      have ptwo_12 := ptwo_11.below hb15
      have h34_9 := h34_8.below hb15
      have sb_8 := sb_7.below hb15
      have h52_3 := h52_2.below hb15
      have h53_2 := h53_1.below hb15
      refine hK.out _ _ ⟨pa_12.c0, pa_12.c1, pb_12.c0, pb_12.c1, pc_12.c0, pc_12.c1, pone_12.c0, pone_12.c1, ptwo_12.c0, ptwo_12.c1, sb_8.c0, sb_8.c1⟩ (fun hHeld => ?_)
      clear hK K hb15
      try simp only [Act.put, List.setIfInBounds_toArray, List.set_cons_zero, List.set_cons_succ]
      generalize w14.alloc (Obj.cells #[Value.bool bm, Value.slice bo bn bc, Value.bool am, Value.slice ao an ac] 25) = w15 at *
      refine reg_call 25 ?_ (by kernel_rfl) ?_ (fun K hK => ?_)
      rotate_left 1
      · simp only [List.getElem?_toArray, List.getElem?_cons_succ, List.getElem?_cons_zero]; exact rfl
      go_simp
      refine (nSub_any _ _ _ _ _ _ _ (by omega) (by omega) h34_9.num cx_12).mono ?_
      rintro e w16 ⟨m60, ao60, n60, c60, rfl, h60_0, hb16⟩
      have hB_13 := hB_12.trans (hb16.mono hB_12.size)
      have ax_13 := ax_12.below hb16
      have bx_13 := bx_12.below hb16
      have cx_13 := cx_12.below hb16
      have pa_13 := pa_12.below hb16
      have pb_13 := pb_12.below hb16
      have pc_13 := pc_12.below hb16
      have hWq_13 := hWq_12.trans (hb16.mono hWq_12.size)
      have r22_13 := r22_12.below hb16
      have r29_13 := r29_12.below hb16
      have pone_13 := pone_12.below hb16
      have ptwo_13 := ptwo_12.below hb16
      have h34_10 := h34_9.below hb16
      have sb_9 := sb_8.below hb16
      have h52_4 := h52_3.below hb16
      have h53_3 := h53_2.below hb16
      have nl_1 := nl_0.below hb16
      clear hb16 hB_12 ax_12 bx_12 cx_12 pa_12 pb_12 pc_12 hWq_12 r22_12 r29_12 pone_12 ptwo_12 h34_9 sb_8 h52_3 h53_2 nl_0
      go_wp2_with fail
      refine hK.out _ _ ⟨pa_13.c0, pa_13.c1, pb_13.c0, pb_13.c1, pc_13.c0, pc_13.c1, pone_13.c0, pone_13.c1, ptwo_13.c0, ptwo_13.c1, sb_9.c0, sb_9.c1⟩ (fun hHeld => ?_)
      clear hK K
      try simp only [Act.put, List.setIfInBounds_toArray, List.set_cons_zero, List.set_cons_succ]
      refine reg_call 29 ?_ (by kernel_rfl) ?_ (fun K hK => ?_)
      rotate_left 1
      · simp only [List.getElem?_toArray, List.getElem?_cons_succ, List.getElem?_cons_zero]; exact rfl
      go_simp
      refine (sum_two _ 2 bn an Y X _ (by omega) (by omega) nl_1).mono ?_
      rintro e w17 ⟨m64, ao64, n64, c64, rfl, h64_0, hb17⟩
      have hB_14 := hB_13.trans (hb17.mono hB_13.size)
      have ax_14 := ax_13.below hb17
      have bx_14 := bx_13.below hb17
      have cx_14 := cx_13.below hb17
      have pa_14 := pa_13.below hb17
      have pb_14 := pb_13.below hb17
      have pc_14 := pc_13.below hb17
      have hWq_14 := hWq_13.trans (hb17.mono hWq_13.size)
      have r22_14 := r22_13.below hb17
      have r29_14 := r29_13.below hb17
      have pone_14 := pone_13.below hb17
      have ptwo_14 := ptwo_13.below hb17
      have h34_11 := h34_10.below hb17
      have sb_10 := sb_9.below hb17
      have h52_5 := h52_4.below hb17
      have h53_4 := h53_3.below hb17
      have nl_2 := nl_1.below hb17
      have h60_1 := h60_0.below hb17
      clear hb17 hB_13 ax_13 bx_13 cx_13 pa_13 pb_13 pc_13 hWq_13 r22_13 r29_13 pone_13 ptwo_13 h34_10 sb_9 h52_4 h53_3 nl_1 h60_0
      go_wp2_with fail
      refine hK.out _ _ ⟨pa_14.c0, pa_14.c1, pb_14.c0, pb_14.c1, pc_14.c0, pc_14.c1, pone_14.c0, pone_14.c1, ptwo_14.c0, ptwo_14.c1, sb_10.c0, sb_10.c1⟩ (fun hHeld => ?_)
      clear hK K
      try simp only [Act.put, List.setIfInBounds_toArray, List.set_cons_zero, List.set_cons_succ]
      refine reg_call 30 ?_ (by kernel_rfl) ?_ (fun K hK => ?_)
      rotate_left 1
      · simp only [List.getElem?_toArray, List.getElem?_cons_succ, List.getElem?_cons_zero]; exact rfl
      go_simp
      refine (nCmp_even _ _ _ _ _ _ _ (by omega) (by omega) h60_1.num h64_0.num E3.out).mono ?_
      rintro e w18 ⟨rfl, hb18⟩
      have hB_15 := hB_14.trans (hb18.mono hB_14.size)
      have ax_15 := ax_14.below hb18
      have bx_15 := bx_14.below hb18
      have cx_15 := cx_14.below hb18
      have pa_15 := pa_14.below hb18
      have pb_15 := pb_14.below hb18
      have pc_15 := pc_14.below hb18
      have hWq_15 := hWq_14.trans (hb18.mono hWq_14.size)
      have r22_15 := r22_14.below hb18
      have r29_15 := r29_14.below hb18
      have pone_15 := pone_14.below hb18
      have ptwo_15 := ptwo_14.below hb18
      have h34_12 := h34_11.below hb18
      have sb_11 := sb_10.below hb18
      have h52_6 := h52_5.below hb18
      have h53_5 := h53_4.below hb18
      have nl_3 := nl_2.below hb18
      have h60_2 := h60_1.below hb18
      have h64_1 := h64_0.below hb18
      clear hb18 hB_14 ax_14 bx_14 cx_14 pa_14 pb_14 pc_14 hWq_14 r22_14 r29_14 pone_14 ptwo_14 h34_11 sb_10 h52_5 h53_4 nl_2 h60_1 h64_0
      go_wp2_with fail
      refine hK.out _ _ ⟨pa_15.c0, pa_15.c1, pb_15.c0, pb_15.c1, pc_15.c0, pc_15.c1, pone_15.c0, pone_15.c1, ptwo_15.c0, ptwo_15.c1, sb_11.c0, sb_11.c1⟩ (fun hHeld => ?_)
      clear hK K
      try simp only [Act.put, List.setIfInBounds_toArray, List.set_cons_zero, List.set_cons_succ]
      refine reg_take 31 ?_ ?_ ?_ (by kernel_rfl) (by kernel_rfl) (by kernel_rfl) (fun _ _ _ h => h) ?_ ?_ (by assumption) ?_
      rotate_left 2
      · simp only [List.getElem?_toArray, List.getElem?_cons_succ, List.getElem?_cons_zero]; exact rfl
      · rfl
      · intro w hSw; (try dsimp only at hSw); go_simp; try with_reducible rfl
      try simp only [Act.put, List.setIfInBounds_toArray, List.set_cons_zero, List.set_cons_succ]
      refine reg_take 32 ?_ ?_ ?_ (by kernel_rfl) (by kernel_rfl) (by kernel_rfl) (fun _ _ _ h => h) ?_ ?_ (by assumption) ?_
      rotate_left 2
      · simp only [List.getElem?_toArray, List.getElem?_cons_succ, List.getElem?_cons_zero]; exact rfl
      · rfl
      · intro w hSw; (try dsimp only at hSw); go_simp; try with_reducible rfl
      try simp only [Act.put, List.setIfInBounds_toArray, List.set_cons_zero, List.set_cons_succ]
      refine reg_take 33 ?_ ?_ ?_ (by kernel_rfl) (by kernel_rfl) (by kernel_rfl) (fun _ _ _ h => h) ?_ ?_ (by assumption) ?_
      rotate_left 2
      · simp only [List.getElem?_toArray, List.getElem?_cons_succ, List.getElem?_cons_zero]; exact rfl
      · rfl
      · intro w hSw; (try dsimp only at hSw); go_simp; try with_reducible rfl
      try simp only [Act.put, List.setIfInBounds_toArray, List.set_cons_zero, List.set_cons_succ]
      refine reg_call 34 ?_ (by kernel_rfl) ?_ (fun K hK => ?_)
      rotate_left 1
      · simp only [List.getElem?_toArray, List.getElem?_cons_succ, List.getElem?_cons_zero]; exact rfl
      go_simp
      refine (sum_none _).mono ?_
      rintro e w19 ⟨m69, ao69, n69, c69, rfl, h69_0, hb19⟩
      have hB_16 := hB_15.trans (hb19.mono hB_15.size)
      have ax_16 := ax_15.below hb19
      have bx_16 := bx_15.below hb19
      have cx_16 := cx_15.below hb19
      have pa_16 := pa_15.below hb19
      have pb_16 := pb_15.below hb19
      have pc_16 := pc_15.below hb19
      have hWq_16 := hWq_15.trans (hb19.mono hWq_15.size)
      have r22_16 := r22_15.below hb19
      have r29_16 := r29_15.below hb19
      have pone_16 := pone_15.below hb19
      have ptwo_16 := ptwo_15.below hb19
      have h34_13 := h34_12.below hb19
      have sb_12 := sb_11.below hb19
      have h52_7 := h52_6.below hb19
      have h53_6 := h53_5.below hb19
      have nl_4 := nl_3.below hb19
      have h60_3 := h60_2.below hb19
      have h64_2 := h64_1.below hb19
      clear hb19 hB_15 ax_15 bx_15 cx_15 pa_15 pb_15 pc_15 hWq_15 r22_15 r29_15 pone_15 ptwo_15 h34_12 sb_11 h52_6 h53_5 nl_3 h60_2 h64_1
      go_wp2_with fail
      refine hK.out _ _ ⟨pa_16.c0, pa_16.c1, pb_16.c0, pb_16.c1, pc_16.c0, pc_16.c1, pone_16.c0, pone_16.c1, ptwo_16.c0, ptwo_16.c1, sb_12.c0, sb_12.c1⟩ (fun hHeld => ?_)
      clear hK K
      try simp only [Act.put, List.setIfInBounds_toArray, List.set_cons_zero, List.set_cons_succ]
      refine reg_call 35 ?_ (by kernel_rfl) ?_ (fun K hK => ?_)
      rotate_left 1
      · simp only [List.getElem?_toArray, List.getElem?_cons_succ, List.getElem?_cons_zero]; exact rfl
      go_simp
      refine (Sign_is _ _ _ 0 _ (by omega) h69_0.num Int.sign_zero).mono ?_
      rintro e w20 ⟨rfl, hb20⟩
      have hB_17 := hB_16.trans (hb20.mono hB_16.size)
      have ax_17 := ax_16.below hb20
      have bx_17 := bx_16.below hb20
      have cx_17 := cx_16.below hb20
      have pa_17 := pa_16.below hb20
      have pb_17 := pb_16.below hb20
      have pc_17 := pc_16.below hb20
      have hWq_17 := hWq_16.trans (hb20.mono hWq_16.size)
      have r22_17 := r22_16.below hb20
      have r29_17 := r29_16.below hb20
      have pone_17 := pone_16.below hb20
      have ptwo_17 := ptwo_16.below hb20
      have h34_14 := h34_13.below hb20
      have sb_13 := sb_12.below hb20
      have h52_8 := h52_7.below hb20
      have h53_7 := h53_6.below hb20
      have nl_5 := nl_4.below hb20
      have h60_4 := h60_3.below hb20
      have h64_3 := h64_2.below hb20
      have h69_1 := h69_0.below hb20
      clear hb20 hB_16 ax_16 bx_16 cx_16 pa_16 pb_16 pc_16 hWq_16 r22_16 r29_16 pone_16 ptwo_16 h34_13 sb_12 h52_7 h53_6 nl_4 h60_3 h64_2 h69_0
      go_wp2_with fail
      refine hK.out _ _ ⟨pa_17.c0, pa_17.c1, pb_17.c0, pb_17.c1, pc_17.c0, pc_17.c1, pone_17.c0, pone_17.c1, ptwo_17.c0, ptwo_17.c1, sb_13.c0, sb_13.c1⟩ (fun hHeld => ?_)
      clear hK K
      try simp only [Act.put, List.setIfInBounds_toArray, List.set_cons_zero, List.set_cons_succ]
      refine reg_take 36 ?_ ?_ ?_ (by kernel_rfl) (by kernel_rfl) (by kernel_rfl) (fun _ _ _ h => h) ?_ ?_ (by assumption) ?_
      rotate_left 2
      · simp only [List.getElem?_toArray, List.getElem?_cons_succ, List.getElem?_cons_zero]; exact rfl
      · rfl
      · intro w hSw; (try dsimp only at hSw); go_simp; try with_reducible rfl
      try simp only [Act.put, List.setIfInBounds_toArray, List.set_cons_zero, List.set_cons_succ]
      refine reg_take 37 ?_ ?_ ?_ (by kernel_rfl) (by kernel_rfl) (by kernel_rfl) (fun _ _ _ h => h) ?_ ?_ (by assumption) ?_
      rotate_left 2
      · simp only [List.getElem?_toArray, List.getElem?_cons_succ, List.getElem?_cons_zero]; exact rfl
      · rfl
      · intro w hSw; (try dsimp only at hSw); go_simp; try with_reducible rfl
      try simp only [Act.put, List.setIfInBounds_toArray, List.set_cons_zero, List.set_cons_succ]
      refine reg_take 38 ?_ ?_ ?_ (by kernel_rfl) (by kernel_rfl) (by kernel_rfl) (fun _ _ _ h => h) ?_ ?_ (by assumption) ?_
      rotate_left 2
      · simp only [List.getElem?_toArray, List.getElem?_cons_succ, List.getElem?_cons_zero]; exact rfl
      · rfl
      · intro w hSw; (try dsimp only at hSw); go_simp; try with_reducible rfl
      try simp only [Act.put, List.setIfInBounds_toArray, List.set_cons_zero, List.set_cons_succ]
      refine wpAnyH_done (by kernel_rfl) ?_ _
      refine NoPanic.normal ?_
      go_wp2
      go_ret
      exact ⟨rfl, hB_17⟩
  simp only [HAq.out, Act.put, List.setIfInBounds_toArray, List.set_cons_zero, List.set_cons_succ] at stq_5tt
  have stq_5tf : ∀ (w' : World) (m21 : Bool) (ao21 : Option Addr) (n21 c21 : Nat) (m22 : Bool) (ao22 : Option Addr) (n22 c22 : Nat) (m25 : Bool) (ao25 : Option Addr) (n25 c25 : Nat) (m28 : Bool) (ao28 : Option Addr) (n28 c28 : Nat) (m29 : Bool) (ao29 : Option Addr) (n29 c29 : Nat) (gone : Nat), Below w.heap.size w w' → Num w' (.agg #[.bool am, .slice ao an ac]) an X → Num w' (.agg #[.bool bm, .slice bo bn bc]) bn Y → Num w' (.agg #[.bool cm, .slice co cn cc]) cn Z → Box2 w' (w.heap.size) (.bool am) (.slice ao an ac) → Box2 w' (w.heap.size + 1) (.bool bm) (.slice bo bn bc) → Box2 w' (w.heap.size + 1 + 1) (.bool cm) (.slice co cn cc) → Below w3.heap.size w3 w' → RNum w' (.agg #[.bool m21, .slice ao21 n21 c21]) (max bn cn + 1) (Y + Z) → RNum w' (.agg #[.bool m22, .slice ao22 n22 c22]) (an + (max bn cn + 1)) (X * (Y + Z)) → RNum w' (.agg #[.bool m25, .slice ao25 n25 c25]) (cn + an) (Z * X) → RNum w' (.agg #[.bool m28, .slice ao28 n28 c28]) (bn + an) (Y * X) → RNum w' (.agg #[.bool m29, .slice ao29 n29 c29]) (max (cn + an) (bn + an) + 1) (Z * X + Y * X) → Box2 w' gone (.bool false) (.slice none 0 0) → w3.heap.size ≤ gone → WWq 3 #[true, true, true, true, true, true, true, true, true, true, true, true, true, false, false, false] ((((((aq.put (some 21) (.agg #[.bool m21, .slice ao21 n21 c21])).put (some 22) (.agg #[.bool m22, .slice ao22 n22 c22])).put (some 25) (.agg #[.bool m25, .slice ao25 n25 c25])).put (some 28) (.agg #[.bool m28, .slice ao28 n28 c28])).put (some 29) (.agg #[.bool m29, .slice ao29 n29 c29])).put (some 7) (.pointer (some ⟨gone, 0, none⟩))) w' := by
    intro w15 m21 ao21 n21 c21 m22 ao22 n22 c22 m25 ao25 n25 c25 m28 ao28 n28 c28 m29 ao29 n29 c29 gone hB_0 ax_0 bx_0 cx_0 pa_0 pb_0 pc_0 hWq_0 r21_0 r22_0 r25_0 r28_0 r29_0 pone_0 hgone
    rw [HWq.out, HAq.out]
    try simp only [Act.put, List.setIfInBounds_toArray, List.set_cons_zero, List.set_cons_succ]
    refine reg_all1 13 ?_ (by kernel_rfl) ?_ (fun K hK => ?_)
    rotate_left 1
    · simp only [List.getElem?_toArray, List.getElem?_cons_succ, List.getElem?_cons_zero]; exact rfl
    · go_simp
      have hal : Below w15.heap.size w15 (w15.alloc (Obj.cells #[Value.bool false, Value.slice none 0 0] 25)) := (Below.refl _ _).alloc (Nat.le_refl _) _
      have ptwo_0 := alloc_box w15 (.bool false) (.slice none 0 0) 25
      have hgn : w3.heap.size ≤ w15.heap.size := hWq_0.size
      have hlpone : gone < w15.heap.size := World.block_lt_of_cell? _ _ pone_0.c0
      have hB_1 := hB_0.trans (hal.mono hB_0.size)
      have ax_1 := ax_0.below hal
      have bx_1 := bx_0.below hal
      have cx_1 := cx_0.below hal
      have pa_1 := pa_0.below hal
      have pb_1 := pb_0.below hal
      have pc_1 := pc_0.below hal
      have hWq_1 := hWq_0.trans (hal.mono hWq_0.size)
      have r21_1 := r21_0.below hal
      have r22_1 := r22_0.below hal
      have r25_1 := r25_0.below hal
      have r28_1 := r28_0.below hal
      have r29_1 := r29_0.below hal
      have pone_1 := pone_0.below hal
      refine hK.out _ _ ⟨pa_1.c0, pa_1.c1, pb_1.c0, pb_1.c1, pc_1.c0, pc_1.c1⟩ (fun hHeld => ?_)
      clear hK K hHeld
      try simp only [Act.put, List.setIfInBounds_toArray, List.set_cons_zero, List.set_cons_succ]
      rw [← HWq.out]
      exact stq_5tt _ m21 ao21 n21 c21 m22 ao22 n22 c22 m25 ao25 n25 c25 m28 ao28 n28 c28 m29 ao29 n29 c29 gone w15.heap.size hB_1 ax_1 bx_1 cx_1 pa_1 pb_1 pc_1 hWq_1 r21_1 r22_1 r25_1 r28_1 r29_1 pone_1 ptwo_0 (by omega) (by omega) (by omega)
  try simp only [HAq.out, Act.put, List.setIfInBounds_toArray, List.set_cons_zero, List.set_cons_succ] at stq_5tf
  have stq_5ft : ∀ (w' : World) (m21 : Bool) (ao21 : Option Addr) (n21 c21 : Nat) (m22 : Bool) (ao22 : Option Addr) (n22 c22 : Nat) (m25 : Bool) (ao25 : Option Addr) (n25 c25 : Nat) (m28 : Bool) (ao28 : Option Addr) (n28 c28 : Nat) (m29 : Bool) (ao29 : Option Addr) (n29 c29 : Nat) (gtwo : Nat), Below w.heap.size w w' → Num w' (.agg #[.bool am, .slice ao an ac]) an X → Num w' (.agg #[.bool bm, .slice bo bn bc]) bn Y → Num w' (.agg #[.bool cm, .slice co cn cc]) cn Z → Box2 w' (w.heap.size) (.bool am) (.slice ao an ac) → Box2 w' (w.heap.size + 1) (.bool bm) (.slice bo bn bc) → Box2 w' (w.heap.size + 1 + 1) (.bool cm) (.slice co cn cc) → Below w3.heap.size w3 w' → RNum w' (.agg #[.bool m21, .slice ao21 n21 c21]) (max bn cn + 1) (Y + Z) → RNum w' (.agg #[.bool m22, .slice ao22 n22 c22]) (an + (max bn cn + 1)) (X * (Y + Z)) → RNum w' (.agg #[.bool m25, .slice ao25 n25 c25]) (cn + an) (Z * X) → RNum w' (.agg #[.bool m28, .slice ao28 n28 c28]) (bn + an) (Y * X) → RNum w' (.agg #[.bool m29, .slice ao29 n29 c29]) (max (cn + an) (bn + an) + 1) (Z * X + Y * X) → Box2 w' gtwo (.bool false) (.slice none 0 0) → w3.heap.size ≤ gtwo → WWq 3 #[true, true, true, true, true, true, true, true, true, true, true, true, false, true, false, false] ((((((aq.put (some 21) (.agg #[.bool m21, .slice ao21 n21 c21])).put (some 22) (.agg #[.bool m22, .slice ao22 n22 c22])).put (some 25) (.agg #[.bool m25, .slice ao25 n25 c25])).put (some 28) (.agg #[.bool m28, .slice ao28 n28 c28])).put (some 29) (.agg #[.bool m29, .slice ao29 n29 c29])).put (some 8) (.pointer (some ⟨gtwo, 0, none⟩))) w' := by
    intro w16 m21 ao21 n21 c21 m22 ao22 n22 c22 m25 ao25 n25 c25 m28 ao28 n28 c28 m29 ao29 n29 c29 gtwo hB_0 ax_0 bx_0 cx_0 pa_0 pb_0 pc_0 hWq_0 r21_0 r22_0 r25_0 r28_0 r29_0 ptwo_0 hgtwo
    rw [HWq.out, HAq.out]
    try simp only [Act.put, List.setIfInBounds_toArray, List.set_cons_zero, List.set_cons_succ]
    refine reg_all1 12 ?_ (by kernel_rfl) ?_ (fun K hK => ?_)
    rotate_left 1
    · simp only [List.getElem?_toArray, List.getElem?_cons_succ, List.getElem?_cons_zero]; exact rfl
    · go_simp
      have hal : Below w16.heap.size w16 (w16.alloc (Obj.cells #[Value.bool false, Value.slice none 0 0] 25)) := (Below.refl _ _).alloc (Nat.le_refl _) _
      have pone_0 := alloc_box w16 (.bool false) (.slice none 0 0) 25
      have hgn : w3.heap.size ≤ w16.heap.size := hWq_0.size
      have hlptwo : gtwo < w16.heap.size := World.block_lt_of_cell? _ _ ptwo_0.c0
      have hB_1 := hB_0.trans (hal.mono hB_0.size)
      have ax_1 := ax_0.below hal
      have bx_1 := bx_0.below hal
      have cx_1 := cx_0.below hal
      have pa_1 := pa_0.below hal
      have pb_1 := pb_0.below hal
      have pc_1 := pc_0.below hal
      have hWq_1 := hWq_0.trans (hal.mono hWq_0.size)
      have r21_1 := r21_0.below hal
      have r22_1 := r22_0.below hal
      have r25_1 := r25_0.below hal
      have r28_1 := r28_0.below hal
      have r29_1 := r29_0.below hal
      have ptwo_1 := ptwo_0.below hal
      refine hK.out _ _ ⟨pa_1.c0, pa_1.c1, pb_1.c0, pb_1.c1, pc_1.c0, pc_1.c1⟩ (fun hHeld => ?_)
      clear hK K hHeld
      try simp only [Act.put, List.setIfInBounds_toArray, List.set_cons_zero, List.set_cons_succ]
      rw [← HWq.out]
      exact stq_5tt _ m21 ao21 n21 c21 m22 ao22 n22 c22 m25 ao25 n25 c25 m28 ao28 n28 c28 m29 ao29 n29 c29 w16.heap.size gtwo hB_1 ax_1 bx_1 cx_1 pa_1 pb_1 pc_1 hWq_1 r21_1 r22_1 r25_1 r28_1 r29_1 pone_0 ptwo_1 (by omega) (by omega) (by omega)
  try simp only [HAq.out, Act.put, List.setIfInBounds_toArray, List.set_cons_zero, List.set_cons_succ] at stq_5ft
  have stq_4tt : ∀ (w' : World) (m21 : Bool) (ao21 : Option Addr) (n21 c21 : Nat) (m22 : Bool) (ao22 : Option Addr) (n22 c22 : Nat) (m25 : Bool) (ao25 : Option Addr) (n25 c25 : Nat) (m28 : Bool) (ao28 : Option Addr) (n28 c28 : Nat) (gone : Nat) (gtwo : Nat), Below w.heap.size w w' → Num w' (.agg #[.bool am, .slice ao an ac]) an X → Num w' (.agg #[.bool bm, .slice bo bn bc]) bn Y → Num w' (.agg #[.bool cm, .slice co cn cc]) cn Z → Box2 w' (w.heap.size) (.bool am) (.slice ao an ac) → Box2 w' (w.heap.size + 1) (.bool bm) (.slice bo bn bc) → Box2 w' (w.heap.size + 1 + 1) (.bool cm) (.slice co cn cc) → Below w3.heap.size w3 w' → RNum w' (.agg #[.bool m21, .slice ao21 n21 c21]) (max bn cn + 1) (Y + Z) → RNum w' (.agg #[.bool m22, .slice ao22 n22 c22]) (an + (max bn cn + 1)) (X * (Y + Z)) → RNum w' (.agg #[.bool m25, .slice ao25 n25 c25]) (cn + an) (Z * X) → RNum w' (.agg #[.bool m28, .slice ao28 n28 c28]) (bn + an) (Y * X) → Box2 w' gone (.bool false) (.slice none 0 0) → Box2 w' gtwo (.bool false) (.slice none 0 0) → w3.heap.size ≤ gone → w3.heap.size ≤ gtwo → gone ≠ gtwo → WWq 3 #[true, true, true, true, true, true, true, true, true, true, true, false, true, true, false, false] ((((((aq.put (some 21) (.agg #[.bool m21, .slice ao21 n21 c21])).put (some 22) (.agg #[.bool m22, .slice ao22 n22 c22])).put (some 25) (.agg #[.bool m25, .slice ao25 n25 c25])).put (some 28) (.agg #[.bool m28, .slice ao28 n28 c28])).put (some 7) (.pointer (some ⟨gone, 0, none⟩))).put (some 8) (.pointer (some ⟨gtwo, 0, none⟩))) w' := by
    intro w17 m21 ao21 n21 c21 m22 ao22 n22 c22 m25 ao25 n25 c25 m28 ao28 n28 c28 gone gtwo hB_0 ax_0 bx_0 cx_0 pa_0 pb_0 pc_0 hWq_0 r21_0 r22_0 r25_0 r28_0 pone_0 ptwo_0 hgone hgtwo hnonetwo
    rw [HWq.out, HAq.out]
    try simp only [Act.put, List.setIfInBounds_toArray, List.set_cons_zero, List.set_cons_succ]
    refine reg_all1 11 ?_ (by kernel_rfl) ?_ (fun K hK => ?_)
    rotate_left 1
    · simp only [List.getElem?_toArray, List.getElem?_cons_succ, List.getElem?_cons_zero]; exact rfl
    · go_simp
      refine (nAdd_any _ _ _ _ _ _ _ (by omega) (by omega) r25_0.num r28_0.num).mono ?_
      rintro e w18 ⟨m29, ao29, n29, c29, rfl, r29_0, hb18⟩
      have hB_1 := hB_0.trans (hb18.mono hB_0.size)
      have ax_1 := ax_0.below hb18
      have bx_1 := bx_0.below hb18
      have cx_1 := cx_0.below hb18
      have pa_1 := pa_0.below hb18
      have pb_1 := pb_0.below hb18
      have pc_1 := pc_0.below hb18
      have hWq_1 := hWq_0.trans (hb18.mono hWq_0.size)
      have r21_1 := r21_0.below hb18
      have r22_1 := r22_0.below hb18
      have r25_1 := r25_0.below hb18
      have r28_1 := r28_0.below hb18
      have pone_1 := pone_0.below hb18
      have ptwo_1 := ptwo_0.below hb18
      go_wp2_with fail
      refine hK.out _ _ ⟨pa_1.c0, pa_1.c1, pb_1.c0, pb_1.c1, pc_1.c0, pc_1.c1⟩ (fun hHeld => ?_)
      clear hK K hHeld
      try simp only [Act.put, List.setIfInBounds_toArray, List.set_cons_zero, List.set_cons_succ]
      rw [← HWq.out]
      exact stq_5tt _ m21 ao21 n21 c21 m22 ao22 n22 c22 m25 ao25 n25 c25 m28 ao28 n28 c28 m29 ao29 n29 c29 gone gtwo hB_1 ax_1 bx_1 cx_1 pa_1 pb_1 pc_1 hWq_1 r21_1 r22_1 r25_1 r28_1 r29_0 pone_1 ptwo_1 (by omega) (by omega) (by omega)
  try simp only [HAq.out, Act.put, List.setIfInBounds_toArray, List.set_cons_zero, List.set_cons_succ] at stq_4tt
  have stq_5ff : ∀ (w' : World) (m21 : Bool) (ao21 : Option Addr) (n21 c21 : Nat) (m22 : Bool) (ao22 : Option Addr) (n22 c22 : Nat) (m25 : Bool) (ao25 : Option Addr) (n25 c25 : Nat) (m28 : Bool) (ao28 : Option Addr) (n28 c28 : Nat) (m29 : Bool) (ao29 : Option Addr) (n29 c29 : Nat), Below w.heap.size w w' → Num w' (.agg #[.bool am, .slice ao an ac]) an X → Num w' (.agg #[.bool bm, .slice bo bn bc]) bn Y → Num w' (.agg #[.bool cm, .slice co cn cc]) cn Z → Box2 w' (w.heap.size) (.bool am) (.slice ao an ac) → Box2 w' (w.heap.size + 1) (.bool bm) (.slice bo bn bc) → Box2 w' (w.heap.size + 1 + 1) (.bool cm) (.slice co cn cc) → Below w3.heap.size w3 w' → RNum w' (.agg #[.bool m21, .slice ao21 n21 c21]) (max bn cn + 1) (Y + Z) → RNum w' (.agg #[.bool m22, .slice ao22 n22 c22]) (an + (max bn cn + 1)) (X * (Y + Z)) → RNum w' (.agg #[.bool m25, .slice ao25 n25 c25]) (cn + an) (Z * X) → RNum w' (.agg #[.bool m28, .slice ao28 n28 c28]) (bn + an) (Y * X) → RNum w' (.agg #[.bool m29, .slice ao29 n29 c29]) (max (cn + an) (bn + an) + 1) (Z * X + Y * X) → WWq 4 #[true, true, true, true, true, true, true, true, true, true, true, true, false, false, false, false] (((((aq.put (some 21) (.agg #[.bool m21, .slice ao21 n21 c21])).put (some 22) (.agg #[.bool m22, .slice ao22 n22 c22])).put (some 25) (.agg #[.bool m25, .slice ao25 n25 c25])).put (some 28) (.agg #[.bool m28, .slice ao28 n28 c28])).put (some 29) (.agg #[.bool m29, .slice ao29 n29 c29])) w' := by
    intro w19 m21 ao21 n21 c21 m22 ao22 n22 c22 m25 ao25 n25 c25 m28 ao28 n28 c28 m29 ao29 n29 c29 hB_0 ax_0 bx_0 cx_0 pa_0 pb_0 pc_0 hWq_0 r21_0 r22_0 r25_0 r28_0 r29_0
    rw [HWq.out, HAq.out]
    try simp only [Act.put, List.setIfInBounds_toArray, List.set_cons_zero, List.set_cons_succ]
    refine reg_all2 12 13 ?_ ?_ (by kernel_rfl) ?_ ?_ (fun K hK => ?_) (fun K hK => ?_)
    rotate_left 2
    · simp only [List.getElem?_toArray, List.getElem?_cons_succ, List.getElem?_cons_zero]; exact rfl
    · simp only [List.getElem?_toArray, List.getElem?_cons_succ, List.getElem?_cons_zero]; exact rfl
    · go_simp
      have hal : Below w19.heap.size w19 (w19.alloc (Obj.cells #[Value.bool false, Value.slice none 0 0] 25)) := (Below.refl _ _).alloc (Nat.le_refl _) _
      have pone_0 := alloc_box w19 (.bool false) (.slice none 0 0) 25
      have hgn : w3.heap.size ≤ w19.heap.size := hWq_0.size
      have hB_1 := hB_0.trans (hal.mono hB_0.size)
      have ax_1 := ax_0.below hal
      have bx_1 := bx_0.below hal
      have cx_1 := cx_0.below hal
      have pa_1 := pa_0.below hal
      have pb_1 := pb_0.below hal
      have pc_1 := pc_0.below hal
      have hWq_1 := hWq_0.trans (hal.mono hWq_0.size)
      have r21_1 := r21_0.below hal
      have r22_1 := r22_0.below hal
      have r25_1 := r25_0.below hal
      have r28_1 := r28_0.below hal
      have r29_1 := r29_0.below hal
      refine hK.out _ _ ⟨pa_1.c0, pa_1.c1, pb_1.c0, pb_1.c1, pc_1.c0, pc_1.c1⟩ (fun hHeld => ?_)
      clear hK K hHeld
      try simp only [Act.put, List.setIfInBounds_toArray, List.set_cons_zero, List.set_cons_succ]
      rw [← HWq.out]
      exact stq_5tf _ m21 ao21 n21 c21 m22 ao22 n22 c22 m25 ao25 n25 c25 m28 ao28 n28 c28 m29 ao29 n29 c29 w19.heap.size hB_1 ax_1 bx_1 cx_1 pa_1 pb_1 pc_1 hWq_1 r21_1 r22_1 r25_1 r28_1 r29_1 pone_0 (by omega)
    · go_simp
      have hal : Below w19.heap.size w19 (w19.alloc (Obj.cells #[Value.bool false, Value.slice none 0 0] 25)) := (Below.refl _ _).alloc (Nat.le_refl _) _
      have ptwo_0 := alloc_box w19 (.bool false) (.slice none 0 0) 25
      have hgn : w3.heap.size ≤ w19.heap.size := hWq_0.size
      have hB_1 := hB_0.trans (hal.mono hB_0.size)
      have ax_1 := ax_0.below hal
      have bx_1 := bx_0.below hal
      have cx_1 := cx_0.below hal
      have pa_1 := pa_0.below hal
      have pb_1 := pb_0.below hal
      have pc_1 := pc_0.below hal
      have hWq_1 := hWq_0.trans (hal.mono hWq_0.size)
      have r21_1 := r21_0.below hal
      have r22_1 := r22_0.below hal
      have r25_1 := r25_0.below hal
      have r28_1 := r28_0.below hal
      have r29_1 := r29_0.below hal
      refine hK.out _ _ ⟨pa_1.c0, pa_1.c1, pb_1.c0, pb_1.c1, pc_1.c0, pc_1.c1⟩ (fun hHeld => ?_)
      clear hK K hHeld
      try simp only [Act.put, List.setIfInBounds_toArray, List.set_cons_zero, List.set_cons_succ]
      rw [← HWq.out]
      exact stq_5ft _ m21 ao21 n21 c21 m22 ao22 n22 c22 m25 ao25 n25 c25 m28 ao28 n28 c28 m29 ao29 n29 c29 w19.heap.size hB_1 ax_1 bx_1 cx_1 pa_1 pb_1 pc_1 hWq_1 r21_1 r22_1 r25_1 r28_1 r29_1 ptwo_0 (by omega)
  try simp only [HAq.out, Act.put, List.setIfInBounds_toArray, List.set_cons_zero, List.set_cons_succ] at stq_5ff
  have stq_4tf : ∀ (w' : World) (m21 : Bool) (ao21 : Option Addr) (n21 c21 : Nat) (m22 : Bool) (ao22 : Option Addr) (n22 c22 : Nat) (m25 : Bool) (ao25 : Option Addr) (n25 c25 : Nat) (m28 : Bool) (ao28 : Option Addr) (n28 c28 : Nat) (gone : Nat), Below w.heap.size w w' → Num w' (.agg #[.bool am, .slice ao an ac]) an X → Num w' (.agg #[.bool bm, .slice bo bn bc]) bn Y → Num w' (.agg #[.bool cm, .slice co cn cc]) cn Z → Box2 w' (w.heap.size) (.bool am) (.slice ao an ac) → Box2 w' (w.heap.size + 1) (.bool bm) (.slice bo bn bc) → Box2 w' (w.heap.size + 1 + 1) (.bool cm) (.slice co cn cc) → Below w3.heap.size w3 w' → RNum w' (.agg #[.bool m21, .slice ao21 n21 c21]) (max bn cn + 1) (Y + Z) → RNum w' (.agg #[.bool m22, .slice ao22 n22 c22]) (an + (max bn cn + 1)) (X * (Y + Z)) → RNum w' (.agg #[.bool m25, .slice ao25 n25 c25]) (cn + an) (Z * X) → RNum w' (.agg #[.bool m28, .slice ao28 n28 c28]) (bn + an) (Y * X) → Box2 w' gone (.bool false) (.slice none 0 0) → w3.heap.size ≤ gone → WWq 4 #[true, true, true, true, true, true, true, true, true, true, true, false, true, false, false, false] (((((aq.put (some 21) (.agg #[.bool m21, .slice ao21 n21 c21])).put (some 22) (.agg #[.bool m22, .slice ao22 n22 c22])).put (some 25) (.agg #[.bool m25, .slice ao25 n25 c25])).put (some 28) (.agg #[.bool m28, .slice ao28 n28 c28])).put (some 7) (.pointer (some ⟨gone, 0, none⟩))) w' := by
    intro w20 m21 ao21 n21 c21 m22 ao22 n22 c22 m25 ao25 n25 c25 m28 ao28 n28 c28 gone hB_0 ax_0 bx_0 cx_0 pa_0 pb_0 pc_0 hWq_0 r21_0 r22_0 r25_0 r28_0 pone_0 hgone
    rw [HWq.out, HAq.out]
    try simp only [Act.put, List.setIfInBounds_toArray, List.set_cons_zero, List.set_cons_succ]
    refine reg_all2 11 13 ?_ ?_ (by kernel_rfl) ?_ ?_ (fun K hK => ?_) (fun K hK => ?_)
    rotate_left 2
    · simp only [List.getElem?_toArray, List.getElem?_cons_succ, List.getElem?_cons_zero]; exact rfl
    · simp only [List.getElem?_toArray, List.getElem?_cons_succ, List.getElem?_cons_zero]; exact rfl
    · go_simp
      refine (nAdd_any _ _ _ _ _ _ _ (by omega) (by omega) r25_0.num r28_0.num).mono ?_
      rintro e w21 ⟨m29, ao29, n29, c29, rfl, r29_0, hb21⟩
      have hB_1 := hB_0.trans (hb21.mono hB_0.size)
      have ax_1 := ax_0.below hb21
      have bx_1 := bx_0.below hb21
      have cx_1 := cx_0.below hb21
      have pa_1 := pa_0.below hb21
      have pb_1 := pb_0.below hb21
      have pc_1 := pc_0.below hb21
      have hWq_1 := hWq_0.trans (hb21.mono hWq_0.size)
      have r21_1 := r21_0.below hb21
      have r22_1 := r22_0.below hb21
      have r25_1 := r25_0.below hb21
      have r28_1 := r28_0.below hb21
      have pone_1 := pone_0.below hb21
      go_wp2_with fail
      refine hK.out _ _ ⟨pa_1.c0, pa_1.c1, pb_1.c0, pb_1.c1, pc_1.c0, pc_1.c1⟩ (fun hHeld => ?_)
      clear hK K hHeld
      try simp only [Act.put, List.setIfInBounds_toArray, List.set_cons_zero, List.set_cons_succ]
      rw [← HWq.out]
      exact stq_5tf _ m21 ao21 n21 c21 m22 ao22 n22 c22 m25 ao25 n25 c25 m28 ao28 n28 c28 m29 ao29 n29 c29 gone hB_1 ax_1 bx_1 cx_1 pa_1 pb_1 pc_1 hWq_1 r21_1 r22_1 r25_1 r28_1 r29_0 pone_1 (by omega)
    · go_simp
      have hal : Below w20.heap.size w20 (w20.alloc (Obj.cells #[Value.bool false, Value.slice none 0 0] 25)) := (Below.refl _ _).alloc (Nat.le_refl _) _
      have ptwo_0 := alloc_box w20 (.bool false) (.slice none 0 0) 25
      have hgn : w3.heap.size ≤ w20.heap.size := hWq_0.size
      have hlpone : gone < w20.heap.size := World.block_lt_of_cell? _ _ pone_0.c0
      have hB_1 := hB_0.trans (hal.mono hB_0.size)
      have ax_1 := ax_0.below hal
      have bx_1 := bx_0.below hal
      have cx_1 := cx_0.below hal
      have pa_1 := pa_0.below hal
      have pb_1 := pb_0.below hal
      have pc_1 := pc_0.below hal
      have hWq_1 := hWq_0.trans (hal.mono hWq_0.size)
      have r21_1 := r21_0.below hal
      have r22_1 := r22_0.below hal
      have r25_1 := r25_0.below hal
      have r28_1 := r28_0.below hal
      have pone_1 := pone_0.below hal
      refine hK.out _ _ ⟨pa_1.c0, pa_1.c1, pb_1.c0, pb_1.c1, pc_1.c0, pc_1.c1⟩ (fun hHeld => ?_)
      clear hK K hHeld
      try simp only [Act.put, List.setIfInBounds_toArray, List.set_cons_zero, List.set_cons_succ]
      rw [← HWq.out]
      exact stq_4tt _ m21 ao21 n21 c21 m22 ao22 n22 c22 m25 ao25 n25 c25 m28 ao28 n28 c28 gone w20.heap.size hB_1 ax_1 bx_1 cx_1 pa_1 pb_1 pc_1 hWq_1 r21_1 r22_1 r25_1 r28_1 pone_1 ptwo_0 (by omega) (by omega) (by omega)
  try simp only [HAq.out, Act.put, List.setIfInBounds_toArray, List.set_cons_zero, List.set_cons_succ] at stq_4tf
  have stq_4ft : ∀ (w' : World) (m21 : Bool) (ao21 : Option Addr) (n21 c21 : Nat) (m22 : Bool) (ao22 : Option Addr) (n22 c22 : Nat) (m25 : Bool) (ao25 : Option Addr) (n25 c25 : Nat) (m28 : Bool) (ao28 : Option Addr) (n28 c28 : Nat) (gtwo : Nat), Below w.heap.size w w' → Num w' (.agg #[.bool am, .slice ao an ac]) an X → Num w' (.agg #[.bool bm, .slice bo bn bc]) bn Y → Num w' (.agg #[.bool cm, .slice co cn cc]) cn Z → Box2 w' (w.heap.size) (.bool am) (.slice ao an ac) → Box2 w' (w.heap.size + 1) (.bool bm) (.slice bo bn bc) → Box2 w' (w.heap.size + 1 + 1) (.bool cm) (.slice co cn cc) → Below w3.heap.size w3 w' → RNum w' (.agg #[.bool m21, .slice ao21 n21 c21]) (max bn cn + 1) (Y + Z) → RNum w' (.agg #[.bool m22, .slice ao22 n22 c22]) (an + (max bn cn + 1)) (X * (Y + Z)) → RNum w' (.agg #[.bool m25, .slice ao25 n25 c25]) (cn + an) (Z * X) → RNum w' (.agg #[.bool m28, .slice ao28 n28 c28]) (bn + an) (Y * X) → Box2 w' gtwo (.bool false) (.slice none 0 0) → w3.heap.size ≤ gtwo → WWq 4 #[true, true, true, true, true, true, true, true, true, true, true, false, false, true, false, false] (((((aq.put (some 21) (.agg #[.bool m21, .slice ao21 n21 c21])).put (some 22) (.agg #[.bool m22, .slice ao22 n22 c22])).put (some 25) (.agg #[.bool m25, .slice ao25 n25 c25])).put (some 28) (.agg #[.bool m28, .slice ao28 n28 c28])).put (some 8) (.pointer (some ⟨gtwo, 0, none⟩))) w' := by
    intro w22 m21 ao21 n21 c21 m22 ao22 n22 c22 m25 ao25 n25 c25 m28 ao28 n28 c28 gtwo hB_0 ax_0 bx_0 cx_0 pa_0 pb_0 pc_0 hWq_0 r21_0 r22_0 r25_0 r28_0 ptwo_0 hgtwo
    rw [HWq.out, HAq.out]
    try simp only [Act.put, List.setIfInBounds_toArray, List.set_cons_zero, List.set_cons_succ]
    refine reg_all2 11 12 ?_ ?_ (by kernel_rfl) ?_ ?_ (fun K hK => ?_) (fun K hK => ?_)
    rotate_left 2
    · simp only [List.getElem?_toArray, List.getElem?_cons_succ, List.getElem?_cons_zero]; exact rfl
    · simp only [List.getElem?_toArray, List.getElem?_cons_succ, List.getElem?_cons_zero]; exact rfl
    · go_simp
      refine (nAdd_any _ _ _ _ _ _ _ (by omega) (by omega) r25_0.num r28_0.num).mono ?_
      rintro e w23 ⟨m29, ao29, n29, c29, rfl, r29_0, hb23⟩
      have hB_1 := hB_0.trans (hb23.mono hB_0.size)
      have ax_1 := ax_0.below hb23
      have bx_1 := bx_0.below hb23
      have cx_1 := cx_0.below hb23
      have pa_1 := pa_0.below hb23
      have pb_1 := pb_0.below hb23
      have pc_1 := pc_0.below hb23
      have hWq_1 := hWq_0.trans (hb23.mono hWq_0.size)
      have r21_1 := r21_0.below hb23
      have r22_1 := r22_0.below hb23
      have r25_1 := r25_0.below hb23
      have r28_1 := r28_0.below hb23
      have ptwo_1 := ptwo_0.below hb23
      go_wp2_with fail
      refine hK.out _ _ ⟨pa_1.c0, pa_1.c1, pb_1.c0, pb_1.c1, pc_1.c0, pc_1.c1⟩ (fun hHeld => ?_)
      clear hK K hHeld
      try simp only [Act.put, List.setIfInBounds_toArray, List.set_cons_zero, List.set_cons_succ]
      rw [← HWq.out]
      exact stq_5ft _ m21 ao21 n21 c21 m22 ao22 n22 c22 m25 ao25 n25 c25 m28 ao28 n28 c28 m29 ao29 n29 c29 gtwo hB_1 ax_1 bx_1 cx_1 pa_1 pb_1 pc_1 hWq_1 r21_1 r22_1 r25_1 r28_1 r29_0 ptwo_1 (by omega)
    · go_simp
      have hal : Below w22.heap.size w22 (w22.alloc (Obj.cells #[Value.bool false, Value.slice none 0 0] 25)) := (Below.refl _ _).alloc (Nat.le_refl _) _
      have pone_0 := alloc_box w22 (.bool false) (.slice none 0 0) 25
      have hgn : w3.heap.size ≤ w22.heap.size := hWq_0.size
      have hlptwo : gtwo < w22.heap.size := World.block_lt_of_cell? _ _ ptwo_0.c0
      have hB_1 := hB_0.trans (hal.mono hB_0.size)
      have ax_1 := ax_0.below hal
      have bx_1 := bx_0.below hal
      have cx_1 := cx_0.below hal
      have pa_1 := pa_0.below hal
      have pb_1 := pb_0.below hal
      have pc_1 := pc_0.below hal
      have hWq_1 := hWq_0.trans (hal.mono hWq_0.size)
      have r21_1 := r21_0.below hal
      have r22_1 := r22_0.below hal
      have r25_1 := r25_0.below hal
      have r28_1 := r28_0.below hal
      have ptwo_1 := ptwo_0.below hal
      refine hK.out _ _ ⟨pa_1.c0, pa_1.c1, pb_1.c0, pb_1.c1, pc_1.c0, pc_1.c1⟩ (fun hHeld => ?_)
      clear hK K hHeld
      try simp only [Act.put, List.setIfInBounds_toArray, List.set_cons_zero, List.set_cons_succ]
      rw [← HWq.out]
      exact stq_4tt _ m21 ao21 n21 c21 m22 ao22 n22 c22 m25 ao25 n25 c25 m28 ao28 n28 c28 w22.heap.size gtwo hB_1 ax_1 bx_1 cx_1 pa_1 pb_1 pc_1 hWq_1 r21_1 r22_1 r25_1 r28_1 pone_0 ptwo_1 (by omega) (by omega) (by omega)
  try simp only [HAq.out, Act.put, List.setIfInBounds_toArray, List.set_cons_zero, List.set_cons_succ] at stq_4ft
  have stq_3tt : ∀ (w' : World) (m21 : Bool) (ao21 : Option Addr) (n21 c21 : Nat) (m22 : Bool) (ao22 : Option Addr) (n22 c22 : Nat) (m25 : Bool) (ao25 : Option Addr) (n25 c25 : Nat) (gone : Nat) (gtwo : Nat), Below w.heap.size w w' → Num w' (.agg #[.bool am, .slice ao an ac]) an X → Num w' (.agg #[.bool bm, .slice bo bn bc]) bn Y → Num w' (.agg #[.bool cm, .slice co cn cc]) cn Z → Box2 w' (w.heap.size) (.bool am) (.slice ao an ac) → Box2 w' (w.heap.size + 1) (.bool bm) (.slice bo bn bc) → Box2 w' (w.heap.size + 1 + 1) (.bool cm) (.slice co cn cc) → Below w3.heap.size w3 w' → RNum w' (.agg #[.bool m21, .slice ao21 n21 c21]) (max bn cn + 1) (Y + Z) → RNum w' (.agg #[.bool m22, .slice ao22 n22 c22]) (an + (max bn cn + 1)) (X * (Y + Z)) → RNum w' (.agg #[.bool m25, .slice ao25 n25 c25]) (cn + an) (Z * X) → Box2 w' gone (.bool false) (.slice none 0 0) → Box2 w' gtwo (.bool false) (.slice none 0 0) → w3.heap.size ≤ gone → w3.heap.size ≤ gtwo → gone ≠ gtwo → WWq 4 #[true, true, true, true, true, true, true, true, true, true, false, false, true, true, false, false] (((((aq.put (some 21) (.agg #[.bool m21, .slice ao21 n21 c21])).put (some 22) (.agg #[.bool m22, .slice ao22 n22 c22])).put (some 25) (.agg #[.bool m25, .slice ao25 n25 c25])).put (some 7) (.pointer (some ⟨gone, 0, none⟩))).put (some 8) (.pointer (some ⟨gtwo, 0, none⟩))) w' := by
    intro w24 m21 ao21 n21 c21 m22 ao22 n22 c22 m25 ao25 n25 c25 gone gtwo hB_0 ax_0 bx_0 cx_0 pa_0 pb_0 pc_0 hWq_0 r21_0 r22_0 r25_0 pone_0 ptwo_0 hgone hgtwo hnonetwo
    rw [HWq.out, HAq.out]
    try simp only [Act.put, List.setIfInBounds_toArray, List.set_cons_zero, List.set_cons_succ]
    refine reg_all1 10 ?_ (by kernel_rfl) ?_ (fun K hK => ?_)
    rotate_left 1
    · simp only [List.getElem?_toArray, List.getElem?_cons_succ, List.getElem?_cons_zero]; exact rfl
    · go_simp
      refine (nMul_any _ _ _ _ _ _ _ (by omega) (by omega) bx_0 ax_0).mono ?_
      rintro e w25 ⟨m28, ao28, n28, c28, rfl, r28_0, hb25⟩
      have hB_1 := hB_0.trans (hb25.mono hB_0.size)
      have ax_1 := ax_0.below hb25
      have bx_1 := bx_0.below hb25
      have cx_1 := cx_0.below hb25
      have pa_1 := pa_0.below hb25
      have pb_1 := pb_0.below hb25
      have pc_1 := pc_0.below hb25
      have hWq_1 := hWq_0.trans (hb25.mono hWq_0.size)
      have r21_1 := r21_0.below hb25
      have r22_1 := r22_0.below hb25
      have r25_1 := r25_0.below hb25
      have pone_1 := pone_0.below hb25
      have ptwo_1 := ptwo_0.below hb25
      go_wp2_with fail
      refine hK.out _ _ ⟨pa_1.c0, pa_1.c1, pb_1.c0, pb_1.c1, pc_1.c0, pc_1.c1⟩ (fun hHeld => ?_)
      clear hK K hHeld
      try simp only [Act.put, List.setIfInBounds_toArray, List.set_cons_zero, List.set_cons_succ]
      rw [← HWq.out]
      exact stq_4tt _ m21 ao21 n21 c21 m22 ao22 n22 c22 m25 ao25 n25 c25 m28 ao28 n28 c28 gone gtwo hB_1 ax_1 bx_1 cx_1 pa_1 pb_1 pc_1 hWq_1 r21_1 r22_1 r25_1 r28_0 pone_1 ptwo_1 (by omega) (by omega) (by omega)
  try simp only [HAq.out, Act.put, List.setIfInBounds_toArray, List.set_cons_zero, List.set_cons_succ] at stq_3tt
  have stq_4ff : ∀ (w' : World) (m21 : Bool) (ao21 : Option Addr) (n21 c21 : Nat) (m22 : Bool) (ao22 : Option Addr) (n22 c22 : Nat) (m25 : Bool) (ao25 : Option Addr) (n25 c25 : Nat) (m28 : Bool) (ao28 : Option Addr) (n28 c28 : Nat), Below w.heap.size w w' → Num w' (.agg #[.bool am, .slice ao an ac]) an X → Num w' (.agg #[.bool bm, .slice bo bn bc]) bn Y → Num w' (.agg #[.bool cm, .slice co cn cc]) cn Z → Box2 w' (w.heap.size) (.bool am) (.slice ao an ac) → Box2 w' (w.heap.size + 1) (.bool bm) (.slice bo bn bc) → Box2 w' (w.heap.size + 1 + 1) (.bool cm) (.slice co cn cc) → Below w3.heap.size w3 w' → RNum w' (.agg #[.bool m21, .slice ao21 n21 c21]) (max bn cn + 1) (Y + Z) → RNum w' (.agg #[.bool m22, .slice ao22 n22 c22]) (an + (max bn cn + 1)) (X * (Y + Z)) → RNum w' (.agg #[.bool m25, .slice ao25 n25 c25]) (cn + an) (Z * X) → RNum w' (.agg #[.bool m28, .slice ao28 n28 c28]) (bn + an) (Y * X) → WWq 5 #[true, true, true, true, true, true, true, true, true, true, true, false, false, false, false, false] ((((aq.put (some 21) (.agg #[.bool m21, .slice ao21 n21 c21])).put (some 22) (.agg #[.bool m22, .slice ao22 n22 c22])).put (some 25) (.agg #[.bool m25, .slice ao25 n25 c25])).put (some 28) (.agg #[.bool m28, .slice ao28 n28 c28])) w' := by
    intro w26 m21 ao21 n21 c21 m22 ao22 n22 c22 m25 ao25 n25 c25 m28 ao28 n28 c28 hB_0 ax_0 bx_0 cx_0 pa_0 pb_0 pc_0 hWq_0 r21_0 r22_0 r25_0 r28_0
    rw [HWq.out, HAq.out]
    try simp only [Act.put, List.setIfInBounds_toArray, List.set_cons_zero, List.set_cons_succ]
    refine reg_all3 11 12 13 ?_ ?_ ?_ (by kernel_rfl) ?_ ?_ ?_ (fun K hK => ?_) (fun K hK => ?_) (fun K hK => ?_)
    rotate_left 3
    · simp only [List.getElem?_toArray, List.getElem?_cons_succ, List.getElem?_cons_zero]; exact rfl
    · simp only [List.getElem?_toArray, List.getElem?_cons_succ, List.getElem?_cons_zero]; exact rfl
    · simp only [List.getElem?_toArray, List.getElem?_cons_succ, List.getElem?_cons_zero]; exact rfl
    · go_simp
      refine (nAdd_any _ _ _ _ _ _ _ (by omega) (by omega) r25_0.num r28_0.num).mono ?_
      rintro e w27 ⟨m29, ao29, n29, c29, rfl, r29_0, hb27⟩
      have hB_1 := hB_0.trans (hb27.mono hB_0.size)
      have ax_1 := ax_0.below hb27
      have bx_1 := bx_0.below hb27
      have cx_1 := cx_0.below hb27
      have pa_1 := pa_0.below hb27
      have pb_1 := pb_0.below hb27
      have pc_1 := pc_0.below hb27
      have hWq_1 := hWq_0.trans (hb27.mono hWq_0.size)
      have r21_1 := r21_0.below hb27
      have r22_1 := r22_0.below hb27
      have r25_1 := r25_0.below hb27
      have r28_1 := r28_0.below hb27
      go_wp2_with fail
      refine hK.out _ _ ⟨pa_1.c0, pa_1.c1, pb_1.c0, pb_1.c1, pc_1.c0, pc_1.c1⟩ (fun hHeld => ?_)
      clear hK K hHeld
      try simp only [Act.put, List.setIfInBounds_toArray, List.set_cons_zero, List.set_cons_succ]
      rw [← HWq.out]
      exact stq_5ff _ m21 ao21 n21 c21 m22 ao22 n22 c22 m25 ao25 n25 c25 m28 ao28 n28 c28 m29 ao29 n29 c29 hB_1 ax_1 bx_1 cx_1 pa_1 pb_1 pc_1 hWq_1 r21_1 r22_1 r25_1 r28_1 r29_0
    · go_simp
      have hal : Below w26.heap.size w26 (w26.alloc (Obj.cells #[Value.bool false, Value.slice none 0 0] 25)) := (Below.refl _ _).alloc (Nat.le_refl _) _
      have pone_0 := alloc_box w26 (.bool false) (.slice none 0 0) 25
      have hgn : w3.heap.size ≤ w26.heap.size := hWq_0.size
      have hB_1 := hB_0.trans (hal.mono hB_0.size)
      have ax_1 := ax_0.below hal
      have bx_1 := bx_0.below hal
      have cx_1 := cx_0.below hal
      have pa_1 := pa_0.below hal
      have pb_1 := pb_0.below hal
      have pc_1 := pc_0.below hal
      have hWq_1 := hWq_0.trans (hal.mono hWq_0.size)
      have r21_1 := r21_0.below hal
      have r22_1 := r22_0.below hal
      have r25_1 := r25_0.below hal
      have r28_1 := r28_0.below hal
      refine hK.out _ _ ⟨pa_1.c0, pa_1.c1, pb_1.c0, pb_1.c1, pc_1.c0, pc_1.c1⟩ (fun hHeld => ?_)
      clear hK K hHeld
      try simp only [Act.put, List.setIfInBounds_toArray, List.set_cons_zero, List.set_cons_succ]
      rw [← HWq.out]
      exact stq_4tf _ m21 ao21 n21 c21 m22 ao22 n22 c22 m25 ao25 n25 c25 m28 ao28 n28 c28 w26.heap.size hB_1 ax_1 bx_1 cx_1 pa_1 pb_1 pc_1 hWq_1 r21_1 r22_1 r25_1 r28_1 pone_0 (by omega)
    · go_simp
      have hal : Below w26.heap.size w26 (w26.alloc (Obj.cells #[Value.bool false, Value.slice none 0 0] 25)) := (Below.refl _ _).alloc (Nat.le_refl _) _
      have ptwo_0 := alloc_box w26 (.bool false) (.slice none 0 0) 25
      have hgn : w3.heap.size ≤ w26.heap.size := hWq_0.size
      have hB_1 := hB_0.trans (hal.mono hB_0.size)
      have ax_1 := ax_0.below hal
      have bx_1 := bx_0.below hal
      have cx_1 := cx_0.below hal
      have pa_1 := pa_0.below hal
      have pb_1 := pb_0.below hal
      have pc_1 := pc_0.below hal
      have hWq_1 := hWq_0.trans (hal.mono hWq_0.size)
      have r21_1 := r21_0.below hal
      have r22_1 := r22_0.below hal
      have r25_1 := r25_0.below hal
      have r28_1 := r28_0.below hal
      refine hK.out _ _ ⟨pa_1.c0, pa_1.c1, pb_1.c0, pb_1.c1, pc_1.c0, pc_1.c1⟩ (fun hHeld => ?_)
      clear hK K hHeld
      try simp only [Act.put, List.setIfInBounds_toArray, List.set_cons_zero, List.set_cons_succ]
      rw [← HWq.out]
      exact stq_4ft _ m21 ao21 n21 c21 m22 ao22 n22 c22 m25 ao25 n25 c25 m28 ao28 n28 c28 w26.heap.size hB_1 ax_1 bx_1 cx_1 pa_1 pb_1 pc_1 hWq_1 r21_1 r22_1 r25_1 r28_1 ptwo_0 (by omega)
  try simp only [HAq.out, Act.put, List.setIfInBounds_toArray, List.set_cons_zero, List.set_cons_succ] at stq_4ff
  have stq_3tf : ∀ (w' : World) (m21 : Bool) (ao21 : Option Addr) (n21 c21 : Nat) (m22 : Bool) (ao22 : Option Addr) (n22 c22 : Nat) (m25 : Bool) (ao25 : Option Addr) (n25 c25 : Nat) (gone : Nat), Below w.heap.size w w' → Num w' (.agg #[.bool am, .slice ao an ac]) an X → Num w' (.agg #[.bool bm, .slice bo bn bc]) bn Y → Num w' (.agg #[.bool cm, .slice co cn cc]) cn Z → Box2 w' (w.heap.size) (.bool am) (.slice ao an ac) → Box2 w' (w.heap.size + 1) (.bool bm) (.slice bo bn bc) → Box2 w' (w.heap.size + 1 + 1) (.bool cm) (.slice co cn cc) → Below w3.heap.size w3 w' → RNum w' (.agg #[.bool m21, .slice ao21 n21 c21]) (max bn cn + 1) (Y + Z) → RNum w' (.agg #[.bool m22, .slice ao22 n22 c22]) (an + (max bn cn + 1)) (X * (Y + Z)) → RNum w' (.agg #[.bool m25, .slice ao25 n25 c25]) (cn + an) (Z * X) → Box2 w' gone (.bool false) (.slice none 0 0) → w3.heap.size ≤ gone → WWq 5 #[true, true, true, true, true, true, true, true, true, true, false, false, true, false, false, false] ((((aq.put (some 21) (.agg #[.bool m21, .slice ao21 n21 c21])).put (some 22) (.agg #[.bool m22, .slice ao22 n22 c22])).put (some 25) (.agg #[.bool m25, .slice ao25 n25 c25])).put (some 7) (.pointer (some ⟨gone, 0, none⟩))) w' := by
    intro w28 m21 ao21 n21 c21 m22 ao22 n22 c22 m25 ao25 n25 c25 gone hB_0 ax_0 bx_0 cx_0 pa_0 pb_0 pc_0 hWq_0 r21_0 r22_0 r25_0 pone_0 hgone
    rw [HWq.out, HAq.out]
    try simp only [Act.put, List.setIfInBounds_toArray, List.set_cons_zero, List.set_cons_succ]
    refine reg_all2 10 13 ?_ ?_ (by kernel_rfl) ?_ ?_ (fun K hK => ?_) (fun K hK => ?_)
    rotate_left 2
    · simp only [List.getElem?_toArray, List.getElem?_cons_succ, List.getElem?_cons_zero]; exact rfl
    · simp only [List.getElem?_toArray, List.getElem?_cons_succ, List.getElem?_cons_zero]; exact rfl
    · go_simp
      refine (nMul_any _ _ _ _ _ _ _ (by omega) (by omega) bx_0 ax_0).mono ?_
      rintro e w29 ⟨m28, ao28, n28, c28, rfl, r28_0, hb29⟩
      have hB_1 := hB_0.trans (hb29.mono hB_0.size)
      have ax_1 := ax_0.below hb29
      have bx_1 := bx_0.below hb29
      have cx_1 := cx_0.below hb29
      have pa_1 := pa_0.below hb29
      have pb_1 := pb_0.below hb29
      have pc_1 := pc_0.below hb29
      have hWq_1 := hWq_0.trans (hb29.mono hWq_0.size)
      have r21_1 := r21_0.below hb29
      have r22_1 := r22_0.below hb29
      have r25_1 := r25_0.below hb29
      have pone_1 := pone_0.below hb29
      go_wp2_with fail
      refine hK.out _ _ ⟨pa_1.c0, pa_1.c1, pb_1.c0, pb_1.c1, pc_1.c0, pc_1.c1⟩ (fun hHeld => ?_)
      clear hK K hHeld
      try simp only [Act.put, List.setIfInBounds_toArray, List.set_cons_zero, List.set_cons_succ]
      rw [← HWq.out]
      exact stq_4tf _ m21 ao21 n21 c21 m22 ao22 n22 c22 m25 ao25 n25 c25 m28 ao28 n28 c28 gone hB_1 ax_1 bx_1 cx_1 pa_1 pb_1 pc_1 hWq_1 r21_1 r22_1 r25_1 r28_0 pone_1 (by omega)
    · go_simp
      have hal : Below w28.heap.size w28 (w28.alloc (Obj.cells #[Value.bool false, Value.slice none 0 0] 25)) := (Below.refl _ _).alloc (Nat.le_refl _) _
      have ptwo_0 := alloc_box w28 (.bool false) (.slice none 0 0) 25
      have hgn : w3.heap.size ≤ w28.heap.size := hWq_0.size
      have hlpone : gone < w28.heap.size := World.block_lt_of_cell? _ _ pone_0.c0
      have hB_1 := hB_0.trans (hal.mono hB_0.size)
      have ax_1 := ax_0.below hal
      have bx_1 := bx_0.below hal
      have cx_1 := cx_0.below hal
      have pa_1 := pa_0.below hal
      have pb_1 := pb_0.below hal
      have pc_1 := pc_0.below hal
      have hWq_1 := hWq_0.trans (hal.mono hWq_0.size)
      have r21_1 := r21_0.below hal
      have r22_1 := r22_0.below hal
      have r25_1 := r25_0.below hal
      have pone_1 := pone_0.below hal
      refine hK.out _ _ ⟨pa_1.c0, pa_1.c1, pb_1.c0, pb_1.c1, pc_1.c0, pc_1.c1⟩ (fun hHeld => ?_)
      clear hK K hHeld
      try simp only [Act.put, List.setIfInBounds_toArray, List.set_cons_zero, List.set_cons_succ]
      rw [← HWq.out]
      exact stq_3tt _ m21 ao21 n21 c21 m22 ao22 n22 c22 m25 ao25 n25 c25 gone w28.heap.size hB_1 ax_1 bx_1 cx_1 pa_1 pb_1 pc_1 hWq_1 r21_1 r22_1 r25_1 pone_1 ptwo_0 (by omega) (by omega) (by omega)
  try simp only [HAq.out, Act.put, List.setIfInBounds_toArray, List.set_cons_zero, List.set_cons_succ] at stq_3tf
  have stq_3ft : ∀ (w' : World) (m21 : Bool) (ao21 : Option Addr) (n21 c21 : Nat) (m22 : Bool) (ao22 : Option Addr) (n22 c22 : Nat) (m25 : Bool) (ao25 : Option Addr) (n25 c25 : Nat) (gtwo : Nat), Below w.heap.size w w' → Num w' (.agg #[.bool am, .slice ao an ac]) an X → Num w' (.agg #[.bool bm, .slice bo bn bc]) bn Y → Num w' (.agg #[.bool cm, .slice co cn cc]) cn Z → Box2 w' (w.heap.size) (.bool am) (.slice ao an ac) → Box2 w' (w.heap.size + 1) (.bool bm) (.slice bo bn bc) → Box2 w' (w.heap.size + 1 + 1) (.bool cm) (.slice co cn cc) → Below w3.heap.size w3 w' → RNum w' (.agg #[.bool m21, .slice ao21 n21 c21]) (max bn cn + 1) (Y + Z) → RNum w' (.agg #[.bool m22, .slice ao22 n22 c22]) (an + (max bn cn + 1)) (X * (Y + Z)) → RNum w' (.agg #[.bool m25, .slice ao25 n25 c25]) (cn + an) (Z * X) → Box2 w' gtwo (.bool false) (.slice none 0 0) → w3.heap.size ≤ gtwo → WWq 5 #[true, true, true, true, true, true, true, true, true, true, false, false, false, true, false, false] ((((aq.put (some 21) (.agg #[.bool m21, .slice ao21 n21 c21])).put (some 22) (.agg #[.bool m22, .slice ao22 n22 c22])).put (some 25) (.agg #[.bool m25, .slice ao25 n25 c25])).put (some 8) (.pointer (some ⟨gtwo, 0, none⟩))) w' := by
    intro w30 m21 ao21 n21 c21 m22 ao22 n22 c22 m25 ao25 n25 c25 gtwo hB_0 ax_0 bx_0 cx_0 pa_0 pb_0 pc_0 hWq_0 r21_0 r22_0 r25_0 ptwo_0 hgtwo
    rw [HWq.out, HAq.out]
    try simp only [Act.put, List.setIfInBounds_toArray, List.set_cons_zero, List.set_cons_succ]
    refine reg_all2 10 12 ?_ ?_ (by kernel_rfl) ?_ ?_ (fun K hK => ?_) (fun K hK => ?_)
    rotate_left 2
    · simp only [List.getElem?_toArray, List.getElem?_cons_succ, List.getElem?_cons_zero]; exact rfl
    · simp only [List.getElem?_toArray, List.getElem?_cons_succ, List.getElem?_cons_zero]; exact rfl
    · go_simp
      refine (nMul_any _ _ _ _ _ _ _ (by omega) (by omega) bx_0 ax_0).mono ?_
      rintro e w31 ⟨m28, ao28, n28, c28, rfl, r28_0, hb31⟩
      have hB_1 := hB_0.trans (hb31.mono hB_0.size)
      have ax_1 := ax_0.below hb31
      have bx_1 := bx_0.below hb31
      have cx_1 := cx_0.below hb31
      have pa_1 := pa_0.below hb31
      have pb_1 := pb_0.below hb31
      have pc_1 := pc_0.below hb31
      have hWq_1 := hWq_0.trans (hb31.mono hWq_0.size)
      have r21_1 := r21_0.below hb31
      have r22_1 := r22_0.below hb31
      have r25_1 := r25_0.below hb31
      have ptwo_1 := ptwo_0.below hb31
      go_wp2_with fail
      refine hK.out _ _ ⟨pa_1.c0, pa_1.c1, pb_1.c0, pb_1.c1, pc_1.c0, pc_1.c1⟩ (fun hHeld => ?_)
      clear hK K hHeld
      try simp only [Act.put, List.setIfInBounds_toArray, List.set_cons_zero, List.set_cons_succ]
      rw [← HWq.out]
      exact stq_4ft _ m21 ao21 n21 c21 m22 ao22 n22 c22 m25 ao25 n25 c25 m28 ao28 n28 c28 gtwo hB_1 ax_1 bx_1 cx_1 pa_1 pb_1 pc_1 hWq_1 r21_1 r22_1 r25_1 r28_0 ptwo_1 (by omega)
    · go_simp
      have hal : Below w30.heap.size w30 (w30.alloc (Obj.cells #[Value.bool false, Value.slice none 0 0] 25)) := (Below.refl _ _).alloc (Nat.le_refl _) _
      have pone_0 := alloc_box w30 (.bool false) (.slice none 0 0) 25
      have hgn : w3.heap.size ≤ w30.heap.size := hWq_0.size
      have hlptwo : gtwo < w30.heap.size := World.block_lt_of_cell? _ _ ptwo_0.c0
      have hB_1 := hB_0.trans (hal.mono hB_0.size)
      have ax_1 := ax_0.below hal
      have bx_1 := bx_0.below hal
      have cx_1 := cx_0.below hal
      have pa_1 := pa_0.below hal
      have pb_1 := pb_0.below hal
      have pc_1 := pc_0.below hal
      have hWq_1 := hWq_0.trans (hal.mono hWq_0.size)
      have r21_1 := r21_0.below hal
      have r22_1 := r22_0.below hal
      have r25_1 := r25_0.below hal
      have ptwo_1 := ptwo_0.below hal
      refine hK.out _ _ ⟨pa_1.c0, pa_1.c1, pb_1.c0, pb_1.c1, pc_1.c0, pc_1.c1⟩ (fun hHeld => ?_)
      clear hK K hHeld
      try simp only [Act.put, List.setIfInBounds_toArray, List.set_cons_zero, List.set_cons_succ]
      rw [← HWq.out]
      exact stq_3tt _ m21 ao21 n21 c21 m22 ao22 n22 c22 m25 ao25 n25 c25 w30.heap.size gtwo hB_1 ax_1 bx_1 cx_1 pa_1 pb_1 pc_1 hWq_1 r21_1 r22_1 r25_1 pone_0 ptwo_1 (by omega) (by omega) (by omega)
  try simp only [HAq.out, Act.put, List.setIfInBounds_toArray, List.set_cons_zero, List.set_cons_succ] at stq_3ft
  have stq_2tt : ∀ (w' : World) (m21 : Bool) (ao21 : Option Addr) (n21 c21 : Nat) (m22 : Bool) (ao22 : Option Addr) (n22 c22 : Nat) (gone : Nat) (gtwo : Nat), Below w.heap.size w w' → Num w' (.agg #[.bool am, .slice ao an ac]) an X → Num w' (.agg #[.bool bm, .slice bo bn bc]) bn Y → Num w' (.agg #[.bool cm, .slice co cn cc]) cn Z → Box2 w' (w.heap.size) (.bool am) (.slice ao an ac) → Box2 w' (w.heap.size + 1) (.bool bm) (.slice bo bn bc) → Box2 w' (w.heap.size + 1 + 1) (.bool cm) (.slice co cn cc) → Below w3.heap.size w3 w' → RNum w' (.agg #[.bool m21, .slice ao21 n21 c21]) (max bn cn + 1) (Y + Z) → RNum w' (.agg #[.bool m22, .slice ao22 n22 c22]) (an + (max bn cn + 1)) (X * (Y + Z)) → Box2 w' gone (.bool false) (.slice none 0 0) → Box2 w' gtwo (.bool false) (.slice none 0 0) → w3.heap.size ≤ gone → w3.heap.size ≤ gtwo → gone ≠ gtwo → WWq 5 #[true, true, true, true, true, true, true, false, true, true, false, false, true, true, false, false] ((((aq.put (some 21) (.agg #[.bool m21, .slice ao21 n21 c21])).put (some 22) (.agg #[.bool m22, .slice ao22 n22 c22])).put (some 7) (.pointer (some ⟨gone, 0, none⟩))).put (some 8) (.pointer (some ⟨gtwo, 0, none⟩))) w' := by
    intro w32 m21 ao21 n21 c21 m22 ao22 n22 c22 gone gtwo hB_0 ax_0 bx_0 cx_0 pa_0 pb_0 pc_0 hWq_0 r21_0 r22_0 pone_0 ptwo_0 hgone hgtwo hnonetwo
    rw [HWq.out, HAq.out]
    try simp only [Act.put, List.setIfInBounds_toArray, List.set_cons_zero, List.set_cons_succ]
    refine reg_all1 7 ?_ (by kernel_rfl) ?_ (fun K hK => ?_)
    rotate_left 1
    · simp only [List.getElem?_toArray, List.getElem?_cons_succ, List.getElem?_cons_zero]; exact rfl
    · go_simp
      refine (nMul_any _ _ _ _ _ _ _ (by omega) (by omega) cx_0 ax_0).mono ?_
      rintro e w33 ⟨m25, ao25, n25, c25, rfl, r25_0, hb33⟩
      have hB_1 := hB_0.trans (hb33.mono hB_0.size)
      have ax_1 := ax_0.below hb33
      have bx_1 := bx_0.below hb33
      have cx_1 := cx_0.below hb33
      have pa_1 := pa_0.below hb33
      have pb_1 := pb_0.below hb33
      have pc_1 := pc_0.below hb33
      have hWq_1 := hWq_0.trans (hb33.mono hWq_0.size)
      have r21_1 := r21_0.below hb33
      have r22_1 := r22_0.below hb33
      have pone_1 := pone_0.below hb33
      have ptwo_1 := ptwo_0.below hb33
      go_wp2_with fail
      refine hK.out _ _ ⟨pa_1.c0, pa_1.c1, pb_1.c0, pb_1.c1, pc_1.c0, pc_1.c1⟩ (fun hHeld => ?_)
      clear hK K hHeld
      try simp only [Act.put, List.setIfInBounds_toArray, List.set_cons_zero, List.set_cons_succ]
      rw [← HWq.out]
      exact stq_3tt _ m21 ao21 n21 c21 m22 ao22 n22 c22 m25 ao25 n25 c25 gone gtwo hB_1 ax_1 bx_1 cx_1 pa_1 pb_1 pc_1 hWq_1 r21_1 r22_1 r25_0 pone_1 ptwo_1 (by omega) (by omega) (by omega)
  try simp only [HAq.out, Act.put, List.setIfInBounds_toArray, List.set_cons_zero, List.set_cons_succ] at stq_2tt
  have stq_3ff : ∀ (w' : World) (m21 : Bool) (ao21 : Option Addr) (n21 c21 : Nat) (m22 : Bool) (ao22 : Option Addr) (n22 c22 : Nat) (m25 : Bool) (ao25 : Option Addr) (n25 c25 : Nat), Below w.heap.size w w' → Num w' (.agg #[.bool am, .slice ao an ac]) an X → Num w' (.agg #[.bool bm, .slice bo bn bc]) bn Y → Num w' (.agg #[.bool cm, .slice co cn cc]) cn Z → Box2 w' (w.heap.size) (.bool am) (.slice ao an ac) → Box2 w' (w.heap.size + 1) (.bool bm) (.slice bo bn bc) → Box2 w' (w.heap.size + 1 + 1) (.bool cm) (.slice co cn cc) → Below w3.heap.size w3 w' → RNum w' (.agg #[.bool m21, .slice ao21 n21 c21]) (max bn cn + 1) (Y + Z) → RNum w' (.agg #[.bool m22, .slice ao22 n22 c22]) (an + (max bn cn + 1)) (X * (Y + Z)) → RNum w' (.agg #[.bool m25, .slice ao25 n25 c25]) (cn + an) (Z * X) → WWq 6 #[true, true, true, true, true, true, true, true, true, true, false, false, false, false, false, false] (((aq.put (some 21) (.agg #[.bool m21, .slice ao21 n21 c21])).put (some 22) (.agg #[.bool m22, .slice ao22 n22 c22])).put (some 25) (.agg #[.bool m25, .slice ao25 n25 c25])) w' := by
    intro w34 m21 ao21 n21 c21 m22 ao22 n22 c22 m25 ao25 n25 c25 hB_0 ax_0 bx_0 cx_0 pa_0 pb_0 pc_0 hWq_0 r21_0 r22_0 r25_0
    rw [HWq.out, HAq.out]
    try simp only [Act.put, List.setIfInBounds_toArray, List.set_cons_zero, List.set_cons_succ]
    refine reg_all3 10 12 13 ?_ ?_ ?_ (by kernel_rfl) ?_ ?_ ?_ (fun K hK => ?_) (fun K hK => ?_) (fun K hK => ?_)
    rotate_left 3
    · simp only [List.getElem?_toArray, List.getElem?_cons_succ, List.getElem?_cons_zero]; exact rfl
    · simp only [List.getElem?_toArray, List.getElem?_cons_succ, List.getElem?_cons_zero]; exact rfl
    · simp only [List.getElem?_toArray, List.getElem?_cons_succ, List.getElem?_cons_zero]; exact rfl
    · go_simp
      refine (nMul_any _ _ _ _ _ _ _ (by omega) (by omega) bx_0 ax_0).mono ?_
      rintro e w35 ⟨m28, ao28, n28, c28, rfl, r28_0, hb35⟩
      have hB_1 := hB_0.trans (hb35.mono hB_0.size)
      have ax_1 := ax_0.below hb35
      have bx_1 := bx_0.below hb35
      have cx_1 := cx_0.below hb35
      have pa_1 := pa_0.below hb35
      have pb_1 := pb_0.below hb35
      have pc_1 := pc_0.below hb35
      have hWq_1 := hWq_0.trans (hb35.mono hWq_0.size)
      have r21_1 := r21_0.below hb35
      have r22_1 := r22_0.below hb35
      have r25_1 := r25_0.below hb35
      go_wp2_with fail
      refine hK.out _ _ ⟨pa_1.c0, pa_1.c1, pb_1.c0, pb_1.c1, pc_1.c0, pc_1.c1⟩ (fun hHeld => ?_)
      clear hK K hHeld
      try simp only [Act.put, List.setIfInBounds_toArray, List.set_cons_zero, List.set_cons_succ]
      rw [← HWq.out]
      exact stq_4ff _ m21 ao21 n21 c21 m22 ao22 n22 c22 m25 ao25 n25 c25 m28 ao28 n28 c28 hB_1 ax_1 bx_1 cx_1 pa_1 pb_1 pc_1 hWq_1 r21_1 r22_1 r25_1 r28_0
    · go_simp
      have hal : Below w34.heap.size w34 (w34.alloc (Obj.cells #[Value.bool false, Value.slice none 0 0] 25)) := (Below.refl _ _).alloc (Nat.le_refl _) _
      have pone_0 := alloc_box w34 (.bool false) (.slice none 0 0) 25
      have hgn : w3.heap.size ≤ w34.heap.size := hWq_0.size
      have hB_1 := hB_0.trans (hal.mono hB_0.size)
      have ax_1 := ax_0.below hal
      have bx_1 := bx_0.below hal
      have cx_1 := cx_0.below hal
      have pa_1 := pa_0.below hal
      have pb_1 := pb_0.below hal
      have pc_1 := pc_0.below hal
      have hWq_1 := hWq_0.trans (hal.mono hWq_0.size)
      have r21_1 := r21_0.below hal
      have r22_1 := r22_0.below hal
      have r25_1 := r25_0.below hal
      refine hK.out _ _ ⟨pa_1.c0, pa_1.c1, pb_1.c0, pb_1.c1, pc_1.c0, pc_1.c1⟩ (fun hHeld => ?_)
      clear hK K hHeld
      try simp only [Act.put, List.setIfInBounds_toArray, List.set_cons_zero, List.set_cons_succ]
      rw [← HWq.out]
      exact stq_3tf _ m21 ao21 n21 c21 m22 ao22 n22 c22 m25 ao25 n25 c25 w34.heap.size hB_1 ax_1 bx_1 cx_1 pa_1 pb_1 pc_1 hWq_1 r21_1 r22_1 r25_1 pone_0 (by omega)
    · go_simp
      have hal : Below w34.heap.size w34 (w34.alloc (Obj.cells #[Value.bool false, Value.slice none 0 0] 25)) := (Below.refl _ _).alloc (Nat.le_refl _) _
      have ptwo_0 := alloc_box w34 (.bool false) (.slice none 0 0) 25
      have hgn : w3.heap.size ≤ w34.heap.size := hWq_0.size
      have hB_1 := hB_0.trans (hal.mono hB_0.size)
      have ax_1 := ax_0.below hal
      have bx_1 := bx_0.below hal
      have cx_1 := cx_0.below hal
      have pa_1 := pa_0.below hal
      have pb_1 := pb_0.below hal
      have pc_1 := pc_0.below hal
      have hWq_1 := hWq_0.trans (hal.mono hWq_0.size)
      have r21_1 := r21_0.below hal
      have r22_1 := r22_0.below hal
      have r25_1 := r25_0.below hal
      refine hK.out _ _ ⟨pa_1.c0, pa_1.c1, pb_1.c0, pb_1.c1, pc_1.c0, pc_1.c1⟩ (fun hHeld => ?_)
      clear hK K hHeld
      try simp only [Act.put, List.setIfInBounds_toArray, List.set_cons_zero, List.set_cons_succ]
      rw [← HWq.out]
      exact stq_3ft _ m21 ao21 n21 c21 m22 ao22 n22 c22 m25 ao25 n25 c25 w34.heap.size hB_1 ax_1 bx_1 cx_1 pa_1 pb_1 pc_1 hWq_1 r21_1 r22_1 r25_1 ptwo_0 (by omega)
  try simp only [HAq.out, Act.put, List.setIfInBounds_toArray, List.set_cons_zero, List.set_cons_succ] at stq_3ff
  have stq_2tf : ∀ (w' : World) (m21 : Bool) (ao21 : Option Addr) (n21 c21 : Nat) (m22 : Bool) (ao22 : Option Addr) (n22 c22 : Nat) (gone : Nat), Below w.heap.size w w' → Num w' (.agg #[.bool am, .slice ao an ac]) an X → Num w' (.agg #[.bool bm, .slice bo bn bc]) bn Y → Num w' (.agg #[.bool cm, .slice co cn cc]) cn Z → Box2 w' (w.heap.size) (.bool am) (.slice ao an ac) → Box2 w' (w.heap.size + 1) (.bool bm) (.slice bo bn bc) → Box2 w' (w.heap.size + 1 + 1) (.bool cm) (.slice co cn cc) → Below w3.heap.size w3 w' → RNum w' (.agg #[.bool m21, .slice ao21 n21 c21]) (max bn cn + 1) (Y + Z) → RNum w' (.agg #[.bool m22, .slice ao22 n22 c22]) (an + (max bn cn + 1)) (X * (Y + Z)) → Box2 w' gone (.bool false) (.slice none 0 0) → w3.heap.size ≤ gone → WWq 6 #[true, true, true, true, true, true, true, false, true, true, false, false, true, false, false, false] (((aq.put (some 21) (.agg #[.bool m21, .slice ao21 n21 c21])).put (some 22) (.agg #[.bool m22, .slice ao22 n22 c22])).put (some 7) (.pointer (some ⟨gone, 0, none⟩))) w' := by
    intro w36 m21 ao21 n21 c21 m22 ao22 n22 c22 gone hB_0 ax_0 bx_0 cx_0 pa_0 pb_0 pc_0 hWq_0 r21_0 r22_0 pone_0 hgone
    rw [HWq.out, HAq.out]
    try simp only [Act.put, List.setIfInBounds_toArray, List.set_cons_zero, List.set_cons_succ]
    refine reg_all2 7 13 ?_ ?_ (by kernel_rfl) ?_ ?_ (fun K hK => ?_) (fun K hK => ?_)
    rotate_left 2
    · simp only [List.getElem?_toArray, List.getElem?_cons_succ, List.getElem?_cons_zero]; exact rfl
    · simp only [List.getElem?_toArray, List.getElem?_cons_succ, List.getElem?_cons_zero]; exact rfl
    · go_simp
      refine (nMul_any _ _ _ _ _ _ _ (by omega) (by omega) cx_0 ax_0).mono ?_
      rintro e w37 ⟨m25, ao25, n25, c25, rfl, r25_0, hb37⟩
      have hB_1 := hB_0.trans (hb37.mono hB_0.size)
      have ax_1 := ax_0.below hb37
      have bx_1 := bx_0.below hb37
      have cx_1 := cx_0.below hb37
      have pa_1 := pa_0.below hb37
      have pb_1 := pb_0.below hb37
      have pc_1 := pc_0.below hb37
      have hWq_1 := hWq_0.trans (hb37.mono hWq_0.size)
      have r21_1 := r21_0.below hb37
      have r22_1 := r22_0.below hb37
      have pone_1 := pone_0.below hb37
      go_wp2_with fail
      refine hK.out _ _ ⟨pa_1.c0, pa_1.c1, pb_1.c0, pb_1.c1, pc_1.c0, pc_1.c1⟩ (fun hHeld => ?_)
      clear hK K hHeld
      try simp only [Act.put, List.setIfInBounds_toArray, List.set_cons_zero, List.set_cons_succ]
      rw [← HWq.out]
      exact stq_3tf _ m21 ao21 n21 c21 m22 ao22 n22 c22 m25 ao25 n25 c25 gone hB_1 ax_1 bx_1 cx_1 pa_1 pb_1 pc_1 hWq_1 r21_1 r22_1 r25_0 pone_1 (by omega)
    · go_simp
      have hal : Below w36.heap.size w36 (w36.alloc (Obj.cells #[Value.bool false, Value.slice none 0 0] 25)) := (Below.refl _ _).alloc (Nat.le_refl _) _
      have ptwo_0 := alloc_box w36 (.bool false) (.slice none 0 0) 25
      have hgn : w3.heap.size ≤ w36.heap.size := hWq_0.size
      have hlpone : gone < w36.heap.size := World.block_lt_of_cell? _ _ pone_0.c0
      have hB_1 := hB_0.trans (hal.mono hB_0.size)
      have ax_1 := ax_0.below hal
      have bx_1 := bx_0.below hal
      have cx_1 := cx_0.below hal
      have pa_1 := pa_0.below hal
      have pb_1 := pb_0.below hal
      have pc_1 := pc_0.below hal
      have hWq_1 := hWq_0.trans (hal.mono hWq_0.size)
      have r21_1 := r21_0.below hal
      have r22_1 := r22_0.below hal
      have pone_1 := pone_0.below hal
      refine hK.out _ _ ⟨pa_1.c0, pa_1.c1, pb_1.c0, pb_1.c1, pc_1.c0, pc_1.c1⟩ (fun hHeld => ?_)
      clear hK K hHeld
      try simp only [Act.put, List.setIfInBounds_toArray, List.set_cons_zero, List.set_cons_succ]
      rw [← HWq.out]
      exact stq_2tt _ m21 ao21 n21 c21 m22 ao22 n22 c22 gone w36.heap.size hB_1 ax_1 bx_1 cx_1 pa_1 pb_1 pc_1 hWq_1 r21_1 r22_1 pone_1 ptwo_0 (by omega) (by omega) (by omega)
  try simp only [HAq.out, Act.put, List.setIfInBounds_toArray, List.set_cons_zero, List.set_cons_succ] at stq_2tf
  have stq_2ft : ∀ (w' : World) (m21 : Bool) (ao21 : Option Addr) (n21 c21 : Nat) (m22 : Bool) (ao22 : Option Addr) (n22 c22 : Nat) (gtwo : Nat), Below w.heap.size w w' → Num w' (.agg #[.bool am, .slice ao an ac]) an X → Num w' (.agg #[.bool bm, .slice bo bn bc]) bn Y → Num w' (.agg #[.bool cm, .slice co cn cc]) cn Z → Box2 w' (w.heap.size) (.bool am) (.slice ao an ac) → Box2 w' (w.heap.size + 1) (.bool bm) (.slice bo bn bc) → Box2 w' (w.heap.size + 1 + 1) (.bool cm) (.slice co cn cc) → Below w3.heap.size w3 w' → RNum w' (.agg #[.bool m21, .slice ao21 n21 c21]) (max bn cn + 1) (Y + Z) → RNum w' (.agg #[.bool m22, .slice ao22 n22 c22]) (an + (max bn cn + 1)) (X * (Y + Z)) → Box2 w' gtwo (.bool false) (.slice none 0 0) → w3.heap.size ≤ gtwo → WWq 6 #[true, true, true, true, true, true, true, false, true, true, false, false, false, true, false, false] (((aq.put (some 21) (.agg #[.bool m21, .slice ao21 n21 c21])).put (some 22) (.agg #[.bool m22, .slice ao22 n22 c22])).put (some 8) (.pointer (some ⟨gtwo, 0, none⟩))) w' := by
    intro w38 m21 ao21 n21 c21 m22 ao22 n22 c22 gtwo hB_0 ax_0 bx_0 cx_0 pa_0 pb_0 pc_0 hWq_0 r21_0 r22_0 ptwo_0 hgtwo
    rw [HWq.out, HAq.out]
    try simp only [Act.put, List.setIfInBounds_toArray, List.set_cons_zero, List.set_cons_succ]
    refine reg_all2 7 12 ?_ ?_ (by kernel_rfl) ?_ ?_ (fun K hK => ?_) (fun K hK => ?_)
    rotate_left 2
    · simp only [List.getElem?_toArray, List.getElem?_cons_succ, List.getElem?_cons_zero]; exact rfl
    · simp only [List.getElem?_toArray, List.getElem?_cons_succ, List.getElem?_cons_zero]; exact rfl
    · go_simp
      refine (nMul_any _ _ _ _ _ _ _ (by omega) (by omega) cx_0 ax_0).mono ?_
      rintro e w39 ⟨m25, ao25, n25, c25, rfl, r25_0, hb39⟩
      have hB_1 := hB_0.trans (hb39.mono hB_0.size)
      have ax_1 := ax_0.below hb39
      have bx_1 := bx_0.below hb39
      have cx_1 := cx_0.below hb39
      have pa_1 := pa_0.below hb39
      have pb_1 := pb_0.below hb39
      have pc_1 := pc_0.below hb39
      have hWq_1 := hWq_0.trans (hb39.mono hWq_0.size)
      have r21_1 := r21_0.below hb39
      have r22_1 := r22_0.below hb39
      have ptwo_1 := ptwo_0.below hb39
      go_wp2_with fail
      refine hK.out _ _ ⟨pa_1.c0, pa_1.c1, pb_1.c0, pb_1.c1, pc_1.c0, pc_1.c1⟩ (fun hHeld => ?_)
      clear hK K hHeld
      try simp only [Act.put, List.setIfInBounds_toArray, List.set_cons_zero, List.set_cons_succ]
      rw [← HWq.out]
      exact stq_3ft _ m21 ao21 n21 c21 m22 ao22 n22 c22 m25 ao25 n25 c25 gtwo hB_1 ax_1 bx_1 cx_1 pa_1 pb_1 pc_1 hWq_1 r21_1 r22_1 r25_0 ptwo_1 (by omega)
    · go_simp
      have hal : Below w38.heap.size w38 (w38.alloc (Obj.cells #[Value.bool false, Value.slice none 0 0] 25)) := (Below.refl _ _).alloc (Nat.le_refl _) _
      have pone_0 := alloc_box w38 (.bool false) (.slice none 0 0) 25
      have hgn : w3.heap.size ≤ w38.heap.size := hWq_0.size
      have hlptwo : gtwo < w38.heap.size := World.block_lt_of_cell? _ _ ptwo_0.c0
      have hB_1 := hB_0.trans (hal.mono hB_0.size)
      have ax_1 := ax_0.below hal
      have bx_1 := bx_0.below hal
      have cx_1 := cx_0.below hal
      have pa_1 := pa_0.below hal
      have pb_1 := pb_0.below hal
      have pc_1 := pc_0.below hal
      have hWq_1 := hWq_0.trans (hal.mono hWq_0.size)
      have r21_1 := r21_0.below hal
      have r22_1 := r22_0.below hal
      have ptwo_1 := ptwo_0.below hal
      refine hK.out _ _ ⟨pa_1.c0, pa_1.c1, pb_1.c0, pb_1.c1, pc_1.c0, pc_1.c1⟩ (fun hHeld => ?_)
      clear hK K hHeld
      try simp only [Act.put, List.setIfInBounds_toArray, List.set_cons_zero, List.set_cons_succ]
      rw [← HWq.out]
      exact stq_2tt _ m21 ao21 n21 c21 m22 ao22 n22 c22 w38.heap.size gtwo hB_1 ax_1 bx_1 cx_1 pa_1 pb_1 pc_1 hWq_1 r21_1 r22_1 pone_0 ptwo_1 (by omega) (by omega) (by omega)
  try simp only [HAq.out, Act.put, List.setIfInBounds_toArray, List.set_cons_zero, List.set_cons_succ] at stq_2ft
  have stq_1tt : ∀ (w' : World) (m21 : Bool) (ao21 : Option Addr) (n21 c21 : Nat) (gone : Nat) (gtwo : Nat), Below w.heap.size w w' → Num w' (.agg #[.bool am, .slice ao an ac]) an X → Num w' (.agg #[.bool bm, .slice bo bn bc]) bn Y → Num w' (.agg #[.bool cm, .slice co cn cc]) cn Z → Box2 w' (w.heap.size) (.bool am) (.slice ao an ac) → Box2 w' (w.heap.size + 1) (.bool bm) (.slice bo bn bc) → Box2 w' (w.heap.size + 1 + 1) (.bool cm) (.slice co cn cc) → Below w3.heap.size w3 w' → RNum w' (.agg #[.bool m21, .slice ao21 n21 c21]) (max bn cn + 1) (Y + Z) → Box2 w' gone (.bool false) (.slice none 0 0) → Box2 w' gtwo (.bool false) (.slice none 0 0) → w3.heap.size ≤ gone → w3.heap.size ≤ gtwo → gone ≠ gtwo → WWq 6 #[true, true, true, true, false, true, true, false, true, true, false, false, true, true, false, false] (((aq.put (some 21) (.agg #[.bool m21, .slice ao21 n21 c21])).put (some 7) (.pointer (some ⟨gone, 0, none⟩))).put (some 8) (.pointer (some ⟨gtwo, 0, none⟩))) w' := by
    intro w40 m21 ao21 n21 c21 gone gtwo hB_0 ax_0 bx_0 cx_0 pa_0 pb_0 pc_0 hWq_0 r21_0 pone_0 ptwo_0 hgone hgtwo hnonetwo
    rw [HWq.out, HAq.out]
    try simp only [Act.put, List.setIfInBounds_toArray, List.set_cons_zero, List.set_cons_succ]
    refine reg_all1 4 ?_ (by kernel_rfl) ?_ (fun K hK => ?_)
    rotate_left 1
    · simp only [List.getElem?_toArray, List.getElem?_cons_succ, List.getElem?_cons_zero]; exact rfl
    · go_simp
      refine (nMul_any _ _ _ _ _ _ _ (by omega) (by omega) ax_0 r21_0.num).mono ?_
      rintro e w41 ⟨m22, ao22, n22, c22, rfl, r22_0, hb41⟩
      have hB_1 := hB_0.trans (hb41.mono hB_0.size)
      have ax_1 := ax_0.below hb41
      have bx_1 := bx_0.below hb41
      have cx_1 := cx_0.below hb41
      have pa_1 := pa_0.below hb41
      have pb_1 := pb_0.below hb41
      have pc_1 := pc_0.below hb41
      have hWq_1 := hWq_0.trans (hb41.mono hWq_0.size)
      have r21_1 := r21_0.below hb41
      have pone_1 := pone_0.below hb41
      have ptwo_1 := ptwo_0.below hb41
      go_wp2_with fail
      refine hK.out _ _ ⟨pa_1.c0, pa_1.c1, pb_1.c0, pb_1.c1, pc_1.c0, pc_1.c1⟩ (fun hHeld => ?_)
      clear hK K hHeld
      try simp only [Act.put, List.setIfInBounds_toArray, List.set_cons_zero, List.set_cons_succ]
      rw [← HWq.out]
      exact stq_2tt _ m21 ao21 n21 c21 m22 ao22 n22 c22 gone gtwo hB_1 ax_1 bx_1 cx_1 pa_1 pb_1 pc_1 hWq_1 r21_1 r22_0 pone_1 ptwo_1 (by omega) (by omega) (by omega)
  try simp only [HAq.out, Act.put, List.setIfInBounds_toArray, List.set_cons_zero, List.set_cons_succ] at stq_1tt
  have stq_2ff : ∀ (w' : World) (m21 : Bool) (ao21 : Option Addr) (n21 c21 : Nat) (m22 : Bool) (ao22 : Option Addr) (n22 c22 : Nat), Below w.heap.size w w' → Num w' (.agg #[.bool am, .slice ao an ac]) an X → Num w' (.agg #[.bool bm, .slice bo bn bc]) bn Y → Num w' (.agg #[.bool cm, .slice co cn cc]) cn Z → Box2 w' (w.heap.size) (.bool am) (.slice ao an ac) → Box2 w' (w.heap.size + 1) (.bool bm) (.slice bo bn bc) → Box2 w' (w.heap.size + 1 + 1) (.bool cm) (.slice co cn cc) → Below w3.heap.size w3 w' → RNum w' (.agg #[.bool m21, .slice ao21 n21 c21]) (max bn cn + 1) (Y + Z) → RNum w' (.agg #[.bool m22, .slice ao22 n22 c22]) (an + (max bn cn + 1)) (X * (Y + Z)) → WWq 7 #[true, true, true, true, true, true, true, false, true, true, false, false, false, false, false, false] ((aq.put (some 21) (.agg #[.bool m21, .slice ao21 n21 c21])).put (some 22) (.agg #[.bool m22, .slice ao22 n22 c22])) w' := by
    intro w42 m21 ao21 n21 c21 m22 ao22 n22 c22 hB_0 ax_0 bx_0 cx_0 pa_0 pb_0 pc_0 hWq_0 r21_0 r22_0
    rw [HWq.out, HAq.out]
    try simp only [Act.put, List.setIfInBounds_toArray, List.set_cons_zero, List.set_cons_succ]
    refine reg_all3 7 12 13 ?_ ?_ ?_ (by kernel_rfl) ?_ ?_ ?_ (fun K hK => ?_) (fun K hK => ?_) (fun K hK => ?_)
    rotate_left 3
    · simp only [List.getElem?_toArray, List.getElem?_cons_succ, List.getElem?_cons_zero]; exact rfl
    · simp only [List.getElem?_toArray, List.getElem?_cons_succ, List.getElem?_cons_zero]; exact rfl
    · simp only [List.getElem?_toArray, List.getElem?_cons_succ, List.getElem?_cons_zero]; exact rfl
    · go_simp
      refine (nMul_any _ _ _ _ _ _ _ (by omega) (by omega) cx_0 ax_0).mono ?_
      rintro e w43 ⟨m25, ao25, n25, c25, rfl, r25_0, hb43⟩
      have hB_1 := hB_0.trans (hb43.mono hB_0.size)
      have ax_1 := ax_0.below hb43
      have bx_1 := bx_0.below hb43
      have cx_1 := cx_0.below hb43
      have pa_1 := pa_0.below hb43
      have pb_1 := pb_0.below hb43
      have pc_1 := pc_0.below hb43
      have hWq_1 := hWq_0.trans (hb43.mono hWq_0.size)
      have r21_1 := r21_0.below hb43
      have r22_1 := r22_0.below hb43
      go_wp2_with fail
      refine hK.out _ _ ⟨pa_1.c0, pa_1.c1, pb_1.c0, pb_1.c1, pc_1.c0, pc_1.c1⟩ (fun hHeld => ?_)
      clear hK K hHeld
      try simp only [Act.put, List.setIfInBounds_toArray, List.set_cons_zero, List.set_cons_succ]
      rw [← HWq.out]
      exact stq_3ff _ m21 ao21 n21 c21 m22 ao22 n22 c22 m25 ao25 n25 c25 hB_1 ax_1 bx_1 cx_1 pa_1 pb_1 pc_1 hWq_1 r21_1 r22_1 r25_0
    · go_simp
      have hal : Below w42.heap.size w42 (w42.alloc (Obj.cells #[Value.bool false, Value.slice none 0 0] 25)) := (Below.refl _ _).alloc (Nat.le_refl _) _
      have pone_0 := alloc_box w42 (.bool false) (.slice none 0 0) 25
      have hgn : w3.heap.size ≤ w42.heap.size := hWq_0.size
      have hB_1 := hB_0.trans (hal.mono hB_0.size)
      have ax_1 := ax_0.below hal
      have bx_1 := bx_0.below hal
      have cx_1 := cx_0.below hal
      have pa_1 := pa_0.below hal
      have pb_1 := pb_0.below hal
      have pc_1 := pc_0.below hal
      have hWq_1 := hWq_0.trans (hal.mono hWq_0.size)
      have r21_1 := r21_0.below hal
      have r22_1 := r22_0.below hal
      refine hK.out _ _ ⟨pa_1.c0, pa_1.c1, pb_1.c0, pb_1.c1, pc_1.c0, pc_1.c1⟩ (fun hHeld => ?_)
      clear hK K hHeld
      try simp only [Act.put, List.setIfInBounds_toArray, List.set_cons_zero, List.set_cons_succ]
      rw [← HWq.out]
      exact stq_2tf _ m21 ao21 n21 c21 m22 ao22 n22 c22 w42.heap.size hB_1 ax_1 bx_1 cx_1 pa_1 pb_1 pc_1 hWq_1 r21_1 r22_1 pone_0 (by omega)
    · go_simp
      have hal : Below w42.heap.size w42 (w42.alloc (Obj.cells #[Value.bool false, Value.slice none 0 0] 25)) := (Below.refl _ _).alloc (Nat.le_refl _) _
      have ptwo_0 := alloc_box w42 (.bool false) (.slice none 0 0) 25
      have hgn : w3.heap.size ≤ w42.heap.size := hWq_0.size
      have hB_1 := hB_0.trans (hal.mono hB_0.size)
      have ax_1 := ax_0.below hal
      have bx_1 := bx_0.below hal
      have cx_1 := cx_0.below hal
      have pa_1 := pa_0.below hal
      have pb_1 := pb_0.below hal
      have pc_1 := pc_0.below hal
      have hWq_1 := hWq_0.trans (hal.mono hWq_0.size)
      have r21_1 := r21_0.below hal
      have r22_1 := r22_0.below hal
      refine hK.out _ _ ⟨pa_1.c0, pa_1.c1, pb_1.c0, pb_1.c1, pc_1.c0, pc_1.c1⟩ (fun hHeld => ?_)
      clear hK K hHeld
      try simp only [Act.put, List.setIfInBounds_toArray, List.set_cons_zero, List.set_cons_succ]
      rw [← HWq.out]
      exact stq_2ft _ m21 ao21 n21 c21 m22 ao22 n22 c22 w42.heap.size hB_1 ax_1 bx_1 cx_1 pa_1 pb_1 pc_1 hWq_1 r21_1 r22_1 ptwo_0 (by omega)
  try simp only [HAq.out, Act.put, List.setIfInBounds_toArray, List.set_cons_zero, List.set_cons_succ] at stq_2ff
  have stq_1tf : ∀ (w' : World) (m21 : Bool) (ao21 : Option Addr) (n21 c21 : Nat) (gone : Nat), Below w.heap.size w w' → Num w' (.agg #[.bool am, .slice ao an ac]) an X → Num w' (.agg #[.bool bm, .slice bo bn bc]) bn Y → Num w' (.agg #[.bool cm, .slice co cn cc]) cn Z → Box2 w' (w.heap.size) (.bool am) (.slice ao an ac) → Box2 w' (w.heap.size + 1) (.bool bm) (.slice bo bn bc) → Box2 w' (w.heap.size + 1 + 1) (.bool cm) (.slice co cn cc) → Below w3.heap.size w3 w' → RNum w' (.agg #[.bool m21, .slice ao21 n21 c21]) (max bn cn + 1) (Y + Z) → Box2 w' gone (.bool false) (.slice none 0 0) → w3.heap.size ≤ gone → WWq 7 #[true, true, true, true, false, true, true, false, true, true, false, false, true, false, false, false] ((aq.put (some 21) (.agg #[.bool m21, .slice ao21 n21 c21])).put (some 7) (.pointer (some ⟨gone, 0, none⟩))) w' := by
    intro w44 m21 ao21 n21 c21 gone hB_0 ax_0 bx_0 cx_0 pa_0 pb_0 pc_0 hWq_0 r21_0 pone_0 hgone
    rw [HWq.out, HAq.out]
    try simp only [Act.put, List.setIfInBounds_toArray, List.set_cons_zero, List.set_cons_succ]
    refine reg_all2 4 13 ?_ ?_ (by kernel_rfl) ?_ ?_ (fun K hK => ?_) (fun K hK => ?_)
    rotate_left 2
    · simp only [List.getElem?_toArray, List.getElem?_cons_succ, List.getElem?_cons_zero]; exact rfl
    · simp only [List.getElem?_toArray, List.getElem?_cons_succ, List.getElem?_cons_zero]; exact rfl
    · go_simp
      refine (nMul_any _ _ _ _ _ _ _ (by omega) (by omega) ax_0 r21_0.num).mono ?_
      rintro e w45 ⟨m22, ao22, n22, c22, rfl, r22_0, hb45⟩
      have hB_1 := hB_0.trans (hb45.mono hB_0.size)
      have ax_1 := ax_0.below hb45
      have bx_1 := bx_0.below hb45
      have cx_1 := cx_0.below hb45
      have pa_1 := pa_0.below hb45
      have pb_1 := pb_0.below hb45
      have pc_1 := pc_0.below hb45
      have hWq_1 := hWq_0.trans (hb45.mono hWq_0.size)
      have r21_1 := r21_0.below hb45
      have pone_1 := pone_0.below hb45
      go_wp2_with fail
      refine hK.out _ _ ⟨pa_1.c0, pa_1.c1, pb_1.c0, pb_1.c1, pc_1.c0, pc_1.c1⟩ (fun hHeld => ?_)
      clear hK K hHeld
      try simp only [Act.put, List.setIfInBounds_toArray, List.set_cons_zero, List.set_cons_succ]
      rw [← HWq.out]
      exact stq_2tf _ m21 ao21 n21 c21 m22 ao22 n22 c22 gone hB_1 ax_1 bx_1 cx_1 pa_1 pb_1 pc_1 hWq_1 r21_1 r22_0 pone_1 (by omega)
    · go_simp
      have hal : Below w44.heap.size w44 (w44.alloc (Obj.cells #[Value.bool false, Value.slice none 0 0] 25)) := (Below.refl _ _).alloc (Nat.le_refl _) _
      have ptwo_0 := alloc_box w44 (.bool false) (.slice none 0 0) 25
      have hgn : w3.heap.size ≤ w44.heap.size := hWq_0.size
      have hlpone : gone < w44.heap.size := World.block_lt_of_cell? _ _ pone_0.c0
      have hB_1 := hB_0.trans (hal.mono hB_0.size)
      have ax_1 := ax_0.below hal
      have bx_1 := bx_0.below hal
      have cx_1 := cx_0.below hal
      have pa_1 := pa_0.below hal
      have pb_1 := pb_0.below hal
      have pc_1 := pc_0.below hal
      have hWq_1 := hWq_0.trans (hal.mono hWq_0.size)
      have r21_1 := r21_0.below hal
      have pone_1 := pone_0.below hal
      refine hK.out _ _ ⟨pa_1.c0, pa_1.c1, pb_1.c0, pb_1.c1, pc_1.c0, pc_1.c1⟩ (fun hHeld => ?_)
      clear hK K hHeld
      try simp only [Act.put, List.setIfInBounds_toArray, List.set_cons_zero, List.set_cons_succ]
      rw [← HWq.out]
      exact stq_1tt _ m21 ao21 n21 c21 gone w44.heap.size hB_1 ax_1 bx_1 cx_1 pa_1 pb_1 pc_1 hWq_1 r21_1 pone_1 ptwo_0 (by omega) (by omega) (by omega)
  try simp only [HAq.out, Act.put, List.setIfInBounds_toArray, List.set_cons_zero, List.set_cons_succ] at stq_1tf
  have stq_1ft : ∀ (w' : World) (m21 : Bool) (ao21 : Option Addr) (n21 c21 : Nat) (gtwo : Nat), Below w.heap.size w w' → Num w' (.agg #[.bool am, .slice ao an ac]) an X → Num w' (.agg #[.bool bm, .slice bo bn bc]) bn Y → Num w' (.agg #[.bool cm, .slice co cn cc]) cn Z → Box2 w' (w.heap.size) (.bool am) (.slice ao an ac) → Box2 w' (w.heap.size + 1) (.bool bm) (.slice bo bn bc) → Box2 w' (w.heap.size + 1 + 1) (.bool cm) (.slice co cn cc) → Below w3.heap.size w3 w' → RNum w' (.agg #[.bool m21, .slice ao21 n21 c21]) (max bn cn + 1) (Y + Z) → Box2 w' gtwo (.bool false) (.slice none 0 0) → w3.heap.size ≤ gtwo → WWq 7 #[true, true, true, true, false, true, true, false, true, true, false, false, false, true, false, false] ((aq.put (some 21) (.agg #[.bool m21, .slice ao21 n21 c21])).put (some 8) (.pointer (some ⟨gtwo, 0, none⟩))) w' := by
    intro w46 m21 ao21 n21 c21 gtwo hB_0 ax_0 bx_0 cx_0 pa_0 pb_0 pc_0 hWq_0 r21_0 ptwo_0 hgtwo
    rw [HWq.out, HAq.out]
    try simp only [Act.put, List.setIfInBounds_toArray, List.set_cons_zero, List.set_cons_succ]
    refine reg_all2 4 12 ?_ ?_ (by kernel_rfl) ?_ ?_ (fun K hK => ?_) (fun K hK => ?_)
    rotate_left 2
    · simp only [List.getElem?_toArray, List.getElem?_cons_succ, List.getElem?_cons_zero]; exact rfl
    · simp only [List.getElem?_toArray, List.getElem?_cons_succ, List.getElem?_cons_zero]; exact rfl
    · go_simp
      refine (nMul_any _ _ _ _ _ _ _ (by omega) (by omega) ax_0 r21_0.num).mono ?_
      rintro e w47 ⟨m22, ao22, n22, c22, rfl, r22_0, hb47⟩
      have hB_1 := hB_0.trans (hb47.mono hB_0.size)
      have ax_1 := ax_0.below hb47
      have bx_1 := bx_0.below hb47
      have cx_1 := cx_0.below hb47
      have pa_1 := pa_0.below hb47
      have pb_1 := pb_0.below hb47
      have pc_1 := pc_0.below hb47
      have hWq_1 := hWq_0.trans (hb47.mono hWq_0.size)
      have r21_1 := r21_0.below hb47
      have ptwo_1 := ptwo_0.below hb47
      go_wp2_with fail
      refine hK.out _ _ ⟨pa_1.c0, pa_1.c1, pb_1.c0, pb_1.c1, pc_1.c0, pc_1.c1⟩ (fun hHeld => ?_)
      clear hK K hHeld
      try simp only [Act.put, List.setIfInBounds_toArray, List.set_cons_zero, List.set_cons_succ]
      rw [← HWq.out]
      exact stq_2ft _ m21 ao21 n21 c21 m22 ao22 n22 c22 gtwo hB_1 ax_1 bx_1 cx_1 pa_1 pb_1 pc_1 hWq_1 r21_1 r22_0 ptwo_1 (by omega)
    · go_simp
      have hal : Below w46.heap.size w46 (w46.alloc (Obj.cells #[Value.bool false, Value.slice none 0 0] 25)) := (Below.refl _ _).alloc (Nat.le_refl _) _
      have pone_0 := alloc_box w46 (.bool false) (.slice none 0 0) 25
      have hgn : w3.heap.size ≤ w46.heap.size := hWq_0.size
      have hlptwo : gtwo < w46.heap.size := World.block_lt_of_cell? _ _ ptwo_0.c0
      have hB_1 := hB_0.trans (hal.mono hB_0.size)
      have ax_1 := ax_0.below hal
      have bx_1 := bx_0.below hal
      have cx_1 := cx_0.below hal
      have pa_1 := pa_0.below hal
      have pb_1 := pb_0.below hal
      have pc_1 := pc_0.below hal
      have hWq_1 := hWq_0.trans (hal.mono hWq_0.size)
      have r21_1 := r21_0.below hal
      have ptwo_1 := ptwo_0.below hal
      refine hK.out _ _ ⟨pa_1.c0, pa_1.c1, pb_1.c0, pb_1.c1, pc_1.c0, pc_1.c1⟩ (fun hHeld => ?_)
      clear hK K hHeld
      try simp only [Act.put, List.setIfInBounds_toArray, List.set_cons_zero, List.set_cons_succ]
      rw [← HWq.out]
      exact stq_1tt _ m21 ao21 n21 c21 w46.heap.size gtwo hB_1 ax_1 bx_1 cx_1 pa_1 pb_1 pc_1 hWq_1 r21_1 pone_0 ptwo_1 (by omega) (by omega) (by omega)
  try simp only [HAq.out, Act.put, List.setIfInBounds_toArray, List.set_cons_zero, List.set_cons_succ] at stq_1ft
  have stq_0tt : ∀ (w' : World) (gone : Nat) (gtwo : Nat), Below w.heap.size w w' → Num w' (.agg #[.bool am, .slice ao an ac]) an X → Num w' (.agg #[.bool bm, .slice bo bn bc]) bn Y → Num w' (.agg #[.bool cm, .slice co cn cc]) cn Z → Box2 w' (w.heap.size) (.bool am) (.slice ao an ac) → Box2 w' (w.heap.size + 1) (.bool bm) (.slice bo bn bc) → Box2 w' (w.heap.size + 1 + 1) (.bool cm) (.slice co cn cc) → Below w3.heap.size w3 w' → Box2 w' gone (.bool false) (.slice none 0 0) → Box2 w' gtwo (.bool false) (.slice none 0 0) → w3.heap.size ≤ gone → w3.heap.size ≤ gtwo → gone ≠ gtwo → WWq 7 #[true, true, true, false, false, true, true, false, true, true, false, false, true, true, false, false] ((aq.put (some 7) (.pointer (some ⟨gone, 0, none⟩))).put (some 8) (.pointer (some ⟨gtwo, 0, none⟩))) w' := by
    intro w48 gone gtwo hB_0 ax_0 bx_0 cx_0 pa_0 pb_0 pc_0 hWq_0 pone_0 ptwo_0 hgone hgtwo hnonetwo
    rw [HWq.out, HAq.out]
    try simp only [Act.put, List.setIfInBounds_toArray, List.set_cons_zero, List.set_cons_succ]
    refine reg_all1 3 ?_ (by kernel_rfl) ?_ (fun K hK => ?_)
    rotate_left 1
    · simp only [List.getElem?_toArray, List.getElem?_cons_succ, List.getElem?_cons_zero]; exact rfl
    · go_simp
      refine (nAdd_any _ _ _ _ _ _ _ (by omega) (by omega) bx_0 cx_0).mono ?_
      rintro e w49 ⟨m21, ao21, n21, c21, rfl, r21_0, hb49⟩
      have hB_1 := hB_0.trans (hb49.mono hB_0.size)
      have ax_1 := ax_0.below hb49
      have bx_1 := bx_0.below hb49
      have cx_1 := cx_0.below hb49
      have pa_1 := pa_0.below hb49
      have pb_1 := pb_0.below hb49
      have pc_1 := pc_0.below hb49
      have hWq_1 := hWq_0.trans (hb49.mono hWq_0.size)
      have pone_1 := pone_0.below hb49
      have ptwo_1 := ptwo_0.below hb49
      go_wp2_with fail
      refine hK.out _ _ ⟨pa_1.c0, pa_1.c1, pb_1.c0, pb_1.c1, pc_1.c0, pc_1.c1⟩ (fun hHeld => ?_)
      clear hK K hHeld
      try simp only [Act.put, List.setIfInBounds_toArray, List.set_cons_zero, List.set_cons_succ]
      rw [← HWq.out]
      exact stq_1tt _ m21 ao21 n21 c21 gone gtwo hB_1 ax_1 bx_1 cx_1 pa_1 pb_1 pc_1 hWq_1 r21_0 pone_1 ptwo_1 (by omega) (by omega) (by omega)
  try simp only [HAq.out, Act.put, List.setIfInBounds_toArray, List.set_cons_zero, List.set_cons_succ] at stq_0tt
  have stq_1ff : ∀ (w' : World) (m21 : Bool) (ao21 : Option Addr) (n21 c21 : Nat), Below w.heap.size w w' → Num w' (.agg #[.bool am, .slice ao an ac]) an X → Num w' (.agg #[.bool bm, .slice bo bn bc]) bn Y → Num w' (.agg #[.bool cm, .slice co cn cc]) cn Z → Box2 w' (w.heap.size) (.bool am) (.slice ao an ac) → Box2 w' (w.heap.size + 1) (.bool bm) (.slice bo bn bc) → Box2 w' (w.heap.size + 1 + 1) (.bool cm) (.slice co cn cc) → Below w3.heap.size w3 w' → RNum w' (.agg #[.bool m21, .slice ao21 n21 c21]) (max bn cn + 1) (Y + Z) → WWq 8 #[true, true, true, true, false, true, true, false, true, true, false, false, false, false, false, false] (aq.put (some 21) (.agg #[.bool m21, .slice ao21 n21 c21])) w' := by
    intro w50 m21 ao21 n21 c21 hB_0 ax_0 bx_0 cx_0 pa_0 pb_0 pc_0 hWq_0 r21_0
    rw [HWq.out, HAq.out]
    try simp only [Act.put, List.setIfInBounds_toArray, List.set_cons_zero, List.set_cons_succ]
    refine reg_all3 4 12 13 ?_ ?_ ?_ (by kernel_rfl) ?_ ?_ ?_ (fun K hK => ?_) (fun K hK => ?_) (fun K hK => ?_)
    rotate_left 3
    · simp only [List.getElem?_toArray, List.getElem?_cons_succ, List.getElem?_cons_zero]; exact rfl
    · simp only [List.getElem?_toArray, List.getElem?_cons_succ, List.getElem?_cons_zero]; exact rfl
    · simp only [List.getElem?_toArray, List.getElem?_cons_succ, List.getElem?_cons_zero]; exact rfl
    · go_simp
      refine (nMul_any _ _ _ _ _ _ _ (by omega) (by omega) ax_0 r21_0.num).mono ?_
      rintro e w51 ⟨m22, ao22, n22, c22, rfl, r22_0, hb51⟩
      have hB_1 := hB_0.trans (hb51.mono hB_0.size)
      have ax_1 := ax_0.below hb51
      have bx_1 := bx_0.below hb51
      have cx_1 := cx_0.below hb51
      have pa_1 := pa_0.below hb51
      have pb_1 := pb_0.below hb51
      have pc_1 := pc_0.below hb51
      have hWq_1 := hWq_0.trans (hb51.mono hWq_0.size)
      have r21_1 := r21_0.below hb51
      go_wp2_with fail
      refine hK.out _ _ ⟨pa_1.c0, pa_1.c1, pb_1.c0, pb_1.c1, pc_1.c0, pc_1.c1⟩ (fun hHeld => ?_)
      clear hK K hHeld
      try simp only [Act.put, List.setIfInBounds_toArray, List.set_cons_zero, List.set_cons_succ]
      rw [← HWq.out]
      exact stq_2ff _ m21 ao21 n21 c21 m22 ao22 n22 c22 hB_1 ax_1 bx_1 cx_1 pa_1 pb_1 pc_1 hWq_1 r21_1 r22_0
    · go_simp
      have hal : Below w50.heap.size w50 (w50.alloc (Obj.cells #[Value.bool false, Value.slice none 0 0] 25)) := (Below.refl _ _).alloc (Nat.le_refl _) _
      have pone_0 := alloc_box w50 (.bool false) (.slice none 0 0) 25
      have hgn : w3.heap.size ≤ w50.heap.size := hWq_0.size
      have hB_1 := hB_0.trans (hal.mono hB_0.size)
      have ax_1 := ax_0.below hal
      have bx_1 := bx_0.below hal
      have cx_1 := cx_0.below hal
      have pa_1 := pa_0.below hal
      have pb_1 := pb_0.below hal
      have pc_1 := pc_0.below hal
      have hWq_1 := hWq_0.trans (hal.mono hWq_0.size)
      have r21_1 := r21_0.below hal
      refine hK.out _ _ ⟨pa_1.c0, pa_1.c1, pb_1.c0, pb_1.c1, pc_1.c0, pc_1.c1⟩ (fun hHeld => ?_)
      clear hK K hHeld
      try simp only [Act.put, List.setIfInBounds_toArray, List.set_cons_zero, List.set_cons_succ]
      rw [← HWq.out]
      exact stq_1tf _ m21 ao21 n21 c21 w50.heap.size hB_1 ax_1 bx_1 cx_1 pa_1 pb_1 pc_1 hWq_1 r21_1 pone_0 (by omega)
    · go_simp
      have hal : Below w50.heap.size w50 (w50.alloc (Obj.cells #[Value.bool false, Value.slice none 0 0] 25)) := (Below.refl _ _).alloc (Nat.le_refl _) _
      have ptwo_0 := alloc_box w50 (.bool false) (.slice none 0 0) 25
      have hgn : w3.heap.size ≤ w50.heap.size := hWq_0.size
      have hB_1 := hB_0.trans (hal.mono hB_0.size)
      have ax_1 := ax_0.below hal
      have bx_1 := bx_0.below hal
      have cx_1 := cx_0.below hal
      have pa_1 := pa_0.below hal
      have pb_1 := pb_0.below hal
      have pc_1 := pc_0.below hal
      have hWq_1 := hWq_0.trans (hal.mono hWq_0.size)
      have r21_1 := r21_0.below hal
      refine hK.out _ _ ⟨pa_1.c0, pa_1.c1, pb_1.c0, pb_1.c1, pc_1.c0, pc_1.c1⟩ (fun hHeld => ?_)
      clear hK K hHeld
      try simp only [Act.put, List.setIfInBounds_toArray, List.set_cons_zero, List.set_cons_succ]
      rw [← HWq.out]
      exact stq_1ft _ m21 ao21 n21 c21 w50.heap.size hB_1 ax_1 bx_1 cx_1 pa_1 pb_1 pc_1 hWq_1 r21_1 ptwo_0 (by omega)
  try simp only [HAq.out, Act.put, List.setIfInBounds_toArray, List.set_cons_zero, List.set_cons_succ] at stq_1ff
  have stq_0tf : ∀ (w' : World) (gone : Nat), Below w.heap.size w w' → Num w' (.agg #[.bool am, .slice ao an ac]) an X → Num w' (.agg #[.bool bm, .slice bo bn bc]) bn Y → Num w' (.agg #[.bool cm, .slice co cn cc]) cn Z → Box2 w' (w.heap.size) (.bool am) (.slice ao an ac) → Box2 w' (w.heap.size + 1) (.bool bm) (.slice bo bn bc) → Box2 w' (w.heap.size + 1 + 1) (.bool cm) (.slice co cn cc) → Below w3.heap.size w3 w' → Box2 w' gone (.bool false) (.slice none 0 0) → w3.heap.size ≤ gone → WWq 8 #[true, true, true, false, false, true, true, false, true, true, false, false, true, false, false, false] (aq.put (some 7) (.pointer (some ⟨gone, 0, none⟩))) w' := by
    intro w52 gone hB_0 ax_0 bx_0 cx_0 pa_0 pb_0 pc_0 hWq_0 pone_0 hgone
    rw [HWq.out, HAq.out]
    try simp only [Act.put, List.setIfInBounds_toArray, List.set_cons_zero, List.set_cons_succ]
    refine reg_all2 3 13 ?_ ?_ (by kernel_rfl) ?_ ?_ (fun K hK => ?_) (fun K hK => ?_)
    rotate_left 2
    · simp only [List.getElem?_toArray, List.getElem?_cons_succ, List.getElem?_cons_zero]; exact rfl
    · simp only [List.getElem?_toArray, List.getElem?_cons_succ, List.getElem?_cons_zero]; exact rfl
    · go_simp
      refine (nAdd_any _ _ _ _ _ _ _ (by omega) (by omega) bx_0 cx_0).mono ?_
      rintro e w53 ⟨m21, ao21, n21, c21, rfl, r21_0, hb53⟩
      have hB_1 := hB_0.trans (hb53.mono hB_0.size)
      have ax_1 := ax_0.below hb53
      have bx_1 := bx_0.below hb53
      have cx_1 := cx_0.below hb53
      have pa_1 := pa_0.below hb53
      have pb_1 := pb_0.below hb53
      have pc_1 := pc_0.below hb53
      have hWq_1 := hWq_0.trans (hb53.mono hWq_0.size)
      have pone_1 := pone_0.below hb53
      go_wp2_with fail
      refine hK.out _ _ ⟨pa_1.c0, pa_1.c1, pb_1.c0, pb_1.c1, pc_1.c0, pc_1.c1⟩ (fun hHeld => ?_)
      clear hK K hHeld
      try simp only [Act.put, List.setIfInBounds_toArray, List.set_cons_zero, List.set_cons_succ]
      rw [← HWq.out]
      exact stq_1tf _ m21 ao21 n21 c21 gone hB_1 ax_1 bx_1 cx_1 pa_1 pb_1 pc_1 hWq_1 r21_0 pone_1 (by omega)
    · go_simp
      have hal : Below w52.heap.size w52 (w52.alloc (Obj.cells #[Value.bool false, Value.slice none 0 0] 25)) := (Below.refl _ _).alloc (Nat.le_refl _) _
      have ptwo_0 := alloc_box w52 (.bool false) (.slice none 0 0) 25
      have hgn : w3.heap.size ≤ w52.heap.size := hWq_0.size
      have hlpone : gone < w52.heap.size := World.block_lt_of_cell? _ _ pone_0.c0
      have hB_1 := hB_0.trans (hal.mono hB_0.size)
      have ax_1 := ax_0.below hal
      have bx_1 := bx_0.below hal
      have cx_1 := cx_0.below hal
      have pa_1 := pa_0.below hal
      have pb_1 := pb_0.below hal
      have pc_1 := pc_0.below hal
      have hWq_1 := hWq_0.trans (hal.mono hWq_0.size)
      have pone_1 := pone_0.below hal
      refine hK.out _ _ ⟨pa_1.c0, pa_1.c1, pb_1.c0, pb_1.c1, pc_1.c0, pc_1.c1⟩ (fun hHeld => ?_)
      clear hK K hHeld
      try simp only [Act.put, List.setIfInBounds_toArray, List.set_cons_zero, List.set_cons_succ]
      rw [← HWq.out]
      exact stq_0tt _ gone w52.heap.size hB_1 ax_1 bx_1 cx_1 pa_1 pb_1 pc_1 hWq_1 pone_1 ptwo_0 (by omega) (by omega) (by omega)
  try simp only [HAq.out, Act.put, List.setIfInBounds_toArray, List.set_cons_zero, List.set_cons_succ] at stq_0tf
  have stq_0ft : ∀ (w' : World) (gtwo : Nat), Below w.heap.size w w' → Num w' (.agg #[.bool am, .slice ao an ac]) an X → Num w' (.agg #[.bool bm, .slice bo bn bc]) bn Y → Num w' (.agg #[.bool cm, .slice co cn cc]) cn Z → Box2 w' (w.heap.size) (.bool am) (.slice ao an ac) → Box2 w' (w.heap.size + 1) (.bool bm) (.slice bo bn bc) → Box2 w' (w.heap.size + 1 + 1) (.bool cm) (.slice co cn cc) → Below w3.heap.size w3 w' → Box2 w' gtwo (.bool false) (.slice none 0 0) → w3.heap.size ≤ gtwo → WWq 8 #[true, true, true, false, false, true, true, false, true, true, false, false, false, true, false, false] (aq.put (some 8) (.pointer (some ⟨gtwo, 0, none⟩))) w' := by
    intro w54 gtwo hB_0 ax_0 bx_0 cx_0 pa_0 pb_0 pc_0 hWq_0 ptwo_0 hgtwo
    rw [HWq.out, HAq.out]
    try simp only [Act.put, List.setIfInBounds_toArray, List.set_cons_zero, List.set_cons_succ]
    refine reg_all2 3 12 ?_ ?_ (by kernel_rfl) ?_ ?_ (fun K hK => ?_) (fun K hK => ?_)
    rotate_left 2
    · simp only [List.getElem?_toArray, List.getElem?_cons_succ, List.getElem?_cons_zero]; exact rfl
    · simp only [List.getElem?_toArray, List.getElem?_cons_succ, List.getElem?_cons_zero]; exact rfl
    · go_simp
      refine (nAdd_any _ _ _ _ _ _ _ (by omega) (by omega) bx_0 cx_0).mono ?_
      rintro e w55 ⟨m21, ao21, n21, c21, rfl, r21_0, hb55⟩
      have hB_1 := hB_0.trans (hb55.mono hB_0.size)
      have ax_1 := ax_0.below hb55
      have bx_1 := bx_0.below hb55
      have cx_1 := cx_0.below hb55
      have pa_1 := pa_0.below hb55
      have pb_1 := pb_0.below hb55
      have pc_1 := pc_0.below hb55
      have hWq_1 := hWq_0.trans (hb55.mono hWq_0.size)
      have ptwo_1 := ptwo_0.below hb55
      go_wp2_with fail
      refine hK.out _ _ ⟨pa_1.c0, pa_1.c1, pb_1.c0, pb_1.c1, pc_1.c0, pc_1.c1⟩ (fun hHeld => ?_)
      clear hK K hHeld
      try simp only [Act.put, List.setIfInBounds_toArray, List.set_cons_zero, List.set_cons_succ]
      rw [← HWq.out]
      exact stq_1ft _ m21 ao21 n21 c21 gtwo hB_1 ax_1 bx_1 cx_1 pa_1 pb_1 pc_1 hWq_1 r21_0 ptwo_1 (by omega)
    · go_simp
      have hal : Below w54.heap.size w54 (w54.alloc (Obj.cells #[Value.bool false, Value.slice none 0 0] 25)) := (Below.refl _ _).alloc (Nat.le_refl _) _
      have pone_0 := alloc_box w54 (.bool false) (.slice none 0 0) 25
      have hgn : w3.heap.size ≤ w54.heap.size := hWq_0.size
      have hlptwo : gtwo < w54.heap.size := World.block_lt_of_cell? _ _ ptwo_0.c0
      have hB_1 := hB_0.trans (hal.mono hB_0.size)
      have ax_1 := ax_0.below hal
      have bx_1 := bx_0.below hal
      have cx_1 := cx_0.below hal
      have pa_1 := pa_0.below hal
      have pb_1 := pb_0.below hal
      have pc_1 := pc_0.below hal
      have hWq_1 := hWq_0.trans (hal.mono hWq_0.size)
      have ptwo_1 := ptwo_0.below hal
      refine hK.out _ _ ⟨pa_1.c0, pa_1.c1, pb_1.c0, pb_1.c1, pc_1.c0, pc_1.c1⟩ (fun hHeld => ?_)
      clear hK K hHeld
      try simp only [Act.put, List.setIfInBounds_toArray, List.set_cons_zero, List.set_cons_succ]
      rw [← HWq.out]
      exact stq_0tt _ w54.heap.size gtwo hB_1 ax_1 bx_1 cx_1 pa_1 pb_1 pc_1 hWq_1 pone_0 ptwo_1 (by omega) (by omega) (by omega)
  try simp only [HAq.out, Act.put, List.setIfInBounds_toArray, List.set_cons_zero, List.set_cons_succ] at stq_0ft
  have stq_0ff : ∀ (w' : World), Below w.heap.size w w' → Num w' (.agg #[.bool am, .slice ao an ac]) an X → Num w' (.agg #[.bool bm, .slice bo bn bc]) bn Y → Num w' (.agg #[.bool cm, .slice co cn cc]) cn Z → Box2 w' (w.heap.size) (.bool am) (.slice ao an ac) → Box2 w' (w.heap.size + 1) (.bool bm) (.slice bo bn bc) → Box2 w' (w.heap.size + 1 + 1) (.bool cm) (.slice co cn cc) → Below w3.heap.size w3 w' → WWq 9 #[true, true, true, false, false, true, true, false, true, true, false, false, false, false, false, false] aq w' := by
    intro w56 hB_0 ax_0 bx_0 cx_0 pa_0 pb_0 pc_0 hWq_0
    rw [HWq.out, HAq.out]
    try simp only [Act.put, List.setIfInBounds_toArray, List.set_cons_zero, List.set_cons_succ]
    refine reg_all3 3 12 13 ?_ ?_ ?_ (by kernel_rfl) ?_ ?_ ?_ (fun K hK => ?_) (fun K hK => ?_) (fun K hK => ?_)
    rotate_left 3
    · simp only [List.getElem?_toArray, List.getElem?_cons_succ, List.getElem?_cons_zero]; exact rfl
    · simp only [List.getElem?_toArray, List.getElem?_cons_succ, List.getElem?_cons_zero]; exact rfl
    · simp only [List.getElem?_toArray, List.getElem?_cons_succ, List.getElem?_cons_zero]; exact rfl
    · go_simp
      refine (nAdd_any _ _ _ _ _ _ _ (by omega) (by omega) bx_0 cx_0).mono ?_
      rintro e w57 ⟨m21, ao21, n21, c21, rfl, r21_0, hb57⟩
      have hB_1 := hB_0.trans (hb57.mono hB_0.size)
      have ax_1 := ax_0.below hb57
      have bx_1 := bx_0.below hb57
      have cx_1 := cx_0.below hb57
      have pa_1 := pa_0.below hb57
      have pb_1 := pb_0.below hb57
      have pc_1 := pc_0.below hb57
      have hWq_1 := hWq_0.trans (hb57.mono hWq_0.size)
      go_wp2_with fail
      refine hK.out _ _ ⟨pa_1.c0, pa_1.c1, pb_1.c0, pb_1.c1, pc_1.c0, pc_1.c1⟩ (fun hHeld => ?_)
      clear hK K hHeld
      try simp only [Act.put, List.setIfInBounds_toArray, List.set_cons_zero, List.set_cons_succ]
      rw [← HWq.out]
      exact stq_1ff _ m21 ao21 n21 c21 hB_1 ax_1 bx_1 cx_1 pa_1 pb_1 pc_1 hWq_1 r21_0
    · go_simp
      have hal : Below w56.heap.size w56 (w56.alloc (Obj.cells #[Value.bool false, Value.slice none 0 0] 25)) := (Below.refl _ _).alloc (Nat.le_refl _) _
      have pone_0 := alloc_box w56 (.bool false) (.slice none 0 0) 25
      have hgn : w3.heap.size ≤ w56.heap.size := hWq_0.size
      have hB_1 := hB_0.trans (hal.mono hB_0.size)
      have ax_1 := ax_0.below hal
      have bx_1 := bx_0.below hal
      have cx_1 := cx_0.below hal
      have pa_1 := pa_0.below hal
      have pb_1 := pb_0.below hal
      have pc_1 := pc_0.below hal
      have hWq_1 := hWq_0.trans (hal.mono hWq_0.size)
      refine hK.out _ _ ⟨pa_1.c0, pa_1.c1, pb_1.c0, pb_1.c1, pc_1.c0, pc_1.c1⟩ (fun hHeld => ?_)
      clear hK K hHeld
      try simp only [Act.put, List.setIfInBounds_toArray, List.set_cons_zero, List.set_cons_succ]
      rw [← HWq.out]
      exact stq_0tf _ w56.heap.size hB_1 ax_1 bx_1 cx_1 pa_1 pb_1 pc_1 hWq_1 pone_0 (by omega)
    · go_simp
      have hal : Below w56.heap.size w56 (w56.alloc (Obj.cells #[Value.bool false, Value.slice none 0 0] 25)) := (Below.refl _ _).alloc (Nat.le_refl _) _
      have ptwo_0 := alloc_box w56 (.bool false) (.slice none 0 0) 25
      have hgn : w3.heap.size ≤ w56.heap.size := hWq_0.size
      have hB_1 := hB_0.trans (hal.mono hB_0.size)
      have ax_1 := ax_0.below hal
      have bx_1 := bx_0.below hal
      have cx_1 := cx_0.below hal
      have pa_1 := pa_0.below hal
      have pb_1 := pb_0.below hal
      have pc_1 := pc_0.below hal
      have hWq_1 := hWq_0.trans (hal.mono hWq_0.size)
      refine hK.out _ _ ⟨pa_1.c0, pa_1.c1, pb_1.c0, pb_1.c1, pc_1.c0, pc_1.c1⟩ (fun hHeld => ?_)
      clear hK K hHeld
      try simp only [Act.put, List.setIfInBounds_toArray, List.set_cons_zero, List.set_cons_succ]
      rw [← HWq.out]
      exact stq_0ft _ w56.heap.size hB_1 ax_1 bx_1 cx_1 pa_1 pb_1 pc_1 hWq_1 ptwo_0 (by omega)
  skip
  exact stq_0ff _ hB_4 ax_4 bx_4 cx_4 pa_3 pb_3 pc_3 hWq_1
end Go.Proofs.Ytbfdianmbpfjmaa
