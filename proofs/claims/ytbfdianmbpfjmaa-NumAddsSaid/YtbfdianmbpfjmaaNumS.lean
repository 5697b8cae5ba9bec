/- The statement NumAdds, walked. -/
import Derived.Test.YtbfdianmbpfjmaaNumR
import Derived.Test.YtbfdianmbpfjmaaNumO
namespace Go.Proofs.Ytbfdianmbpfjmaa
open Go.RowKit Go.MagM
theorem dnum_parts {w : World} {m : Bool} {vm : Value} {L : Nat} {X : Int} (h : DNum w (.agg #[.bool m, vm]) L X) : ∃ N, Dec w vm L N ∧ X = sgn m N := by
  obtain ⟨m', vm', N, he, hm, hx, _⟩ := h
  simp at he
  obtain ⟨rfl, rfl⟩ := he
  exact ⟨N, hm, hx⟩
/-- The digits of a number without their sign. -/
theorem rOf_abs {w : World} {m : Bool} {vm : Value} {L : Nat} {X : Int} (h : DNum w (.agg #[.bool m, vm]) L X) :
    Calls Try.prog 24 #[.bool false, vm] w fun e w' => AnsDN w w' e L (X.natAbs : Int) := by
  obtain ⟨N, hm, hx⟩ := dnum_parts h
  refine (rOf_any false vm L N w hm).mono fun e w' g => g.of (Nat.le_refl _) ?_
  rw [hx, sgn_false, ← sgn_abs]
set_option maxRecDepth 100000 in
set_option maxHeartbeats 8000000 in
theorem NumAdds_walk (am : Bool) (ao : Option Addr) (an ac : Nat) (f : Nat → Nat) (bm : Bool) (bo : Option Addr) (bn bc : Nat) (g : Nat → Nat) (w : World) (ahc : an ≤ ac) (ar : Reads w ao an f) (bhc : bn ≤ bc) (br : Reads w bo bn g) :
    Calls Try.prog 3 #[.agg #[.bool am, .slice ao an ac], .agg #[.bool bm, .slice bo bn bc]] w fun e w' => e = .returned (.bool true) ∧ Below w.heap.size w w' := by
  have hB_0 := Below.refl w.heap.size w
  obtain ⟨X, hX⟩ : ∃ X, sgn am (V f an) = X := ⟨_, rfl⟩
  have ax_0 : Num w (.agg #[.bool am, .slice ao an ac]) an X := ⟨_, _, _, rfl, ⟨ao, an, ac, f, rfl, ahc, Nat.le_refl _, ar, rfl⟩, hX.symm⟩
  clear ahc ar hX
  obtain ⟨Y, hY⟩ : ∃ Y, sgn bm (V g bn) = Y := ⟨_, rfl⟩
  have bx_0 : Num w (.agg #[.bool bm, .slice bo bn bc]) bn Y := ⟨_, _, _, rfl, ⟨bo, bn, bc, g, rfl, bhc, Nat.le_refl _, br, rfl⟩, hY.symm⟩
  clear bhc br hY
  go_enter Try.func3, Try.ntmps3
  go_wp2_with fail
  obtain ⟨pa_0, pb_0, hb1⟩ := boxed2 w (.bool am) (.slice ao an ac) (.bool bm) (.slice bo bn bc) 25
  have hB_1 := hB_0.trans (hb1.mono hB_0.size)
  have ax_1 := ax_0.below hb1
  have bx_1 := bx_0.below hb1
  clear hb1 hB_0 ax_0 bx_0
  generalize ((w.alloc (Obj.cells #[Value.bool am, Value.slice ao an ac] 25)).alloc (Obj.cells #[Value.bool bm, Value.slice bo bn bc] 25)) = w1 at *
  obtain ⟨pae0, pae1, pae2, pae3⟩ := (id pa_0)
  obtain ⟨pbe0, pbe1, pbe2, pbe3⟩ := (id pb_0)
  go_wp2_with fail
  refine (fit_any _).mono ?_
  rintro e w2 ⟨rfl, hb2⟩
  clear pae0 pae1 pae2 pae3 pbe0 pbe1 pbe2 pbe3
  have hB_2 := hB_1.trans (hb2.mono hB_1.size)
  have ax_2 := ax_1.below hb2
  have bx_2 := bx_1.below hb2
  have pa_1 := pa_0.below hb2
  have pb_1 := pb_0.below hb2
  clear hb2 hB_1 ax_1 bx_1 pa_0 pb_0
  obtain ⟨pae0, pae1, pae2, pae3⟩ := (id pa_1)
  obtain ⟨pbe0, pbe1, pbe2, pbe3⟩ := (id pb_1)
  by_cases hsh : an ≤ 4 ∧ bn ≤ 4
  rotate_left
  · skip
    go_wp2_with fail
    refine (nshort2_no 4 _ _ am ao an ac bm bo bn bc (by omega) hsh).mono ?_
    rintro e w3 ⟨rfl, hb3⟩
    clear pae0 pae1 pae2 pae3 pbe0 pbe1 pbe2 pbe3
    have hB_3 := hB_2.trans (hb3.mono hB_2.size)
    have ax_3 := ax_2.below hb3
    have bx_3 := bx_2.below hb3
    have pa_2 := pa_1.below hb3
    have pb_2 := pb_1.below hb3
    clear hb3 hB_2 ax_2 bx_2 pa_1 pb_1
    go_wp2
    go_ret
    exact ⟨rfl, hB_3⟩
  have hsa : an ≤ 4 := hsh.1
  have hsb : bn ≤ 4 := hsh.2
  go_wp2_with fail
  refine (nshort2_yes 4 _ _ am ao an ac bm bo bn bc (by omega) hsh).mono ?_
  rintro e w3 ⟨rfl, hb3⟩
  clear pae0 pae1 pae2 pae3 pbe0 pbe1 pbe2 pbe3
  have hB_3 := hB_2.trans (hb3.mono hB_2.size)
  have ax_3 := ax_2.below hb3
  have bx_3 := bx_2.below hb3
  have pa_2 := pa_1.below hb3
  have pb_2 := pb_1.below hb3
  clear hb3 hB_2 ax_2 bx_2 pa_1 pb_1
  obtain ⟨pae0, pae1, pae2, pae3⟩ := (id pa_2)
  obtain ⟨pbe0, pbe1, pbe2, pbe3⟩ := (id pb_2)
  clear hsh
  go_wp2
  clear pae0 pae1 pae2 pae3 pbe0 pbe1 pbe2 pbe3
  have hWq_0 := Below.refl w3.heap.size w3
  have hsq : w.heap.size ≤ w3.heap.size := hB_3.size
  have hlqpa := box_lt pa_2
  have hlqpb := box_lt pb_2
  have hB_4 := hB_3.drew'
  have ax_4 := ax_3.drew
  have bx_4 := bx_3.drew
  have pa_3 := pa_2.drew
  have pb_3 := pb_2.drew
  have hWq_1 := hWq_0.drew'
  refine wp_region_noPanic ?_
  refine wp_region_held_drew (S := fun w' => w'.cell? ⟨w.heap.size, 0, none⟩ = some (.bool am) ∧ w'.cell? ⟨w.heap.size, 1, none⟩ = some (.slice ao an ac) ∧ w'.cell? ⟨w.heap.size + 1, 0, none⟩ = some (.bool bm) ∧ w'.cell? ⟨w.heap.size + 1, 1, none⟩ = some (.slice bo bn bc)) (by kernel_rfl) (⟨pa_3.c0, pa_3.c1, pb_3.c0, pb_3.c1⟩) (fun hHeld => ?_)
  refine reg_take 0 ?_ ?_ ?_ (by kernel_rfl) (by kernel_rfl) (by kernel_rfl) (fun _ _ _ h => h) ?_ ?_ (by assumption) ?_
  rotate_left 2
  · simp only [List.getElem?_toArray, List.getElem?_cons_zero]; exact rfl
  · rfl
  · intro w hSw; (try dsimp only at hSw); go_simp; try with_reducible rfl
  try simp only [Act.put, List.setIfInBounds_toArray, List.set_cons_zero, List.set_cons_succ]
  refine reg_take 2 ?_ ?_ ?_ (by kernel_rfl) (by kernel_rfl) (by kernel_rfl) (fun _ _ _ h => h) ?_ ?_ (by assumption) ?_
  rotate_left 2
  · simp only [List.getElem?_toArray, List.getElem?_cons_succ, List.getElem?_cons_zero]; exact rfl
  · rfl
  · intro w hSw; (try dsimp only at hSw); go_simp; try with_reducible rfl
  try simp only [Act.put, List.setIfInBounds_toArray, List.set_cons_zero, List.set_cons_succ]
  refine reg_grab (fun WWq aq hWW hAA => ?_)
  have HWq := Lib.hid hWW; have HAq := Lib.hid hAA; clear hWW hAA hHeld
  have stq_2tt : ∀ (w' : World) (m16 : Bool) (ao16 : Option Addr) (n16 c16 : Nat) (m18 : Bool) (ao18 : Option Addr) (n18 c18 : Nat) (gone : Nat) (gtwo : Nat), Below w.heap.size w w' → Num w' (.agg #[.bool am, .slice ao an ac]) an X → Num w' (.agg #[.bool bm, .slice bo bn bc]) bn Y → Box2 w' (w.heap.size) (.bool am) (.slice ao an ac) → Box2 w' (w.heap.size + 1) (.bool bm) (.slice bo bn bc) → Below w3.heap.size w3 w' → DNum w' (.agg #[.bool m16, .slice ao16 n16 c16]) (20 * an) (X) → DNum w' (.agg #[.bool m18, .slice ao18 n18 c18]) (20 * bn) (Y) → Box2 w' gone (.bool false) (.slice none 0 0) → Box2 w' gtwo (.bool false) (.slice none 0 0) → w3.heap.size ≤ gone → w3.heap.size ≤ gtwo → gone ≠ gtwo → WWq 2 #[true, true, true, true, true, true, false, false] ((((aq.put (some 16) (.agg #[.bool m16, .slice ao16 n16 c16])).put (some 18) (.agg #[.bool m18, .slice ao18 n18 c18])).put (some 5) (.pointer (some ⟨gone, 0, none⟩))).put (some 6) (.pointer (some ⟨gtwo, 0, none⟩))) w' := by
    intro w4 m16 ao16 n16 c16 m18 ao18 n18 c18 gone gtwo hB_0 ax_0 bx_0 pa_0 pb_0 hWq_0 r16_0 r18_0 pone_0 ptwo_0 hgone hgtwo hnonetwo
    rw [HWq.out, HAq.out]
    try simp only [Act.put, List.setIfInBounds_toArray, List.set_cons_zero, List.set_cons_succ]
    obtain ⟨se0, se1, se2, se3⟩ := (id pone_0)
    obtain ⟨sf0, sf1, sf2, sf3⟩ := pone_0.set0 (.bool m16)
    refine reg_call 6 ?_ (by kernel_rfl) ?_ (fun K hK => ?_)
    rotate_left 1
    · simp only [List.getElem?_toArray, List.getElem?_cons_succ, List.getElem?_cons_zero]; exact rfl
    go_simp
    have hB_1 := below_set2 hB_0 (show _ ≤ gone by omega) (.bool m16) (.slice ao16 n16 c16)
    have ax_1 := ax_0.set2 (Box2.mk se0 se1 se2 se3) (.bool m16) (.slice ao16 n16 c16)
    have bx_1 := bx_0.set2 (Box2.mk se0 se1 se2 se3) (.bool m16) (.slice ao16 n16 c16)
    have pa_1 := pa_0.far2 (g' := gone) (by omega) (.bool m16) (.slice ao16 n16 c16)
    have pb_1 := pb_0.far2 (g' := gone) (by omega) (.bool m16) (.slice ao16 n16 c16)
    have hWq_1 := below_set2 hWq_0 (show _ ≤ gone by omega) (.bool m16) (.slice ao16 n16 c16)
    have r16_1 := r16_0.set2 (Box2.mk se0 se1 se2 se3) (.bool m16) (.slice ao16 n16 c16)
    have r18_1 := r18_0.set2 (Box2.mk se0 se1 se2 se3) (.bool m16) (.slice ao16 n16 c16)
    have pone_1 := pone_0.set2 (.bool m16) (.slice ao16 n16 c16)
    have ptwo_1 := ptwo_0.far2 hnonetwo.symm (.bool m16) (.slice ao16 n16 c16)
    clear se0 se1 se2 se3 sf0 sf1 sf2 sf3
    refine hK.out _ _ ⟨pa_1.c0, pa_1.c1, pb_1.c0, pb_1.c1⟩ (fun hHeld => ?_)
    clear hK K hHeld
    try simp only [Act.put, List.setIfInBounds_toArray, List.set_cons_zero, List.set_cons_succ]
    generalize (w4.setCell ⟨gone, 0, none⟩ (.bool m16)).setCell ⟨gone, 1, none⟩ (.slice ao16 n16 c16) = w5 at *
    obtain ⟨se0, se1, se2, se3⟩ := (id ptwo_1)
    obtain ⟨sf0, sf1, sf2, sf3⟩ := ptwo_1.set0 (.bool m18)
    refine reg_call 7 ?_ (by kernel_rfl) ?_ (fun K hK => ?_)
    rotate_left 1
    · simp only [List.getElem?_toArray, List.getElem?_cons_succ, List.getElem?_cons_zero]; exact rfl
    go_simp
    have hB_2 := below_set2 hB_1 (show _ ≤ gtwo by omega) (.bool m18) (.slice ao18 n18 c18)
    have ax_2 := ax_1.set2 (Box2.mk se0 se1 se2 se3) (.bool m18) (.slice ao18 n18 c18)
    have bx_2 := bx_1.set2 (Box2.mk se0 se1 se2 se3) (.bool m18) (.slice ao18 n18 c18)
    have pa_2 := pa_1.far2 (g' := gtwo) (by omega) (.bool m18) (.slice ao18 n18 c18)
    have pb_2 := pb_1.far2 (g' := gtwo) (by omega) (.bool m18) (.slice ao18 n18 c18)
    have hWq_2 := below_set2 hWq_1 (show _ ≤ gtwo by omega) (.bool m18) (.slice ao18 n18 c18)
    have r16_2 := r16_1.set2 (Box2.mk se0 se1 se2 se3) (.bool m18) (.slice ao18 n18 c18)
    have r18_2 := r18_1.set2 (Box2.mk se0 se1 se2 se3) (.bool m18) (.slice ao18 n18 c18)
    have pone_2 := pone_1.far2 hnonetwo (.bool m18) (.slice ao18 n18 c18)
    have ptwo_2 := ptwo_1.set2 (.bool m18) (.slice ao18 n18 c18)
    clear se0 se1 se2 se3 sf0 sf1 sf2 sf3
    refine hK.out _ _ ⟨pa_2.c0, pa_2.c1, pb_2.c0, pb_2.c1⟩ (fun hHeld => ?_)
    clear hK K hHeld
    try simp only [Act.put, List.setIfInBounds_toArray, List.set_cons_zero, List.set_cons_succ]
    generalize (w5.setCell ⟨gtwo, 0, none⟩ (.bool m18)).setCell ⟨gtwo, 1, none⟩ (.slice ao18 n18 c18) = w6 at *
    refine wpAnyH_done (by kernel_rfl) ?_ _
    refine NoPanic.normal ?_
    go_wp2
    clear hWq_2
    have hWv_0 := Below.refl w6.heap.size w6
    have hsv : w.heap.size ≤ w6.heap.size := hB_2.size
    have hlvpa := box_lt pa_2
    have hlvpb := box_lt pb_2
    have hlvpone := box_lt pone_2
    have hlvptwo := box_lt ptwo_2
    have hB_3 := hB_2.drew'
    have ax_3 := ax_2.drew
    have bx_3 := bx_2.drew
    have pa_3 := pa_2.drew
    have pb_3 := pb_2.drew
    have r16_3 := r16_2.drew
    have r18_3 := r18_2.drew
    have pone_3 := pone_2.drew
    have ptwo_3 := ptwo_2.drew
    have hWv_1 := hWv_0.drew'
    refine wp_region_noPanic ?_
    refine wp_region_held_drew (S := fun w' => w'.cell? ⟨gone, 0, none⟩ = some (.bool m16) ∧ w'.cell? ⟨gone, 1, none⟩ = some (.slice ao16 n16 c16) ∧ w'.cell? ⟨gtwo, 0, none⟩ = some (.bool m18) ∧ w'.cell? ⟨gtwo, 1, none⟩ = some (.slice ao18 n18 c18)) (by kernel_rfl) (⟨pone_3.c0, pone_3.c1, ptwo_3.c0, ptwo_3.c1⟩) (fun hHeld => ?_)
    refine reg_take 0 ?_ ?_ ?_ (by kernel_rfl) (by kernel_rfl) (by kernel_rfl) (fun _ _ _ h => h) ?_ ?_ (by assumption) ?_
    rotate_left 2
    · simp only [List.getElem?_toArray, List.getElem?_cons_zero]; exact rfl
    · rfl
    · intro w hSw; (try dsimp only at hSw); go_simp; try with_reducible rfl
    try simp only [Act.put, List.setIfInBounds_toArray, List.set_cons_zero, List.set_cons_succ]
    refine reg_take 1 ?_ ?_ ?_ (by kernel_rfl) (by kernel_rfl) (by kernel_rfl) (fun _ _ _ h => h) ?_ ?_ (by assumption) ?_
    rotate_left 2
    · simp only [List.getElem?_toArray, List.getElem?_cons_succ, List.getElem?_cons_zero]; exact rfl
    · rfl
    · intro w hSw; (try dsimp only at hSw); go_simp; try with_reducible rfl
    try simp only [Act.put, List.setIfInBounds_toArray, List.set_cons_zero, List.set_cons_succ]
    refine reg_grab (fun WWv av hWW hAA => ?_)
    have HWv := Lib.hid hWW; have HAv := Lib.hid hAA; clear hWW hAA hHeld
    have stv_2t : ∀ (w' : World) (m21 : Bool) (ao21 : Option Addr) (n21 c21 : Nat) (m22 : Bool) (ao22 : Option Addr) (n22 c22 : Nat) (gsd : Nat), Below w.heap.size w w' → Num w' (.agg #[.bool am, .slice ao an ac]) an X → Num w' (.agg #[.bool bm, .slice bo bn bc]) bn Y → Box2 w' (w.heap.size) (.bool am) (.slice ao an ac) → Box2 w' (w.heap.size + 1) (.bool bm) (.slice bo bn bc) → DNum w' (.agg #[.bool m16, .slice ao16 n16 c16]) (20 * an) X → DNum w' (.agg #[.bool m18, .slice ao18 n18 c18]) (20 * bn) Y → Box2 w' gone (.bool m16) (.slice ao16 n16 c16) → Box2 w' gtwo (.bool m18) (.slice ao18 n18 c18) → Below w6.heap.size w6 w' → DNum w' (.agg #[.bool m21, .slice ao21 n21 c21]) (20 * bn) (-Y) → DNum w' (.agg #[.bool m22, .slice ao22 n22 c22]) (max (20 * an) (20 * bn) + 1) (X + -Y) → Box2 w' gsd (.bool false) (.slice none 0 0) → w6.heap.size ≤ gsd → WWv 1 #[true, true, true, true, true, false] (((av.put (some 21) (.agg #[.bool m21, .slice ao21 n21 c21])).put (some 22) (.agg #[.bool m22, .slice ao22 n22 c22])).put (some 7) (.pointer (some ⟨gsd, 0, none⟩))) w' := by
      intro w7 m21 ao21 n21 c21 m22 ao22 n22 c22 gsd hB_0 ax_0 bx_0 pa_0 pb_0 r16_0 r18_0 pone_0 ptwo_0 hWv_0 r21_0 r22_0 psd_0 hgsd
      rw [HWv.out, HAv.out]
      try simp only [Act.put, List.setIfInBounds_toArray, List.set_cons_zero, List.set_cons_succ]
      obtain ⟨se0, se1, se2, se3⟩ := (id psd_0)
      obtain ⟨sf0, sf1, sf2, sf3⟩ := psd_0.set0 (.bool m22)
      refine reg_call 5 ?_ (by kernel_rfl) ?_ (fun K hK => ?_)
      rotate_left 1
      · simp only [List.getElem?_toArray, List.getElem?_cons_succ, List.getElem?_cons_zero]; exact rfl
      go_simp
      have hB_1 := below_set2 hB_0 (show _ ≤ gsd by omega) (.bool m22) (.slice ao22 n22 c22)
      have ax_1 := ax_0.set2 (Box2.mk se0 se1 se2 se3) (.bool m22) (.slice ao22 n22 c22)
      have bx_1 := bx_0.set2 (Box2.mk se0 se1 se2 se3) (.bool m22) (.slice ao22 n22 c22)
      have pa_1 := pa_0.far2 (g' := gsd) (by omega) (.bool m22) (.slice ao22 n22 c22)
      have pb_1 := pb_0.far2 (g' := gsd) (by omega) (.bool m22) (.slice ao22 n22 c22)
      have r16_1 := r16_0.set2 (Box2.mk se0 se1 se2 se3) (.bool m22) (.slice ao22 n22 c22)
      have r18_1 := r18_0.set2 (Box2.mk se0 se1 se2 se3) (.bool m22) (.slice ao22 n22 c22)
      have pone_1 := pone_0.far2 (g' := gsd) (by omega) (.bool m22) (.slice ao22 n22 c22)
      have ptwo_1 := ptwo_0.far2 (g' := gsd) (by omega) (.bool m22) (.slice ao22 n22 c22)
      have hWv_1 := below_set2 hWv_0 (show _ ≤ gsd by omega) (.bool m22) (.slice ao22 n22 c22)
      have r21_1 := r21_0.set2 (Box2.mk se0 se1 se2 se3) (.bool m22) (.slice ao22 n22 c22)
      have r22_1 := r22_0.set2 (Box2.mk se0 se1 se2 se3) (.bool m22) (.slice ao22 n22 c22)
      have psd_1 := psd_0.set2 (.bool m22) (.slice ao22 n22 c22)
      clear se0 se1 se2 se3 sf0 sf1 sf2 sf3
      refine hK.out _ _ ⟨pone_1.c0, pone_1.c1, ptwo_1.c0, ptwo_1.c1⟩ (fun hHeld => ?_)
      clear hK K hHeld
      try simp only [Act.put, List.setIfInBounds_toArray, List.set_cons_zero, List.set_cons_succ]
      generalize (w7.setCell ⟨gsd, 0, none⟩ (.bool m22)).setCell ⟨gsd, 1, none⟩ (.slice ao22 n22 c22) = w8 at *
      refine wpAnyH_done (by kernel_rfl) ?_ _
      refine NoPanic.normal ?_
      clear r21_1
      go_wp2
      have hB_2 := hB_1.drew'
      have ax_2 := ax_1.drew
      have bx_2 := bx_1.drew
      have pa_2 := pa_1.drew
      have pb_2 := pb_1.drew
      have r16_2 := r16_1.drew
      have r18_2 := r18_1.drew
      have pone_2 := pone_1.drew
      have ptwo_2 := ptwo_1.drew
      have hWv_2 := hWv_1.drew'
      have r22_2 := r22_1.drew
      have psd_2 := psd_1.drew
      refine wp_region_noPanic ?_
      refine wp_region_held_drew (S := fun w' => w'.cell? ⟨w.heap.size, 0, none⟩ = some (.bool am) ∧ w'.cell? ⟨w.heap.size, 1, none⟩ = some (.slice ao an ac) ∧ w'.cell? ⟨w.heap.size + 1, 0, none⟩ = some (.bool bm) ∧ w'.cell? ⟨w.heap.size + 1, 1, none⟩ = some (.slice bo bn bc) ∧ w'.cell? ⟨gone, 0, none⟩ = some (.bool m16) ∧ w'.cell? ⟨gone, 1, none⟩ = some (.slice ao16 n16 c16) ∧ w'.cell? ⟨gtwo, 0, none⟩ = some (.bool m18) ∧ w'.cell? ⟨gtwo, 1, none⟩ = some (.slice ao18 n18 c18) ∧ w'.cell? ⟨gsd, 0, none⟩ = some (.bool m22) ∧ w'.cell? ⟨gsd, 1, none⟩ = some (.slice ao22 n22 c22)) (by kernel_rfl) (⟨pa_2.c0, pa_2.c1, pb_2.c0, pb_2.c1, pone_2.c0, pone_2.c1, ptwo_2.c0, ptwo_2.c1, psd_2.c0, psd_2.c1⟩) (fun hHeld => ?_)
      refine reg_take 0 ?_ ?_ ?_ (by kernel_rfl) (by kernel_rfl) (by kernel_rfl) (fun _ _ _ h => h) ?_ ?_ (by assumption) ?_
      rotate_left 2
      · simp only [List.getElem?_toArray, List.getElem?_cons_zero]; exact rfl
      · rfl
      · intro w hSw; (try dsimp only at hSw); go_simp; try with_reducible rfl
      try simp only [Act.put, List.setIfInBounds_toArray, List.set_cons_zero, List.set_cons_succ]
      refine reg_take 1 ?_ ?_ ?_ (by kernel_rfl) (by kernel_rfl) (by kernel_rfl) (fun _ _ _ h => h) ?_ ?_ (by assumption) ?_
      rotate_left 2
      · simp only [List.getElem?_toArray, List.getElem?_cons_succ, List.getElem?_cons_zero]; exact rfl
      · rfl
      · intro w hSw; (try dsimp only at hSw); go_simp; try with_reducible rfl
      try simp only [Act.put, List.setIfInBounds_toArray, List.set_cons_zero, List.set_cons_succ]
      refine reg_take 3 ?_ ?_ ?_ (by kernel_rfl) (by kernel_rfl) (by kernel_rfl) (fun _ _ _ h => h) ?_ ?_ (by assumption) ?_
      rotate_left 2
      · simp only [List.getElem?_toArray, List.getElem?_cons_succ, List.getElem?_cons_zero]; exact rfl
      · rfl
      · intro w hSw; (try dsimp only at hSw); go_simp; try with_reducible rfl
      try simp only [Act.put, List.setIfInBounds_toArray, List.set_cons_zero, List.set_cons_succ]
      refine reg_take 4 ?_ ?_ ?_ (by kernel_rfl) (by kernel_rfl) (by kernel_rfl) (fun _ _ _ h => h) ?_ ?_ (by assumption) ?_
      rotate_left 2
      · simp only [List.getElem?_toArray, List.getElem?_cons_succ, List.getElem?_cons_zero]; exact rfl
      · rfl
      · intro w hSw; (try dsimp only at hSw); go_simp; try with_reducible rfl
      try simp only [Act.put, List.setIfInBounds_toArray, List.set_cons_zero, List.set_cons_succ]
      refine reg_call 2 ?_ (by kernel_rfl) ?_ (fun K hK => ?_)
      rotate_left 1
      · simp only [List.getElem?_toArray, List.getElem?_cons_succ, List.getElem?_cons_zero]; exact rfl
      go_simp
      refine (nAdd_any _ _ _ _ _ _ _ (by omega) (by omega) ax_2 bx_2).mono ?_
      rintro e w9 ⟨m25, ao25, n25, c25, rfl, h25_0, hb9⟩
      have hB_3 := hB_2.trans (hb9.mono hB_2.size)
      have ax_3 := ax_2.below hb9
      have bx_3 := bx_2.below hb9
      have pa_3 := pa_2.below hb9
      have pb_3 := pb_2.below hb9
      have r16_3 := r16_2.below hb9
      have r18_3 := r18_2.below hb9
      have pone_3 := pone_2.below hb9
      have ptwo_3 := ptwo_2.below hb9
      have hWv_3 := hWv_2.trans (hb9.mono hWv_2.size)
      have r22_3 := r22_2.below hb9
      have psd_3 := psd_2.below hb9
      clear hb9 hB_2 ax_2 bx_2 pa_2 pb_2 r16_2 r18_2 pone_2 ptwo_2 hWv_2 r22_2 psd_2
      go_wp2_with fail
      refine hK.out _ _ ⟨pa_3.c0, pa_3.c1, pb_3.c0, pb_3.c1, pone_3.c0, pone_3.c1, ptwo_3.c0, ptwo_3.c1, psd_3.c0, psd_3.c1⟩ (fun hHeld => ?_)
      clear hK K
      try simp only [Act.put, List.setIfInBounds_toArray, List.set_cons_zero, List.set_cons_succ]
      refine reg_call 5 ?_ (by kernel_rfl) ?_ (fun K hK => ?_)
      rotate_left 1
      · simp only [List.getElem?_toArray, List.getElem?_cons_succ, List.getElem?_cons_zero]; exact rfl
      go_simp
      refine (rNAdd_any _ _ _ _ _ _ _ (by omega) (by omega) r16_3 r18_3).mono ?_
      rintro e w10 ⟨m28, ao28, n28, c28, rfl, h28_0, hb10⟩
      have hB_4 := hB_3.trans (hb10.mono hB_3.size)
      have ax_4 := ax_3.below hb10
      have bx_4 := bx_3.below hb10
      have pa_4 := pa_3.below hb10
      have pb_4 := pb_3.below hb10
      have r16_4 := r16_3.below hb10
      have r18_4 := r18_3.below hb10
      have pone_4 := pone_3.below hb10
      have ptwo_4 := ptwo_3.below hb10
      have hWv_4 := hWv_3.trans (hb10.mono hWv_3.size)
      have r22_4 := r22_3.below hb10
      have psd_4 := psd_3.below hb10
      have h25_1 := h25_0.below hb10
      clear hb10 hB_3 ax_3 bx_3 pa_3 pb_3 r16_3 r18_3 pone_3 ptwo_3 hWv_3 r22_3 psd_3 h25_0
      go_wp2_with fail
      refine hK.out _ _ ⟨pa_4.c0, pa_4.c1, pb_4.c0, pb_4.c1, pone_4.c0, pone_4.c1, ptwo_4.c0, ptwo_4.c1, psd_4.c0, psd_4.c1⟩ (fun hHeld => ?_)
      clear hK K
      try simp only [Act.put, List.setIfInBounds_toArray, List.set_cons_zero, List.set_cons_succ]
      refine reg_call 6 ?_ (by kernel_rfl) ?_ (fun K hK => ?_)
      rotate_left 1
      · simp only [List.getElem?_toArray, List.getElem?_cons_succ, List.getElem?_cons_zero]; exact rfl
      go_simp
      refine (is_any _ _ _ _ _ _ (by omega) (by omega) h25_1 h28_0).mono ?_
      rintro e w11 ⟨rfl, hb11⟩
      have hB_5 := hB_4.trans (hb11.mono hB_4.size)
      have ax_5 := ax_4.below hb11
      have bx_5 := bx_4.below hb11
      have pa_5 := pa_4.below hb11
      have pb_5 := pb_4.below hb11
      have r16_5 := r16_4.below hb11
      have r18_5 := r18_4.below hb11
      have pone_5 := pone_4.below hb11
      have ptwo_5 := ptwo_4.below hb11
      have hWv_5 := hWv_4.trans (hb11.mono hWv_4.size)
      have r22_5 := r22_4.below hb11
      have psd_5 := psd_4.below hb11
      have h25_2 := h25_1.below hb11
      have h28_1 := h28_0.below hb11
      clear hb11 hB_4 ax_4 bx_4 pa_4 pb_4 r16_4 r18_4 pone_4 ptwo_4 hWv_4 r22_4 psd_4 h25_1 h28_0
      go_wp2_with fail
      refine hK.out _ _ ⟨pa_5.c0, pa_5.c1, pb_5.c0, pb_5.c1, pone_5.c0, pone_5.c1, ptwo_5.c0, ptwo_5.c1, psd_5.c0, psd_5.c1⟩ (fun hHeld => ?_)
      clear hK K
      try simp only [Act.put, List.setIfInBounds_toArray, List.set_cons_zero, List.set_cons_succ]
      refine reg_take 7 ?_ ?_ ?_ (by kernel_rfl) (by kernel_rfl) (by kernel_rfl) (fun _ _ _ h => h) ?_ ?_ (by assumption) ?_
      rotate_left 2
      · simp only [List.getElem?_toArray, List.getElem?_cons_succ, List.getElem?_cons_zero]; exact rfl
      · rfl
      · intro w hSw; (try dsimp only at hSw); go_simp; try with_reducible rfl
      try simp only [Act.put, List.setIfInBounds_toArray, List.set_cons_zero, List.set_cons_succ]
      refine reg_take 8 ?_ ?_ ?_ (by kernel_rfl) (by kernel_rfl) (by kernel_rfl) (fun _ _ _ h => h) ?_ ?_ (by assumption) ?_
      rotate_left 2
      · simp only [List.getElem?_toArray, List.getElem?_cons_succ, List.getElem?_cons_zero]; exact rfl
      · rfl
      · intro w hSw; (try dsimp only at hSw); go_simp; try with_reducible rfl
      try simp only [Act.put, List.setIfInBounds_toArray, List.set_cons_zero, List.set_cons_succ]
      refine reg_take 9 ?_ ?_ ?_ (by kernel_rfl) (by kernel_rfl) (by kernel_rfl) (fun _ _ _ h => h) ?_ ?_ (by assumption) ?_
      rotate_left 2
      · simp only [List.getElem?_toArray, List.getElem?_cons_succ, List.getElem?_cons_zero]; exact rfl
      · rfl
      · intro w hSw; (try dsimp only at hSw); go_simp; try with_reducible rfl
      try simp only [Act.put, List.setIfInBounds_toArray, List.set_cons_zero, List.set_cons_succ]
      refine reg_take 10 ?_ ?_ ?_ (by kernel_rfl) (by kernel_rfl) (by kernel_rfl) (fun _ _ _ h => h) ?_ ?_ (by assumption) ?_
      rotate_left 2
      · simp only [List.getElem?_toArray, List.getElem?_cons_succ, List.getElem?_cons_zero]; exact rfl
      · rfl
      · intro w hSw; (try dsimp only at hSw); go_simp; try with_reducible rfl
      try simp only [Act.put, List.setIfInBounds_toArray, List.set_cons_zero, List.set_cons_succ]
      refine reg_take 12 ?_ ?_ ?_ (by kernel_rfl) (by kernel_rfl) (by kernel_rfl) (fun _ _ _ h => h) ?_ ?_ (by assumption) ?_
      rotate_left 2
      · simp only [List.getElem?_toArray, List.getElem?_cons_succ, List.getElem?_cons_zero]; exact rfl
      · rfl
      · intro w hSw; (try dsimp only at hSw); go_simp; try with_reducible rfl
      try simp only [Act.put, List.setIfInBounds_toArray, List.set_cons_zero, List.set_cons_succ]
      refine reg_call 11 ?_ (by kernel_rfl) ?_ (fun K hK => ?_)
      rotate_left 1
      · simp only [List.getElem?_toArray, List.getElem?_cons_succ, List.getElem?_cons_zero]; exact rfl
      go_simp
      refine (nSub_any _ _ _ _ _ _ _ (by omega) (by omega) ax_5 bx_5).mono ?_
      rintro e w12 ⟨m34, ao34, n34, c34, rfl, h34_0, hb12⟩
      have hB_6 := hB_5.trans (hb12.mono hB_5.size)
      have ax_6 := ax_5.below hb12
      have bx_6 := bx_5.below hb12
      have pa_6 := pa_5.below hb12
      have pb_6 := pb_5.below hb12
      have r16_6 := r16_5.below hb12
      have r18_6 := r18_5.below hb12
      have pone_6 := pone_5.below hb12
      have ptwo_6 := ptwo_5.below hb12
      have hWv_6 := hWv_5.trans (hb12.mono hWv_5.size)
      have r22_6 := r22_5.below hb12
      have psd_6 := psd_5.below hb12
      have h25_3 := h25_2.below hb12
      have h28_2 := h28_1.below hb12
      clear hb12 hB_5 ax_5 bx_5 pa_5 pb_5 r16_5 r18_5 pone_5 ptwo_5 hWv_5 r22_5 psd_5 h25_2 h28_1
      go_wp2_with fail
      refine hK.out _ _ ⟨pa_6.c0, pa_6.c1, pb_6.c0, pb_6.c1, pone_6.c0, pone_6.c1, ptwo_6.c0, ptwo_6.c1, psd_6.c0, psd_6.c1⟩ (fun hHeld => ?_)
      clear hK K
      try simp only [Act.put, List.setIfInBounds_toArray, List.set_cons_zero, List.set_cons_succ]
      refine reg_call 13 ?_ (by kernel_rfl) ?_ (fun K hK => ?_)
      rotate_left 1
      · simp only [List.getElem?_toArray, List.getElem?_cons_succ, List.getElem?_cons_zero]; exact rfl
      go_simp
      refine (is_any _ _ _ _ _ _ (by omega) (by omega) h34_0 r22_6).mono ?_
      rintro e w13 ⟨rfl, hb13⟩
      have hB_7 := hB_6.trans (hb13.mono hB_6.size)
      have ax_7 := ax_6.below hb13
      have bx_7 := bx_6.below hb13
      have pa_7 := pa_6.below hb13
      have pb_7 := pb_6.below hb13
      have r16_7 := r16_6.below hb13
      have r18_7 := r18_6.below hb13
      have pone_7 := pone_6.below hb13
      have ptwo_7 := ptwo_6.below hb13
      have hWv_7 := hWv_6.trans (hb13.mono hWv_6.size)
      have r22_7 := r22_6.below hb13
      have psd_7 := psd_6.below hb13
      have h25_4 := h25_3.below hb13
      have h28_3 := h28_2.below hb13
      have h34_1 := h34_0.below hb13
      clear hb13 hB_6 ax_6 bx_6 pa_6 pb_6 r16_6 r18_6 pone_6 ptwo_6 hWv_6 r22_6 psd_6 h25_3 h28_2 h34_0
      go_wp2_with fail
      refine hK.out _ _ ⟨pa_7.c0, pa_7.c1, pb_7.c0, pb_7.c1, pone_7.c0, pone_7.c1, ptwo_7.c0, ptwo_7.c1, psd_7.c0, psd_7.c1⟩ (fun hHeld => ?_)
      clear hK K
      try simp only [Act.put, List.setIfInBounds_toArray, List.set_cons_zero, List.set_cons_succ]
      refine reg_take 14 ?_ ?_ ?_ (by kernel_rfl) (by kernel_rfl) (by kernel_rfl) (fun _ _ _ h => h) ?_ ?_ (by assumption) ?_
      rotate_left 2
      · simp only [List.getElem?_toArray, List.getElem?_cons_succ, List.getElem?_cons_zero]; exact rfl
      · rfl
      · intro w hSw; (try dsimp only at hSw); go_simp; try with_reducible rfl
      try simp only [Act.put, List.setIfInBounds_toArray, List.set_cons_zero, List.set_cons_succ]
      refine reg_take 15 ?_ ?_ ?_ (by kernel_rfl) (by kernel_rfl) (by kernel_rfl) (fun _ _ _ h => h) ?_ ?_ (by assumption) ?_
      rotate_left 2
      · simp only [List.getElem?_toArray, List.getElem?_cons_succ, List.getElem?_cons_zero]; exact rfl
      · rfl
      · intro w hSw; (try dsimp only at hSw); go_simp; try with_reducible rfl
      try simp only [Act.put, List.setIfInBounds_toArray, List.set_cons_zero, List.set_cons_succ]
      refine reg_take 16 ?_ ?_ ?_ (by kernel_rfl) (by kernel_rfl) (by kernel_rfl) (fun _ _ _ h => h) ?_ ?_ (by assumption) ?_
      rotate_left 2
      · simp only [List.getElem?_toArray, List.getElem?_cons_succ, List.getElem?_cons_zero]; exact rfl
      · rfl
      · intro w hSw; (try dsimp only at hSw); go_simp; try with_reducible rfl
      try simp only [Act.put, List.setIfInBounds_toArray, List.set_cons_zero, List.set_cons_succ]
      refine reg_take 17 ?_ ?_ ?_ (by kernel_rfl) (by kernel_rfl) (by kernel_rfl) (fun _ _ _ h => h) ?_ ?_ (by assumption) ?_
      rotate_left 2
      · simp only [List.getElem?_toArray, List.getElem?_cons_succ, List.getElem?_cons_zero]; exact rfl
      · rfl
      · intro w hSw; (try dsimp only at hSw); go_simp; try with_reducible rfl
      try simp only [Act.put, List.setIfInBounds_toArray, List.set_cons_zero, List.set_cons_succ]
      refine reg_take 18 ?_ ?_ ?_ (by kernel_rfl) (by kernel_rfl) (by kernel_rfl) (fun _ _ _ h => h) ?_ ?_ (by assumption) ?_
      rotate_left 2
      · simp only [List.getElem?_toArray, List.getElem?_cons_succ, List.getElem?_cons_zero]; exact rfl
      · rfl
      · intro w hSw; (try dsimp only at hSw); go_simp; try with_reducible rfl
      try simp only [Act.put, List.setIfInBounds_toArray, List.set_cons_zero, List.set_cons_succ]
      refine reg_take 20 ?_ ?_ ?_ (by kernel_rfl) (by kernel_rfl) (by kernel_rfl) (fun _ _ _ h => h) ?_ ?_ (by assumption) ?_
      rotate_left 2
      · simp only [List.getElem?_toArray, List.getElem?_cons_succ, List.getElem?_cons_zero]; exact rfl
      · rfl
      · intro w hSw; (try dsimp only at hSw); go_simp; try with_reducible rfl
      try simp only [Act.put, List.setIfInBounds_toArray, List.set_cons_zero, List.set_cons_succ]
      refine reg_take 21 ?_ ?_ ?_ (by kernel_rfl) (by kernel_rfl) (by kernel_rfl) (fun _ _ _ h => h) ?_ ?_ (by assumption) ?_
      rotate_left 2
      · simp only [List.getElem?_toArray, List.getElem?_cons_succ, List.getElem?_cons_zero]; exact rfl
      · rfl
      · intro w hSw; (try dsimp only at hSw); go_simp; try with_reducible rfl
      try simp only [Act.put, List.setIfInBounds_toArray, List.set_cons_zero, List.set_cons_succ]
      refine reg_call 19 ?_ (by kernel_rfl) ?_ (fun K hK => ?_)
      rotate_left 1
      · simp only [List.getElem?_toArray, List.getElem?_cons_succ, List.getElem?_cons_zero]; exact rfl
      go_simp
      refine (nMul_any _ _ _ _ _ _ _ (by omega) (by omega) ax_7 bx_7).mono ?_
      rintro e w14 ⟨m42, ao42, n42, c42, rfl, h42_0, hb14⟩
      have hB_8 := hB_7.trans (hb14.mono hB_7.size)
      have ax_8 := ax_7.below hb14
      have bx_8 := bx_7.below hb14
      have pa_8 := pa_7.below hb14
      have pb_8 := pb_7.below hb14
      have r16_8 := r16_7.below hb14
      have r18_8 := r18_7.below hb14
      have pone_8 := pone_7.below hb14
      have ptwo_8 := ptwo_7.below hb14
      have hWv_8 := hWv_7.trans (hb14.mono hWv_7.size)
      have r22_8 := r22_7.below hb14
      have psd_8 := psd_7.below hb14
      have h25_5 := h25_4.below hb14
      have h28_4 := h28_3.below hb14
      have h34_2 := h34_1.below hb14
      clear hb14 hB_7 ax_7 bx_7 pa_7 pb_7 r16_7 r18_7 pone_7 ptwo_7 hWv_7 r22_7 psd_7 h25_4 h28_3 h34_1
      go_wp2_with fail
      refine hK.out _ _ ⟨pa_8.c0, pa_8.c1, pb_8.c0, pb_8.c1, pone_8.c0, pone_8.c1, ptwo_8.c0, ptwo_8.c1, psd_8.c0, psd_8.c1⟩ (fun hHeld => ?_)
      clear hK K
      try simp only [Act.put, List.setIfInBounds_toArray, List.set_cons_zero, List.set_cons_succ]
      refine reg_call 22 ?_ (by kernel_rfl) ?_ (fun K hK => ?_)
      rotate_left 1
      · simp only [List.getElem?_toArray, List.getElem?_cons_succ, List.getElem?_cons_zero]; exact rfl
      go_simp
      refine (rNMul_any _ _ _ _ _ _ _ (by omega) (by omega) r16_8 r18_8).mono ?_
      rintro e w15 ⟨m45, ao45, n45, c45, rfl, h45_0, hb15⟩
      have hB_9 := hB_8.trans (hb15.mono hB_8.size)
      have ax_9 := ax_8.below hb15
      have bx_9 := bx_8.below hb15
      have pa_9 := pa_8.below hb15
      have pb_9 := pb_8.below hb15
      have r16_9 := r16_8.below hb15
      have r18_9 := r18_8.below hb15
      have pone_9 := pone_8.below hb15
      have ptwo_9 := ptwo_8.below hb15
      have hWv_9 := hWv_8.trans (hb15.mono hWv_8.size)
      have r22_9 := r22_8.below hb15
      have psd_9 := psd_8.below hb15
      have h25_6 := h25_5.below hb15
      have h28_5 := h28_4.below hb15
      have h34_3 := h34_2.below hb15
      have h42_1 := h42_0.below hb15
      clear hb15 hB_8 ax_8 bx_8 pa_8 pb_8 r16_8 r18_8 pone_8 ptwo_8 hWv_8 r22_8 psd_8 h25_5 h28_4 h34_2 h42_0
      go_wp2_with fail
      refine hK.out _ _ ⟨pa_9.c0, pa_9.c1, pb_9.c0, pb_9.c1, pone_9.c0, pone_9.c1, ptwo_9.c0, ptwo_9.c1, psd_9.c0, psd_9.c1⟩ (fun hHeld => ?_)
      clear hK K
      try simp only [Act.put, List.setIfInBounds_toArray, List.set_cons_zero, List.set_cons_succ]
      refine reg_call 23 ?_ (by kernel_rfl) ?_ (fun K hK => ?_)
      rotate_left 1
      · simp only [List.getElem?_toArray, List.getElem?_cons_succ, List.getElem?_cons_zero]; exact rfl
      go_simp
      refine (is_any _ _ _ _ _ _ (by omega) (by omega) h42_1 h45_0).mono ?_
      rintro e w16 ⟨rfl, hb16⟩
      have hB_10 := hB_9.trans (hb16.mono hB_9.size)
      have ax_10 := ax_9.below hb16
      have bx_10 := bx_9.below hb16
      have pa_10 := pa_9.below hb16
      have pb_10 := pb_9.below hb16
      have r16_10 := r16_9.below hb16
      have r18_10 := r18_9.below hb16
      have pone_10 := pone_9.below hb16
      have ptwo_10 := ptwo_9.below hb16
      have hWv_10 := hWv_9.trans (hb16.mono hWv_9.size)
      have r22_10 := r22_9.below hb16
      have psd_10 := psd_9.below hb16
      have h25_7 := h25_6.below hb16
      have h28_6 := h28_5.below hb16
      have h34_4 := h34_3.below hb16
      have h42_2 := h42_1.below hb16
      have h45_1 := h45_0.below hb16
      clear hb16 hB_9 ax_9 bx_9 pa_9 pb_9 r16_9 r18_9 pone_9 ptwo_9 hWv_9 r22_9 psd_9 h25_6 h28_5 h34_3 h42_1 h45_0
      go_wp2_with fail
      refine hK.out _ _ ⟨pa_10.c0, pa_10.c1, pb_10.c0, pb_10.c1, pone_10.c0, pone_10.c1, ptwo_10.c0, ptwo_10.c1, psd_10.c0, psd_10.c1⟩ (fun hHeld => ?_)
      clear hK K
      try simp only [Act.put, List.setIfInBounds_toArray, List.set_cons_zero, List.set_cons_succ]
      refine reg_take 24 ?_ ?_ ?_ (by kernel_rfl) (by kernel_rfl) (by kernel_rfl) (fun _ _ _ h => h) ?_ ?_ (by assumption) ?_
      rotate_left 2
      · simp only [List.getElem?_toArray, List.getElem?_cons_succ, List.getElem?_cons_zero]; exact rfl
      · rfl
      · intro w hSw; (try dsimp only at hSw); go_simp; try with_reducible rfl
      try simp only [Act.put, List.setIfInBounds_toArray, List.set_cons_zero, List.set_cons_succ]
      refine reg_take 25 ?_ ?_ ?_ (by kernel_rfl) (by kernel_rfl) (by kernel_rfl) (fun _ _ _ h => h) ?_ ?_ (by assumption) ?_
      rotate_left 2
      · simp only [List.getElem?_toArray, List.getElem?_cons_succ, List.getElem?_cons_zero]; exact rfl
      · rfl
      · intro w hSw; (try dsimp only at hSw); go_simp; try with_reducible rfl
      try simp only [Act.put, List.setIfInBounds_toArray, List.set_cons_zero, List.set_cons_succ]
      refine wpAnyH_done (by kernel_rfl) ?_ _
      refine NoPanic.normal ?_
      clear h25_7 h28_6 h34_4 h42_2 h45_1
      obtain ⟨x, hx⟩ : ∃ x, icmp X Y = x := ⟨_, rfl⟩
      obtain ⟨s, hs⟩ : ∃ s, X.sign = s := ⟨_, rfl⟩
      have HX : Hid (icmp X Y = x) := Lib.hid hx; have HS : Hid (X.sign = s) := Lib.hid hs; have HD : Hid ((X + -Y).sign = x) := Lib.hid (by rw [← Int.sub_eq_add_neg, icmp_sub]; exact hx)
      clear hx hs
      go_wp2
      have hB_11 := hB_10.drew'
      have ax_11 := ax_10.drew
      have bx_11 := bx_10.drew
      have pa_11 := pa_10.drew
      have pb_11 := pb_10.drew
      have r16_11 := r16_10.drew
      have r18_11 := r18_10.drew
      have pone_11 := pone_10.drew
      have ptwo_11 := ptwo_10.drew
      have hWv_11 := hWv_10.drew'
      have r22_11 := r22_10.drew
      have psd_11 := psd_10.drew
      refine wp_region_noPanic ?_
      refine wp_region_held_drew (S := fun w' => w'.cell? ⟨w.heap.size, 0, none⟩ = some (.bool am) ∧ w'.cell? ⟨w.heap.size, 1, none⟩ = some (.slice ao an ac) ∧ w'.cell? ⟨w.heap.size + 1, 0, none⟩ = some (.bool bm) ∧ w'.cell? ⟨w.heap.size + 1, 1, none⟩ = some (.slice bo bn bc) ∧ w'.cell? ⟨gone, 0, none⟩ = some (.bool m16) ∧ w'.cell? ⟨gone, 1, none⟩ = some (.slice ao16 n16 c16) ∧ w'.cell? ⟨gtwo, 0, none⟩ = some (.bool m18) ∧ w'.cell? ⟨gtwo, 1, none⟩ = some (.slice ao18 n18 c18) ∧ w'.cell? ⟨gsd, 0, none⟩ = some (.bool m22) ∧ w'.cell? ⟨gsd, 1, none⟩ = some (.slice ao22 n22 c22)) (by kernel_rfl) (⟨pa_11.c0, pa_11.c1, pb_11.c0, pb_11.c1, pone_11.c0, pone_11.c1, ptwo_11.c0, ptwo_11.c1, psd_11.c0, psd_11.c1⟩) (fun hHeld => ?_)
      refine reg_take 0 ?_ ?_ ?_ (by kernel_rfl) (by kernel_rfl) (by kernel_rfl) (fun _ _ _ h => h) ?_ ?_ (by assumption) ?_
      rotate_left 2
      · simp only [List.getElem?_toArray, List.getElem?_cons_zero]; exact rfl
      · rfl
      · intro w hSw; (try dsimp only at hSw); go_simp; try with_reducible rfl
      try simp only [Act.put, List.setIfInBounds_toArray, List.set_cons_zero, List.set_cons_succ]
      refine reg_take 1 ?_ ?_ ?_ (by kernel_rfl) (by kernel_rfl) (by kernel_rfl) (fun _ _ _ h => h) ?_ ?_ (by assumption) ?_
      rotate_left 2
      · simp only [List.getElem?_toArray, List.getElem?_cons_succ, List.getElem?_cons_zero]; exact rfl
      · rfl
      · intro w hSw; (try dsimp only at hSw); go_simp; try with_reducible rfl
      try simp only [Act.put, List.setIfInBounds_toArray, List.set_cons_zero, List.set_cons_succ]
      refine reg_take 3 ?_ ?_ ?_ (by kernel_rfl) (by kernel_rfl) (by kernel_rfl) (fun _ _ _ h => h) ?_ ?_ (by assumption) ?_
      rotate_left 2
      · simp only [List.getElem?_toArray, List.getElem?_cons_succ, List.getElem?_cons_zero]; exact rfl
      · rfl
      · intro w hSw; (try dsimp only at hSw); go_simp; try with_reducible rfl
      try simp only [Act.put, List.setIfInBounds_toArray, List.set_cons_zero, List.set_cons_succ]
      refine reg_call 2 ?_ (by kernel_rfl) ?_ (fun K hK => ?_)
      rotate_left 1
      · simp only [List.getElem?_toArray, List.getElem?_cons_succ, List.getElem?_cons_zero]; exact rfl
      go_simp
      refine (nCmp_is _ _ _ _ _ _ x _ (by omega) (by omega) ax_11 bx_11 HX.out).mono ?_
      rintro e w17 ⟨rfl, hb17⟩
      have hB_12 := hB_11.trans (hb17.mono hB_11.size)
      have ax_12 := ax_11.below hb17
      have bx_12 := bx_11.below hb17
      have pa_12 := pa_11.below hb17
      have pb_12 := pb_11.below hb17
      have r16_12 := r16_11.below hb17
      have r18_12 := r18_11.below hb17
      have pone_12 := pone_11.below hb17
      have ptwo_12 := ptwo_11.below hb17
      have hWv_12 := hWv_11.trans (hb17.mono hWv_11.size)
      have r22_12 := r22_11.below hb17
      have psd_12 := psd_11.below hb17
      clear hb17 hB_11 ax_11 bx_11 pa_11 pb_11 r16_11 r18_11 pone_11 ptwo_11 hWv_11 r22_11 psd_11
      go_wp2_with fail
      refine hK.out _ _ ⟨pa_12.c0, pa_12.c1, pb_12.c0, pb_12.c1, pone_12.c0, pone_12.c1, ptwo_12.c0, ptwo_12.c1, psd_12.c0, psd_12.c1⟩ (fun hHeld => ?_)
      clear hK K
      try simp only [Act.put, List.setIfInBounds_toArray, List.set_cons_zero, List.set_cons_succ]
      refine reg_call 4 ?_ (by kernel_rfl) ?_ (fun K hK => ?_)
      rotate_left 1
      · simp only [List.getElem?_toArray, List.getElem?_cons_succ, List.getElem?_cons_zero]; exact rfl
      go_simp
      refine (rSign_any _ _ _ x _ r22_12 HD.out).mono ?_
      rintro e w18 ⟨rfl, hb18⟩
      have hB_13 := hB_12.trans (hb18.mono hB_12.size)
      have ax_13 := ax_12.below hb18
      have bx_13 := bx_12.below hb18
      have pa_13 := pa_12.below hb18
      have pb_13 := pb_12.below hb18
      have r16_13 := r16_12.below hb18
      have r18_13 := r18_12.below hb18
      have pone_13 := pone_12.below hb18
      have ptwo_13 := ptwo_12.below hb18
      have hWv_13 := hWv_12.trans (hb18.mono hWv_12.size)
      have r22_13 := r22_12.below hb18
      have psd_13 := psd_12.below hb18
      clear hb18 hB_12 ax_12 bx_12 pa_12 pb_12 r16_12 r18_12 pone_12 ptwo_12 hWv_12 r22_12 psd_12
      go_wp2_with fail
      refine hK.out _ _ ⟨pa_13.c0, pa_13.c1, pb_13.c0, pb_13.c1, pone_13.c0, pone_13.c1, ptwo_13.c0, ptwo_13.c1, psd_13.c0, psd_13.c1⟩ (fun hHeld => ?_)
      clear hK K
      try simp only [Act.put, List.setIfInBounds_toArray, List.set_cons_zero, List.set_cons_succ]
      refine reg_take 5 ?_ ?_ ?_ (by kernel_rfl) (by kernel_rfl) (by kernel_rfl) (fun _ _ _ h => h) ?_ ?_ (by assumption) ?_
      rotate_left 2
      · simp only [List.getElem?_toArray, List.getElem?_cons_succ, List.getElem?_cons_zero]; exact rfl
      · rfl
      · intro w hSw; (try dsimp only at hSw); go_simp; try with_reducible rfl
      try simp only [Act.put, List.setIfInBounds_toArray, List.set_cons_zero, List.set_cons_succ]
      refine reg_take 6 ?_ ?_ ?_ (by kernel_rfl) (by kernel_rfl) (by kernel_rfl) (fun _ _ _ h => h) ?_ ?_ (by assumption) ?_
      rotate_left 2
      · simp only [List.getElem?_toArray, List.getElem?_cons_succ, List.getElem?_cons_zero]; exact rfl
      · rfl
      · intro w hSw; (try dsimp only at hSw); go_simp; try with_reducible rfl
      try simp only [Act.put, List.setIfInBounds_toArray, List.set_cons_zero, List.set_cons_succ]
      refine reg_take 7 ?_ ?_ ?_ (by kernel_rfl) (by kernel_rfl) (by kernel_rfl) (fun _ _ _ h => h) ?_ ?_ (by assumption) ?_
      rotate_left 2
      · simp only [List.getElem?_toArray, List.getElem?_cons_succ, List.getElem?_cons_zero]; exact rfl
      · rfl
      · intro w hSw; (try dsimp only at hSw); go_simp; try with_reducible rfl
      try simp only [Act.put, List.setIfInBounds_toArray, List.set_cons_zero, List.set_cons_succ]
      refine reg_take 9 ?_ ?_ ?_ (by kernel_rfl) (by kernel_rfl) (by kernel_rfl) (fun _ _ _ h => h) ?_ ?_ (by assumption) ?_
      rotate_left 2
      · simp only [List.getElem?_toArray, List.getElem?_cons_succ, List.getElem?_cons_zero]; exact rfl
      · rfl
      · intro w hSw; (try dsimp only at hSw); go_simp; try with_reducible rfl
      try simp only [Act.put, List.setIfInBounds_toArray, List.set_cons_zero, List.set_cons_succ]
      refine reg_call 8 ?_ (by kernel_rfl) ?_ (fun K hK => ?_)
      rotate_left 1
      · simp only [List.getElem?_toArray, List.getElem?_cons_succ, List.getElem?_cons_zero]; exact rfl
      go_simp
      refine (Sign_is _ _ _ s _ (by omega) ax_13 HS.out).mono ?_
      rintro e w19 ⟨rfl, hb19⟩
      have hB_14 := hB_13.trans (hb19.mono hB_13.size)
      have ax_14 := ax_13.below hb19
      have bx_14 := bx_13.below hb19
      have pa_14 := pa_13.below hb19
      have pb_14 := pb_13.below hb19
      have r16_14 := r16_13.below hb19
      have r18_14 := r18_13.below hb19
      have pone_14 := pone_13.below hb19
      have ptwo_14 := ptwo_13.below hb19
      have hWv_14 := hWv_13.trans (hb19.mono hWv_13.size)
      have r22_14 := r22_13.below hb19
      have psd_14 := psd_13.below hb19
      clear hb19 hB_13 ax_13 bx_13 pa_13 pb_13 r16_13 r18_13 pone_13 ptwo_13 hWv_13 r22_13 psd_13
      go_wp2_with fail
      refine hK.out _ _ ⟨pa_14.c0, pa_14.c1, pb_14.c0, pb_14.c1, pone_14.c0, pone_14.c1, ptwo_14.c0, ptwo_14.c1, psd_14.c0, psd_14.c1⟩ (fun hHeld => ?_)
      clear hK K
      try simp only [Act.put, List.setIfInBounds_toArray, List.set_cons_zero, List.set_cons_succ]
      refine reg_call 10 ?_ (by kernel_rfl) ?_ (fun K hK => ?_)
      rotate_left 1
      · simp only [List.getElem?_toArray, List.getElem?_cons_succ, List.getElem?_cons_zero]; exact rfl
      go_simp
      refine (rSign_any _ _ _ s _ r16_14 HS.out).mono ?_
      rintro e w20 ⟨rfl, hb20⟩
      have hB_15 := hB_14.trans (hb20.mono hB_14.size)
      have ax_15 := ax_14.below hb20
      have bx_15 := bx_14.below hb20
      have pa_15 := pa_14.below hb20
      have pb_15 := pb_14.below hb20
      have r16_15 := r16_14.below hb20
      have r18_15 := r18_14.below hb20
      have pone_15 := pone_14.below hb20
      have ptwo_15 := ptwo_14.below hb20
      have hWv_15 := hWv_14.trans (hb20.mono hWv_14.size)
      have r22_15 := r22_14.below hb20
      have psd_15 := psd_14.below hb20
      clear hb20 hB_14 ax_14 bx_14 pa_14 pb_14 r16_14 r18_14 pone_14 ptwo_14 hWv_14 r22_14 psd_14
      go_wp2_with fail
      refine hK.out _ _ ⟨pa_15.c0, pa_15.c1, pb_15.c0, pb_15.c1, pone_15.c0, pone_15.c1, ptwo_15.c0, ptwo_15.c1, psd_15.c0, psd_15.c1⟩ (fun hHeld => ?_)
      clear hK K
      try simp only [Act.put, List.setIfInBounds_toArray, List.set_cons_zero, List.set_cons_succ]
      refine reg_take 11 ?_ ?_ ?_ (by kernel_rfl) (by kernel_rfl) (by kernel_rfl) (fun _ _ _ h => h) ?_ ?_ (by assumption) ?_
      rotate_left 2
      · simp only [List.getElem?_toArray, List.getElem?_cons_succ, List.getElem?_cons_zero]; exact rfl
      · rfl
      · intro w hSw; (try dsimp only at hSw); go_simp; try with_reducible rfl
      try simp only [Act.put, List.setIfInBounds_toArray, List.set_cons_zero, List.set_cons_succ]
      refine reg_take 12 ?_ ?_ ?_ (by kernel_rfl) (by kernel_rfl) (by kernel_rfl) (fun _ _ _ h => h) ?_ ?_ (by assumption) ?_
      rotate_left 2
      · simp only [List.getElem?_toArray, List.getElem?_cons_succ, List.getElem?_cons_zero]; exact rfl
      · rfl
      · intro w hSw; (try dsimp only at hSw); go_simp; try with_reducible rfl
      try simp only [Act.put, List.setIfInBounds_toArray, List.set_cons_zero, List.set_cons_succ]
      refine reg_take 13 ?_ ?_ ?_ (by kernel_rfl) (by kernel_rfl) (by kernel_rfl) (fun _ _ _ h => h) ?_ ?_ (by assumption) ?_
      rotate_left 2
      · simp only [List.getElem?_toArray, List.getElem?_cons_succ, List.getElem?_cons_zero]; exact rfl
      · rfl
      · intro w hSw; (try dsimp only at hSw); go_simp; try with_reducible rfl
      try simp only [Act.put, List.setIfInBounds_toArray, List.set_cons_zero, List.set_cons_succ]
      refine reg_take 14 ?_ ?_ ?_ (by kernel_rfl) (by kernel_rfl) (by kernel_rfl) (fun _ _ _ h => h) ?_ ?_ (by assumption) ?_
      rotate_left 2
      · simp only [List.getElem?_toArray, List.getElem?_cons_succ, List.getElem?_cons_zero]; exact rfl
      · rfl
      · intro w hSw; (try dsimp only at hSw); go_simp; try with_reducible rfl
      try simp only [Act.put, List.setIfInBounds_toArray, List.set_cons_zero, List.set_cons_succ]
      refine reg_take 16 ?_ ?_ ?_ (by kernel_rfl) (by kernel_rfl) (by kernel_rfl) (fun _ _ _ h => h) ?_ ?_ (by assumption) ?_
      rotate_left 2
      · simp only [List.getElem?_toArray, List.getElem?_cons_succ, List.getElem?_cons_zero]; exact rfl
      · rfl
      · intro w hSw; (try dsimp only at hSw); go_simp; try with_reducible rfl
      try simp only [Act.put, List.setIfInBounds_toArray, List.set_cons_zero, List.set_cons_succ]
      refine reg_call 15 ?_ (by kernel_rfl) ?_ (fun K hK => ?_)
      rotate_left 1
      · simp only [List.getElem?_toArray, List.getElem?_cons_succ, List.getElem?_cons_zero]; exact rfl
      go_simp
      refine (Neg_any _ _ _ _ (by omega) ax_15).mono ?_
      rintro e w21 ⟨m64, ao64, n64, c64, rfl, h64_0, hb21⟩
      have hB_16 := hB_15.trans (hb21.mono hB_15.size)
      have ax_16 := ax_15.below hb21
      have bx_16 := bx_15.below hb21
      have pa_16 := pa_15.below hb21
      have pb_16 := pb_15.below hb21
      have r16_16 := r16_15.below hb21
      have r18_16 := r18_15.below hb21
      have pone_16 := pone_15.below hb21
      have ptwo_16 := ptwo_15.below hb21
      have hWv_16 := hWv_15.trans (hb21.mono hWv_15.size)
      have r22_16 := r22_15.below hb21
      have psd_16 := psd_15.below hb21
      clear hb21 hB_15 ax_15 bx_15 pa_15 pb_15 r16_15 r18_15 pone_15 ptwo_15 hWv_15 r22_15 psd_15
      go_wp2_with fail
      refine hK.out _ _ ⟨pa_16.c0, pa_16.c1, pb_16.c0, pb_16.c1, pone_16.c0, pone_16.c1, ptwo_16.c0, ptwo_16.c1, psd_16.c0, psd_16.c1⟩ (fun hHeld => ?_)
      clear hK K
      try simp only [Act.put, List.setIfInBounds_toArray, List.set_cons_zero, List.set_cons_succ]
      refine reg_call 17 ?_ (by kernel_rfl) ?_ (fun K hK => ?_)
      rotate_left 1
      · simp only [List.getElem?_toArray, List.getElem?_cons_succ, List.getElem?_cons_zero]; exact rfl
      go_simp
      refine (rNeg_any _ _ _ _ r16_16).mono ?_
      rintro e w22 ⟨m66, ao66, n66, c66, rfl, h66_0, hb22⟩
      have hB_17 := hB_16.trans (hb22.mono hB_16.size)
      have ax_17 := ax_16.below hb22
      have bx_17 := bx_16.below hb22
      have pa_17 := pa_16.below hb22
      have pb_17 := pb_16.below hb22
      have r16_17 := r16_16.below hb22
      have r18_17 := r18_16.below hb22
      have pone_17 := pone_16.below hb22
      have ptwo_17 := ptwo_16.below hb22
      have hWv_17 := hWv_16.trans (hb22.mono hWv_16.size)
      have r22_17 := r22_16.below hb22
      have psd_17 := psd_16.below hb22
      have h64_1 := h64_0.below hb22
      clear hb22 hB_16 ax_16 bx_16 pa_16 pb_16 r16_16 r18_16 pone_16 ptwo_16 hWv_16 r22_16 psd_16 h64_0
      go_wp2_with fail
      refine hK.out _ _ ⟨pa_17.c0, pa_17.c1, pb_17.c0, pb_17.c1, pone_17.c0, pone_17.c1, ptwo_17.c0, ptwo_17.c1, psd_17.c0, psd_17.c1⟩ (fun hHeld => ?_)
      clear hK K
      try simp only [Act.put, List.setIfInBounds_toArray, List.set_cons_zero, List.set_cons_succ]
      refine reg_call 18 ?_ (by kernel_rfl) ?_ (fun K hK => ?_)
      rotate_left 1
      · simp only [List.getElem?_toArray, List.getElem?_cons_succ, List.getElem?_cons_zero]; exact rfl
      go_simp
      refine (is_any _ _ _ _ _ _ (by omega) (by omega) h64_1 h66_0).mono ?_
      rintro e w23 ⟨rfl, hb23⟩
      have hB_18 := hB_17.trans (hb23.mono hB_17.size)
      have ax_18 := ax_17.below hb23
      have bx_18 := bx_17.below hb23
      have pa_18 := pa_17.below hb23
      have pb_18 := pb_17.below hb23
      have r16_18 := r16_17.below hb23
      have r18_18 := r18_17.below hb23
      have pone_18 := pone_17.below hb23
      have ptwo_18 := ptwo_17.below hb23
      have hWv_18 := hWv_17.trans (hb23.mono hWv_17.size)
      have r22_18 := r22_17.below hb23
      have psd_18 := psd_17.below hb23
      have h64_2 := h64_1.below hb23
      have h66_1 := h66_0.below hb23
      clear hb23 hB_17 ax_17 bx_17 pa_17 pb_17 r16_17 r18_17 pone_17 ptwo_17 hWv_17 r22_17 psd_17 h64_1 h66_0
      go_wp2_with fail
      refine hK.out _ _ ⟨pa_18.c0, pa_18.c1, pb_18.c0, pb_18.c1, pone_18.c0, pone_18.c1, ptwo_18.c0, ptwo_18.c1, psd_18.c0, psd_18.c1⟩ (fun hHeld => ?_)
      clear hK K
      try simp only [Act.put, List.setIfInBounds_toArray, List.set_cons_zero, List.set_cons_succ]
      refine reg_take 19 ?_ ?_ ?_ (by kernel_rfl) (by kernel_rfl) (by kernel_rfl) (fun _ _ _ h => h) ?_ ?_ (by assumption) ?_
      rotate_left 2
      · simp only [List.getElem?_toArray, List.getElem?_cons_succ, List.getElem?_cons_zero]; exact rfl
      · rfl
      · intro w hSw; (try dsimp only at hSw); go_simp; try with_reducible rfl
      try simp only [Act.put, List.setIfInBounds_toArray, List.set_cons_zero, List.set_cons_succ]
      refine reg_take 20 ?_ ?_ ?_ (by kernel_rfl) (by kernel_rfl) (by kernel_rfl) (fun _ _ _ h => h) ?_ ?_ (by assumption) ?_
      rotate_left 2
      · simp only [List.getElem?_toArray, List.getElem?_cons_succ, List.getElem?_cons_zero]; exact rfl
      · rfl
      · intro w hSw; (try dsimp only at hSw); go_simp; try with_reducible rfl
      try simp only [Act.put, List.setIfInBounds_toArray, List.set_cons_zero, List.set_cons_succ]
      refine reg_take 21 ?_ ?_ ?_ (by kernel_rfl) (by kernel_rfl) (by kernel_rfl) (fun _ _ _ h => h) ?_ ?_ (by assumption) ?_
      rotate_left 2
      · simp only [List.getElem?_toArray, List.getElem?_cons_succ, List.getElem?_cons_zero]; exact rfl
      · rfl
      · intro w hSw; (try dsimp only at hSw); go_simp; try with_reducible rfl
      try simp only [Act.put, List.setIfInBounds_toArray, List.set_cons_zero, List.set_cons_succ]
      refine reg_take 23 ?_ ?_ ?_ (by kernel_rfl) (by kernel_rfl) (by kernel_rfl) (fun _ _ _ h => h) ?_ ?_ (by assumption) ?_
      rotate_left 2
      · simp only [List.getElem?_toArray, List.getElem?_cons_succ, List.getElem?_cons_zero]; exact rfl
      · rfl
      · intro w hSw; (try dsimp only at hSw); go_simp; try with_reducible rfl
      try simp only [Act.put, List.setIfInBounds_toArray, List.set_cons_zero, List.set_cons_succ]
      refine reg_take 24 ?_ ?_ ?_ (by kernel_rfl) (by kernel_rfl) (by kernel_rfl) (fun _ _ _ h => h) ?_ ?_ (by assumption) ?_
      rotate_left 2
      · simp only [List.getElem?_toArray, List.getElem?_cons_succ, List.getElem?_cons_zero]; exact rfl
      · rfl
      · intro w hSw; (try dsimp only at hSw); go_simp; try with_reducible rfl
      try simp only [Act.put, List.setIfInBounds_toArray, List.set_cons_zero, List.set_cons_succ]
      refine reg_call 22 ?_ (by kernel_rfl) ?_ (fun K hK => ?_)
      rotate_left 1
      · simp only [List.getElem?_toArray, List.getElem?_cons_succ, List.getElem?_cons_zero]; exact rfl
      go_simp
      refine (Abs_any _ _ _ _ (by omega) ax_18).mono ?_
      rintro e w24 ⟨m71, ao71, n71, c71, rfl, h71_0, hb24⟩
      have hB_19 := hB_18.trans (hb24.mono hB_18.size)
      have ax_19 := ax_18.below hb24
      have bx_19 := bx_18.below hb24
      have pa_19 := pa_18.below hb24
      have pb_19 := pb_18.below hb24
      have r16_19 := r16_18.below hb24
      have r18_19 := r18_18.below hb24
      have pone_19 := pone_18.below hb24
      have ptwo_19 := ptwo_18.below hb24
      have hWv_19 := hWv_18.trans (hb24.mono hWv_18.size)
      have r22_19 := r22_18.below hb24
      have psd_19 := psd_18.below hb24
      have h64_3 := h64_2.below hb24
      have h66_2 := h66_1.below hb24
      clear hb24 hB_18 ax_18 bx_18 pa_18 pb_18 r16_18 r18_18 pone_18 ptwo_18 hWv_18 r22_18 psd_18 h64_2 h66_1
      go_wp2_with fail
      refine hK.out _ _ ⟨pa_19.c0, pa_19.c1, pb_19.c0, pb_19.c1, pone_19.c0, pone_19.c1, ptwo_19.c0, ptwo_19.c1, psd_19.c0, psd_19.c1⟩ (fun hHeld => ?_)
      clear hK K
      try simp only [Act.put, List.setIfInBounds_toArray, List.set_cons_zero, List.set_cons_succ]
      refine reg_call 25 ?_ (by kernel_rfl) ?_ (fun K hK => ?_)
      rotate_left 1
      · simp only [List.getElem?_toArray, List.getElem?_cons_succ, List.getElem?_cons_zero]; exact rfl
      go_simp
      refine (rOf_abs r16_19).mono ?_
      rintro e w25 ⟨m74, ao74, n74, c74, rfl, h74_0, hb25⟩
      have hB_20 := hB_19.trans (hb25.mono hB_19.size)
      have ax_20 := ax_19.below hb25
      have bx_20 := bx_19.below hb25
      have pa_20 := pa_19.below hb25
      have pb_20 := pb_19.below hb25
      have r16_20 := r16_19.below hb25
      have r18_20 := r18_19.below hb25
      have pone_20 := pone_19.below hb25
      have ptwo_20 := ptwo_19.below hb25
      have hWv_20 := hWv_19.trans (hb25.mono hWv_19.size)
      have r22_20 := r22_19.below hb25
      have psd_20 := psd_19.below hb25
      have h64_4 := h64_3.below hb25
      have h66_3 := h66_2.below hb25
      have h71_1 := h71_0.below hb25
      clear hb25 hB_19 ax_19 bx_19 pa_19 pb_19 r16_19 r18_19 pone_19 ptwo_19 hWv_19 r22_19 psd_19 h64_3 h66_2 h71_0
      go_wp2_with fail
      refine hK.out _ _ ⟨pa_20.c0, pa_20.c1, pb_20.c0, pb_20.c1, pone_20.c0, pone_20.c1, ptwo_20.c0, ptwo_20.c1, psd_20.c0, psd_20.c1⟩ (fun hHeld => ?_)
      clear hK K
      try simp only [Act.put, List.setIfInBounds_toArray, List.set_cons_zero, List.set_cons_succ]
      refine reg_call 26 ?_ (by kernel_rfl) ?_ (fun K hK => ?_)
      rotate_left 1
      · simp only [List.getElem?_toArray, List.getElem?_cons_succ, List.getElem?_cons_zero]; exact rfl
      go_simp
      refine (is_any _ _ _ _ _ _ (by omega) (by omega) h71_1 h74_0).mono ?_
      rintro e w26 ⟨rfl, hb26⟩
      have hB_21 := hB_20.trans (hb26.mono hB_20.size)
      have ax_21 := ax_20.below hb26
      have bx_21 := bx_20.below hb26
      have pa_21 := pa_20.below hb26
      have pb_21 := pb_20.below hb26
      have r16_21 := r16_20.below hb26
      have r18_21 := r18_20.below hb26
      have pone_21 := pone_20.below hb26
      have ptwo_21 := ptwo_20.below hb26
      have hWv_21 := hWv_20.trans (hb26.mono hWv_20.size)
      have r22_21 := r22_20.below hb26
      have psd_21 := psd_20.below hb26
      have h64_5 := h64_4.below hb26
      have h66_4 := h66_3.below hb26
      have h71_2 := h71_1.below hb26
      have h74_1 := h74_0.below hb26
      clear hb26 hB_20 ax_20 bx_20 pa_20 pb_20 r16_20 r18_20 pone_20 ptwo_20 hWv_20 r22_20 psd_20 h64_4 h66_3 h71_1 h74_0
      go_wp2_with fail
      refine hK.out _ _ ⟨pa_21.c0, pa_21.c1, pb_21.c0, pb_21.c1, pone_21.c0, pone_21.c1, ptwo_21.c0, ptwo_21.c1, psd_21.c0, psd_21.c1⟩ (fun hHeld => ?_)
      clear hK K
      try simp only [Act.put, List.setIfInBounds_toArray, List.set_cons_zero, List.set_cons_succ]
      refine reg_take 27 ?_ ?_ ?_ (by kernel_rfl) (by kernel_rfl) (by kernel_rfl) (fun _ _ _ h => h) ?_ ?_ (by assumption) ?_
      rotate_left 2
      · simp only [List.getElem?_toArray, List.getElem?_cons_succ, List.getElem?_cons_zero]; exact rfl
      · rfl
      · intro w hSw; (try dsimp only at hSw); go_simp; try with_reducible rfl
      try simp only [Act.put, List.setIfInBounds_toArray, List.set_cons_zero, List.set_cons_succ]
      refine reg_take 28 ?_ ?_ ?_ (by kernel_rfl) (by kernel_rfl) (by kernel_rfl) (fun _ _ _ h => h) ?_ ?_ (by assumption) ?_
      rotate_left 2
      · simp only [List.getElem?_toArray, List.getElem?_cons_succ, List.getElem?_cons_zero]; exact rfl
      · rfl
      · intro w hSw; (try dsimp only at hSw); go_simp; try with_reducible rfl
      try simp only [Act.put, List.setIfInBounds_toArray, List.set_cons_zero, List.set_cons_succ]
      refine wpAnyH_done (by kernel_rfl) ?_ _
      refine NoPanic.normal ?_
      go_wp2
      go_ret
      exact ⟨rfl, hB_21⟩
    simp only [HAv.out, Act.put, List.setIfInBounds_toArray, List.set_cons_zero, List.set_cons_succ] at stv_2t
    have stv_2f : ∀ (w' : World) (m21 : Bool) (ao21 : Option Addr) (n21 c21 : Nat) (m22 : Bool) (ao22 : Option Addr) (n22 c22 : Nat), Below w.heap.size w w' → Num w' (.agg #[.bool am, .slice ao an ac]) an X → Num w' (.agg #[.bool bm, .slice bo bn bc]) bn Y → Box2 w' (w.heap.size) (.bool am) (.slice ao an ac) → Box2 w' (w.heap.size + 1) (.bool bm) (.slice bo bn bc) → DNum w' (.agg #[.bool m16, .slice ao16 n16 c16]) (20 * an) X → DNum w' (.agg #[.bool m18, .slice ao18 n18 c18]) (20 * bn) Y → Box2 w' gone (.bool m16) (.slice ao16 n16 c16) → Box2 w' gtwo (.bool m18) (.slice ao18 n18 c18) → Below w6.heap.size w6 w' → DNum w' (.agg #[.bool m21, .slice ao21 n21 c21]) (20 * bn) (-Y) → DNum w' (.agg #[.bool m22, .slice ao22 n22 c22]) (max (20 * an) (20 * bn) + 1) (X + -Y) → WWv 2 #[true, true, true, true, false, false] ((av.put (some 21) (.agg #[.bool m21, .slice ao21 n21 c21])).put (some 22) (.agg #[.bool m22, .slice ao22 n22 c22])) w' := by
      intro w27 m21 ao21 n21 c21 m22 ao22 n22 c22 hB_0 ax_0 bx_0 pa_0 pb_0 r16_0 r18_0 pone_0 ptwo_0 hWv_0 r21_0 r22_0
      rw [HWv.out, HAv.out]
      try simp only [Act.put, List.setIfInBounds_toArray, List.set_cons_zero, List.set_cons_succ]
      refine reg_all1 4 ?_ (by kernel_rfl) ?_ (fun K hK => ?_)
      rotate_left 1
      · simp only [List.getElem?_toArray, List.getElem?_cons_succ, List.getElem?_cons_zero]; exact rfl
      · go_simp
        have hal : Below w27.heap.size w27 (w27.alloc (Obj.cells #[Value.bool false, Value.slice none 0 0] 30)) := (Below.refl _ _).alloc (Nat.le_refl _) _
        have psd_0 := alloc_box w27 (.bool false) (.slice none 0 0) 30
        have hgn : w6.heap.size ≤ w27.heap.size := hWv_0.size
        have hB_1 := hB_0.trans (hal.mono hB_0.size)
        have ax_1 := ax_0.below hal
        have bx_1 := bx_0.below hal
        have pa_1 := pa_0.below hal
        have pb_1 := pb_0.below hal
        have r16_1 := r16_0.below hal
        have r18_1 := r18_0.below hal
        have pone_1 := pone_0.below hal
        have ptwo_1 := ptwo_0.below hal
        have hWv_1 := hWv_0.trans (hal.mono hWv_0.size)
        have r21_1 := r21_0.below hal
        have r22_1 := r22_0.below hal
        refine hK.out _ _ ⟨pone_1.c0, pone_1.c1, ptwo_1.c0, ptwo_1.c1⟩ (fun hHeld => ?_)
        clear hK K hHeld
        try simp only [Act.put, List.setIfInBounds_toArray, List.set_cons_zero, List.set_cons_succ]
        rw [← HWv.out]
        exact stv_2t _ m21 ao21 n21 c21 m22 ao22 n22 c22 w27.heap.size hB_1 ax_1 bx_1 pa_1 pb_1 r16_1 r18_1 pone_1 ptwo_1 hWv_1 r21_1 r22_1 psd_0 (by omega)
    try simp only [HAv.out, Act.put, List.setIfInBounds_toArray, List.set_cons_zero, List.set_cons_succ] at stv_2f
    have stv_1t : ∀ (w' : World) (m21 : Bool) (ao21 : Option Addr) (n21 c21 : Nat) (gsd : Nat), Below w.heap.size w w' → Num w' (.agg #[.bool am, .slice ao an ac]) an X → Num w' (.agg #[.bool bm, .slice bo bn bc]) bn Y → Box2 w' (w.heap.size) (.bool am) (.slice ao an ac) → Box2 w' (w.heap.size + 1) (.bool bm) (.slice bo bn bc) → DNum w' (.agg #[.bool m16, .slice ao16 n16 c16]) (20 * an) X → DNum w' (.agg #[.bool m18, .slice ao18 n18 c18]) (20 * bn) Y → Box2 w' gone (.bool m16) (.slice ao16 n16 c16) → Box2 w' gtwo (.bool m18) (.slice ao18 n18 c18) → Below w6.heap.size w6 w' → DNum w' (.agg #[.bool m21, .slice ao21 n21 c21]) (20 * bn) (-Y) → Box2 w' gsd (.bool false) (.slice none 0 0) → w6.heap.size ≤ gsd → WWv 2 #[true, true, true, false, true, false] ((av.put (some 21) (.agg #[.bool m21, .slice ao21 n21 c21])).put (some 7) (.pointer (some ⟨gsd, 0, none⟩))) w' := by
      intro w28 m21 ao21 n21 c21 gsd hB_0 ax_0 bx_0 pa_0 pb_0 r16_0 r18_0 pone_0 ptwo_0 hWv_0 r21_0 psd_0 hgsd
      rw [HWv.out, HAv.out]
      try simp only [Act.put, List.setIfInBounds_toArray, List.set_cons_zero, List.set_cons_succ]
      refine reg_all1 3 ?_ (by kernel_rfl) ?_ (fun K hK => ?_)
      rotate_left 1
      · simp only [List.getElem?_toArray, List.getElem?_cons_succ, List.getElem?_cons_zero]; exact rfl
      · go_simp
        refine (rNAdd_any _ _ _ _ _ _ _ (by omega) (by omega) r16_0 r21_0).mono ?_
        rintro e w29 ⟨m22, ao22, n22, c22, rfl, r22_0, hb29⟩
        have hB_1 := hB_0.trans (hb29.mono hB_0.size)
        have ax_1 := ax_0.below hb29
        have bx_1 := bx_0.below hb29
        have pa_1 := pa_0.below hb29
        have pb_1 := pb_0.below hb29
        have r16_1 := r16_0.below hb29
        have r18_1 := r18_0.below hb29
        have pone_1 := pone_0.below hb29
        have ptwo_1 := ptwo_0.below hb29
        have hWv_1 := hWv_0.trans (hb29.mono hWv_0.size)
        have r21_1 := r21_0.below hb29
        have psd_1 := psd_0.below hb29
        go_wp2_with fail
        refine hK.out _ _ ⟨pone_1.c0, pone_1.c1, ptwo_1.c0, ptwo_1.c1⟩ (fun hHeld => ?_)
        clear hK K hHeld
        try simp only [Act.put, List.setIfInBounds_toArray, List.set_cons_zero, List.set_cons_succ]
        rw [← HWv.out]
        exact stv_2t _ m21 ao21 n21 c21 m22 ao22 n22 c22 gsd hB_1 ax_1 bx_1 pa_1 pb_1 r16_1 r18_1 pone_1 ptwo_1 hWv_1 r21_1 r22_0 psd_1 (by omega)
    try simp only [HAv.out, Act.put, List.setIfInBounds_toArray, List.set_cons_zero, List.set_cons_succ] at stv_1t
    have stv_1f : ∀ (w' : World) (m21 : Bool) (ao21 : Option Addr) (n21 c21 : Nat), Below w.heap.size w w' → Num w' (.agg #[.bool am, .slice ao an ac]) an X → Num w' (.agg #[.bool bm, .slice bo bn bc]) bn Y → Box2 w' (w.heap.size) (.bool am) (.slice ao an ac) → Box2 w' (w.heap.size + 1) (.bool bm) (.slice bo bn bc) → DNum w' (.agg #[.bool m16, .slice ao16 n16 c16]) (20 * an) X → DNum w' (.agg #[.bool m18, .slice ao18 n18 c18]) (20 * bn) Y → Box2 w' gone (.bool m16) (.slice ao16 n16 c16) → Box2 w' gtwo (.bool m18) (.slice ao18 n18 c18) → Below w6.heap.size w6 w' → DNum w' (.agg #[.bool m21, .slice ao21 n21 c21]) (20 * bn) (-Y) → WWv 3 #[true, true, true, false, false, false] (av.put (some 21) (.agg #[.bool m21, .slice ao21 n21 c21])) w' := by
      intro w30 m21 ao21 n21 c21 hB_0 ax_0 bx_0 pa_0 pb_0 r16_0 r18_0 pone_0 ptwo_0 hWv_0 r21_0
      rw [HWv.out, HAv.out]
      try simp only [Act.put, List.setIfInBounds_toArray, List.set_cons_zero, List.set_cons_succ]
      refine reg_all2 3 4 ?_ ?_ (by kernel_rfl) ?_ ?_ (fun K hK => ?_) (fun K hK => ?_)
      rotate_left 2
      · simp only [List.getElem?_toArray, List.getElem?_cons_succ, List.getElem?_cons_zero]; exact rfl
      · simp only [List.getElem?_toArray, List.getElem?_cons_succ, List.getElem?_cons_zero]; exact rfl
      · go_simp
        refine (rNAdd_any _ _ _ _ _ _ _ (by omega) (by omega) r16_0 r21_0).mono ?_
        rintro e w31 ⟨m22, ao22, n22, c22, rfl, r22_0, hb31⟩
        have hB_1 := hB_0.trans (hb31.mono hB_0.size)
        have ax_1 := ax_0.below hb31
        have bx_1 := bx_0.below hb31
        have pa_1 := pa_0.below hb31
        have pb_1 := pb_0.below hb31
        have r16_1 := r16_0.below hb31
        have r18_1 := r18_0.below hb31
        have pone_1 := pone_0.below hb31
        have ptwo_1 := ptwo_0.below hb31
        have hWv_1 := hWv_0.trans (hb31.mono hWv_0.size)
        have r21_1 := r21_0.below hb31
        go_wp2_with fail
        refine hK.out _ _ ⟨pone_1.c0, pone_1.c1, ptwo_1.c0, ptwo_1.c1⟩ (fun hHeld => ?_)
        clear hK K hHeld
        try simp only [Act.put, List.setIfInBounds_toArray, List.set_cons_zero, List.set_cons_succ]
        rw [← HWv.out]
        exact stv_2f _ m21 ao21 n21 c21 m22 ao22 n22 c22 hB_1 ax_1 bx_1 pa_1 pb_1 r16_1 r18_1 pone_1 ptwo_1 hWv_1 r21_1 r22_0
      · go_simp
        have hal : Below w30.heap.size w30 (w30.alloc (Obj.cells #[Value.bool false, Value.slice none 0 0] 30)) := (Below.refl _ _).alloc (Nat.le_refl _) _
        have psd_0 := alloc_box w30 (.bool false) (.slice none 0 0) 30
        have hgn : w6.heap.size ≤ w30.heap.size := hWv_0.size
        have hB_1 := hB_0.trans (hal.mono hB_0.size)
        have ax_1 := ax_0.below hal
        have bx_1 := bx_0.below hal
        have pa_1 := pa_0.below hal
        have pb_1 := pb_0.below hal
        have r16_1 := r16_0.below hal
        have r18_1 := r18_0.below hal
        have pone_1 := pone_0.below hal
        have ptwo_1 := ptwo_0.below hal
        have hWv_1 := hWv_0.trans (hal.mono hWv_0.size)
        have r21_1 := r21_0.below hal
        refine hK.out _ _ ⟨pone_1.c0, pone_1.c1, ptwo_1.c0, ptwo_1.c1⟩ (fun hHeld => ?_)
        clear hK K hHeld
        try simp only [Act.put, List.setIfInBounds_toArray, List.set_cons_zero, List.set_cons_succ]
        rw [← HWv.out]
        exact stv_1t _ m21 ao21 n21 c21 w30.heap.size hB_1 ax_1 bx_1 pa_1 pb_1 r16_1 r18_1 pone_1 ptwo_1 hWv_1 r21_1 psd_0 (by omega)
    try simp only [HAv.out, Act.put, List.setIfInBounds_toArray, List.set_cons_zero, List.set_cons_succ] at stv_1f
    have stv_0t : ∀ (w' : World) (gsd : Nat), Below w.heap.size w w' → Num w' (.agg #[.bool am, .slice ao an ac]) an X → Num w' (.agg #[.bool bm, .slice bo bn bc]) bn Y → Box2 w' (w.heap.size) (.bool am) (.slice ao an ac) → Box2 w' (w.heap.size + 1) (.bool bm) (.slice bo bn bc) → DNum w' (.agg #[.bool m16, .slice ao16 n16 c16]) (20 * an) X → DNum w' (.agg #[.bool m18, .slice ao18 n18 c18]) (20 * bn) Y → Box2 w' gone (.bool m16) (.slice ao16 n16 c16) → Box2 w' gtwo (.bool m18) (.slice ao18 n18 c18) → Below w6.heap.size w6 w' → Box2 w' gsd (.bool false) (.slice none 0 0) → w6.heap.size ≤ gsd → WWv 3 #[true, true, false, false, true, false] (av.put (some 7) (.pointer (some ⟨gsd, 0, none⟩))) w' := by
      intro w32 gsd hB_0 ax_0 bx_0 pa_0 pb_0 r16_0 r18_0 pone_0 ptwo_0 hWv_0 psd_0 hgsd
      rw [HWv.out, HAv.out]
      try simp only [Act.put, List.setIfInBounds_toArray, List.set_cons_zero, List.set_cons_succ]
      refine reg_all1 2 ?_ (by kernel_rfl) ?_ (fun K hK => ?_)
      rotate_left 1
      · simp only [List.getElem?_toArray, List.getElem?_cons_succ, List.getElem?_cons_zero]; exact rfl
      · go_simp
        refine (rNeg_any _ _ _ _ r18_0).mono ?_
        rintro e w33 ⟨m21, ao21, n21, c21, rfl, r21_0, hb33⟩
        have hB_1 := hB_0.trans (hb33.mono hB_0.size)
        have ax_1 := ax_0.below hb33
        have bx_1 := bx_0.below hb33
        have pa_1 := pa_0.below hb33
        have pb_1 := pb_0.below hb33
        have r16_1 := r16_0.below hb33
        have r18_1 := r18_0.below hb33
        have pone_1 := pone_0.below hb33
        have ptwo_1 := ptwo_0.below hb33
        have hWv_1 := hWv_0.trans (hb33.mono hWv_0.size)
        have psd_1 := psd_0.below hb33
        go_wp2_with fail
        refine hK.out _ _ ⟨pone_1.c0, pone_1.c1, ptwo_1.c0, ptwo_1.c1⟩ (fun hHeld => ?_)
        clear hK K hHeld
        try simp only [Act.put, List.setIfInBounds_toArray, List.set_cons_zero, List.set_cons_succ]
        rw [← HWv.out]
        exact stv_1t _ m21 ao21 n21 c21 gsd hB_1 ax_1 bx_1 pa_1 pb_1 r16_1 r18_1 pone_1 ptwo_1 hWv_1 r21_0 psd_1 (by omega)
    try simp only [HAv.out, Act.put, List.setIfInBounds_toArray, List.set_cons_zero, List.set_cons_succ] at stv_0t
    have stv_0f : ∀ (w' : World), Below w.heap.size w w' → Num w' (.agg #[.bool am, .slice ao an ac]) an X → Num w' (.agg #[.bool bm, .slice bo bn bc]) bn Y → Box2 w' (w.heap.size) (.bool am) (.slice ao an ac) → Box2 w' (w.heap.size + 1) (.bool bm) (.slice bo bn bc) → DNum w' (.agg #[.bool m16, .slice ao16 n16 c16]) (20 * an) X → DNum w' (.agg #[.bool m18, .slice ao18 n18 c18]) (20 * bn) Y → Box2 w' gone (.bool m16) (.slice ao16 n16 c16) → Box2 w' gtwo (.bool m18) (.slice ao18 n18 c18) → Below w6.heap.size w6 w' → WWv 4 #[true, true, false, false, false, false] av w' := by
      intro w34 hB_0 ax_0 bx_0 pa_0 pb_0 r16_0 r18_0 pone_0 ptwo_0 hWv_0
      rw [HWv.out, HAv.out]
      try simp only [Act.put, List.setIfInBounds_toArray, List.set_cons_zero, List.set_cons_succ]
      refine reg_all2 2 4 ?_ ?_ (by kernel_rfl) ?_ ?_ (fun K hK => ?_) (fun K hK => ?_)
      rotate_left 2
      · simp only [List.getElem?_toArray, List.getElem?_cons_succ, List.getElem?_cons_zero]; exact rfl
      · simp only [List.getElem?_toArray, List.getElem?_cons_succ, List.getElem?_cons_zero]; exact rfl
      · go_simp
        refine (rNeg_any _ _ _ _ r18_0).mono ?_
        rintro e w35 ⟨m21, ao21, n21, c21, rfl, r21_0, hb35⟩
        have hB_1 := hB_0.trans (hb35.mono hB_0.size)
        have ax_1 := ax_0.below hb35
        have bx_1 := bx_0.below hb35
        have pa_1 := pa_0.below hb35
        have pb_1 := pb_0.below hb35
        have r16_1 := r16_0.below hb35
        have r18_1 := r18_0.below hb35
        have pone_1 := pone_0.below hb35
        have ptwo_1 := ptwo_0.below hb35
        have hWv_1 := hWv_0.trans (hb35.mono hWv_0.size)
        go_wp2_with fail
        refine hK.out _ _ ⟨pone_1.c0, pone_1.c1, ptwo_1.c0, ptwo_1.c1⟩ (fun hHeld => ?_)
        clear hK K hHeld
        try simp only [Act.put, List.setIfInBounds_toArray, List.set_cons_zero, List.set_cons_succ]
        rw [← HWv.out]
        exact stv_1f _ m21 ao21 n21 c21 hB_1 ax_1 bx_1 pa_1 pb_1 r16_1 r18_1 pone_1 ptwo_1 hWv_1 r21_0
      · go_simp
        have hal : Below w34.heap.size w34 (w34.alloc (Obj.cells #[Value.bool false, Value.slice none 0 0] 30)) := (Below.refl _ _).alloc (Nat.le_refl _) _
        have psd_0 := alloc_box w34 (.bool false) (.slice none 0 0) 30
        have hgn : w6.heap.size ≤ w34.heap.size := hWv_0.size
        have hB_1 := hB_0.trans (hal.mono hB_0.size)
        have ax_1 := ax_0.below hal
        have bx_1 := bx_0.below hal
        have pa_1 := pa_0.below hal
        have pb_1 := pb_0.below hal
        have r16_1 := r16_0.below hal
        have r18_1 := r18_0.below hal
        have pone_1 := pone_0.below hal
        have ptwo_1 := ptwo_0.below hal
        have hWv_1 := hWv_0.trans (hal.mono hWv_0.size)
        refine hK.out _ _ ⟨pone_1.c0, pone_1.c1, ptwo_1.c0, ptwo_1.c1⟩ (fun hHeld => ?_)
        clear hK K hHeld
        try simp only [Act.put, List.setIfInBounds_toArray, List.set_cons_zero, List.set_cons_succ]
        rw [← HWv.out]
        exact stv_0t _ w34.heap.size hB_1 ax_1 bx_1 pa_1 pb_1 r16_1 r18_1 pone_1 ptwo_1 hWv_1 psd_0 (by omega)
    skip
    exact stv_0f _ hB_3 ax_3 bx_3 pa_3 pb_3 r16_3 r18_3 pone_3 ptwo_3 hWv_1
  simp only [HAq.out, Act.put, List.setIfInBounds_toArray, List.set_cons_zero, List.set_cons_succ] at stq_2tt
  have stq_2tf : ∀ (w' : World) (m16 : Bool) (ao16 : Option Addr) (n16 c16 : Nat) (m18 : Bool) (ao18 : Option Addr) (n18 c18 : Nat) (gone : Nat), Below w.heap.size w w' → Num w' (.agg #[.bool am, .slice ao an ac]) an X → Num w' (.agg #[.bool bm, .slice bo bn bc]) bn Y → Box2 w' (w.heap.size) (.bool am) (.slice ao an ac) → Box2 w' (w.heap.size + 1) (.bool bm) (.slice bo bn bc) → Below w3.heap.size w3 w' → DNum w' (.agg #[.bool m16, .slice ao16 n16 c16]) (20 * an) (X) → DNum w' (.agg #[.bool m18, .slice ao18 n18 c18]) (20 * bn) (Y) → Box2 w' gone (.bool false) (.slice none 0 0) → w3.heap.size ≤ gone → WWq 3 #[true, true, true, true, true, false, false, false] (((aq.put (some 16) (.agg #[.bool m16, .slice ao16 n16 c16])).put (some 18) (.agg #[.bool m18, .slice ao18 n18 c18])).put (some 5) (.pointer (some ⟨gone, 0, none⟩))) w' := by
    intro w36 m16 ao16 n16 c16 m18 ao18 n18 c18 gone hB_0 ax_0 bx_0 pa_0 pb_0 hWq_0 r16_0 r18_0 pone_0 hgone
    rw [HWq.out, HAq.out]
    try simp only [Act.put, List.setIfInBounds_toArray, List.set_cons_zero, List.set_cons_succ]
    refine reg_all1 5 ?_ (by kernel_rfl) ?_ (fun K hK => ?_)
    rotate_left 1
    · simp only [List.getElem?_toArray, List.getElem?_cons_succ, List.getElem?_cons_zero]; exact rfl
    · go_simp
      have hal : Below w36.heap.size w36 (w36.alloc (Obj.cells #[Value.bool false, Value.slice none 0 0] 30)) := (Below.refl _ _).alloc (Nat.le_refl _) _
      have ptwo_0 := alloc_box w36 (.bool false) (.slice none 0 0) 30
      have hgn : w3.heap.size ≤ w36.heap.size := hWq_0.size
      have hlpone : gone < w36.heap.size := World.block_lt_of_cell? _ _ pone_0.c0
      have hB_1 := hB_0.trans (hal.mono hB_0.size)
      have ax_1 := ax_0.below hal
      have bx_1 := bx_0.below hal
      have pa_1 := pa_0.below hal
      have pb_1 := pb_0.below hal
      have hWq_1 := hWq_0.trans (hal.mono hWq_0.size)
      have r16_1 := r16_0.below hal
      have r18_1 := r18_0.below hal
      have pone_1 := pone_0.below hal
      refine hK.out _ _ ⟨pa_1.c0, pa_1.c1, pb_1.c0, pb_1.c1⟩ (fun hHeld => ?_)
      clear hK K hHeld
      try simp only [Act.put, List.setIfInBounds_toArray, List.set_cons_zero, List.set_cons_succ]
      rw [← HWq.out]
      exact stq_2tt _ m16 ao16 n16 c16 m18 ao18 n18 c18 gone w36.heap.size hB_1 ax_1 bx_1 pa_1 pb_1 hWq_1 r16_1 r18_1 pone_1 ptwo_0 (by omega) (by omega) (by omega)
  try simp only [HAq.out, Act.put, List.setIfInBounds_toArray, List.set_cons_zero, List.set_cons_succ] at stq_2tf
  have stq_2ft : ∀ (w' : World) (m16 : Bool) (ao16 : Option Addr) (n16 c16 : Nat) (m18 : Bool) (ao18 : Option Addr) (n18 c18 : Nat) (gtwo : Nat), Below w.heap.size w w' → Num w' (.agg #[.bool am, .slice ao an ac]) an X → Num w' (.agg #[.bool bm, .slice bo bn bc]) bn Y → Box2 w' (w.heap.size) (.bool am) (.slice ao an ac) → Box2 w' (w.heap.size + 1) (.bool bm) (.slice bo bn bc) → Below w3.heap.size w3 w' → DNum w' (.agg #[.bool m16, .slice ao16 n16 c16]) (20 * an) (X) → DNum w' (.agg #[.bool m18, .slice ao18 n18 c18]) (20 * bn) (Y) → Box2 w' gtwo (.bool false) (.slice none 0 0) → w3.heap.size ≤ gtwo → WWq 3 #[true, true, true, true, false, true, false, false] (((aq.put (some 16) (.agg #[.bool m16, .slice ao16 n16 c16])).put (some 18) (.agg #[.bool m18, .slice ao18 n18 c18])).put (some 6) (.pointer (some ⟨gtwo, 0, none⟩))) w' := by
    intro w37 m16 ao16 n16 c16 m18 ao18 n18 c18 gtwo hB_0 ax_0 bx_0 pa_0 pb_0 hWq_0 r16_0 r18_0 ptwo_0 hgtwo
    rw [HWq.out, HAq.out]
    try simp only [Act.put, List.setIfInBounds_toArray, List.set_cons_zero, List.set_cons_succ]
    refine reg_all1 4 ?_ (by kernel_rfl) ?_ (fun K hK => ?_)
    rotate_left 1
    · simp only [List.getElem?_toArray, List.getElem?_cons_succ, List.getElem?_cons_zero]; exact rfl
    · go_simp
      have hal : Below w37.heap.size w37 (w37.alloc (Obj.cells #[Value.bool false, Value.slice none 0 0] 30)) := (Below.refl _ _).alloc (Nat.le_refl _) _
      have pone_0 := alloc_box w37 (.bool false) (.slice none 0 0) 30
      have hgn : w3.heap.size ≤ w37.heap.size := hWq_0.size
      have hlptwo : gtwo < w37.heap.size := World.block_lt_of_cell? _ _ ptwo_0.c0
      have hB_1 := hB_0.trans (hal.mono hB_0.size)
      have ax_1 := ax_0.below hal
      have bx_1 := bx_0.below hal
      have pa_1 := pa_0.below hal
      have pb_1 := pb_0.below hal
      have hWq_1 := hWq_0.trans (hal.mono hWq_0.size)
      have r16_1 := r16_0.below hal
      have r18_1 := r18_0.below hal
      have ptwo_1 := ptwo_0.below hal
      refine hK.out _ _ ⟨pa_1.c0, pa_1.c1, pb_1.c0, pb_1.c1⟩ (fun hHeld => ?_)
      clear hK K hHeld
      try simp only [Act.put, List.setIfInBounds_toArray, List.set_cons_zero, List.set_cons_succ]
      rw [← HWq.out]
      exact stq_2tt _ m16 ao16 n16 c16 m18 ao18 n18 c18 w37.heap.size gtwo hB_1 ax_1 bx_1 pa_1 pb_1 hWq_1 r16_1 r18_1 pone_0 ptwo_1 (by omega) (by omega) (by omega)
  try simp only [HAq.out, Act.put, List.setIfInBounds_toArray, List.set_cons_zero, List.set_cons_succ] at stq_2ft
  have stq_1tt : ∀ (w' : World) (m16 : Bool) (ao16 : Option Addr) (n16 c16 : Nat) (gone : Nat) (gtwo : Nat), Below w.heap.size w w' → Num w' (.agg #[.bool am, .slice ao an ac]) an X → Num w' (.agg #[.bool bm, .slice bo bn bc]) bn Y → Box2 w' (w.heap.size) (.bool am) (.slice ao an ac) → Box2 w' (w.heap.size + 1) (.bool bm) (.slice bo bn bc) → Below w3.heap.size w3 w' → DNum w' (.agg #[.bool m16, .slice ao16 n16 c16]) (20 * an) (X) → Box2 w' gone (.bool false) (.slice none 0 0) → Box2 w' gtwo (.bool false) (.slice none 0 0) → w3.heap.size ≤ gone → w3.heap.size ≤ gtwo → gone ≠ gtwo → WWq 3 #[true, true, true, false, true, true, false, false] (((aq.put (some 16) (.agg #[.bool m16, .slice ao16 n16 c16])).put (some 5) (.pointer (some ⟨gone, 0, none⟩))).put (some 6) (.pointer (some ⟨gtwo, 0, none⟩))) w' := by
    intro w38 m16 ao16 n16 c16 gone gtwo hB_0 ax_0 bx_0 pa_0 pb_0 hWq_0 r16_0 pone_0 ptwo_0 hgone hgtwo hnonetwo
    rw [HWq.out, HAq.out]
    try simp only [Act.put, List.setIfInBounds_toArray, List.set_cons_zero, List.set_cons_succ]
    refine reg_all1 3 ?_ (by kernel_rfl) ?_ (fun K hK => ?_)
    rotate_left 1
    · simp only [List.getElem?_toArray, List.getElem?_cons_succ, List.getElem?_cons_zero]; exact rfl
    · go_simp
      refine (of_any _ _ _ _ (by omega) bx_0).mono ?_
      rintro e w39 ⟨m18, ao18, n18, c18, rfl, r18_0, hb39⟩
      have hB_1 := hB_0.trans (hb39.mono hB_0.size)
      have ax_1 := ax_0.below hb39
      have bx_1 := bx_0.below hb39
      have pa_1 := pa_0.below hb39
      have pb_1 := pb_0.below hb39
      have hWq_1 := hWq_0.trans (hb39.mono hWq_0.size)
      have r16_1 := r16_0.below hb39
      have pone_1 := pone_0.below hb39
      have ptwo_1 := ptwo_0.below hb39
      go_wp2_with fail
      refine hK.out _ _ ⟨pa_1.c0, pa_1.c1, pb_1.c0, pb_1.c1⟩ (fun hHeld => ?_)
      clear hK K hHeld
      try simp only [Act.put, List.setIfInBounds_toArray, List.set_cons_zero, List.set_cons_succ]
      rw [← HWq.out]
      exact stq_2tt _ m16 ao16 n16 c16 m18 ao18 n18 c18 gone gtwo hB_1 ax_1 bx_1 pa_1 pb_1 hWq_1 r16_1 r18_0 pone_1 ptwo_1 (by omega) (by omega) (by omega)
  try simp only [HAq.out, Act.put, List.setIfInBounds_toArray, List.set_cons_zero, List.set_cons_succ] at stq_1tt
  have stq_2ff : ∀ (w' : World) (m16 : Bool) (ao16 : Option Addr) (n16 c16 : Nat) (m18 : Bool) (ao18 : Option Addr) (n18 c18 : Nat), Below w.heap.size w w' → Num w' (.agg #[.bool am, .slice ao an ac]) an X → Num w' (.agg #[.bool bm, .slice bo bn bc]) bn Y → Box2 w' (w.heap.size) (.bool am) (.slice ao an ac) → Box2 w' (w.heap.size + 1) (.bool bm) (.slice bo bn bc) → Below w3.heap.size w3 w' → DNum w' (.agg #[.bool m16, .slice ao16 n16 c16]) (20 * an) (X) → DNum w' (.agg #[.bool m18, .slice ao18 n18 c18]) (20 * bn) (Y) → WWq 4 #[true, true, true, true, false, false, false, false] ((aq.put (some 16) (.agg #[.bool m16, .slice ao16 n16 c16])).put (some 18) (.agg #[.bool m18, .slice ao18 n18 c18])) w' := by
    intro w40 m16 ao16 n16 c16 m18 ao18 n18 c18 hB_0 ax_0 bx_0 pa_0 pb_0 hWq_0 r16_0 r18_0
    rw [HWq.out, HAq.out]
    try simp only [Act.put, List.setIfInBounds_toArray, List.set_cons_zero, List.set_cons_succ]
    refine reg_all2 4 5 ?_ ?_ (by kernel_rfl) ?_ ?_ (fun K hK => ?_) (fun K hK => ?_)
    rotate_left 2
    · simp only [List.getElem?_toArray, List.getElem?_cons_succ, List.getElem?_cons_zero]; exact rfl
    · simp only [List.getElem?_toArray, List.getElem?_cons_succ, List.getElem?_cons_zero]; exact rfl
    · go_simp
      have hal : Below w40.heap.size w40 (w40.alloc (Obj.cells #[Value.bool false, Value.slice none 0 0] 30)) := (Below.refl _ _).alloc (Nat.le_refl _) _
      have pone_0 := alloc_box w40 (.bool false) (.slice none 0 0) 30
      have hgn : w3.heap.size ≤ w40.heap.size := hWq_0.size
      have hB_1 := hB_0.trans (hal.mono hB_0.size)
      have ax_1 := ax_0.below hal
      have bx_1 := bx_0.below hal
      have pa_1 := pa_0.below hal
      have pb_1 := pb_0.below hal
      have hWq_1 := hWq_0.trans (hal.mono hWq_0.size)
      have r16_1 := r16_0.below hal
      have r18_1 := r18_0.below hal
      refine hK.out _ _ ⟨pa_1.c0, pa_1.c1, pb_1.c0, pb_1.c1⟩ (fun hHeld => ?_)
      clear hK K hHeld
      try simp only [Act.put, List.setIfInBounds_toArray, List.set_cons_zero, List.set_cons_succ]
      rw [← HWq.out]
      exact stq_2tf _ m16 ao16 n16 c16 m18 ao18 n18 c18 w40.heap.size hB_1 ax_1 bx_1 pa_1 pb_1 hWq_1 r16_1 r18_1 pone_0 (by omega)
    · go_simp
      have hal : Below w40.heap.size w40 (w40.alloc (Obj.cells #[Value.bool false, Value.slice none 0 0] 30)) := (Below.refl _ _).alloc (Nat.le_refl _) _
      have ptwo_0 := alloc_box w40 (.bool false) (.slice none 0 0) 30
      have hgn : w3.heap.size ≤ w40.heap.size := hWq_0.size
      have hB_1 := hB_0.trans (hal.mono hB_0.size)
      have ax_1 := ax_0.below hal
      have bx_1 := bx_0.below hal
      have pa_1 := pa_0.below hal
      have pb_1 := pb_0.below hal
      have hWq_1 := hWq_0.trans (hal.mono hWq_0.size)
      have r16_1 := r16_0.below hal
      have r18_1 := r18_0.below hal
      refine hK.out _ _ ⟨pa_1.c0, pa_1.c1, pb_1.c0, pb_1.c1⟩ (fun hHeld => ?_)
      clear hK K hHeld
      try simp only [Act.put, List.setIfInBounds_toArray, List.set_cons_zero, List.set_cons_succ]
      rw [← HWq.out]
      exact stq_2ft _ m16 ao16 n16 c16 m18 ao18 n18 c18 w40.heap.size hB_1 ax_1 bx_1 pa_1 pb_1 hWq_1 r16_1 r18_1 ptwo_0 (by omega)
  try simp only [HAq.out, Act.put, List.setIfInBounds_toArray, List.set_cons_zero, List.set_cons_succ] at stq_2ff
  have stq_1tf : ∀ (w' : World) (m16 : Bool) (ao16 : Option Addr) (n16 c16 : Nat) (gone : Nat), Below w.heap.size w w' → Num w' (.agg #[.bool am, .slice ao an ac]) an X → Num w' (.agg #[.bool bm, .slice bo bn bc]) bn Y → Box2 w' (w.heap.size) (.bool am) (.slice ao an ac) → Box2 w' (w.heap.size + 1) (.bool bm) (.slice bo bn bc) → Below w3.heap.size w3 w' → DNum w' (.agg #[.bool m16, .slice ao16 n16 c16]) (20 * an) (X) → Box2 w' gone (.bool false) (.slice none 0 0) → w3.heap.size ≤ gone → WWq 4 #[true, true, true, false, true, false, false, false] ((aq.put (some 16) (.agg #[.bool m16, .slice ao16 n16 c16])).put (some 5) (.pointer (some ⟨gone, 0, none⟩))) w' := by
    intro w41 m16 ao16 n16 c16 gone hB_0 ax_0 bx_0 pa_0 pb_0 hWq_0 r16_0 pone_0 hgone
    rw [HWq.out, HAq.out]
    try simp only [Act.put, List.setIfInBounds_toArray, List.set_cons_zero, List.set_cons_succ]
    refine reg_all2 3 5 ?_ ?_ (by kernel_rfl) ?_ ?_ (fun K hK => ?_) (fun K hK => ?_)
    rotate_left 2
    · simp only [List.getElem?_toArray, List.getElem?_cons_succ, List.getElem?_cons_zero]; exact rfl
    · simp only [List.getElem?_toArray, List.getElem?_cons_succ, List.getElem?_cons_zero]; exact rfl
    · go_simp
      refine (of_any _ _ _ _ (by omega) bx_0).mono ?_
      rintro e w42 ⟨m18, ao18, n18, c18, rfl, r18_0, hb42⟩
      have hB_1 := hB_0.trans (hb42.mono hB_0.size)
      have ax_1 := ax_0.below hb42
      have bx_1 := bx_0.below hb42
      have pa_1 := pa_0.below hb42
      have pb_1 := pb_0.below hb42
      have hWq_1 := hWq_0.trans (hb42.mono hWq_0.size)
      have r16_1 := r16_0.below hb42
      have pone_1 := pone_0.below hb42
      go_wp2_with fail
      refine hK.out _ _ ⟨pa_1.c0, pa_1.c1, pb_1.c0, pb_1.c1⟩ (fun hHeld => ?_)
      clear hK K hHeld
      try simp only [Act.put, List.setIfInBounds_toArray, List.set_cons_zero, List.set_cons_succ]
      rw [← HWq.out]
      exact stq_2tf _ m16 ao16 n16 c16 m18 ao18 n18 c18 gone hB_1 ax_1 bx_1 pa_1 pb_1 hWq_1 r16_1 r18_0 pone_1 (by omega)
    · go_simp
      have hal : Below w41.heap.size w41 (w41.alloc (Obj.cells #[Value.bool false, Value.slice none 0 0] 30)) := (Below.refl _ _).alloc (Nat.le_refl _) _
      have ptwo_0 := alloc_box w41 (.bool false) (.slice none 0 0) 30
      have hgn : w3.heap.size ≤ w41.heap.size := hWq_0.size
      have hlpone : gone < w41.heap.size := World.block_lt_of_cell? _ _ pone_0.c0
      have hB_1 := hB_0.trans (hal.mono hB_0.size)
      have ax_1 := ax_0.below hal
      have bx_1 := bx_0.below hal
      have pa_1 := pa_0.below hal
      have pb_1 := pb_0.below hal
      have hWq_1 := hWq_0.trans (hal.mono hWq_0.size)
      have r16_1 := r16_0.below hal
      have pone_1 := pone_0.below hal
      refine hK.out _ _ ⟨pa_1.c0, pa_1.c1, pb_1.c0, pb_1.c1⟩ (fun hHeld => ?_)
      clear hK K hHeld
      try simp only [Act.put, List.setIfInBounds_toArray, List.set_cons_zero, List.set_cons_succ]
      rw [← HWq.out]
      exact stq_1tt _ m16 ao16 n16 c16 gone w41.heap.size hB_1 ax_1 bx_1 pa_1 pb_1 hWq_1 r16_1 pone_1 ptwo_0 (by omega) (by omega) (by omega)
  try simp only [HAq.out, Act.put, List.setIfInBounds_toArray, List.set_cons_zero, List.set_cons_succ] at stq_1tf
  have stq_1ft : ∀ (w' : World) (m16 : Bool) (ao16 : Option Addr) (n16 c16 : Nat) (gtwo : Nat), Below w.heap.size w w' → Num w' (.agg #[.bool am, .slice ao an ac]) an X → Num w' (.agg #[.bool bm, .slice bo bn bc]) bn Y → Box2 w' (w.heap.size) (.bool am) (.slice ao an ac) → Box2 w' (w.heap.size + 1) (.bool bm) (.slice bo bn bc) → Below w3.heap.size w3 w' → DNum w' (.agg #[.bool m16, .slice ao16 n16 c16]) (20 * an) (X) → Box2 w' gtwo (.bool false) (.slice none 0 0) → w3.heap.size ≤ gtwo → WWq 4 #[true, true, true, false, false, true, false, false] ((aq.put (some 16) (.agg #[.bool m16, .slice ao16 n16 c16])).put (some 6) (.pointer (some ⟨gtwo, 0, none⟩))) w' := by
    intro w43 m16 ao16 n16 c16 gtwo hB_0 ax_0 bx_0 pa_0 pb_0 hWq_0 r16_0 ptwo_0 hgtwo
    rw [HWq.out, HAq.out]
    try simp only [Act.put, List.setIfInBounds_toArray, List.set_cons_zero, List.set_cons_succ]
    refine reg_all2 3 4 ?_ ?_ (by kernel_rfl) ?_ ?_ (fun K hK => ?_) (fun K hK => ?_)
    rotate_left 2
    · simp only [List.getElem?_toArray, List.getElem?_cons_succ, List.getElem?_cons_zero]; exact rfl
    · simp only [List.getElem?_toArray, List.getElem?_cons_succ, List.getElem?_cons_zero]; exact rfl
    · go_simp
      refine (of_any _ _ _ _ (by omega) bx_0).mono ?_
      rintro e w44 ⟨m18, ao18, n18, c18, rfl, r18_0, hb44⟩
      have hB_1 := hB_0.trans (hb44.mono hB_0.size)
      have ax_1 := ax_0.below hb44
      have bx_1 := bx_0.below hb44
      have pa_1 := pa_0.below hb44
      have pb_1 := pb_0.below hb44
      have hWq_1 := hWq_0.trans (hb44.mono hWq_0.size)
      have r16_1 := r16_0.below hb44
      have ptwo_1 := ptwo_0.below hb44
      go_wp2_with fail
      refine hK.out _ _ ⟨pa_1.c0, pa_1.c1, pb_1.c0, pb_1.c1⟩ (fun hHeld => ?_)
      clear hK K hHeld
      try simp only [Act.put, List.setIfInBounds_toArray, List.set_cons_zero, List.set_cons_succ]
      rw [← HWq.out]
      exact stq_2ft _ m16 ao16 n16 c16 m18 ao18 n18 c18 gtwo hB_1 ax_1 bx_1 pa_1 pb_1 hWq_1 r16_1 r18_0 ptwo_1 (by omega)
    · go_simp
      have hal : Below w43.heap.size w43 (w43.alloc (Obj.cells #[Value.bool false, Value.slice none 0 0] 30)) := (Below.refl _ _).alloc (Nat.le_refl _) _
      have pone_0 := alloc_box w43 (.bool false) (.slice none 0 0) 30
      have hgn : w3.heap.size ≤ w43.heap.size := hWq_0.size
      have hlptwo : gtwo < w43.heap.size := World.block_lt_of_cell? _ _ ptwo_0.c0
      have hB_1 := hB_0.trans (hal.mono hB_0.size)
      have ax_1 := ax_0.below hal
      have bx_1 := bx_0.below hal
      have pa_1 := pa_0.below hal
      have pb_1 := pb_0.below hal
      have hWq_1 := hWq_0.trans (hal.mono hWq_0.size)
      have r16_1 := r16_0.below hal
      have ptwo_1 := ptwo_0.below hal
      refine hK.out _ _ ⟨pa_1.c0, pa_1.c1, pb_1.c0, pb_1.c1⟩ (fun hHeld => ?_)
      clear hK K hHeld
      try simp only [Act.put, List.setIfInBounds_toArray, List.set_cons_zero, List.set_cons_succ]
      rw [← HWq.out]
      exact stq_1tt _ m16 ao16 n16 c16 w43.heap.size gtwo hB_1 ax_1 bx_1 pa_1 pb_1 hWq_1 r16_1 pone_0 ptwo_1 (by omega) (by omega) (by omega)
  try simp only [HAq.out, Act.put, List.setIfInBounds_toArray, List.set_cons_zero, List.set_cons_succ] at stq_1ft
  have stq_0tt : ∀ (w' : World) (gone : Nat) (gtwo : Nat), Below w.heap.size w w' → Num w' (.agg #[.bool am, .slice ao an ac]) an X → Num w' (.agg #[.bool bm, .slice bo bn bc]) bn Y → Box2 w' (w.heap.size) (.bool am) (.slice ao an ac) → Box2 w' (w.heap.size + 1) (.bool bm) (.slice bo bn bc) → Below w3.heap.size w3 w' → Box2 w' gone (.bool false) (.slice none 0 0) → Box2 w' gtwo (.bool false) (.slice none 0 0) → w3.heap.size ≤ gone → w3.heap.size ≤ gtwo → gone ≠ gtwo → WWq 4 #[true, false, true, false, true, true, false, false] ((aq.put (some 5) (.pointer (some ⟨gone, 0, none⟩))).put (some 6) (.pointer (some ⟨gtwo, 0, none⟩))) w' := by
    intro w45 gone gtwo hB_0 ax_0 bx_0 pa_0 pb_0 hWq_0 pone_0 ptwo_0 hgone hgtwo hnonetwo
    rw [HWq.out, HAq.out]
    try simp only [Act.put, List.setIfInBounds_toArray, List.set_cons_zero, List.set_cons_succ]
    refine reg_all1 1 ?_ (by kernel_rfl) ?_ (fun K hK => ?_)
    rotate_left 1
    · simp only [List.getElem?_toArray, List.getElem?_cons_succ, List.getElem?_cons_zero]; exact rfl
    · go_simp
      refine (of_any _ _ _ _ (by omega) ax_0).mono ?_
      rintro e w46 ⟨m16, ao16, n16, c16, rfl, r16_0, hb46⟩
      have hB_1 := hB_0.trans (hb46.mono hB_0.size)
      have ax_1 := ax_0.below hb46
      have bx_1 := bx_0.below hb46
      have pa_1 := pa_0.below hb46
      have pb_1 := pb_0.below hb46
      have hWq_1 := hWq_0.trans (hb46.mono hWq_0.size)
      have pone_1 := pone_0.below hb46
      have ptwo_1 := ptwo_0.below hb46
      go_wp2_with fail
      refine hK.out _ _ ⟨pa_1.c0, pa_1.c1, pb_1.c0, pb_1.c1⟩ (fun hHeld => ?_)
      clear hK K hHeld
      try simp only [Act.put, List.setIfInBounds_toArray, List.set_cons_zero, List.set_cons_succ]
      rw [← HWq.out]
      exact stq_1tt _ m16 ao16 n16 c16 gone gtwo hB_1 ax_1 bx_1 pa_1 pb_1 hWq_1 r16_0 pone_1 ptwo_1 (by omega) (by omega) (by omega)
  try simp only [HAq.out, Act.put, List.setIfInBounds_toArray, List.set_cons_zero, List.set_cons_succ] at stq_0tt
  have stq_1ff : ∀ (w' : World) (m16 : Bool) (ao16 : Option Addr) (n16 c16 : Nat), Below w.heap.size w w' → Num w' (.agg #[.bool am, .slice ao an ac]) an X → Num w' (.agg #[.bool bm, .slice bo bn bc]) bn Y → Box2 w' (w.heap.size) (.bool am) (.slice ao an ac) → Box2 w' (w.heap.size + 1) (.bool bm) (.slice bo bn bc) → Below w3.heap.size w3 w' → DNum w' (.agg #[.bool m16, .slice ao16 n16 c16]) (20 * an) (X) → WWq 5 #[true, true, true, false, false, false, false, false] (aq.put (some 16) (.agg #[.bool m16, .slice ao16 n16 c16])) w' := by
    intro w47 m16 ao16 n16 c16 hB_0 ax_0 bx_0 pa_0 pb_0 hWq_0 r16_0
    rw [HWq.out, HAq.out]
    try simp only [Act.put, List.setIfInBounds_toArray, List.set_cons_zero, List.set_cons_succ]
    refine reg_all3 3 4 5 ?_ ?_ ?_ (by kernel_rfl) ?_ ?_ ?_ (fun K hK => ?_) (fun K hK => ?_) (fun K hK => ?_)
    rotate_left 3
    · simp only [List.getElem?_toArray, List.getElem?_cons_succ, List.getElem?_cons_zero]; exact rfl
    · simp only [List.getElem?_toArray, List.getElem?_cons_succ, List.getElem?_cons_zero]; exact rfl
    · simp only [List.getElem?_toArray, List.getElem?_cons_succ, List.getElem?_cons_zero]; exact rfl
    · go_simp
      refine (of_any _ _ _ _ (by omega) bx_0).mono ?_
      rintro e w48 ⟨m18, ao18, n18, c18, rfl, r18_0, hb48⟩
      have hB_1 := hB_0.trans (hb48.mono hB_0.size)
      have ax_1 := ax_0.below hb48
      have bx_1 := bx_0.below hb48
      have pa_1 := pa_0.below hb48
      have pb_1 := pb_0.below hb48
      have hWq_1 := hWq_0.trans (hb48.mono hWq_0.size)
      have r16_1 := r16_0.below hb48
      go_wp2_with fail
      refine hK.out _ _ ⟨pa_1.c0, pa_1.c1, pb_1.c0, pb_1.c1⟩ (fun hHeld => ?_)
      clear hK K hHeld
      try simp only [Act.put, List.setIfInBounds_toArray, List.set_cons_zero, List.set_cons_succ]
      rw [← HWq.out]
      exact stq_2ff _ m16 ao16 n16 c16 m18 ao18 n18 c18 hB_1 ax_1 bx_1 pa_1 pb_1 hWq_1 r16_1 r18_0
    · go_simp
      have hal : Below w47.heap.size w47 (w47.alloc (Obj.cells #[Value.bool false, Value.slice none 0 0] 30)) := (Below.refl _ _).alloc (Nat.le_refl _) _
      have pone_0 := alloc_box w47 (.bool false) (.slice none 0 0) 30
      have hgn : w3.heap.size ≤ w47.heap.size := hWq_0.size
      have hB_1 := hB_0.trans (hal.mono hB_0.size)
      have ax_1 := ax_0.below hal
      have bx_1 := bx_0.below hal
      have pa_1 := pa_0.below hal
      have pb_1 := pb_0.below hal
      have hWq_1 := hWq_0.trans (hal.mono hWq_0.size)
      have r16_1 := r16_0.below hal
      refine hK.out _ _ ⟨pa_1.c0, pa_1.c1, pb_1.c0, pb_1.c1⟩ (fun hHeld => ?_)
      clear hK K hHeld
      try simp only [Act.put, List.setIfInBounds_toArray, List.set_cons_zero, List.set_cons_succ]
      rw [← HWq.out]
      exact stq_1tf _ m16 ao16 n16 c16 w47.heap.size hB_1 ax_1 bx_1 pa_1 pb_1 hWq_1 r16_1 pone_0 (by omega)
    · go_simp
      have hal : Below w47.heap.size w47 (w47.alloc (Obj.cells #[Value.bool false, Value.slice none 0 0] 30)) := (Below.refl _ _).alloc (Nat.le_refl _) _
      have ptwo_0 := alloc_box w47 (.bool false) (.slice none 0 0) 30
      have hgn : w3.heap.size ≤ w47.heap.size := hWq_0.size
      have hB_1 := hB_0.trans (hal.mono hB_0.size)
      have ax_1 := ax_0.below hal
      have bx_1 := bx_0.below hal
      have pa_1 := pa_0.below hal
      have pb_1 := pb_0.below hal
      have hWq_1 := hWq_0.trans (hal.mono hWq_0.size)
      have r16_1 := r16_0.below hal
      refine hK.out _ _ ⟨pa_1.c0, pa_1.c1, pb_1.c0, pb_1.c1⟩ (fun hHeld => ?_)
      clear hK K hHeld
      try simp only [Act.put, List.setIfInBounds_toArray, List.set_cons_zero, List.set_cons_succ]
      rw [← HWq.out]
      exact stq_1ft _ m16 ao16 n16 c16 w47.heap.size hB_1 ax_1 bx_1 pa_1 pb_1 hWq_1 r16_1 ptwo_0 (by omega)
  try simp only [HAq.out, Act.put, List.setIfInBounds_toArray, List.set_cons_zero, List.set_cons_succ] at stq_1ff
  have stq_0tf : ∀ (w' : World) (gone : Nat), Below w.heap.size w w' → Num w' (.agg #[.bool am, .slice ao an ac]) an X → Num w' (.agg #[.bool bm, .slice bo bn bc]) bn Y → Box2 w' (w.heap.size) (.bool am) (.slice ao an ac) → Box2 w' (w.heap.size + 1) (.bool bm) (.slice bo bn bc) → Below w3.heap.size w3 w' → Box2 w' gone (.bool false) (.slice none 0 0) → w3.heap.size ≤ gone → WWq 5 #[true, false, true, false, true, false, false, false] (aq.put (some 5) (.pointer (some ⟨gone, 0, none⟩))) w' := by
    intro w49 gone hB_0 ax_0 bx_0 pa_0 pb_0 hWq_0 pone_0 hgone
    rw [HWq.out, HAq.out]
    try simp only [Act.put, List.setIfInBounds_toArray, List.set_cons_zero, List.set_cons_succ]
    refine reg_all2 1 5 ?_ ?_ (by kernel_rfl) ?_ ?_ (fun K hK => ?_) (fun K hK => ?_)
    rotate_left 2
    · simp only [List.getElem?_toArray, List.getElem?_cons_succ, List.getElem?_cons_zero]; exact rfl
    · simp only [List.getElem?_toArray, List.getElem?_cons_succ, List.getElem?_cons_zero]; exact rfl
    · go_simp
      refine (of_any _ _ _ _ (by omega) ax_0).mono ?_
      rintro e w50 ⟨m16, ao16, n16, c16, rfl, r16_0, hb50⟩
      have hB_1 := hB_0.trans (hb50.mono hB_0.size)
      have ax_1 := ax_0.below hb50
      have bx_1 := bx_0.below hb50
      have pa_1 := pa_0.below hb50
      have pb_1 := pb_0.below hb50
      have hWq_1 := hWq_0.trans (hb50.mono hWq_0.size)
      have pone_1 := pone_0.below hb50
      go_wp2_with fail
      refine hK.out _ _ ⟨pa_1.c0, pa_1.c1, pb_1.c0, pb_1.c1⟩ (fun hHeld => ?_)
      clear hK K hHeld
      try simp only [Act.put, List.setIfInBounds_toArray, List.set_cons_zero, List.set_cons_succ]
      rw [← HWq.out]
      exact stq_1tf _ m16 ao16 n16 c16 gone hB_1 ax_1 bx_1 pa_1 pb_1 hWq_1 r16_0 pone_1 (by omega)
    · go_simp
      have hal : Below w49.heap.size w49 (w49.alloc (Obj.cells #[Value.bool false, Value.slice none 0 0] 30)) := (Below.refl _ _).alloc (Nat.le_refl _) _
      have ptwo_0 := alloc_box w49 (.bool false) (.slice none 0 0) 30
      have hgn : w3.heap.size ≤ w49.heap.size := hWq_0.size
      have hlpone : gone < w49.heap.size := World.block_lt_of_cell? _ _ pone_0.c0
      have hB_1 := hB_0.trans (hal.mono hB_0.size)
      have ax_1 := ax_0.below hal
      have bx_1 := bx_0.below hal
      have pa_1 := pa_0.below hal
      have pb_1 := pb_0.below hal
      have hWq_1 := hWq_0.trans (hal.mono hWq_0.size)
      have pone_1 := pone_0.below hal
      refine hK.out _ _ ⟨pa_1.c0, pa_1.c1, pb_1.c0, pb_1.c1⟩ (fun hHeld => ?_)
      clear hK K hHeld
      try simp only [Act.put, List.setIfInBounds_toArray, List.set_cons_zero, List.set_cons_succ]
      rw [← HWq.out]
      exact stq_0tt _ gone w49.heap.size hB_1 ax_1 bx_1 pa_1 pb_1 hWq_1 pone_1 ptwo_0 (by omega) (by omega) (by omega)
  try simp only [HAq.out, Act.put, List.setIfInBounds_toArray, List.set_cons_zero, List.set_cons_succ] at stq_0tf
  have stq_0ft : ∀ (w' : World) (gtwo : Nat), Below w.heap.size w w' → Num w' (.agg #[.bool am, .slice ao an ac]) an X → Num w' (.agg #[.bool bm, .slice bo bn bc]) bn Y → Box2 w' (w.heap.size) (.bool am) (.slice ao an ac) → Box2 w' (w.heap.size + 1) (.bool bm) (.slice bo bn bc) → Below w3.heap.size w3 w' → Box2 w' gtwo (.bool false) (.slice none 0 0) → w3.heap.size ≤ gtwo → WWq 5 #[true, false, true, false, false, true, false, false] (aq.put (some 6) (.pointer (some ⟨gtwo, 0, none⟩))) w' := by
    intro w51 gtwo hB_0 ax_0 bx_0 pa_0 pb_0 hWq_0 ptwo_0 hgtwo
    rw [HWq.out, HAq.out]
    try simp only [Act.put, List.setIfInBounds_toArray, List.set_cons_zero, List.set_cons_succ]
    refine reg_all2 1 4 ?_ ?_ (by kernel_rfl) ?_ ?_ (fun K hK => ?_) (fun K hK => ?_)
    rotate_left 2
    · simp only [List.getElem?_toArray, List.getElem?_cons_succ, List.getElem?_cons_zero]; exact rfl
    · simp only [List.getElem?_toArray, List.getElem?_cons_succ, List.getElem?_cons_zero]; exact rfl
    · go_simp
      refine (of_any _ _ _ _ (by omega) ax_0).mono ?_
      rintro e w52 ⟨m16, ao16, n16, c16, rfl, r16_0, hb52⟩
      have hB_1 := hB_0.trans (hb52.mono hB_0.size)
      have ax_1 := ax_0.below hb52
      have bx_1 := bx_0.below hb52
      have pa_1 := pa_0.below hb52
      have pb_1 := pb_0.below hb52
      have hWq_1 := hWq_0.trans (hb52.mono hWq_0.size)
      have ptwo_1 := ptwo_0.below hb52
      go_wp2_with fail
      refine hK.out _ _ ⟨pa_1.c0, pa_1.c1, pb_1.c0, pb_1.c1⟩ (fun hHeld => ?_)
      clear hK K hHeld
      try simp only [Act.put, List.setIfInBounds_toArray, List.set_cons_zero, List.set_cons_succ]
      rw [← HWq.out]
      exact stq_1ft _ m16 ao16 n16 c16 gtwo hB_1 ax_1 bx_1 pa_1 pb_1 hWq_1 r16_0 ptwo_1 (by omega)
    · go_simp
      have hal : Below w51.heap.size w51 (w51.alloc (Obj.cells #[Value.bool false, Value.slice none 0 0] 30)) := (Below.refl _ _).alloc (Nat.le_refl _) _
      have pone_0 := alloc_box w51 (.bool false) (.slice none 0 0) 30
      have hgn : w3.heap.size ≤ w51.heap.size := hWq_0.size
      have hlptwo : gtwo < w51.heap.size := World.block_lt_of_cell? _ _ ptwo_0.c0
      have hB_1 := hB_0.trans (hal.mono hB_0.size)
      have ax_1 := ax_0.below hal
      have bx_1 := bx_0.below hal
      have pa_1 := pa_0.below hal
      have pb_1 := pb_0.below hal
      have hWq_1 := hWq_0.trans (hal.mono hWq_0.size)
      have ptwo_1 := ptwo_0.below hal
      refine hK.out _ _ ⟨pa_1.c0, pa_1.c1, pb_1.c0, pb_1.c1⟩ (fun hHeld => ?_)
      clear hK K hHeld
      try simp only [Act.put, List.setIfInBounds_toArray, List.set_cons_zero, List.set_cons_succ]
      rw [← HWq.out]
      exact stq_0tt _ w51.heap.size gtwo hB_1 ax_1 bx_1 pa_1 pb_1 hWq_1 pone_0 ptwo_1 (by omega) (by omega) (by omega)
  try simp only [HAq.out, Act.put, List.setIfInBounds_toArray, List.set_cons_zero, List.set_cons_succ] at stq_0ft
  have stq_0ff : ∀ (w' : World), Below w.heap.size w w' → Num w' (.agg #[.bool am, .slice ao an ac]) an X → Num w' (.agg #[.bool bm, .slice bo bn bc]) bn Y → Box2 w' (w.heap.size) (.bool am) (.slice ao an ac) → Box2 w' (w.heap.size + 1) (.bool bm) (.slice bo bn bc) → Below w3.heap.size w3 w' → WWq 6 #[true, false, true, false, false, false, false, false] aq w' := by
    intro w53 hB_0 ax_0 bx_0 pa_0 pb_0 hWq_0
    rw [HWq.out, HAq.out]
    try simp only [Act.put, List.setIfInBounds_toArray, List.set_cons_zero, List.set_cons_succ]
    refine reg_all3 1 4 5 ?_ ?_ ?_ (by kernel_rfl) ?_ ?_ ?_ (fun K hK => ?_) (fun K hK => ?_) (fun K hK => ?_)
    rotate_left 3
    · simp only [List.getElem?_toArray, List.getElem?_cons_succ, List.getElem?_cons_zero]; exact rfl
    · simp only [List.getElem?_toArray, List.getElem?_cons_succ, List.getElem?_cons_zero]; exact rfl
    · simp only [List.getElem?_toArray, List.getElem?_cons_succ, List.getElem?_cons_zero]; exact rfl
    · go_simp
      refine (of_any _ _ _ _ (by omega) ax_0).mono ?_
      rintro e w54 ⟨m16, ao16, n16, c16, rfl, r16_0, hb54⟩
      have hB_1 := hB_0.trans (hb54.mono hB_0.size)
      have ax_1 := ax_0.below hb54
      have bx_1 := bx_0.below hb54
      have pa_1 := pa_0.below hb54
      have pb_1 := pb_0.below hb54
      have hWq_1 := hWq_0.trans (hb54.mono hWq_0.size)
      go_wp2_with fail
      refine hK.out _ _ ⟨pa_1.c0, pa_1.c1, pb_1.c0, pb_1.c1⟩ (fun hHeld => ?_)
      clear hK K hHeld
      try simp only [Act.put, List.setIfInBounds_toArray, List.set_cons_zero, List.set_cons_succ]
      rw [← HWq.out]
      exact stq_1ff _ m16 ao16 n16 c16 hB_1 ax_1 bx_1 pa_1 pb_1 hWq_1 r16_0
    · go_simp
      have hal : Below w53.heap.size w53 (w53.alloc (Obj.cells #[Value.bool false, Value.slice none 0 0] 30)) := (Below.refl _ _).alloc (Nat.le_refl _) _
      have pone_0 := alloc_box w53 (.bool false) (.slice none 0 0) 30
      have hgn : w3.heap.size ≤ w53.heap.size := hWq_0.size
      have hB_1 := hB_0.trans (hal.mono hB_0.size)
      have ax_1 := ax_0.below hal
      have bx_1 := bx_0.below hal
      have pa_1 := pa_0.below hal
      have pb_1 := pb_0.below hal
      have hWq_1 := hWq_0.trans (hal.mono hWq_0.size)
      refine hK.out _ _ ⟨pa_1.c0, pa_1.c1, pb_1.c0, pb_1.c1⟩ (fun hHeld => ?_)
      clear hK K hHeld
      try simp only [Act.put, List.setIfInBounds_toArray, List.set_cons_zero, List.set_cons_succ]
      rw [← HWq.out]
      exact stq_0tf _ w53.heap.size hB_1 ax_1 bx_1 pa_1 pb_1 hWq_1 pone_0 (by omega)
    · go_simp
      have hal : Below w53.heap.size w53 (w53.alloc (Obj.cells #[Value.bool false, Value.slice none 0 0] 30)) := (Below.refl _ _).alloc (Nat.le_refl _) _
      have ptwo_0 := alloc_box w53 (.bool false) (.slice none 0 0) 30
      have hgn : w3.heap.size ≤ w53.heap.size := hWq_0.size
      have hB_1 := hB_0.trans (hal.mono hB_0.size)
      have ax_1 := ax_0.below hal
      have bx_1 := bx_0.below hal
      have pa_1 := pa_0.below hal
      have pb_1 := pb_0.below hal
      have hWq_1 := hWq_0.trans (hal.mono hWq_0.size)
      refine hK.out _ _ ⟨pa_1.c0, pa_1.c1, pb_1.c0, pb_1.c1⟩ (fun hHeld => ?_)
      clear hK K hHeld
      try simp only [Act.put, List.setIfInBounds_toArray, List.set_cons_zero, List.set_cons_succ]
      rw [← HWq.out]
      exact stq_0ft _ w53.heap.size hB_1 ax_1 bx_1 pa_1 pb_1 hWq_1 ptwo_0 (by omega)
  skip
  exact stq_0ff _ hB_4 ax_4 bx_4 pa_3 pb_3 hWq_1
end Go.Proofs.Ytbfdianmbpfjmaa
