/- The statements' Build. -/
import Derived.Test.YtecnnpkpgbbfkaaParto
import Derived.Test.YtecnnpkpgbbfkaaPartk
import Derived.Test.YtecnnpkpgbbfkaaPartm
import Derived.Test.YtecnnpkpgbbfkaaSpotR
namespace Go.Proofs.Ytecnnpkpgbbfkaa
open Go.RowKit Go.MagM
theorem infoE2 : (Try.prog.info? 22).map (fun i => (i.zero, i.size, i.bytes)) = some (some (.agg #[.int .i64 0, .int .i64 0]), 2, 16) := by kernel_rfl
set_option maxRecDepth 100000 in
set_option maxHeartbeats 16000000 in
theorem Build_any (F : Int → Int → Bool) (T : List (Nat × Nat × Nat)) (a b c fb trb tn tc sb n sc : Nat) (P : List (Int × Int)) (w : World) (g : Go.MagM.Good T) (h1 : T[0]? = some (a, b, c)) (hz : turnM P (a : Int) (b : Int) (c : Int) = 1) (hTl : T.length = tn) (hTs : tn ≤ 1000) (hTp : ∀ x, x ∈ T → x.1 < P.length ∧ x.2.1 < P.length ∧ x.2.2 < P.length)
    (htr : TrIn w trb (T.map realV)) (hf : FaultMap Try.prog 22 w fb F) (hn : P.length = n) (h0 : 0 < n) (hn9 : n ≤ 1000000) (hP : InPs P) (hc : PtsC w sb P) (hbd : 0 < (borderT T).length) (hbn : (borderT T).length ≤ 1000) (hbp : ∀ e, e ∈ borderT T → e.1 < P.length ∧ e.2 < P.length) :
    Calls Try.prog 18 #[.slice (some ⟨sb, 0, none⟩) n sc, .slice (some ⟨trb, 0, none⟩) tn tc, .map (some fb)] w fun e w' => ∃ mb, e = .returned (.pointer (some ⟨mb, 0, none⟩)) ∧ BuildEnd 62 49 F w.heap.size P T mb w' ∧ Below w.heap.size w w' := by
  obtain ⟨w1, hw1, pf_0, hB_0, hs1⟩ := new_box w _ rfl [.map (some fb)] 64
  have G := Lib.hid g; have HT1 := Lib.hid h1; have HTL := Lib.hid hTl; have HTP := Lib.hid hTp; have HTR := Lib.hid htr; have HF := Lib.hid hf; have HPS := Lib.hid hP; have HBD := Lib.hid hbd; have HBN := Lib.hid hbn; have HBP := Lib.hid hbp
  obtain ⟨ca, cb, cc⟩ := htr 0 (a : Int) (b : Int) (c : Int) (by rw [List.getElem?_map, h1]; rfl)
  have tn0 : (0 : Int) < (tn : Int) := by have := (List.getElem?_eq_some_iff.1 h1).1; omega
  have tn1 : 0 < tn := by omega
  have qt_0 : Ats3 w1 trb (0 * 3) (.int .i64 (a : Int)) (.int .i64 (b : Int)) (.int .i64 (c : Int)) := Ats3.below ⟨ca, cb, cc⟩ hB_0
  have pp_0 := hc.below hB_0
  have HZ := Lib.hid hz; have HNN := Lib.hid hn; have HN0 := Lib.hid h0; have HN9 := Lib.hid hn9
  have hltp := pf_0.lt
  have hgb1 := World.block_lt_of_cell? w1 _ qt_0.c0
  simp only at hgb1
  have hgb2 : sb < w1.heap.size := by
    obtain ⟨x, y, hx⟩ : ∃ x y, P[0]? = some (x, y) := ⟨(P[0]'(by omega)).1, (P[0]'(by omega)).2, List.getElem?_eq_getElem (by omega)⟩
    have := World.block_lt_of_cell? w1 _ (pp_0.c _ _ (ptsCells_get P 0 x y hx).1)
    exact this
  clear g h1 hTl hTp htr hf hP hc hz hn h0 hn9 ca cb cc hbd hbn hbp
  go_enter Try.func18, Try.ntmps18
  go_wp2
  clear hw1
  have hWq_0 := Below.refl w1.heap.size w1
  have hsq : w.heap.size ≤ w1.heap.size := hB_0.size
  have hlqpf := pf_0.lt
  have hB_1 := hB_0.drew'
  have pf_1 := pf_0.drew
  have qt_1 := qt_0.drew
  have pp_1 := pp_0.drew
  have hWq_1 := hWq_0.drew'
  clear hB_0 pf_0 qt_0 pp_0 hWq_0
  refine wp_region_noPanic ?_
  refine wp_region_held_drew (S := fun w' => w'.cell? ⟨trb, 0 * 3, none⟩ = some (.int .i64 (a : Int)) ∧ w'.cell? ⟨trb, 0 * 3 + 1, none⟩ = some (.int .i64 (b : Int)) ∧ w'.cell? ⟨trb, 0 * 3 + 2, none⟩ = some (.int .i64 (c : Int))) (by kernel_rfl) (⟨qt_1.c0, qt_1.c1, qt_1.c2⟩) (fun hHeld => ?_)
  refine reg_take 0 ?_ ?_ ?_ (by kernel_rfl) (by kernel_rfl) (by kernel_rfl) (fun _ _ _ h => h) ?_ ?_ (by assumption) ?_
  rotate_left 2
  · simp only [List.getElem?_toArray, List.getElem?_cons_zero]; exact rfl
  · rfl
  · intro w hSw; (try dsimp only at hSw); go_simp; try with_reducible rfl
  try simp only [Act.put]
  try simp only [List.setIfInBounds_toArray, List.set_cons_zero, List.set_cons_succ]
  refine reg_take 1 ?_ ?_ ?_ (by kernel_rfl) (by kernel_rfl) (by kernel_rfl) (fun _ _ _ h => h) ?_ ?_ (by assumption) ?_
  rotate_left 2
  · simp only [List.getElem?_toArray, List.getElem?_cons_succ, List.getElem?_cons_zero]; exact rfl
  · rfl
  · intro w hSw; (try dsimp only at hSw); go_simp; try with_reducible rfl
  try simp only [Act.put]
  try simp only [List.setIfInBounds_toArray, List.set_cons_zero, List.set_cons_succ]
  refine reg_take 2 ?_ ?_ ?_ (by kernel_rfl) (by kernel_rfl) (by kernel_rfl) (fun _ _ _ h => h) ?_ ?_ (by assumption) ?_
  rotate_left 2
  · simp only [List.getElem?_toArray, List.getElem?_cons_succ, List.getElem?_cons_zero]; exact rfl
  · rfl
  · intro w hSw; (try dsimp only at hSw); go_simp; try with_reducible rfl
  try simp only [Act.put]
  try simp only [List.setIfInBounds_toArray, List.set_cons_zero, List.set_cons_succ]
  refine reg_take 3 ?_ ?_ ?_ (by kernel_rfl) (by kernel_rfl) (by kernel_rfl) (fun _ _ _ h => h) ?_ ?_ (by assumption) ?_
  rotate_left 2
  · simp only [List.getElem?_toArray, List.getElem?_cons_succ, List.getElem?_cons_zero]; exact rfl
  · rfl
  · intro w hSw; (try dsimp only at hSw); go_simp; try with_reducible rfl
  try simp only [Act.put]
  try simp only [List.setIfInBounds_toArray, List.set_cons_zero, List.set_cons_succ]
  refine reg_take 4 ?_ ?_ ?_ (by kernel_rfl) (by kernel_rfl) (by kernel_rfl) (fun _ _ _ h => h) ?_ ?_ (by assumption) ?_
  rotate_left 2
  · simp only [List.getElem?_toArray, List.getElem?_cons_succ, List.getElem?_cons_zero]; exact rfl
  · rfl
  · intro w hSw; (try dsimp only at hSw); go_simp; try with_reducible rfl
  try simp only [Act.put]
  try simp only [List.setIfInBounds_toArray, List.set_cons_zero, List.set_cons_succ]
  refine reg_take 5 ?_ ?_ ?_ (by kernel_rfl) (by kernel_rfl) (by kernel_rfl) (fun _ _ _ h => h) ?_ ?_ (by assumption) ?_
  rotate_left 2
  · simp only [List.getElem?_toArray, List.getElem?_cons_succ, List.getElem?_cons_zero]; exact rfl
  · rfl
  · intro w hSw; (try dsimp only at hSw); go_simp; try with_reducible rfl
  try simp only [Act.put]
  try simp only [List.setIfInBounds_toArray, List.set_cons_zero, List.set_cons_succ]
  refine reg_take 6 ?_ ?_ ?_ (by kernel_rfl) (by kernel_rfl) (by kernel_rfl) (fun _ _ _ h => h) ?_ ?_ (by assumption) ?_
  rotate_left 2
  · simp only [List.getElem?_toArray, List.getElem?_cons_succ, List.getElem?_cons_zero]; exact rfl
  · rfl
  · intro w hSw; (try dsimp only at hSw); go_simp; try with_reducible rfl
  try simp only [Act.put]
  try simp only [List.setIfInBounds_toArray, List.set_cons_zero, List.set_cons_succ]
  refine reg_take 7 ?_ ?_ ?_ (by kernel_rfl) (by kernel_rfl) (by kernel_rfl) (fun _ _ _ h => h) ?_ ?_ (by assumption) ?_
  rotate_left 2
  · simp only [List.getElem?_toArray, List.getElem?_cons_succ, List.getElem?_cons_zero]; exact rfl
  · rfl
  · intro w hSw; (try dsimp only at hSw); go_simp; try with_reducible rfl
  try simp only [Act.put]
  try simp only [List.setIfInBounds_toArray, List.set_cons_zero, List.set_cons_succ]
  refine reg_take 8 ?_ ?_ ?_ (by kernel_rfl) (by kernel_rfl) (by kernel_rfl) (fun _ _ _ h => h) ?_ ?_ (by assumption) ?_
  rotate_left 2
  · simp only [List.getElem?_toArray, List.getElem?_cons_succ, List.getElem?_cons_zero]; exact rfl
  · rfl
  · intro w hSw; (try dsimp only at hSw); go_simp; try with_reducible rfl
  try simp only [Act.put]
  try simp only [List.setIfInBounds_toArray, List.set_cons_zero, List.set_cons_succ]
  refine reg_take 9 ?_ ?_ ?_ (by kernel_rfl) (by kernel_rfl) (by kernel_rfl) (fun _ _ _ h => h) ?_ ?_ (by assumption) ?_
  rotate_left 2
  · simp only [List.getElem?_toArray, List.getElem?_cons_succ, List.getElem?_cons_zero]; exact rfl
  · rfl
  · intro w hSw; (try dsimp only at hSw); go_simp; try with_reducible rfl
  try simp only [Act.put]
  try simp only [List.setIfInBounds_toArray, List.set_cons_zero, List.set_cons_succ]
  refine reg_take 10 ?_ ?_ ?_ (by kernel_rfl) (by kernel_rfl) (by kernel_rfl) (fun _ _ _ h => h) ?_ ?_ (by assumption) ?_
  rotate_left 2
  · simp only [List.getElem?_toArray, List.getElem?_cons_succ, List.getElem?_cons_zero]; exact rfl
  · rfl
  · intro w hSw; (try dsimp only at hSw); go_simp; try with_reducible rfl
  try simp only [Act.put]
  try simp only [List.setIfInBounds_toArray, List.set_cons_zero, List.set_cons_succ]
  refine reg_take 11 ?_ ?_ ?_ (by kernel_rfl) (by kernel_rfl) (by kernel_rfl) (fun _ _ _ h => h) ?_ ?_ (by assumption) ?_
  rotate_left 2
  · simp only [List.getElem?_toArray, List.getElem?_cons_succ, List.getElem?_cons_zero]; exact rfl
  · rfl
  · intro w hSw; (try dsimp only at hSw); go_simp; try with_reducible rfl
  try simp only [Act.put]
  try simp only [List.setIfInBounds_toArray, List.set_cons_zero, List.set_cons_succ]
  refine reg_take 12 ?_ ?_ ?_ (by kernel_rfl) (by kernel_rfl) (by kernel_rfl) (fun _ _ _ h => h) ?_ ?_ (by assumption) ?_
  rotate_left 2
  · simp only [List.getElem?_toArray, List.getElem?_cons_succ, List.getElem?_cons_zero]; exact rfl
  · rfl
  · intro w hSw; (try dsimp only at hSw); go_simp; try with_reducible rfl
  try simp only [Act.put]
  try simp only [List.setIfInBounds_toArray, List.set_cons_zero, List.set_cons_succ]
  refine reg_grab (fun WWq aq hWW hAA => ?_)
  have HWq := Lib.hid hWW; have HAq := Lib.hid hAA; clear hWW hAA hHeld
  have stq_1t : ∀ (w' : World) (nmb : Nat) (npb : Nat) (npc : Nat) (vtv : Value) (gpm : Nat), Below w.heap.size w w' → Box w' (w.heap.size) [.map (some fb)] → Ats3 w' trb (0 * 3) (.int .i64 (a : Int)) (.int .i64 (b : Int)) (.int .i64 (c : Int)) → PtsC w' sb P → Below w1.heap.size w1 w' → MeshUp 62 49 w' w.heap.size nmb npb npc vtv P (newM (a : Int) (b : Int) (c : Int)) → Box w' gpm [.pointer none] → w1.heap.size ≤ gpm → WWq 2 #[true, true, true, true, true, true, true, true, true, true, true, true, true, true, true, true, true, true, false, false] (((((aq.put (some 33) (.tuple #[.pointer (some ⟨nmb, 0, none⟩), .bool true])).put (some 19) (.tuple #[.pointer (some ⟨nmb, 0, none⟩), .bool true])).put (some 34) (.pointer (some ⟨nmb, 0, none⟩))).put (some 35) (.bool true)).put (some 7) (.pointer (some ⟨gpm, 0, none⟩))) w' := by
    intro w11 nmb npb npc vtv gpm hB_0 pf_0 qt_0 pp_0 hWq_0 hms_0 pm_0 hgpm
    rw [HWq.out, HAq.out]
    try simp only [Act.put]
    try simp only [List.setIfInBounds_toArray, List.set_cons_zero, List.set_cons_succ]
    clear hWq_0
    obtain ⟨sf1a, sf1b⟩ := pm_0.open1
    refine reg_call 18 ?_ (by kernel_rfl) ?_ (fun K hK => ?_)
    rotate_left 1
    · simp only [List.getElem?_toArray, List.getElem?_cons_succ, List.getElem?_cons_zero]; exact rfl
    go_simp
    have hB_1 := below_setAll hB_0 (g := gpm) (by omega) [.pointer (some ⟨nmb, 0, none⟩)]
    have pf_1 := pf_0.farAll (g' := gpm) (by omega) [.pointer (some ⟨nmb, 0, none⟩)]
    have qt_1 := qt_0.farAll (g' := gpm) (by omega) [.pointer (some ⟨nmb, 0, none⟩)]
    have pp_1 := pp_0.farAll (g' := gpm) (by omega) [.pointer (some ⟨nmb, 0, none⟩)]
    have hms_1 := hms_0.setAll pm_0 (⟨by rw [HNN.out]; exact HN0.out, by show 0 < 4; omega⟩) [.pointer (some ⟨nmb, 0, none⟩)] rfl
    have pm_1 := pm_0.setAll [.pointer (some ⟨nmb, 0, none⟩)] rfl
    simp only [setAll] at hB_1 pf_1 qt_1 pp_1 hms_1 pm_1
    clear sf1a sf1b
    clear hB_0 pf_0 qt_0 pp_0 hms_0 pm_0
    refine hK.out _ _ ⟨qt_1.c0, qt_1.c1, qt_1.c2⟩ (fun hHeld => ?_)
    clear hK K
    try simp only [Act.put]
    try simp only [List.setIfInBounds_toArray, List.set_cons_zero, List.set_cons_succ]
    generalize (World.setCell w11 ⟨gpm, 0, none⟩ (.pointer (some ⟨nmb, 0, none⟩))) = w12 at *
    refine reg_take 19 ?_ ?_ ?_ (by kernel_rfl) (by kernel_rfl) (by kernel_rfl) (fun _ _ _ h => h) ?_ ?_ (by assumption) ?_
    rotate_left 2
    · simp only [List.getElem?_toArray, List.getElem?_cons_succ, List.getElem?_cons_zero]; exact rfl
    · rfl
    · intro w hSw; (try dsimp only at hSw); go_simp; try with_reducible rfl
    try simp only [Act.put]
    try simp only [List.setIfInBounds_toArray, List.set_cons_zero, List.set_cons_succ]
    refine wpAnyH_done (by kernel_rfl) ?_ _
    refine NoPanic.normal ?_
    obtain ⟨tb, tcap, htv⟩ := hms_1.mesh.slot (t := 0) rfl
    have htv : vtv = .slice (some ⟨tb, 0, none⟩) 4 tcap := htv
    subst htv
    have hlm := hms_1.mesh.low.2.1
    have hlg := pm_1.lt
    have hlf := pf_1.lt
    obtain ⟨q1, q2, q3⟩ := hms_1.mesh.apart_of (by rw [HNN.out]; exact HN0.out) (by show 0 < 4; omega) pm_1.c0 rfl
    have ct := hms_1.mesh.box.c1
    have HM := Lib.hid hms_1; have PM := Lib.hid pm_1; have PF := Lib.hid pf_1; have HBW := Lib.hid hB_1; have HTW := Lib.hid hTs
    have cpm := pm_1.c0
    clear hms_1 pf_1 hB_1 qt_1 pp_1 hTs hltp hgb1 hgb2 tn0 tn1 hs1 hsq hlqpf hgpm
    go_wp2
    clear ct cpm pm_1
    go_loopw [9, 43] (fun _ iv wr => ∃ i : Nat, i ≤ 4 ∧ iv = .int .i64 i ∧ MeshUp 62 49 wr w.heap.size nmb npb npc (.slice (some ⟨tb, 0, none⟩) 4 tcap) P (dropS (a : Int) (b : Int) (c : Int) i) ∧ Box wr gpm [.pointer (some ⟨nmb, 0, none⟩)] ∧ Box wr w.heap.size [.map (some fb)] ∧ Below w.heap.size w wr) (fun _ iv _ => 4 - (intOf iv).toNat)
    case atStart => exact ⟨0, by omega, rfl, HM.out, PM.out, PF.out, HBW.out⟩
    case round =>
      obtain ⟨i, hi, rfl, hm, hpm, hpf, hbw⟩ := hrel
      by_cases hlt : i < 4
      · obtain ⟨T0, hT0, hg0⟩ := dropS_at a b c hlt
        have hdr := Drop_any i T0 wr hm.mesh hT0 hg0
        have HM' := Lib.hid hm; have PM' := Lib.hid hpm; have PF' := Lib.hid hpf; have HBW' := Lib.hid hbw; have HDR := Lib.hid hdr
        have cpm := hpm.c0
        clear hm hpf hbw hdr hT0 hg0 hpm
        go_wp2_with fail
        refine HDR.out.mono ?_
        rintro e w2 ⟨rfl, hm2, mu2⟩
        clear cpm
        obtain ⟨q4, q5, q6⟩ := HM'.out.mesh.apart_of (by rw [HNN.out]; exact HN0.out) (by rw [dropS_len]; omega) PM'.out.c0 rfl
        have hpm2 := Box.mut PM'.out mu2 PM'.out.lt q4 q6
        obtain ⟨r4, r5, r6⟩ := HM'.out.mesh.apart_of (by rw [HNN.out]; exact HN0.out) (by rw [dropS_len]; omega) PF'.out.c0 rfl
        have hpf2 := Box.mut PF'.out mu2 PF'.out.lt r4 r6
        have hbw2 := HBW'.out.trans (MeshUp.mut HM'.out mu2 HBW'.out.size)
        have FIN := Lib.hid (And.intro (show MeshUp 62 49 w2 w.heap.size nmb npb npc (.slice (some ⟨tb, 0, none⟩) 4 tcap) P (dropS (a : Int) (b : Int) (c : Int) (i + 1)) from ⟨hm2, HM'.out.pts⟩) (And.intro hpm2 (And.intro hpf2 hbw2)))
        clear hm2 mu2 hpm2 hpf2 hbw2
        go_wp2
        exact ⟨⟨i + 1, by omega, by go_num, FIN.out⟩, by simp [intOf]; omega⟩
      · obtain rfl : i = 4 := by omega
        obtain ⟨ob, hob⟩ : ∃ ob, wr.heap.size = ob := ⟨_, rfl⟩
        obtain ⟨hmk, hmp⟩ := run_new_map (P := Try.prog) wr 78 22
        obtain ⟨w3, hw3⟩ : ∃ w3, wr.alloc (.map #[] 0) = w3 := ⟨_, rfl⟩
        rw [hw3, hob] at hmk hmp
        have hb3 : Below wr.heap.size wr w3 := by rw [← hw3]; exact (Below.refl _ _).alloc (Nat.le_refl _) _
        have hs3 : w3.heap.size = ob + 1 := by rw [← hw3, ← hob]; simp
        obtain ⟨w4, hw4, hpo, hb4, hs4⟩ := new_box w3 _ rfl [.map (some ob)] 78
        rw [dropS_all] at hm
        rw [hs3] at hpo
        have hb34 := hb3.trans (hb4.mono hb3.size)
        have HBW4 := Lib.hid (hbw.trans (hb34.mono hbw.size))
        have hbi : BI Try.prog 62 49 22 (faF F) w4 w.heap.size nmb npb npc ob (ob + 1) gpm w.heap.size fb P [] (.slice (some ⟨tb, 0, none⟩) 4 tcap) [goneTri, goneTri, goneTri, goneTri] [] := ⟨hm.below hb34, hmp.below hb4, builtS_nil, Joined.nil _ _, hpo, hpm.below hb34, hpf.below hb34, by have := hbw.size; omega⟩
        have HBI := Lib.hid hbi
        have hdv : Distinct (hRev (T.map realV).reverse) := by
          have e1 := all_nodup G.out (List.Perm.refl _)
          have e2 := all_apart G.out (List.Perm.refl _)
          unfold allE at e1 e2
          rw [List.flatMap_append] at e1 e2
          exact distinct_list (List.nodup_append.1 e1).1 (fun e he => e2 e (List.mem_append_left _ he))
        have HDV := Lib.hid hdv; clear hdv hbi
        clear hm hpm hpf hbw hb3 hb4 hb34 hpo hmp hs4 hlt hi
        go_wp2
        go_loopw [13, 54] (fun _ iv wr => ∃ k : Nat, k ≤ tn ∧ iv = .int .i64 k ∧ (∃ tv S op, BI Try.prog 62 49 22 (faF F) wr w.heap.size nmb npb npc ob (ob + 1) gpm w.heap.size fb P ((T.map realV).take k).reverse tv S op) ∧ Below w.heap.size w wr) (fun _ iv _ => tn - (intOf iv).toNat)
        case atStart => exact ⟨0, Nat.zero_le _, rfl, ⟨_, _, _, HBI.out⟩, HBW4.out⟩
        case round =>
          obtain ⟨k, hk, rfl, ⟨tv, S, op, hbi⟩, hbw⟩ := hrel
          by_cases hlt : k < tn
          · obtain ⟨⟨x, y, z⟩, hv⟩ : ∃ v, T[k]? = some v := ⟨_, List.getElem?_eq_getElem (by rw [HTL.out]; exact hlt)⟩
            obtain ⟨px, py, pz⟩ := HTP.out _ (List.mem_of_getElem? hv)
            simp only [] at px py pz
            have htk := HTR.out k (x : Int) (y : Int) (z : Int) (by rw [List.getElem?_map, hv]; rfl)
            have ka := (hbw.cell (World.block_lt_of_cell? w _ htk.1)).trans htk.1
            have kb := (hbw.cell (World.block_lt_of_cell? w _ htk.2.1)).trans htk.2.1
            have kc := (hbw.cell (World.block_lt_of_cell? w _ htk.2.2)).trans htk.2.2
            have lmb := hbi.up.mesh.low.2.1
            have ltv : ∀ q, tv.ownBlock = some q → q < wr.heap.size := fun q hq => (hbi.up.mesh.row.lt q hq).2
            have lob := hbi.map.lt
            have hPp : 0 < P.length := by omega
            obtain ⟨R, hR⟩ : ∃ R, ((T.map realV).take k).reverse = R := ⟨_, rfl⟩
            have hRl : R.length = k := by rw [← hR]; simp; have := HTL.out; omega
            have hRn : ((T.map realV).take (k + 1)).reverse = ((x : Int), (y : Int), (z : Int)) :: R := by
              rw [List.take_add_one, List.getElem?_map, hv, List.reverse_append, hR]; rfl
            rw [hR] at hbi
            have hdn := distinct_take HDV.out (k + 1)
            rw [hRn] at hdn
            obtain ⟨w5, hw5, hpv, hb5, hs5⟩ := new_box wr _ rfl [.int .i64 (x : Int), .int .i64 (y : Int), .int .i64 (z : Int)] 46
            have hb6 := (hbi.below hb5).drew
            have hbw6 : Below w.heap.size w w5.drew := (hbw.trans (hb5.mono hbw.size)).drew'
            have hmk := mkTri_any (x : Int) (y : Int) (z : Int) w5.drew hb6.up.mesh (by have := hb6.built.len; have := HTW.out; omega)
            rw [hb6.built.slot, hRl] at hmk
            have c6 : w5.drew.cell? ⟨gpm, 0, none⟩ = some (.pointer (some ⟨nmb, 0, none⟩)) := hb6.bm.c0
            have d0 : w5.drew.cell? ⟨wr.heap.size, 0, none⟩ = some (.int .i64 (x : Int)) := hpv.c0
            have d1 : w5.drew.cell? ⟨wr.heap.size, 1, none⟩ = some (.int .i64 (y : Int)) := hpv.c1
            have d2 : w5.drew.cell? ⟨wr.heap.size, 2, none⟩ = some (.int .i64 (z : Int)) := hpv.c2
            have l5 : wr.heap.size < w5.drew.heap.size := hpv.lt
            have HPX := Lib.hid (And.intro px (And.intro py pz))
            have HB6 := Lib.hid hb6; have HBW6 := Lib.hid hbw6; have HMK := Lib.hid hmk; have HPV := Lib.hid hpv.drew; have HRL := Lib.hid hRl; have HRN := Lib.hid hRn; have HDN := Lib.hid hdn
            have kx1 : (0 : Int) ≤ (k : Int) := by omega
            have kx2 : (k : Int) < (tn : Int) := by omega
            clear hv px py pz htk hR hRl hRn hdn hb6 hbw6 hmk hpv hb5 hbi hbw hs5
            go_wp2
            clear ka kb kc
            obtain ⟨SSs, hSSs⟩ : ∃ S : Array Bool → World → Prop, ∀ l w', S l w' ↔ ((w'.cell? ⟨gpm, 0, none⟩ = some (.pointer (some ⟨nmb, 0, none⟩))) ∧ (w'.cell? ⟨wr.heap.size, 0, none⟩ = some (.int .i64 (x : Int))) ∧ (w'.cell? ⟨wr.heap.size, 1, none⟩ = some (.int .i64 (y : Int))) ∧ (w'.cell? ⟨wr.heap.size, 2, none⟩ = some (.int .i64 (z : Int)))) := ⟨_, fun _ _ => Iff.rfl⟩
            refine wp_region_noPanic ?_
            refine wp_region_G SSs 11 #[false, false, false, false, false, false, false, false, false, false, false] (by kernel_rfl) (by kernel_rfl) (by kernel_rfl) ((hSSs _ _).2 ⟨c6, d0, d1, d2⟩) (fun hCl hHeld => ?_)
            generalize w5.drew = w6 at *
            refine reg_takeG 0 ?_ ?_ ?_ (by kernel_rfl) (by kernel_rfl) (by kernel_rfl) (fun _ _ _ h => h) ?_ ?_ ?_ hCl hHeld ?_
            rotate_left 2
            · simp only [List.getElem?_toArray, List.getElem?_cons_zero]; exact rfl
            · intro l w'; rw [hSSs, hSSs]
            · rfl
            · intro w' hA; clear hA; go_simp; try with_reducible rfl
            clear hCl hHeld
            intro hCl hHeld
            simp only [List.setIfInBounds_toArray, List.set_cons_zero] at hCl hHeld
            try simp only [Act.put]
            try simp only [List.setIfInBounds_toArray, List.set_cons_zero, List.set_cons_succ]
            refine reg_takeG 1 ?_ ?_ ?_ (by kernel_rfl) (by kernel_rfl) (by kernel_rfl) (fun _ _ _ h => h) ?_ ?_ ?_ hCl hHeld ?_
            rotate_left 2
            · simp only [List.getElem?_toArray, List.getElem?_cons_succ, List.getElem?_cons_zero]; exact rfl
            · intro l w'; rw [hSSs, hSSs]
            · rfl
            · intro w' hA; obtain ⟨l, hl, hi, hSl⟩ := hA; have hSl := (hSSs _ _).1 hSl; obtain ⟨hz0, hz1, hz2, hz3⟩ := hSl; go_simp; try with_reducible rfl
            clear hCl hHeld
            intro hCl hHeld
            simp only [List.setIfInBounds_toArray, List.set_cons_zero, List.set_cons_succ] at hCl hHeld
            try simp only [Act.put]
            try simp only [List.setIfInBounds_toArray, List.set_cons_zero, List.set_cons_succ]
            refine reg_takeG 2 ?_ ?_ ?_ (by kernel_rfl) (by kernel_rfl) (by kernel_rfl) (fun _ _ _ h => h) ?_ ?_ ?_ hCl hHeld ?_
            rotate_left 2
            · simp only [List.getElem?_toArray, List.getElem?_cons_succ, List.getElem?_cons_zero]; exact rfl
            · intro l w'; rw [hSSs, hSSs]
            · rfl
            · intro w' hA; clear hA; go_simp; try with_reducible rfl
            clear hCl hHeld
            intro hCl hHeld
            simp only [List.setIfInBounds_toArray, List.set_cons_zero, List.set_cons_succ] at hCl hHeld
            try simp only [Act.put]
            try simp only [List.setIfInBounds_toArray, List.set_cons_zero, List.set_cons_succ]
            refine reg_takeG 3 ?_ ?_ ?_ (by kernel_rfl) (by kernel_rfl) (by kernel_rfl) (fun _ _ _ h => h) ?_ ?_ ?_ hCl hHeld ?_
            rotate_left 2
            · simp only [List.getElem?_toArray, List.getElem?_cons_succ, List.getElem?_cons_zero]; exact rfl
            · intro l w'; rw [hSSs, hSSs]
            · rfl
            · intro w' hA; obtain ⟨l, hl, hi, hSl⟩ := hA; have hSl := (hSSs _ _).1 hSl; obtain ⟨hz0, hz1, hz2, hz3⟩ := hSl; go_simp; try with_reducible rfl
            clear hCl hHeld
            intro hCl hHeld
            simp only [List.setIfInBounds_toArray, List.set_cons_zero, List.set_cons_succ] at hCl hHeld
            try simp only [Act.put]
            try simp only [List.setIfInBounds_toArray, List.set_cons_zero, List.set_cons_succ]
            refine reg_takeG 4 ?_ ?_ ?_ (by kernel_rfl) (by kernel_rfl) (by kernel_rfl) (fun _ _ _ h => h) ?_ ?_ ?_ hCl hHeld ?_
            rotate_left 2
            · simp only [List.getElem?_toArray, List.getElem?_cons_succ, List.getElem?_cons_zero]; exact rfl
            · intro l w'; rw [hSSs, hSSs]
            · rfl
            · intro w' hA; clear hA; go_simp; try with_reducible rfl
            clear hCl hHeld
            intro hCl hHeld
            simp only [List.setIfInBounds_toArray, List.set_cons_zero, List.set_cons_succ] at hCl hHeld
            try simp only [Act.put]
            try simp only [List.setIfInBounds_toArray, List.set_cons_zero, List.set_cons_succ]
            refine reg_takeG 5 ?_ ?_ ?_ (by kernel_rfl) (by kernel_rfl) (by kernel_rfl) (fun _ _ _ h => h) ?_ ?_ ?_ hCl hHeld ?_
            rotate_left 2
            · simp only [List.getElem?_toArray, List.getElem?_cons_succ, List.getElem?_cons_zero]; exact rfl
            · intro l w'; rw [hSSs, hSSs]
            · rfl
            · intro w' hA; obtain ⟨l, hl, hi, hSl⟩ := hA; have hSl := (hSSs _ _).1 hSl; obtain ⟨hz0, hz1, hz2, hz3⟩ := hSl; go_simp; try with_reducible rfl
            clear hCl hHeld
            intro hCl hHeld
            simp only [List.setIfInBounds_toArray, List.set_cons_zero, List.set_cons_succ] at hCl hHeld
            try simp only [Act.put]
            try simp only [List.setIfInBounds_toArray, List.set_cons_zero, List.set_cons_succ]
            refine reg_takeG 6 ?_ ?_ ?_ (by kernel_rfl) (by kernel_rfl) (by kernel_rfl) (fun _ _ _ h => h) ?_ ?_ ?_ hCl hHeld ?_
            rotate_left 2
            · simp only [List.getElem?_toArray, List.getElem?_cons_succ, List.getElem?_cons_zero]; exact rfl
            · intro l w'; rw [hSSs, hSSs]
            · rfl
            · intro w' hA; clear hA; go_simp; try with_reducible rfl
            clear hCl hHeld
            intro hCl hHeld
            simp only [List.setIfInBounds_toArray, List.set_cons_zero, List.set_cons_succ] at hCl hHeld
            try simp only [Act.put]
            try simp only [List.setIfInBounds_toArray, List.set_cons_zero, List.set_cons_succ]
            refine reg_takeG 7 ?_ ?_ ?_ (by kernel_rfl) (by kernel_rfl) (by kernel_rfl) (fun _ _ _ h => h) ?_ ?_ ?_ hCl hHeld ?_
            rotate_left 2
            · simp only [List.getElem?_toArray, List.getElem?_cons_succ, List.getElem?_cons_zero]; exact rfl
            · intro l w'; rw [hSSs, hSSs]
            · rfl
            · intro w' hA; obtain ⟨l, hl, hi, hSl⟩ := hA; have hSl := (hSSs _ _).1 hSl; obtain ⟨hz0, hz1, hz2, hz3⟩ := hSl; go_simp; try with_reducible rfl
            clear hCl hHeld
            intro hCl hHeld
            simp only [List.setIfInBounds_toArray, List.set_cons_zero, List.set_cons_succ] at hCl hHeld
            try simp only [Act.put]
            try simp only [List.setIfInBounds_toArray, List.set_cons_zero, List.set_cons_succ]
            refine reg_takeG 9 ?_ ?_ ?_ (by kernel_rfl) (by kernel_rfl) (by kernel_rfl) (fun _ _ _ h => h) ?_ ?_ ?_ hCl hHeld ?_
            rotate_left 2
            · simp only [List.getElem?_toArray, List.getElem?_cons_succ, List.getElem?_cons_zero]; exact rfl
            · intro l w'; rw [hSSs, hSSs]
            · rfl
            · intro w' hA; obtain ⟨l, hl, hi, hSl⟩ := hA; have hSl := (hSSs _ _).1 hSl; obtain ⟨hz0, hz1, hz2, hz3⟩ := hSl; go_simp; try with_reducible rfl
            clear hCl hHeld
            intro hCl hHeld
            simp only [List.setIfInBounds_toArray, List.set_cons_zero, List.set_cons_succ] at hCl hHeld
            try simp only [Act.put]
            try simp only [List.setIfInBounds_toArray, List.set_cons_zero, List.set_cons_succ]
            clear hCl hHeld
            refine reg_callG 8 ?_ (by kernel_rfl) ?_ (fun K hK => ?_)
            rotate_left 1
            · simp only [List.getElem?_toArray, List.getElem?_cons_succ, List.getElem?_cons_zero]; exact rfl
            go_simp
            refine HMK.out.mono ?_
            rintro e w8 ⟨tv1, rfl, hm8, mu8⟩
            go_wp2_with fail
            clear c6 d0 d1 d2
            obtain ⟨m8, xo8, xm8, xf8, so8, sm8, sf8, sob8, bu8, j8⟩ := HB6.out.made hPp (by omega) hm8 mu8
            obtain ⟨kq1, kq2⟩ := mu8.keep wr.heap.size l5 (by omega) (fun e => Nat.lt_irrefl _ (ltv _ e))
            have pv8 := HPV.out.same kq1
            have b68 : Below w.heap.size w w8 := HBW6.out.trans (HB6.out.up.mut mu8 HBW6.out.size)
            have hjn := join_any F (hRev R) op k (x : Int) (y : Int) (z : Int) (ob + 1) gpm w.heap.size ob fb w8 hm8 m8 (HF.out.same (b68.block fb HF.out.lt)) xo8 xm8 xf8 so8 sm8 sf8
              ⟨by have := HF.out.lt; have := hm8.low.1; omega, fun e => by have := HF.out.lt; have := (hm8.row.lt fb e).1; omega, by have := HF.out.lt; have := HB6.out.big; omega⟩ sob8
              (bu8.v k _ (by rw [List.reverse_cons, List.getElem?_append_right (by simp [HRL.out])]; simp [HRL.out])) (by omega) (fun i => by have := HPX.out; have := HN9.out; have := HNN.out; unfold at3; split <;> omega)
              (fun t' i' e he => bu8.lives t' i' e (halfI_sub (i := 0) 3 he)) j8 (by have := HDN.out; rw [← HRL.out]; exact this) (fun i e he => HB6.out.built.fresh i e (by rw [HRL.out]; exact he))
            have c8 := xm8.c0; have e0 := pv8.c0; have e1 := pv8.c1; have e2 := pv8.c2
            have HJN := Lib.hid hjn; have HM8 := Lib.hid hm8; have MU8 := Lib.hid mu8; have HPV8 := Lib.hid pv8; have HO8 := Lib.hid kq2; have B68 := Lib.hid b68
            have l8 : wr.heap.size < w8.heap.size := pv8.lt
            clear m8 xo8 xm8 xf8 so8 sm8 sf8 sob8 bu8 j8 kq1 kq2 pv8 b68 hjn hm8 mu8
            refine hK.out _ _ ((hSSs _ _).2 ⟨c8, e0, e1, e2⟩) ?_
            clear hK K
            try simp only [Act.put]
            try simp only [List.setIfInBounds_toArray, List.set_cons_zero, List.set_cons_succ]
            refine reg_callG 10 ?_ (by kernel_rfl) ?_ (fun K hK => ?_)
            rotate_left 1
            · simp only [List.getElem?_toArray, List.getElem?_cons_succ, List.getElem?_cons_zero]; exact rfl
            go_simp
            refine HJN.out.mono ?_
            rintro e w9 ⟨rfl, hj9⟩
            go_wp2_with fail
            clear c8 e0 e1 e2
            have pv9 : Box w9 wr.heap.size [.int .i64 (x : Int), .int .i64 (y : Int), .int .i64 (z : Int)] := by
              obtain ⟨-, -, -, -, -, -, -, k9⟩ := hj9
              exact HPV8.out.same (k9.keep wr.heap.size l8 (by omega) HO8.out (by omega))
            obtain ⟨hbi9, b69⟩ := HB6.out.next hPp (by omega) HM8.out MU8.out (by rw [HRL.out]; exact hj9) HBW6.out.size
            obtain ⟨S9, op9, hb9⟩ := hbi9
            have c9 := hb9.bm.c0; have f0 := pv9.c0; have f1 := pv9.c1; have f2 := pv9.c2
            have HB9 := Lib.hid hb9; have HBW9 := Lib.hid (HBW6.out.trans b69)
            clear hj9 pv9 b69 hb9
            refine hK.out _ _ ((hSSs _ _).2 ⟨c9, f0, f1, f2⟩) ?_
            clear hK K
            try simp only [Act.put]
            try simp only [List.setIfInBounds_toArray, List.set_cons_zero, List.set_cons_succ]
            refine wpAnyG_done (by kernel_rfl) ?_ _
            refine NoPanic.normal ?_
            clear hSSs SSs
            have htw := HTW.out
            go_wp2
            refine ⟨⟨_, _, _, _, _, _, _, _, _, _, _, _, _, _, _, _, _, ⟨k + 1, by omega, by go_num, ⟨tv1, S9, op9, by rw [HRN.out]; exact HB9.out⟩, HBW9.out⟩, rfl⟩, ?_⟩
            simp [intOf]; omega
          · obtain rfl : tn = k := by omega
            have htk : (T.map realV).take tn = T.map realV := by rw [← HTL.out, ← List.length_map (f := realV)]; exact List.take_length
            rw [htk] at hbi
            have hpm := open_perm G.out hbi.joined (keys_nodup hbi.map.once)
            have hmem : ∀ e, e ∈ op.map (·.1) → ∃ x, x ∈ borderT T ∧ e = castE x := fun e he => (open_mem hbi.joined).1 he
            have hol : op.length = (borderT T).length := by have := hpm.length_eq; simpa using this
            obtain ⟨rb, hrb⟩ : ∃ rb, wr.heap.size = rb := ⟨_, rfl⟩
            obtain ⟨w5, hrg, hit, hb5, hs5⟩ := hbi.map.range (P := Try.prog) Try.underlying78
            rw [hrb] at hrg hit
            have hs5' : rb + 1 ≤ w5.heap.size := by omega
            have hb5' : Below rb wr w5 := hb5.mono (by omega)
            have cbo := hbi.bo.c0
            have HBI2 := Lib.hid hbi; have HBW2 := Lib.hid hbw; have HPM := Lib.hid hpm; have HMEM := Lib.hid hmem; have HOL := Lib.hid hol; have HIT := Lib.hid hit; have HB5 := Lib.hid hb5'; have HS5 := Lib.hid hs5'; have HRB := Lib.hid hrb
            clear hbi hbw hpm hmem hol hit hb5 hb5' hs5 hs5' htk hlt hk hrb
            obtain ⟨i0, hi, hz0, hz1, hz2⟩ := info_parts infoE2
            have HI := Lib.hid hi; have HZ0 := Lib.hid hz0; have HZ1 := Lib.hid hz1; have HZ2 := Lib.hid hz2
            clear hi hz0 hz1 hz2
            go_wp2
            clear hrg cbo
            obtain ⟨wo, rfl⟩ : ∃ wo, wo = wr := ⟨_, rfl⟩
            go_loopw [14, 15] (fun bv _ wq => ∃ (bq : Value) (E : List (Nat × Nat)) (rest : List (Value × Value)), bq = bv ∧ RowN wq (rb + 1) 22 2 bq E.length (edgCells E) ∧ IterB wq rb ob (op.map encO) rest ∧ LeftO op E rest ∧ Below rb wo wq ∧ rb + 1 ≤ wq.heap.size ∧ E.length ≤ op.length) (fun bv _ _ => op.length - lenV bv)
            case atStart => exact ⟨_, [], _, rfl, RowN.nil _ _ _ _, HIT.out, LeftO.start op, HB5.out, HS5.out, Nat.zero_le _⟩
            case round =>
              obtain ⟨bv, E, rest, rfl, hrow, hit, hlf, hbq, hsq, hel⟩ := hrel
              obtain ⟨wq, rfl⟩ : ∃ wq, wq = wr := ⟨_, rfl⟩
              rcases hit.next (P := Try.prog) 0 with ⟨rfl, hnx⟩ | ⟨i, x, v, w6, hx, hnx, hit6, ht6, hen⟩
              · have hEp := hlf.done HPM.out
                have HROW := Lib.hid hrow; have HBQ := Lib.hid hbq; have HEP := Lib.hid hEp
                clear hrow hit hlf hbq hel
                obtain ⟨g, gc, hbv, hgb⟩ : ∃ g gc, bv = .slice (some ⟨g, 0, none⟩) E.length gc ∧ rb + 1 ≤ g := by
                  have h0 : 0 < E.length := by rw [HEP.out.length_eq]; exact HBD.out
                  rcases HROW.out.2 with ⟨h1, h2⟩ | ⟨g, cap, cur, h1, h2, h3⟩
                  · omega
                  · exact ⟨g, cap, h1, h2⟩
                subst hbv
                have hcel := HROW.out.cells (g := g) rfl
                obtain ⟨en, hen⟩ : ∃ en, E.length = en := ⟨_, rfl⟩
                rw [hen]
                have hb2 := HBI2.out.below (HRB.out.symm ▸ HBQ.out)
                have htg : tv.ownBlock ≠ some g := fun e => by have := (HBI2.out.up.mesh.row.lt g e).2; have := HRB.out; omega
                have HCEL := Lib.hid hcel; have HEN := Lib.hid hen; have HB2 := Lib.hid hb2; have HTG := Lib.hid htg
                have HBW3 := Lib.hid (HBW2.out.trans (HBQ.out.mono (by have := HBW2.out.size; have := HRB.out; omega)))
                have hmb : nmb < rb := by have := HBI2.out.up.mesh.low.2.1; have := HRB.out; omega
                have hob : ob < rb := by have := HBI2.out.map.lt; have := HRB.out; omega
                have hen9 : en ≤ 1000 := by have := HBN.out; have := HEP.out.length_eq; omega
                clear hcel hen hb2 htg
                go_wp2
                clear hnx
                go_loopw [17, 18, 82] (fun _ _ iv wz => ∃ k : Nat, k ≤ en ∧ iv = .int .i64 k ∧ (∃ tv S op, BI Try.prog 62 49 22 (faF F) wz w.heap.size nmb npb npc ob (ob + 1) gpm w.heap.size fb P (((E.take k).map ghostV).reverse ++ (T.map realV).reverse) tv S op ∧ tv.ownBlock ≠ some g) ∧ wz.heap[g]? = wq.heap[g]? ∧ wq.heap.size ≤ wz.heap.size ∧ Below w.heap.size w wz) (fun _ _ iv _ => en - (intOf iv).toNat)
                case atStart => exact ⟨0, Nat.zero_le _, rfl, ⟨tv, S, op, HB2.out, HTG.out⟩, rfl, Nat.le_refl _, HBW3.out⟩
                case round =>
                  obtain ⟨k, hk, rfl, ⟨tvz, Sz, opz, hbi, htg⟩, hgz, hzs, hbw⟩ := hrel
                  obtain ⟨wz, rfl⟩ : ∃ wz, wz = wr := ⟨_, rfl⟩
                  by_cases hlt : k < en
                  · obtain ⟨⟨ey, ex⟩, hv⟩ : ∃ v, E[k]? = some v := ⟨_, List.getElem?_eq_getElem (by rw [HEN.out]; exact hlt)⟩
                    obtain ⟨p1, p2⟩ := HBP.out _ (HEP.out.mem_iff.1 (List.mem_of_getElem? hv))
                    simp only [] at p1 p2
                    obtain ⟨g1, g2⟩ := edgCells_get E k (ey, ex) hv
                    simp only [] at g1 g2
                    have ka : wz.cell? ⟨g, k * 2, none⟩ = some (.int .i64 (ey : Int)) := (World.cell?_of_block (a := ⟨g, k * 2, none⟩) hgz).trans (HCEL.out _ _ g1)
                    have kb : wz.cell? ⟨g, k * 2 + 1, none⟩ = some (.int .i64 (ex : Int)) := (World.cell?_of_block (a := ⟨g, k * 2 + 1, none⟩) hgz).trans (HCEL.out _ _ g2)
                    have lgz : g < wz.heap.size := World.block_lt_of_cell? wz _ ka
                    have lmb := hbi.up.mesh.low.2.1
                    have ltv : ∀ q, tvz.ownBlock = some q → q < wz.heap.size := fun q hq => (hbi.up.mesh.row.lt q hq).2
                    have lob := hbi.map.lt
                    have hPp : 0 < P.length := by omega
                    obtain ⟨R, hR⟩ : ∃ R, (((E.take k).map ghostV).reverse ++ (T.map realV).reverse) = R := ⟨_, rfl⟩
                    have hRl : R.length = tn + k := by rw [← hR]; simp; have := HTL.out; have := HEN.out; omega
                    have hRn : (((E.take (k + 1)).map ghostV).reverse ++ (T.map realV).reverse) = ((ex : Int), (ey : Int), -1) :: R := by rw [ghost_next hv, hR]
                    rw [hR] at hbi
                    have hdn := distinct_take (all_distinct' G.out HEP.out) (T.length + (k + 1))
                    rw [take_both, hRn] at hdn
                    obtain ⟨u5, hu5, hpe, hc5, hsu⟩ := new_box wz _ rfl [.int .i64 (ey : Int), .int .i64 (ex : Int)] 22
                    obtain ⟨vb, hvb⟩ : ∃ vb, u5.heap.size = vb := ⟨_, rfl⟩
                    obtain ⟨w5, hw5, hpv, hb5, hs5⟩ := new_box u5 _ rfl [.int .i64 (ex : Int), .int .i64 (ey : Int), .int .i64 (-1)] 46
                    rw [hvb] at hpv
                    have pe0 := hpe.c0; have pe1 := hpe.c1
                    have hbe : Below wz.heap.size wz w5 := hc5.trans (hb5.mono hc5.size)
                    have hb6 := (hbi.below hbe).drew
                    have hbw6 : Below w.heap.size w w5.drew := (hbw.trans (hbe.mono hbw.size)).drew'
                    have hmk := mkTri_any (ex : Int) (ey : Int) (-1) w5.drew hb6.up.mesh (by have := hb6.built.len; have := HTW.out; omega)
                    rw [hb6.built.slot, hRl] at hmk
                    have c6 : w5.drew.cell? ⟨gpm, 0, none⟩ = some (.pointer (some ⟨nmb, 0, none⟩)) := hb6.bm.c0
                    have d0 : w5.drew.cell? ⟨vb, 0, none⟩ = some (.int .i64 (ex : Int)) := hpv.c0
                    have d1 : w5.drew.cell? ⟨vb, 1, none⟩ = some (.int .i64 (ey : Int)) := hpv.c1
                    have d2 : w5.drew.cell? ⟨vb, 2, none⟩ = some (.int .i64 (-1)) := hpv.c2
                    have l5 : vb < w5.drew.heap.size := hpv.lt
                    have lvb : wz.heap.size < vb := by omega
                    have hg6 : w5.drew.heap[g]? = wq.heap[g]? := (hbe.block g lgz).trans hgz
                    have hs6 : wq.heap.size ≤ w5.drew.heap.size := by show _ ≤ w5.heap.size; have := hbe.size; omega
                    have lg6 : g < w5.drew.heap.size := by show _ < w5.heap.size; have := hbe.size; omega
                    have HPX := Lib.hid (And.intro p2 p1)
                    have HB6 := Lib.hid hb6; have HBW6 := Lib.hid hbw6; have HMK := Lib.hid hmk; have HPV := Lib.hid hpv.drew; have HRL := Lib.hid hRl; have HRN := Lib.hid hRn; have HDN := Lib.hid hdn
                    have HG6 := Lib.hid hg6; have HS6 := Lib.hid hs6; have HTGZ := Lib.hid htg; have HGZ := Lib.hid hgz
                    have kx1 : (0 : Int) ≤ (k : Int) := by omega
                    have kx2 : (k : Int) < (en : Int) := by omega
                    clear hv p1 p2 g1 g2 hR hRl hRn hdn hb6 hbw6 hmk hpv hb5 hbi hbw hs5 hsu hpe hc5 hbe hg6 hs6 hgz
                    go_wp2
                    clear ka kb pe0 pe1
                    obtain ⟨SSs, hSSs⟩ : ∃ S : Array Bool → World → Prop, ∀ l w', S l w' ↔ ((w'.cell? ⟨gpm, 0, none⟩ = some (.pointer (some ⟨nmb, 0, none⟩))) ∧ (w'.cell? ⟨vb, 0, none⟩ = some (.int .i64 (ex : Int))) ∧ (w'.cell? ⟨vb, 1, none⟩ = some (.int .i64 (ey : Int))) ∧ (w'.cell? ⟨vb, 2, none⟩ = some (.int .i64 (-1)))) := ⟨_, fun _ _ => Iff.rfl⟩
                    refine wp_region_noPanic ?_
                    refine wp_region_G SSs 11 #[false, false, false, false, false, false, false, false, false, false, false] (by kernel_rfl) (by kernel_rfl) (by kernel_rfl) ((hSSs _ _).2 ⟨c6, d0, d1, d2⟩) (fun hCl hHeld => ?_)
                    generalize w5.drew = w6 at *
                    refine reg_takeG 0 ?_ ?_ ?_ (by kernel_rfl) (by kernel_rfl) (by kernel_rfl) (fun _ _ _ h => h) ?_ ?_ ?_ hCl hHeld ?_
                    rotate_left 2
                    · simp only [List.getElem?_toArray, List.getElem?_cons_zero]; exact rfl
                    · intro l w'; rw [hSSs, hSSs]
                    · rfl
                    · intro w' hA; clear hA; go_simp; try with_reducible rfl
                    clear hCl hHeld
                    intro hCl hHeld
                    simp only [List.setIfInBounds_toArray, List.set_cons_zero] at hCl hHeld
                    try simp only [Act.put]
                    try simp only [List.setIfInBounds_toArray, List.set_cons_zero, List.set_cons_succ]
                    refine reg_takeG 1 ?_ ?_ ?_ (by kernel_rfl) (by kernel_rfl) (by kernel_rfl) (fun _ _ _ h => h) ?_ ?_ ?_ hCl hHeld ?_
                    rotate_left 2
                    · simp only [List.getElem?_toArray, List.getElem?_cons_succ, List.getElem?_cons_zero]; exact rfl
                    · intro l w'; rw [hSSs, hSSs]
                    · rfl
                    · intro w' hA; obtain ⟨l, hl, hi, hSl⟩ := hA; have hSl := (hSSs _ _).1 hSl; obtain ⟨hz0, hz1, hz2, hz3⟩ := hSl; go_simp; try with_reducible rfl
                    clear hCl hHeld
                    intro hCl hHeld
                    simp only [List.setIfInBounds_toArray, List.set_cons_zero, List.set_cons_succ] at hCl hHeld
                    try simp only [Act.put]
                    try simp only [List.setIfInBounds_toArray, List.set_cons_zero, List.set_cons_succ]
                    refine reg_takeG 2 ?_ ?_ ?_ (by kernel_rfl) (by kernel_rfl) (by kernel_rfl) (fun _ _ _ h => h) ?_ ?_ ?_ hCl hHeld ?_
                    rotate_left 2
                    · simp only [List.getElem?_toArray, List.getElem?_cons_succ, List.getElem?_cons_zero]; exact rfl
                    · intro l w'; rw [hSSs, hSSs]
                    · rfl
                    · intro w' hA; clear hA; go_simp; try with_reducible rfl
                    clear hCl hHeld
                    intro hCl hHeld
                    simp only [List.setIfInBounds_toArray, List.set_cons_zero, List.set_cons_succ] at hCl hHeld
                    try simp only [Act.put]
                    try simp only [List.setIfInBounds_toArray, List.set_cons_zero, List.set_cons_succ]
                    refine reg_takeG 3 ?_ ?_ ?_ (by kernel_rfl) (by kernel_rfl) (by kernel_rfl) (fun _ _ _ h => h) ?_ ?_ ?_ hCl hHeld ?_
                    rotate_left 2
                    · simp only [List.getElem?_toArray, List.getElem?_cons_succ, List.getElem?_cons_zero]; exact rfl
                    · intro l w'; rw [hSSs, hSSs]
                    · rfl
                    · intro w' hA; obtain ⟨l, hl, hi, hSl⟩ := hA; have hSl := (hSSs _ _).1 hSl; obtain ⟨hz0, hz1, hz2, hz3⟩ := hSl; go_simp; try with_reducible rfl
                    clear hCl hHeld
                    intro hCl hHeld
                    simp only [List.setIfInBounds_toArray, List.set_cons_zero, List.set_cons_succ] at hCl hHeld
                    try simp only [Act.put]
                    try simp only [List.setIfInBounds_toArray, List.set_cons_zero, List.set_cons_succ]
                    refine reg_takeG 4 ?_ ?_ ?_ (by kernel_rfl) (by kernel_rfl) (by kernel_rfl) (fun _ _ _ h => h) ?_ ?_ ?_ hCl hHeld ?_
                    rotate_left 2
                    · simp only [List.getElem?_toArray, List.getElem?_cons_succ, List.getElem?_cons_zero]; exact rfl
                    · intro l w'; rw [hSSs, hSSs]
                    · rfl
                    · intro w' hA; clear hA; go_simp; try with_reducible rfl
                    clear hCl hHeld
                    intro hCl hHeld
                    simp only [List.setIfInBounds_toArray, List.set_cons_zero, List.set_cons_succ] at hCl hHeld
                    try simp only [Act.put]
                    try simp only [List.setIfInBounds_toArray, List.set_cons_zero, List.set_cons_succ]
                    refine reg_takeG 5 ?_ ?_ ?_ (by kernel_rfl) (by kernel_rfl) (by kernel_rfl) (fun _ _ _ h => h) ?_ ?_ ?_ hCl hHeld ?_
                    rotate_left 2
                    · simp only [List.getElem?_toArray, List.getElem?_cons_succ, List.getElem?_cons_zero]; exact rfl
                    · intro l w'; rw [hSSs, hSSs]
                    · rfl
                    · intro w' hA; obtain ⟨l, hl, hi, hSl⟩ := hA; have hSl := (hSSs _ _).1 hSl; obtain ⟨hz0, hz1, hz2, hz3⟩ := hSl; go_simp; try with_reducible rfl
                    clear hCl hHeld
                    intro hCl hHeld
                    simp only [List.setIfInBounds_toArray, List.set_cons_zero, List.set_cons_succ] at hCl hHeld
                    try simp only [Act.put]
                    try simp only [List.setIfInBounds_toArray, List.set_cons_zero, List.set_cons_succ]
                    refine reg_takeG 6 ?_ ?_ ?_ (by kernel_rfl) (by kernel_rfl) (by kernel_rfl) (fun _ _ _ h => h) ?_ ?_ ?_ hCl hHeld ?_
                    rotate_left 2
                    · simp only [List.getElem?_toArray, List.getElem?_cons_succ, List.getElem?_cons_zero]; exact rfl
                    · intro l w'; rw [hSSs, hSSs]
                    · rfl
                    · intro w' hA; clear hA; go_simp; try with_reducible rfl
                    clear hCl hHeld
                    intro hCl hHeld
                    simp only [List.setIfInBounds_toArray, List.set_cons_zero, List.set_cons_succ] at hCl hHeld
                    try simp only [Act.put]
                    try simp only [List.setIfInBounds_toArray, List.set_cons_zero, List.set_cons_succ]
                    refine reg_takeG 7 ?_ ?_ ?_ (by kernel_rfl) (by kernel_rfl) (by kernel_rfl) (fun _ _ _ h => h) ?_ ?_ ?_ hCl hHeld ?_
                    rotate_left 2
                    · simp only [List.getElem?_toArray, List.getElem?_cons_succ, List.getElem?_cons_zero]; exact rfl
                    · intro l w'; rw [hSSs, hSSs]
                    · rfl
                    · intro w' hA; obtain ⟨l, hl, hi, hSl⟩ := hA; have hSl := (hSSs _ _).1 hSl; obtain ⟨hz0, hz1, hz2, hz3⟩ := hSl; go_simp; try with_reducible rfl
                    clear hCl hHeld
                    intro hCl hHeld
                    simp only [List.setIfInBounds_toArray, List.set_cons_zero, List.set_cons_succ] at hCl hHeld
                    try simp only [Act.put]
                    try simp only [List.setIfInBounds_toArray, List.set_cons_zero, List.set_cons_succ]
                    refine reg_takeG 9 ?_ ?_ ?_ (by kernel_rfl) (by kernel_rfl) (by kernel_rfl) (fun _ _ _ h => h) ?_ ?_ ?_ hCl hHeld ?_
                    rotate_left 2
                    · simp only [List.getElem?_toArray, List.getElem?_cons_succ, List.getElem?_cons_zero]; exact rfl
                    · intro l w'; rw [hSSs, hSSs]
                    · rfl
                    · intro w' hA; obtain ⟨l, hl, hi, hSl⟩ := hA; have hSl := (hSSs _ _).1 hSl; obtain ⟨hz0, hz1, hz2, hz3⟩ := hSl; go_simp; try with_reducible rfl
                    clear hCl hHeld
                    intro hCl hHeld
                    simp only [List.setIfInBounds_toArray, List.set_cons_zero, List.set_cons_succ] at hCl hHeld
                    try simp only [Act.put]
                    try simp only [List.setIfInBounds_toArray, List.set_cons_zero, List.set_cons_succ]
                    clear hCl hHeld
                    refine reg_callG 8 ?_ (by kernel_rfl) ?_ (fun K hK => ?_)
                    rotate_left 1
                    · simp only [List.getElem?_toArray, List.getElem?_cons_succ, List.getElem?_cons_zero]; exact rfl
                    go_simp
                    refine HMK.out.mono ?_
                    rintro e w8 ⟨tv1, rfl, hm8, mu8⟩
                    go_wp2_with fail
                    clear c6 d0 d1 d2
                    obtain ⟨m8, xo8, xm8, xf8, so8, sm8, sf8, sob8, bu8, j8⟩ := HB6.out.made hPp (by omega) hm8 mu8
                    obtain ⟨kq1, kq2⟩ := mu8.keep vb l5 (by omega) (fun e => by have := ltv _ e; omega)
                    obtain ⟨gq1, gq2⟩ := mu8.keep g lg6 (by omega) HTGZ.out
                    have HGQ1 := Lib.hid gq1; have HGQ2 := Lib.hid gq2; clear gq1 gq2
                    have ls8 := mu8.size
                    have pv8 := HPV.out.same kq1
                    have b68 : Below w.heap.size w w8 := HBW6.out.trans (HB6.out.up.mut mu8 HBW6.out.size)
                    have hjn := join_any F (hRev R) opz (tn + k) (ex : Int) (ey : Int) (-1) (ob + 1) gpm w.heap.size ob fb w8 hm8 m8 (HF.out.same (b68.block fb HF.out.lt)) xo8 xm8 xf8 so8 sm8 sf8
                      ⟨by have := HF.out.lt; have := hm8.low.1; omega, fun e => by have := HF.out.lt; have := (hm8.row.lt fb e).1; omega, by have := HF.out.lt; have := HB6.out.big; omega⟩ sob8
                      (bu8.v (tn + k) _ (by rw [List.reverse_cons, List.getElem?_append_right (by simp [HRL.out])]; simp [HRL.out])) (by omega) (fun i => by have := HPX.out; have := HN9.out; have := HNN.out; unfold at3; split <;> omega)
                      (fun t' i' e he => bu8.lives t' i' e (halfI_sub (i := 0) 3 he)) j8 (by have := HDN.out; rw [← HRL.out]; exact this) (fun i e he => HB6.out.built.fresh i e (by rw [HRL.out]; exact he))
                    have c8 := xm8.c0; have e0 := pv8.c0; have e1 := pv8.c1; have e2 := pv8.c2
                    have HJN := Lib.hid hjn; have HM8 := Lib.hid hm8; have MU8 := Lib.hid mu8; have HPV8 := Lib.hid pv8; have HO8 := Lib.hid kq2; have B68 := Lib.hid b68
                    have l8 : vb < w8.heap.size := pv8.lt
                    clear m8 xo8 xm8 xf8 so8 sm8 sf8 sob8 bu8 j8 kq1 kq2 pv8 b68 hjn hm8 mu8
                    refine hK.out _ _ ((hSSs _ _).2 ⟨c8, e0, e1, e2⟩) ?_
                    clear hK K
                    try simp only [Act.put]
                    try simp only [List.setIfInBounds_toArray, List.set_cons_zero, List.set_cons_succ]
                    refine reg_callG 10 ?_ (by kernel_rfl) ?_ (fun K hK => ?_)
                    rotate_left 1
                    · simp only [List.getElem?_toArray, List.getElem?_cons_succ, List.getElem?_cons_zero]; exact rfl
                    go_simp
                    refine HJN.out.mono ?_
                    rintro e w9 ⟨rfl, hj9⟩
                    go_wp2_with fail
                    clear c8 e0 e1 e2
                    have pv9 : Box w9 vb [.int .i64 (ex : Int), .int .i64 (ey : Int), .int .i64 (-1)] := by
                      obtain ⟨-, -, -, -, -, -, -, k9⟩ := hj9
                      exact HPV8.out.same (k9.keep vb l8 (by omega) HO8.out (by omega))
                    have hg9 : w9.heap[g]? = wq.heap[g]? := by
                      obtain ⟨-, -, -, -, -, -, -, k9⟩ := hj9
                      exact (k9.keep g (by omega) (by omega) HGQ2.out (by omega)).trans (HGQ1.out.trans HG6.out)
                    have hs9 : wq.heap.size ≤ w9.heap.size := by
                      obtain ⟨-, -, -, -, -, -, -, k9⟩ := hj9
                      have := k9.size; have := HS6.out; omega
                    have HG9 := Lib.hid hg9; have HS9 := Lib.hid hs9; have HTG9 := Lib.hid HGQ2.out; clear hg9 hs9
                    obtain ⟨hbi9, b69⟩ := HB6.out.next hPp (by omega) HM8.out MU8.out (by rw [HRL.out]; exact hj9) HBW6.out.size
                    obtain ⟨S9, op9, hb9⟩ := hbi9
                    have c9 := hb9.bm.c0; have f0 := pv9.c0; have f1 := pv9.c1; have f2 := pv9.c2
                    have HB9 := Lib.hid hb9; have HBW9 := Lib.hid (HBW6.out.trans b69)
                    clear hj9 pv9 b69 hb9
                    refine hK.out _ _ ((hSSs _ _).2 ⟨c9, f0, f1, f2⟩) ?_
                    clear hK K
                    try simp only [Act.put]
                    try simp only [List.setIfInBounds_toArray, List.set_cons_zero, List.set_cons_succ]
                    refine wpAnyG_done (by kernel_rfl) ?_ _
                    refine NoPanic.normal ?_
                    clear hSSs SSs
                    have htw := HTW.out
                    go_wp2
                    refine ⟨⟨_, _, _, _, _, _, _, _, _, _, _, _, _, _, _, _, _, _, _, _, _, _, _, ⟨k + 1, by omega, by go_num, ⟨tv1, S9, op9, by rw [HRN.out]; exact HB9.out, HTG9.out⟩, HG9.out, HS9.out, HBW9.out⟩, rfl⟩, ?_⟩
                    simp [intOf]; omega
                  · obtain rfl : en = k := by omega
                    have htk : E.take en = E := by rw [← HEN.out]; exact List.take_length
                    rw [htk] at hbi
                    have hop := open_none G.out HEP.out hbi.joined
                    subst hop
                    have cbm := hbi.bm.c0
                    go_wp2
                    go_ret
                    exact ⟨nmb, rfl, ⟨npb, npc, tvz, Sz, E, hbi.up.mesh, hbi.up.pts, HEP.out, hbi.built, hbi.joined⟩, hbw⟩
              · obtain ⟨a, b, hab, rfl, hlf6, hlt⟩ := hlf.next HMEM.out hx
                have hen6 := hen w6 rfl rfl
                have hrow6 := hrow.turned ht6 (fun k hk => by have := hrow.lt k hk; omega)
                have hbq6 : Below rb wo w6 := Below.turned hbq ht6 (Nat.le_refl _)
                obtain ⟨w7, hw7, hpe, hb7, hs7⟩ := new_box w6 _ rfl [.int .i64 (a : Int), .int .i64 (b : Int)] 22
                obtain ⟨w8, hw8, hpn, hb8, hs8⟩ := new_box w7 _ rfl [.int .i64 (a : Int), .int .i64 (b : Int)] 22
                have pe0 := hpe.c0; have pe1 := hpe.c1
                have hs6 := ht6.size
                have hb68 : Below w6.heap.size w6 w8 := hb7.trans (hb8.mono hb7.size)
                have hrow8 := hrow6.below hb68
                have hit8 := hit6.below hb68
                have hbq8 : Below rb wo w8 := hbq6.trans (hb68.mono (by omega))
                have hs68 := hb68.size
                have hol := HOL.out; have hbn := HBN.out; have hrbw := HRB.out
                have hobl : ob < rb := by have := HBI2.out.map.lt; omega
                obtain ⟨v1, w9, hrun, rown, hgrow, hkept⟩ := run_append_row (P := Try.prog) w8 (rb + 1) 83 83 22 i0 (.agg #[.int .i64 0, .int .i64 0]) 2 16 (by kernel_rfl) HI.out HZ0.out HZ1.out HZ2.out rfl (noWordI2 _ _) _ E.length _ hrow8 ⟨w7.heap.size, 0, none⟩ 1 1 [.int .i64 (a : Int), .int .i64 (b : Int)] (by omega) rfl hpn.news (by intro u hu; simp at hu; rcases hu with rfl | rfl <;> rfl) (noWordI2 _ _) (by unfold maxLen; omega) (by omega) (by omega)
                have hit9 : IterB w9 rb ob (op.map encO) (rest.eraseIdx i) := hit8.block (hgrow.block rb (by omega) (fun e => by have := (hrow8.lt rb e.symm).1; omega)) (hgrow.block ob (by omega) (fun e => by have := (hrow8.lt ob e.symm).1; omega))
                have hbq9 : Below rb wo w9 := hbq8.grown hgrow (by omega) (fun k hk => by have := (hrow8.lt k hk).1; omega)
                have hs9 := hgrow.size
                have FIN := Lib.hid (And.intro rown (And.intro hit9 (And.intro hlf6 (And.intro hbq9 (show rb + 1 ≤ w9.heap.size by omega)))))
                have hlv : lenV v1 = E.length + 1 := rown.lenV
                have hlv0 : lenV bv = E.length := hrow.lenV
                have HLV := Lib.hid hlv; have HLV0 := Lib.hid hlv0
                clear hrow hit hlf hbq hrow6 hit6 hbq6 hb7 hb8 hb68 hrow8 hit8 hbq8 rown hgrow hkept hit9 hbq9 hs6 hs7 hs8 hs68 hs9 hlv hlv0 hol hbn hrbw hobl ht6 hen hx
                go_wp2_with (refine wpList_append_row rfl _ _ 83 rfl rfl rfl hrun ?_)
                have FI := FIN.out
                refine ⟨⟨_, _, _, _, _, _, _, _, _, _, ⟨_, E ++ [(a, b)], _, rfl, by rw [List.length_append, edgCells_app]; exact FI.1, FI.2.1, FI.2.2.1, FI.2.2.2.1, FI.2.2.2.2, by rw [List.length_append]; simp; omega⟩, rfl⟩, ?_⟩
                show op.length - lenV v1 < op.length - lenV bv
                rw [HLV.out, HLV0.out]; omega
  simp only [HAq.out, Act.put, List.setIfInBounds_toArray, List.set_cons_zero, List.set_cons_succ] at stq_1t
  have stq_1f : ∀ (w' : World) (nmb : Nat) (npb : Nat) (npc : Nat) (vtv : Value), Below w.heap.size w w' → Box w' (w.heap.size) [.map (some fb)] → Ats3 w' trb (0 * 3) (.int .i64 (a : Int)) (.int .i64 (b : Int)) (.int .i64 (c : Int)) → PtsC w' sb P → Below w1.heap.size w1 w' → MeshUp 62 49 w' w.heap.size nmb npb npc vtv P (newM (a : Int) (b : Int) (c : Int)) → WWq 3 #[true, true, true, true, true, true, true, true, true, true, true, true, true, true, true, true, true, false, false, false] ((((aq.put (some 33) (.tuple #[.pointer (some ⟨nmb, 0, none⟩), .bool true])).put (some 19) (.tuple #[.pointer (some ⟨nmb, 0, none⟩), .bool true])).put (some 34) (.pointer (some ⟨nmb, 0, none⟩))).put (some 35) (.bool true)) w' := by
    intro w13 nmb npb npc vtv hB_0 pf_0 qt_0 pp_0 hWq_0 hms_0
    rw [HWq.out, HAq.out]
    try simp only [Act.put]
    try simp only [List.setIfInBounds_toArray, List.set_cons_zero, List.set_cons_succ]
    refine reg_all1 17 ?_ (by kernel_rfl) ?_ (fun K hK => ?_)
    rotate_left 1
    · simp only [List.getElem?_toArray, List.getElem?_cons_succ, List.getElem?_cons_zero]; exact rfl
    · go_simp
      have hgn : w1.heap.size ≤ w13.heap.size := hWq_0.size
      obtain ⟨w14, hww14, pm_0, hb14, -⟩ := new_box w13 _ rfl [.pointer none] 25
      rw [hww14]
      have hB_1 := hB_0.trans (hb14.mono hB_0.size)
      have pf_1 := pf_0.below hb14
      have qt_1 := qt_0.below hb14
      have pp_1 := pp_0.below hb14
      have hWq_1 := hWq_0.trans (hb14.mono hWq_0.size)
      have hms_1 := hms_0.below hb14
      clear hb14 hB_0 pf_0 qt_0 pp_0 hWq_0 hms_0
      refine hK.out _ _ ⟨qt_1.c0, qt_1.c1, qt_1.c2⟩ (fun hHeld => ?_)
      clear hK K
      try simp only [Act.put]
      try simp only [List.setIfInBounds_toArray, List.set_cons_zero, List.set_cons_succ]
      rw [← HWq.out]
      exact stq_1t _ nmb npb npc vtv w13.heap.size hB_1 pf_1 qt_1 pp_1 hWq_1 hms_1 pm_0 (by omega)
  try simp only [HAq.out, Act.put, List.setIfInBounds_toArray, List.set_cons_zero, List.set_cons_succ] at stq_1f
  have stq_0t : ∀ (w' : World) (gpm : Nat), Below w.heap.size w w' → Box w' (w.heap.size) [.map (some fb)] → Ats3 w' trb (0 * 3) (.int .i64 (a : Int)) (.int .i64 (b : Int)) (.int .i64 (c : Int)) → PtsC w' sb P → Below w1.heap.size w1 w' → Box w' gpm [.pointer none] → w1.heap.size ≤ gpm → WWq 6 #[true, true, true, true, true, true, true, true, true, true, true, true, true, false, false, false, false, true, false, false] (aq.put (some 7) (.pointer (some ⟨gpm, 0, none⟩))) w' := by
    intro w15 gpm hB_0 pf_0 qt_0 pp_0 hWq_0 pm_0 hgpm
    rw [HWq.out, HAq.out]
    try simp only [Act.put]
    try simp only [List.setIfInBounds_toArray, List.set_cons_zero, List.set_cons_succ]
    refine reg_all1 13 ?_ (by kernel_rfl) ?_ (fun K hK => ?_)
    rotate_left 1
    · simp only [List.getElem?_toArray, List.getElem?_cons_succ, List.getElem?_cons_zero]; exact rfl
    · go_simp
      refine (New_up w.heap.size sb n sc P _ hB_0.size HNN.out HN0.out HN9.out HPS.out pp_0 a b c HZ.out).mono ?_
      rintro e w16 ⟨nmb, npb, npc, vtv, rfl, hms_0, hb16⟩
      have hB_1 := hB_0.trans (hb16.mono hB_0.size)
      have pf_1 := pf_0.below hb16
      have qt_1 := qt_0.below hb16
      have pp_1 := pp_0.below hb16
      have hWq_1 := hWq_0.trans (hb16.mono hWq_0.size)
      have pm_1 := pm_0.below hb16
      clear hb16 hB_0 pf_0 qt_0 pp_0 hWq_0 pm_0
      go_wp2_with fail
      refine hK.out _ _ ⟨qt_1.c0, qt_1.c1, qt_1.c2⟩ (fun hHeld => ?_)
      clear hK K
      try simp only [Act.put]
      try simp only [List.setIfInBounds_toArray, List.set_cons_zero, List.set_cons_succ]
      refine reg_take 14 ?_ ?_ ?_ (by kernel_rfl) (by kernel_rfl) (by kernel_rfl) (fun _ _ _ h => h) ?_ ?_ (by assumption) ?_
      rotate_left 2
      · simp only [List.getElem?_toArray, List.getElem?_cons_succ, List.getElem?_cons_zero]; exact rfl
      · rfl
      · intro w hSw; (try dsimp only at hSw); go_simp; try with_reducible rfl
      try simp only [Act.put]
      try simp only [List.setIfInBounds_toArray, List.set_cons_zero, List.set_cons_succ]
      refine reg_take 15 ?_ ?_ ?_ (by kernel_rfl) (by kernel_rfl) (by kernel_rfl) (fun _ _ _ h => h) ?_ ?_ (by assumption) ?_
      rotate_left 2
      · simp only [List.getElem?_toArray, List.getElem?_cons_succ, List.getElem?_cons_zero]; exact rfl
      · rfl
      · intro w hSw; (try dsimp only at hSw); go_simp; try with_reducible rfl
      try simp only [Act.put]
      try simp only [List.setIfInBounds_toArray, List.set_cons_zero, List.set_cons_succ]
      refine reg_take 16 ?_ ?_ ?_ (by kernel_rfl) (by kernel_rfl) (by kernel_rfl) (fun _ _ _ h => h) ?_ ?_ (by assumption) ?_
      rotate_left 2
      · simp only [List.getElem?_toArray, List.getElem?_cons_succ, List.getElem?_cons_zero]; exact rfl
      · rfl
      · intro w hSw; (try dsimp only at hSw); go_simp; try with_reducible rfl
      try simp only [Act.put]
      try simp only [List.setIfInBounds_toArray, List.set_cons_zero, List.set_cons_succ]
      rw [← HWq.out]
      exact stq_1t _ nmb npb npc vtv gpm hB_1 pf_1 qt_1 pp_1 hWq_1 hms_0 pm_1 (by omega)
  try simp only [HAq.out, Act.put, List.setIfInBounds_toArray, List.set_cons_zero, List.set_cons_succ] at stq_0t
  have stq_0f : ∀ (w' : World), Below w.heap.size w w' → Box w' (w.heap.size) [.map (some fb)] → Ats3 w' trb (0 * 3) (.int .i64 (a : Int)) (.int .i64 (b : Int)) (.int .i64 (c : Int)) → PtsC w' sb P → Below w1.heap.size w1 w' → WWq 7 #[true, true, true, true, true, true, true, true, true, true, true, true, true, false, false, false, false, false, false, false] aq w' := by
    intro w17 hB_0 pf_0 qt_0 pp_0 hWq_0
    rw [HWq.out, HAq.out]
    try simp only [Act.put]
    try simp only [List.setIfInBounds_toArray, List.set_cons_zero, List.set_cons_succ]
    refine reg_all2 13 17 ?_ ?_ (by kernel_rfl) ?_ ?_ (fun K hK => ?_) (fun K hK => ?_)
    rotate_left 2
    · simp only [List.getElem?_toArray, List.getElem?_cons_succ, List.getElem?_cons_zero]; exact rfl
    · simp only [List.getElem?_toArray, List.getElem?_cons_succ, List.getElem?_cons_zero]; exact rfl
    · go_simp
      refine (New_up w.heap.size sb n sc P _ hB_0.size HNN.out HN0.out HN9.out HPS.out pp_0 a b c HZ.out).mono ?_
      rintro e w18 ⟨nmb, npb, npc, vtv, rfl, hms_0, hb18⟩
      have hB_1 := hB_0.trans (hb18.mono hB_0.size)
      have pf_1 := pf_0.below hb18
      have qt_1 := qt_0.below hb18
      have pp_1 := pp_0.below hb18
      have hWq_1 := hWq_0.trans (hb18.mono hWq_0.size)
      clear hb18 hB_0 pf_0 qt_0 pp_0 hWq_0
      go_wp2_with fail
      refine hK.out _ _ ⟨qt_1.c0, qt_1.c1, qt_1.c2⟩ (fun hHeld => ?_)
      clear hK K
      try simp only [Act.put]
      try simp only [List.setIfInBounds_toArray, List.set_cons_zero, List.set_cons_succ]
      refine reg_take 14 ?_ ?_ ?_ (by kernel_rfl) (by kernel_rfl) (by kernel_rfl) (fun _ _ _ h => h) ?_ ?_ (by assumption) ?_
      rotate_left 2
      · simp only [List.getElem?_toArray, List.getElem?_cons_succ, List.getElem?_cons_zero]; exact rfl
      · rfl
      · intro w hSw; (try dsimp only at hSw); go_simp; try with_reducible rfl
      try simp only [Act.put]
      try simp only [List.setIfInBounds_toArray, List.set_cons_zero, List.set_cons_succ]
      refine reg_take 15 ?_ ?_ ?_ (by kernel_rfl) (by kernel_rfl) (by kernel_rfl) (fun _ _ _ h => h) ?_ ?_ (by assumption) ?_
      rotate_left 2
      · simp only [List.getElem?_toArray, List.getElem?_cons_succ, List.getElem?_cons_zero]; exact rfl
      · rfl
      · intro w hSw; (try dsimp only at hSw); go_simp; try with_reducible rfl
      try simp only [Act.put]
      try simp only [List.setIfInBounds_toArray, List.set_cons_zero, List.set_cons_succ]
      refine reg_take 16 ?_ ?_ ?_ (by kernel_rfl) (by kernel_rfl) (by kernel_rfl) (fun _ _ _ h => h) ?_ ?_ (by assumption) ?_
      rotate_left 2
      · simp only [List.getElem?_toArray, List.getElem?_cons_succ, List.getElem?_cons_zero]; exact rfl
      · rfl
      · intro w hSw; (try dsimp only at hSw); go_simp; try with_reducible rfl
      try simp only [Act.put]
      try simp only [List.setIfInBounds_toArray, List.set_cons_zero, List.set_cons_succ]
      rw [← HWq.out]
      exact stq_1f _ nmb npb npc vtv hB_1 pf_1 qt_1 pp_1 hWq_1 hms_0
    · go_simp
      have hgn : w1.heap.size ≤ w17.heap.size := hWq_0.size
      obtain ⟨w19, hww19, pm_0, hb19, -⟩ := new_box w17 _ rfl [.pointer none] 25
      rw [hww19]
      have hB_1 := hB_0.trans (hb19.mono hB_0.size)
      have pf_1 := pf_0.below hb19
      have qt_1 := qt_0.below hb19
      have pp_1 := pp_0.below hb19
      have hWq_1 := hWq_0.trans (hb19.mono hWq_0.size)
      clear hb19 hB_0 pf_0 qt_0 pp_0 hWq_0
      refine hK.out _ _ ⟨qt_1.c0, qt_1.c1, qt_1.c2⟩ (fun hHeld => ?_)
      clear hK K
      try simp only [Act.put]
      try simp only [List.setIfInBounds_toArray, List.set_cons_zero, List.set_cons_succ]
      rw [← HWq.out]
      exact stq_0t _ w17.heap.size hB_1 pf_1 qt_1 pp_1 hWq_1 pm_0 (by omega)
  exact stq_0f _ hB_1 pf_1 qt_1 pp_1 hWq_1
end Go.Proofs.Ytecnnpkpgbbfkaa
/- The statements' Grid: its points and triangles, place by place; bits; the map of faults. -/
namespace Go.MagM
open Go.RowKit
/-- Bit k of a number, as Go tells it. -/
def bitB (b : Int) (k : Nat) : Bool := bits .and .u32 (b / 2 ^ k) 1 == 1
theorem bits_are (q0 q1 q2 q3 : Bool) : ∃ n : Nat, n < 16 ∧ n.testBit 0 = q0 ∧ n.testBit 1 = q1 ∧ n.testBit 2 = q2 ∧ n.testBit 3 = q3 := by
  refine ⟨(if q0 then 1 else 0) + (if q1 then 2 else 0) + (if q2 then 4 else 0) + (if q3 then 8 else 0), ?_⟩
  cases q0 <;> cases q1 <;> cases q2 <;> cases q3 <;> decide
theorem bits_of (b : Int) : ∃ n : Nat, n < 16 ∧ ∀ k : Nat, k < 4 → bitB b k = n.testBit k := by
  obtain ⟨n, h, h0, h1, h2, h3⟩ := bits_are (bitB b 0) (bitB b 1) (bitB b 2) (bitB b 3)
  refine ⟨n, h, fun k hk => ?_⟩
  obtain rfl | rfl | rfl | rfl : k = 0 ∨ k = 1 ∨ k = 2 ∨ k = 3 := by omega
  · exact h0.symm
  · exact h1.symm
  · exact h2.symm
  · exact h3.symm
theorem noWordI3 (a b c : Int) : ∀ u ∈ [Value.int .i64 a, .int .i64 b, .int .i64 c], NoWord u := by
  intro u hu; simp at hu; rcases hu with rfl | rfl | rfl <;> exact NoWord.int _
theorem MeshO.low' {p e : TypeId} {w : World} {B B' mb pb pc : Nat} {tv : Value} {P : List (Int × Int)} {S : List TriM} (h : MeshO p e w B mb pb pc tv P S) (hB : B' ≤ B) : MeshO p e w B' mb pb pc tv P S :=
  ⟨h.box, owns_low h.prow hB, owns_low h.row hB, ⟨Nat.le_trans hB h.low.1, h.low.2⟩, h.apart, h.short⟩
theorem BuildEnd.low {p e : TypeId} {F : Int → Int → Bool} {B B' : Nat} {P : List (Int × Int)} {T : List (Nat × Nat × Nat)} {mb : Nat} {w : World} (h : BuildEnd p e F B P T mb w) (hB : B' ≤ B) : BuildEnd p e F B' P T mb w := by
  obtain ⟨pb, pc, tv, S, Bd, h1, h2, h3⟩ := h
  exact ⟨pb, pc, tv, S, Bd, h1.low' hB, Nat.le_trans hB h2, h3⟩
/-- Triples in a row, three cells each. -/
def tr3Cells : List (Nat × Nat × Nat) → List Value
  | [] => []
  | t :: r => .int .i64 (t.1 : Int) :: .int .i64 (t.2.1 : Int) :: .int .i64 (t.2.2 : Int) :: tr3Cells r
theorem tr3_app : ∀ l k, tr3Cells (l ++ k) = tr3Cells l ++ tr3Cells k
  | [], _ => rfl
  | e :: t, k => by simp [tr3Cells, tr3_app t k]
theorem tr3_get : ∀ (l : List (Nat × Nat × Nat)) (i : Nat) (e : Nat × Nat × Nat), l[i]? = some e → (tr3Cells l)[i * 3]? = some (.int .i64 (e.1 : Int)) ∧ (tr3Cells l)[i * 3 + 1]? = some (.int .i64 (e.2.1 : Int)) ∧ (tr3Cells l)[i * 3 + 2]? = some (.int .i64 (e.2.2 : Int))
  | [], _, _, h => by simp at h
  | x :: t, 0, e, h => by simp at h; subst h; exact ⟨rfl, rfl, rfl⟩
  | x :: t, i + 1, e, h => by
    have := tr3_get t i e (by simpa using h)
    rw [show (i + 1) * 3 = i * 3 + 1 + 1 + 1 by omega]
    simpa [tr3Cells] using this
theorem RowN.trIn {w : World} {base g : Nat} {e : TypeId} {n c : Nat} {T : List (Nat × Nat × Nat)} (h : RowN w base e 3 (.slice (some ⟨g, 0, none⟩) n c) n (tr3Cells T)) : TrIn w g (T.map realV) := by
  intro k x y z hk
  rw [List.getElem?_map] at hk
  cases ht : T[k]? with
  | none => rw [ht] at hk; cases hk
  | some t =>
    rw [ht] at hk
    simp only [Option.map_some, Option.some.injEq, realV, Prod.mk.injEq] at hk
    obtain ⟨rfl, rfl, rfl⟩ := hk
    obtain ⟨h0, h1, h2⟩ := tr3_get T k t ht
    have hc := h.cells (g := g) rfl
    exact ⟨hc _ _ h0, hc _ _ h1, hc _ _ h2⟩
theorem RowN.ptsC {w : World} {base g : Nat} {e : TypeId} {n c : Nat} {P : List (Int × Int)} (h : RowN w base e 2 (.slice (some ⟨g, 0, none⟩) n c) n (ptsCells P)) : PtsC w g P :=
  ⟨fun j u hj => by rw [Nat.zero_add]; exact h.cells (g := g) rfl j u hj⟩
end Go.MagM
namespace Go.Proofs.Ytecnnpkpgbbfkaa
open Go.RowKit Go.MagM Go.Maps
def gridAt (w h bits : Nat) : Bool := (List.range h).all fun y => (List.range w).all fun x =>
  ((gridT w h bits)[2 * (y * w + x)]? == some (if bits.testBit (y * w + x) then (y * (w + 1) + x, y * (w + 1) + (x + 1), (y + 1) * (w + 1) + (x + 1)) else (y * (w + 1) + (x + 1), (y + 1) * (w + 1) + x, y * (w + 1) + x))) &&
  ((gridT w h bits)[2 * (y * w + x) + 1]? == some (if bits.testBit (y * w + x) then ((y + 1) * (w + 1) + (x + 1), (y + 1) * (w + 1) + x, y * (w + 1) + x) else ((y + 1) * (w + 1) + x, y * (w + 1) + (x + 1), (y + 1) * (w + 1) + (x + 1))))
def turnOne (w h bits : Nat) : Bool := (gridT w h bits).all fun t => turnM (gridP w h) (t.1 : Int) (t.2.1 : Int) (t.2.2 : Int) == 1
def gridMore (w h bits : Nat) : Bool := gridAt w h bits && turnOne w h bits && (gridT w h bits).length == 2 * (w * h) && decide ((borderT (gridT w h bits)).length ≤ 8) && (borderT (gridT w h bits)).all (fun e => decide (e.1 < (gridP w h).length) && decide (e.2 < (gridP w h).length)) && decide (0 < (borderT (gridT w h bits)).length)
def allMore : Bool := [1, 2].all fun w => [1, 2].all fun h => (List.range 16).all fun bits => gridMore w h bits
set_option maxRecDepth 100000 in
theorem all_more : allMore = true := by decide +kernel
theorem grid_more {w h : Nat} (hw : w = 1 ∨ w = 2) (hh : h = 1 ∨ h = 2) {bits : Nat} (hb : bits < 16) : gridMore w h bits = true := by
  have := all_more
  unfold allMore at this
  rw [List.all_eq_true] at this
  have h1 := this w (by rcases hw with rfl | rfl <;> simp)
  rw [List.all_eq_true] at h1
  have h2 := h1 h (by rcases hh with rfl | rfl <;> simp)
  rw [List.all_eq_true] at h2
  exact h2 bits (List.mem_range.2 hb)
structure GridMore (w h bits : Nat) : Prop where
  even : ∀ y x, y < h → x < w → (gridT w h bits)[2 * (y * w + x)]? = some (if bits.testBit (y * w + x) then (y * (w + 1) + x, y * (w + 1) + (x + 1), (y + 1) * (w + 1) + (x + 1)) else (y * (w + 1) + (x + 1), (y + 1) * (w + 1) + x, y * (w + 1) + x))
  odd : ∀ y x, y < h → x < w → (gridT w h bits)[2 * (y * w + x) + 1]? = some (if bits.testBit (y * w + x) then ((y + 1) * (w + 1) + (x + 1), (y + 1) * (w + 1) + x, y * (w + 1) + x) else ((y + 1) * (w + 1) + x, y * (w + 1) + (x + 1), (y + 1) * (w + 1) + (x + 1)))
  one : ∀ t, t ∈ gridT w h bits → turnM (gridP w h) (t.1 : Int) (t.2.1 : Int) (t.2.2 : Int) = 1
  len : (gridT w h bits).length = 2 * (w * h)
  few : (borderT (gridT w h bits)).length ≤ 8
  ends : ∀ e, e ∈ borderT (gridT w h bits) → e.1 < (gridP w h).length ∧ e.2 < (gridP w h).length
  some_ : 0 < (borderT (gridT w h bits)).length
theorem grid_has {w h : Nat} (hw : w = 1 ∨ w = 2) (hh : h = 1 ∨ h = 2) {bits : Nat} (hb : bits < 16) : GridMore w h bits := by
  have s := grid_more hw hh hb
  unfold gridMore gridAt turnOne at s
  simp only [Bool.and_eq_true, decide_eq_true_eq, List.all_eq_true, beq_iff_eq, List.mem_range] at s
  obtain ⟨⟨⟨⟨⟨s1, s2⟩, s3⟩, s4⟩, s5⟩, s6⟩ := s
  exact ⟨fun y x hy hx => (s1 y hy x hx).1, fun y x hy hx => (s1 y hy x hx).2, s2, s3, s4, s5, s6⟩
theorem gridP_at {w h : Nat} (hw : w = 1 ∨ w = 2) (hh : h = 1 ∨ h = 2) {x y : Nat} (hx : x ≤ w) (hy : y ≤ h) : (gridP w h)[y * (w + 1) + x]? = some (2 * (x : Int), 2 * (y : Int)) := by
  have hx' : x = 0 ∨ x = 1 ∨ x = 2 := by omega
  have hy' : y = 0 ∨ y = 1 ∨ y = 2 := by omega
  rcases hw with rfl | rfl <;> rcases hh with rfl | rfl <;> rcases hx' with rfl | rfl | rfl <;> rcases hy' with rfl | rfl | rfl <;> first | rfl | omega
theorem grid_inPs {w h : Nat} (hw : w = 1 ∨ w = 2) (hh : h = 1 ∨ h = 2) : InPs (gridP w h) := by
  intro p hp
  have := (grid_ok hw hh (bits := 0) (by omega)).small p hp
  unfold InP; omega
theorem infoE3 : (Try.prog.info? 46).map (fun i => (i.zero, i.size, i.bytes)) = some (some (.agg #[.int .i64 0, .int .i64 0, .int .i64 0]), 3, 24) := by kernel_rfl
/-- A fault more. -/
theorem fault_store {w : World} {fb : Nat} {F : Int → Int → Bool} (h : FaultMap Try.prog 22 w fb F) {a b : Int} (ha : -1000000 ≤ a ∧ a ≤ 1000000) (hb : -1000000 ≤ b ∧ b ≤ 1000000) :
    ∃ w' F', (Instr.mapUpdate 64 (.map (some fb)) (.agg #[.int .i64 a, .int .i64 b]) (.int .i64 1)).run Try.prog w = .ok () w' ∧ Turned w w' fb ∧ FaultMap Try.prog 22 w' fb F' := by
  obtain ⟨m, h1, h2, h3⟩ := h
  obtain ⟨l, hl⟩ := key2_of ha hb
  obtain ⟨w', m', hr, ht, hm, hc⟩ := h1.store keyed2 Try.underlying64 hl (.int .i64 1)
  rcases hc with ⟨hno, rfl⟩ | ⟨j, u, hj, rfl⟩
  · refine ⟨w', fun c d => F c d || decide (c = a ∧ d = b), hr, ht, _, hm, fun e he => ?_, fun c d hF => ?_⟩
    · rcases List.mem_append.1 he with he | he
      · obtain ⟨c, d, e1, hF⟩ := h2 e he
        exact ⟨c, d, e1, by show (F c d || _) = true; rw [hF]; rfl⟩
      · simp only [List.mem_cons, List.not_mem_nil, or_false] at he
        exact ⟨a, b, he, by simp⟩
    · simp only [Bool.or_eq_true, decide_eq_true_eq] at hF
      rcases hF with hF | ⟨rfl, rfl⟩
      · exact List.mem_append_left _ (h3 c d hF)
      · exact List.mem_append_right _ (by simp [key2])
  · obtain ⟨c, d, e1, hF⟩ := h2 _ (List.mem_of_getElem? hj)
    simp only [Prod.mk.injEq] at e1
    obtain ⟨e1, rfl⟩ := e1
    have hset : m.set j (.agg #[.int .i64 a, .int .i64 b], .int .i64 1) = m := by
      refine List.ext_getElem? fun i => ?_
      rw [List.getElem?_set]
      split
      · rename_i hij; subst hij
        rw [if_pos (List.getElem?_eq_some_iff.1 hj).1, hj]
      · rfl
    rw [hset] at hm
    exact ⟨w', F, hr, ht, m, hm, h2, h3⟩
theorem fault_new {w : World} {fb : Nat} (h : MapB Try.prog 22 w fb []) : FaultMap Try.prog 22 w fb (fun _ _ => false) :=
  ⟨[], h, fun e he => (by cases he), fun a b hF => (by cases hF)⟩
set_option maxRecDepth 100000 in
set_option maxHeartbeats 4000000 in
/-- The number of a place in a grid. -/
theorem gridNo_any (g W : Nat) (x y : Nat) (w : World) (hW : W ≤ 2) (hx : x ≤ 2) (hy : y ≤ 2) (hg : w.cell? ⟨g, 0, none⟩ = some (.int .i64 (W : Int))) (r : Int) (hr : (y : Int) * ((W : Int) + 1) + (x : Int) = r) :
    Calls Try.prog 17 #[.int .i64 (x : Int), .int .i64 (y : Int), .pointer (some ⟨g, 0, none⟩)] w fun e w' => e = .returned (.int .i64 r) ∧ w = w' := by
  obtain ⟨p, hp⟩ : ∃ p, (y : Int) * ((W : Int) + 1) = p := ⟨_, rfl⟩
  have hp1 : 0 ≤ p ∧ p ≤ 6 := by
    have hy' : y = 0 ∨ y = 1 ∨ y = 2 := by omega
    rcases hy' with rfl | rfl | rfl <;> omega
  rw [hp] at hr
  have h1 : IntKind.i64.wrap ((W : Int) + 1) = (W : Int) + 1 := by rw [IntKind.wrap_i64]; omega
  have h2 : IntKind.i64.wrap p = p := by rw [IntKind.wrap_i64]; omega
  have h3 : IntKind.i64.wrap (p + (x : Int)) = r := by rw [IntKind.wrap_i64]; omega
  clear hr hp1
  go_enter Try.func17, Try.ntmps17
  go_wp2
  go_ret
  exact ⟨rfl, rfl⟩
end Go.Proofs.Ytecnnpkpgbbfkaa
/- The statements' Grid, 1 by 1. -/
namespace Go.Proofs.Ytecnnpkpgbbfkaa
open Go.RowKit Go.MagM
set_option maxRecDepth 100000 in
set_option maxHeartbeats 16000000 in
theorem Grid11_any (w0 h0 b f : Int) (bn : Nat) (hbn : bn < 16) (e1 : bits .and .i64 w0 1 = 0) (e2 : bits .and .i64 h0 1 = 0) (hbit : ∀ k : Nat, k < 4 → bitB b k = bn.testBit k) (w : World) :
    Calls Try.prog 6 #[.int .i64 w0, .int .i64 h0, .int .u32 b, .int .u32 f] w fun e w' => ∃ (mb g c : Nat) (F : Int → Int → Bool), e = .returned (.tuple #[.pointer (some ⟨mb, 0, none⟩), .slice (some ⟨g, 0, none⟩) 2 c]) ∧ BuildEnd 62 49 F w.heap.size (gridP 1 1) (gridT 1 1 bn) mb w' ∧ TrIn w' g ((gridT 1 1 bn).map realV) ∧ w.heap.size ≤ g ∧ Below w.heap.size w w' := by
  have ok := grid_ok (w := 1) (h := 1) (by omega) (by omega) hbn
  have hm := grid_has (w := 1) (h := 1) (by omega) (by omega) hbn
  have hps : InPs (gridP 1 1) := grid_inPs (by omega) (by omega)
  have OK := Lib.hid ok; have HM := Lib.hid hm; have HPS := Lib.hid hps; have HBIT := Lib.hid hbit
  clear ok hm hps hbit
  obtain ⟨i0, hi, hz0, hz1, hz2⟩ := info_parts infoPt
  have HI := Lib.hid hi; have HZ0 := Lib.hid hz0; have HZ1 := Lib.hid hz1; have HZ2 := Lib.hid hz2
  obtain ⟨j0, hj, hy0, hy1, hy2⟩ := info_parts infoE3
  have HJ := Lib.hid hj; have HY0 := Lib.hid hy0; have HY1 := Lib.hid hy1; have HY2 := Lib.hid hy2
  clear hi hz0 hz1 hz2 hj hy0 hy1 hy2
  obtain ⟨w1, hw1, pw0, hB1, hs1⟩ := new_box w _ rfl [.int .i64 w0] 3
  have sc := pw0.c 0 _ rfl; have sf := pw0.f 0 _ rfl
  obtain ⟨w2, hw2⟩ : ∃ w2, w1.setCell ⟨w.heap.size, 0, none⟩ (.int .i64 1) = w2 := ⟨_, rfl⟩
  have pw2 : Box w2 w.heap.size [.int .i64 1] := by rw [← hw2]; exact pw0.set 0 (.int .i64 1)
  have hB2 : Below w.heap.size w w2 := by rw [← hw2]; exact hB1.setCell (p := ⟨w.heap.size, 0, none⟩) (by simp only []; omega) _
  have hz2 : w.heap.size + 1 ≤ w2.heap.size := by have := pw2.lt; omega
  have PW2 := Lib.hid pw2; have HB2 := Lib.hid hB2; have HZS := Lib.hid hz2
  clear pw0 hB1 hs1 pw2 hB2 hz2
  go_enter Try.func6, Try.ntmps6
  go_wp2
  clear sc sf hw1 hw2
  go_loopw [10, 11, 12, 35] (fun pv _ _ iv wr => ∃ (y : Nat) (vv : Value), y ≤ 2 ∧ iv = .int .i64 (y : Int) ∧ vv = pv ∧ RowN wr (w.heap.size + 1) 62 2 vv (y * 2) (ptsCells ((gridP 1 1).take (y * 2))) ∧ Box wr w.heap.size [.int .i64 1] ∧ Below w.heap.size w wr ∧ w.heap.size + 1 ≤ wr.heap.size) (fun _ _ _ iv _ => 2 - (intOf iv).toNat)
  case atStart => exact ⟨0, _, Nat.zero_le _, rfl, rfl, RowN.nil _ _ _ _, PW2.out, HB2.out, HZS.out⟩
  case round =>
    obtain ⟨y, vv, hy, rfl, rfl, hrow, hbx, hbw, hsz⟩ := hrel
    by_cases hlt : y < 2
    · have hyd : decide ((y : Int) < 2) = true := decide_eq_true (by omega)
      have cw := hbx.c 0 _ rfl
      have HROW := Lib.hid hrow; have HBX := Lib.hid hbx; have HBW := Lib.hid hbw; have HSZ := Lib.hid hsz
      clear hrow hbx hbw hsz
      go_wp2
      clear cw
      go_loopw [10, 12, 40] (fun pv _ iv wr => ∃ (x : Nat) (vv : Value), x ≤ 2 ∧ iv = .int .i64 (x : Int) ∧ vv = pv ∧ RowN wr (w.heap.size + 1) 62 2 vv (y * 2 + x) (ptsCells ((gridP 1 1).take (y * 2 + x))) ∧ Box wr w.heap.size [.int .i64 1] ∧ Below w.heap.size w wr ∧ w.heap.size + 1 ≤ wr.heap.size) (fun _ _ iv _ => 2 - (intOf iv).toNat)
      case atStart => exact ⟨0, _, Nat.zero_le _, rfl, rfl, HROW.out, HBX.out, HBW.out, HSZ.out⟩
      case round =>
        obtain ⟨x, vv, hx, rfl, rfl, hrow, hbx, hbw, hsz⟩ := hrel
        by_cases hlx : x < 2
        · have hel := gridP_at (w := 1) (h := 1) (by omega) (by omega) (x := x) (y := y) (by omega) (by omega)
          have hx2 : IntKind.i64.wrap (2 * (x : Int)) = 2 * (x : Int) := by rw [IntKind.wrap_i64]; omega
          have hy2 : IntKind.i64.wrap (2 * (y : Int)) = 2 * (y : Int) := by rw [IntKind.wrap_i64]; omega
          obtain ⟨w3, hw3, hpn, hb3, hs3⟩ := new_box wr _ rfl [.int .i64 (2 * (x : Int)), .int .i64 (2 * (y : Int))] 62
          have hrow3 := hrow.below hb3
          have hbx3 := hbx.below hb3
          have hbw3 := hbw.trans (hb3.mono hbw.size)
          obtain ⟨v1, w4, hrun, rown, hgrow, hkept⟩ := run_append_row (P := Try.prog) w3 (w.heap.size + 1) 40 40 62 i0 (.agg #[.int .i64 0, .int .i64 0]) 2 16 (by kernel_rfl) HI.out HZ0.out HZ1.out HZ2.out rfl (noWordI2 _ _) _ (y * 2 + x) _ hrow3 ⟨wr.heap.size, 0, none⟩ 1 1 [.int .i64 (2 * (x : Int)), .int .i64 (2 * (y : Int))] (by omega) rfl hpn.news (by intro u hu; simp at hu; rcases hu with rfl | rfl <;> rfl) (noWordI2 _ _) (by unfold maxLen; omega) (by omega) (by omega)
          have hne : ∀ k, vv.ownBlock = some k → w.heap.size + 1 ≤ k := fun k hk => (hrow3.lt k hk).1
          have hbx4 := hbx3.grown hgrow (fun e => by have := hne _ e; omega) hbx3.lt
          have hbw4 : Below w.heap.size w w4 := hbw3.grown hgrow (by omega) (fun k hk => by have := hne k hk; omega)
          have htk : ptsCells ((gridP 1 1).take (y * 2 + x)) ++ [.int .i64 (2 * (x : Int)), .int .i64 (2 * (y : Int))] = ptsCells ((gridP 1 1).take (y * 2 + (x + 1))) := by
            rw [← Nat.add_assoc, List.take_add_one, hel, ptsCells_app]; rfl
          rw [htk] at rown
          have FIN := Lib.hid (And.intro rown (And.intro hbx4 (And.intro hbw4 (show w.heap.size + 1 ≤ w4.heap.size by have := hgrow.size; omega))))
          clear hrow hbx hbw hsz hpn hb3 hs3 hrow3 hbx3 hbw3 rown hgrow hkept hne hbx4 hbw4 htk hel
          go_wp2_with (refine wpList_append_row rfl _ _ 40 rfl rfl rfl hrun ?_)
          have FI := FIN.out
          exact ⟨⟨x + 1, _, by omega, by go_num, rfl, FI.1, FI.2.1, FI.2.2.1, FI.2.2.2⟩, by simp [intOf]; omega⟩
        · obtain rfl : x = 2 := by omega
          have FIN := Lib.hid (And.intro hrow (And.intro hbx (And.intro hbw hsz)))
          clear hrow hbx hbw hsz
          go_wp2
          have FI := FIN.out
          have hrow := FI.1
          rw [show y * 2 + 2 = (y + 1) * 2 by omega] at hrow
          exact ⟨⟨y + 1, _, by omega, by go_num, rfl, hrow, FI.2.1, FI.2.2.1, FI.2.2.2⟩, by simp [intOf]; omega⟩
    · obtain rfl : y = 2 := by omega
      have hpt : (gridP 1 1).take (2 * 2) = gridP 1 1 := rfl
      rw [hpt] at hrow
      obtain ⟨gp, gpc, hvv⟩ : ∃ g c, vv = .slice (some ⟨g, 0, none⟩) 4 c := by
        rcases hrow.2 with ⟨h1, h2⟩ | ⟨g, cap, cur, h1, h2, h3⟩
        · omega
        · exact ⟨g, cap, h1⟩
      subst hvv
      have hpl := hrow.lt gp rfl
      obtain ⟨w5, hw5⟩ : ∃ w5, w5 = wr := ⟨_, rfl⟩
      rw [← hw5] at hrow hbx hbw hsz hpl
      rw [← hw5]
      have HROW := Lib.hid hrow; have HBX := Lib.hid hbx; have HBW := Lib.hid hbw; have HSZ := Lib.hid hsz; have HPL := Lib.hid hpl
      clear hrow hbx hbw hsz hpl hw5
      go_wp2
      go_loopw [13, 15, 16, 17, 18, 19, 20, 21, 55] (fun tv kv _ _ _ _ _ _ iv wr => ∃ (y : Nat) (vv : Value), y ≤ 1 ∧ iv = .int .i64 (y : Int) ∧ kv = .int .i64 ((y * 1 : Nat) : Int) ∧ vv = tv ∧ RowN wr w5.heap.size 46 3 vv (2 * (y * 1)) (tr3Cells ((gridT 1 1 bn).take (2 * (y * 1)))) ∧ Below w5.heap.size w5 wr) (fun _ _ _ _ _ _ _ _ iv _ => 1 - (intOf iv).toNat)
      case atStart => exact ⟨0, _, Nat.zero_le _, rfl, rfl, rfl, RowN.nil _ _ _ _, Below.refl _ _⟩
      case round =>
        obtain ⟨y, vv, hy, rfl, rfl, rfl, hrow, hbw⟩ := hrel
        by_cases hlt : y < 1
        · have hyd : decide ((y : Int) < 1) = true := decide_eq_true (by omega)
          have cw := (HBX.out.below hbw).c 0 _ rfl
          have HRW := Lib.hid hrow; have HBZ := Lib.hid hbw
          clear hrow hbw
          go_wp2
          clear cw
          go_loopw [13, 15, 17, 18, 19, 20, 21, 59] (fun tv kv _ _ _ _ _ iv wr => ∃ (x : Nat) (vv : Value), x ≤ 1 ∧ iv = .int .i64 (x : Int) ∧ kv = .int .i64 ((y * 1 + x : Nat) : Int) ∧ vv = tv ∧ RowN wr w5.heap.size 46 3 vv (2 * (y * 1 + x)) (tr3Cells ((gridT 1 1 bn).take (2 * (y * 1 + x)))) ∧ Below w5.heap.size w5 wr) (fun _ _ _ _ _ _ _ iv _ => 1 - (intOf iv).toNat)
          case atStart => exact ⟨0, _, Nat.zero_le _, rfl, by rw [Nat.add_zero], rfl, HRW.out, HBZ.out⟩
          case round =>
            obtain ⟨x, vv, hx, rfl, rfl, rfl, hrow, hbw⟩ := hrel
            by_cases hlx : x < 1
            · have cw := (HBX.out.below hbw).c 0 _ rfl
              have hev := HM.out.even y x hlt hlx
              have hod := HM.out.odd y x hlt hlx
              have hbt := HBIT.out (y * 1 + x) (by omega)
              obtain ⟨q, hq⟩ : ∃ q, bn.testBit (y * 1 + x) = q := ⟨_, rfl⟩
              rw [hq] at hev hod hbt
              have a0 := gridNo_any w.heap.size 1 x y wr (by omega) (by omega) (by omega) cw ((y : Int) * 2 + (x : Int)) (by omega)
              have a1 := gridNo_any w.heap.size 1 (x + 1) y wr (by omega) (by omega) (by omega) cw ((y : Int) * 2 + ((x : Int) + 1)) (by omega)
              have a2 := gridNo_any w.heap.size 1 (x + 1) (y + 1) wr (by omega) (by omega) (by omega) cw (((y : Int) + 1) * 2 + ((x : Int) + 1)) (by omega)
              have a3 := gridNo_any w.heap.size 1 x (y + 1) wr (by omega) (by omega) (by omega) cw (((y : Int) + 1) * 2 + (x : Int)) (by omega)
              rw [show (((x + 1 : Nat)) : Int) = (x : Int) + 1 by omega] at a1 a2
              rw [show (((y + 1 : Nat)) : Int) = (y : Int) + 1 by omega] at a2 a3
              obtain ⟨ca, hca⟩ : ∃ c : Int, (y : Int) * 2 + (x : Int) = c := ⟨_, rfl⟩
              obtain ⟨cb, hcb⟩ : ∃ c : Int, (y : Int) * 2 + ((x : Int) + 1) = c := ⟨_, rfl⟩
              obtain ⟨cc, hcc⟩ : ∃ c : Int, ((y : Int) + 1) * 2 + ((x : Int) + 1) = c := ⟨_, rfl⟩
              obtain ⟨cd, hcd⟩ : ∃ c : Int, ((y : Int) + 1) * 2 + (x : Int) = c := ⟨_, rfl⟩
              rw [hca] at a0; rw [hcb] at a1; rw [hcc] at a2; rw [hcd] at a3
              have C0 := Lib.hid a0; have C1 := Lib.hid a1; have C2 := Lib.hid a2; have C3 := Lib.hid a3
              have HEV := Lib.hid hev; have HOD := Lib.hid hod; have HBT := Lib.hid hbt; have HRW2 := Lib.hid hrow; have HBZ2 := Lib.hid hbw
              have HCA := Lib.hid hca; have HCB := Lib.hid hcb; have HCC := Lib.hid hcc; have HCD := Lib.hid hcd
              obtain ⟨kk, hkk⟩ : ∃ kk : Nat, y * 1 + x = kk := ⟨_, rfl⟩
              have hkk4 : kk < 4 := by omega
              rw [hkk] at hbt
              unfold bitB at hbt
              have na : (((y * 2 + x : Nat)) : Int) = ca := by omega
              have nb : (((y * 2 + (x + 1) : Nat)) : Int) = cb := by omega
              have nc : ((((y + 1) * 2 + (x + 1) : Nat)) : Int) = cc := by omega
              have nd : ((((y + 1) * 2 + x : Nat)) : Int) = cd := by omega
              have HKK := Lib.hid hkk
              rw [hkk]
              have HNA := Lib.hid (And.intro na (And.intro nb (And.intro nc nd)))
              clear a0 a1 a2 a3 hev hod hrow hbw hca hcb hcc hcd cw hkk na nb nc nd hq
              cases q
              · have hev' : (gridT 1 1 bn)[2 * (y * 1 + x)]? = some (y * 2 + (x + 1), (y + 1) * 2 + x, y * 2 + x) := HEV.out
                have hod' : (gridT 1 1 bn)[2 * (y * 1 + x) + 1]? = some ((y + 1) * 2 + x, y * 2 + (x + 1), (y + 1) * 2 + (x + 1)) := HOD.out
                have HEV' := Lib.hid hev'; have HOD' := Lib.hid hod'
                clear hev' hod'
                go_wp2_with fail
                refine C0.out.mono ?_
                rintro e w6 ⟨rfl, rfl⟩
                go_wp2_with fail
                refine C1.out.mono ?_
                rintro e w6 ⟨rfl, rfl⟩
                go_wp2_with fail
                refine C2.out.mono ?_
                rintro e w6 ⟨rfl, rfl⟩
                go_wp2_with fail
                refine C3.out.mono ?_
                rintro e w6 ⟨rfl, rfl⟩
                obtain ⟨w6, hw6, hpn, hb6, hs6⟩ := new_box wr _ rfl [.int .i64 cb, .int .i64 cd, .int .i64 ca, .int .i64 cd, .int .i64 cb, .int .i64 cc] 46
                have hrow6 := HRW2.out.below hb6
                have hbw6 := HBZ2.out.trans (hb6.mono HBZ2.out.size)
                obtain ⟨v1, w7, hrun, rown, hgrow, hkept⟩ := run_append_row (P := Try.prog) w6 w5.heap.size 26 26 46 j0 (.agg #[.int .i64 0, .int .i64 0, .int .i64 0]) 3 24 (by kernel_rfl) HJ.out HY0.out HY1.out HY2.out rfl (noWordI3 _ _ _) _ (2 * (y * 1 + x)) _ hrow6 ⟨wr.heap.size, 0, none⟩ 2 2 [.int .i64 cb, .int .i64 cd, .int .i64 ca, .int .i64 cd, .int .i64 cb, .int .i64 cc] (by omega) rfl hpn.news (by intro u hu; simp at hu; rcases hu with rfl | rfl | rfl | rfl | rfl | rfl <;> rfl) (noWordI6 _ _ _ _ _ _) (by unfold maxLen; omega) (by omega) (by have := hbw6.size; omega)
                have hbw7 : Below w5.heap.size w5 w7 := hbw6.grown hgrow (by have := hbw6.size; omega) (fun k hk => (hrow6.lt k hk).1)
                have htk : tr3Cells ((gridT 1 1 bn).take (2 * (y * 1 + x))) ++ [.int .i64 cb, .int .i64 cd, .int .i64 ca, .int .i64 cd, .int .i64 cb, .int .i64 cc] = tr3Cells ((gridT 1 1 bn).take (2 * (y * 1 + (x + 1)))) := by
                  obtain ⟨na, nb, nc, nd⟩ := HNA.out
                  rw [show 2 * (y * 1 + (x + 1)) = 2 * (y * 1 + x) + 1 + 1 by omega, List.take_add_one, List.take_add_one, HEV'.out, HOD'.out, tr3_app, tr3_app, List.append_assoc]
                  simp only [Option.toList_some, tr3Cells, na, nb, nc, nd, List.cons_append, List.nil_append]
                rw [htk, show 2 * (y * 1 + x) + 2 = 2 * (y * 1 + (x + 1)) by omega] at rown
                have FIN := Lib.hid (And.intro rown hbw7)
                clear hpn hb6 hs6 hrow6 hbw6 rown hgrow hkept hbw7 htk
                go_wp2_with (refine wpList_append_row rfl _ _ 26 rfl rfl rfl hrun ?_)
                have hkk := HKK.out
                refine ⟨⟨_, _, _, _, _, _, _, _, _, _, _, _, _, _, _, _, _, _, _, _, _, _, _, _, _, _, _, _, _, _, _, _, _, _, _, _, _, _, _, _, _, _, _, _, _, _, _, _, _, _, _, _, _, _, _, _, _, _, _, _, ?_, rfl⟩, by simp [intOf]; omega⟩
                exact ⟨x + 1, _, by omega, by go_num, congrArg (Value.int .i64) (by omega), rfl, FIN.out.1, FIN.out.2⟩
              · have hev' : (gridT 1 1 bn)[2 * (y * 1 + x)]? = some (y * 2 + x, y * 2 + (x + 1), (y + 1) * 2 + (x + 1)) := HEV.out
                have hod' : (gridT 1 1 bn)[2 * (y * 1 + x) + 1]? = some ((y + 1) * 2 + (x + 1), (y + 1) * 2 + x, y * 2 + x) := HOD.out
                have HEV' := Lib.hid hev'; have HOD' := Lib.hid hod'
                clear hev' hod'
                go_wp2_with fail
                refine C0.out.mono ?_
                rintro e w6 ⟨rfl, rfl⟩
                go_wp2_with fail
                refine C1.out.mono ?_
                rintro e w6 ⟨rfl, rfl⟩
                go_wp2_with fail
                refine C2.out.mono ?_
                rintro e w6 ⟨rfl, rfl⟩
                go_wp2_with fail
                refine C3.out.mono ?_
                rintro e w6 ⟨rfl, rfl⟩
                obtain ⟨w6, hw6, hpn, hb6, hs6⟩ := new_box wr _ rfl [.int .i64 ca, .int .i64 cb, .int .i64 cc, .int .i64 cc, .int .i64 cd, .int .i64 ca] 46
                have hrow6 := HRW2.out.below hb6
                have hbw6 := HBZ2.out.trans (hb6.mono HBZ2.out.size)
                obtain ⟨v1, w7, hrun, rown, hgrow, hkept⟩ := run_append_row (P := Try.prog) w6 w5.heap.size 26 26 46 j0 (.agg #[.int .i64 0, .int .i64 0, .int .i64 0]) 3 24 (by kernel_rfl) HJ.out HY0.out HY1.out HY2.out rfl (noWordI3 _ _ _) _ (2 * (y * 1 + x)) _ hrow6 ⟨wr.heap.size, 0, none⟩ 2 2 [.int .i64 ca, .int .i64 cb, .int .i64 cc, .int .i64 cc, .int .i64 cd, .int .i64 ca] (by omega) rfl hpn.news (by intro u hu; simp at hu; rcases hu with rfl | rfl | rfl | rfl | rfl | rfl <;> rfl) (noWordI6 _ _ _ _ _ _) (by unfold maxLen; omega) (by omega) (by have := hbw6.size; omega)
                have hbw7 : Below w5.heap.size w5 w7 := hbw6.grown hgrow (by have := hbw6.size; omega) (fun k hk => (hrow6.lt k hk).1)
                have htk : tr3Cells ((gridT 1 1 bn).take (2 * (y * 1 + x))) ++ [.int .i64 ca, .int .i64 cb, .int .i64 cc, .int .i64 cc, .int .i64 cd, .int .i64 ca] = tr3Cells ((gridT 1 1 bn).take (2 * (y * 1 + (x + 1)))) := by
                  obtain ⟨na, nb, nc, nd⟩ := HNA.out
                  rw [show 2 * (y * 1 + (x + 1)) = 2 * (y * 1 + x) + 1 + 1 by omega, List.take_add_one, List.take_add_one, HEV'.out, HOD'.out, tr3_app, tr3_app, List.append_assoc]
                  simp only [Option.toList_some, tr3Cells, na, nb, nc, nd, List.cons_append, List.nil_append]
                rw [htk, show 2 * (y * 1 + x) + 2 = 2 * (y * 1 + (x + 1)) by omega] at rown
                have FIN := Lib.hid (And.intro rown hbw7)
                clear hpn hb6 hs6 hrow6 hbw6 rown hgrow hkept hbw7 htk
                go_wp2_with (refine wpList_append_row rfl _ _ 26 rfl rfl rfl hrun ?_)
                have hkk := HKK.out
                refine ⟨⟨_, _, _, _, _, _, _, _, _, _, _, _, _, _, _, _, _, _, _, _, _, _, _, _, _, _, _, _, _, _, _, _, _, _, _, _, _, _, _, _, _, _, _, _, _, _, _, _, _, _, _, _, _, _, _, _, _, _, _, _, ?_, rfl⟩, by simp [intOf]; omega⟩
                exact ⟨x + 1, _, by omega, by go_num, congrArg (Value.int .i64) (by omega), rfl, FIN.out.1, FIN.out.2⟩
            · obtain rfl : x = 1 := by omega
              have FIN := Lib.hid (And.intro hrow hbw)
              clear hrow hbw
              go_wp2
              have hrow := FIN.out.1
              rw [show y * 1 + 1 = (y + 1) * 1 by omega] at hrow
              exact ⟨⟨y + 1, _, by omega, by go_num, congrArg (Value.int .i64) (by omega), rfl, hrow, FIN.out.2⟩, by simp [intOf]; omega⟩
        · obtain rfl : y = 1 := by omega
          have hgl := HM.out.len
          have htt : (gridT 1 1 bn).take (2 * (1 * 1)) = gridT 1 1 bn := List.take_of_length_le (by rw [hgl]; omega)
          rw [htt] at hrow
          obtain ⟨gt, gtc, hvv⟩ : ∃ g c, vv = .slice (some ⟨g, 0, none⟩) 2 c := by
            rcases hrow.2 with ⟨h1, h2⟩ | ⟨g, cap, cur, h1, h2, h3⟩
            · omega
            · exact ⟨g, cap, h1⟩
          subst hvv
          have hgtl := hrow.lt gt rfl
          obtain ⟨w7, hw7⟩ : ∃ w7, w7 = wr := ⟨_, rfl⟩
          rw [← hw7] at hrow hbw hgtl
          rw [← hw7]
          clear hw7
          obtain ⟨fb, hfb⟩ : ∃ fb, w7.heap.size = fb := ⟨_, rfl⟩
          obtain ⟨hmk, hmp⟩ := run_new_map (P := Try.prog) w7 64 22
          obtain ⟨w8, hw8⟩ : ∃ w8, w7.alloc (.map #[] 0) = w8 := ⟨_, rfl⟩
          rw [hw8, hfb] at hmk hmp
          have hb8 : Below fb w7 w8 := by rw [← hw8, ← hfb]; exact (Below.refl _ _).alloc (Nat.le_refl _) _
          have htr := hrow.trIn
          have HRWT := Lib.hid hrow; have HBT := Lib.hid hbw; have HTR := Lib.hid htr; have HGTL := Lib.hid hgtl; have HFB := Lib.hid hfb; have HMP := Lib.hid (fault_new hmp); have HB8 := Lib.hid hb8
          clear hrow hbw htr hgtl hfb hmp hb8 hw8
          go_wp2
          clear hmk
          go_loopw [23, 25, 26, 116] (fun nv _ _ iv wr => ∃ j : Nat, j ≤ 2 ∧ iv = .int .i64 (j : Int) ∧ nv = .int .i64 ((3 * j : Nat) : Int) ∧ (∃ F, FaultMap Try.prog 22 wr fb F) ∧ Below fb w7 wr) (fun _ _ _ iv _ => 2 - (intOf iv).toNat)
          case atStart => exact ⟨0, Nat.zero_le _, rfl, rfl, ⟨_, HMP.out⟩, HB8.out⟩
          case round =>
            obtain ⟨j, hj, rfl, rfl, ⟨F, hF⟩, hbw⟩ := hrel
            by_cases hlt : j < 2
            · have hyd : decide ((j : Int) < 2) = true := decide_eq_true (by omega)
              obtain ⟨⟨x, y, z⟩, hv⟩ : ∃ v, (gridT 1 1 bn)[j]? = some v := ⟨_, List.getElem?_eq_getElem (by have := HM.out.len; omega)⟩
              obtain ⟨px, py, pz⟩ := OK.out.pts _ (List.mem_of_getElem? hv)
              have hpl6 := OK.out.many
              simp only [] at px py pz
              have htk := HTR.out j (x : Int) (y : Int) (z : Int) (by rw [List.getElem?_map, hv]; rfl)
              have hfb := HFB.out
              have l1 := World.block_lt_of_cell? w7 _ htk.1
              simp only [] at l1
              have ka := (hbw.cell (p := ⟨gt, j * 3, none⟩) (by show gt < fb; omega)).trans htk.1
              have kb := (hbw.cell (p := ⟨gt, j * 3 + 1, none⟩) (by show gt < fb; omega)).trans htk.2.1
              have kc := (hbw.cell (p := ⟨gt, j * 3 + 2, none⟩) (by show gt < fb; omega)).trans htk.2.2
              obtain ⟨w9, hw9, hpv, hb9, hs9⟩ := new_box wr _ rfl [.int .i64 (x : Int), .int .i64 (y : Int), .int .i64 (z : Int)] 46
              have hF9 := hF.same (hb9.block fb hF.lt)
              have hfl := hF.lt
              have hbw9 : Below fb w7 w9 := hbw.trans (hb9.mono (by omega))
              obtain ⟨tb, htb⟩ : ∃ tb, wr.heap.size = tb := ⟨_, rfl⟩
              have htf : fb < tb := by omega
              rw [htb] at hpv
              have HF9 := Lib.hid hF9; have HBW9 := Lib.hid hbw9; have HPV := Lib.hid hpv
              have hxyz : x < 10 ∧ y < 10 ∧ z < 10 := by
                have : (gridP 1 1).length = 4 := rfl
                omega
              clear hv px py pz htk hfb l1 hb9 hs9 hF9 hbw9 hpv hF hbw hfl hpl6
              go_wp2
              clear ka kb kc hw9 htb
              go_loopw [23, 26, 120] (fun nv _ iv wr => ∃ i : Nat, i ≤ 3 ∧ iv = .int .i64 (i : Int) ∧ nv = .int .i64 ((3 * j + i : Nat) : Int) ∧ (∃ F, FaultMap Try.prog 22 wr fb F) ∧ Box wr tb [.int .i64 (x : Int), .int .i64 (y : Int), .int .i64 (z : Int)] ∧ Below fb w7 wr) (fun _ _ iv _ => 3 - (intOf iv).toNat)
              case atStart => exact ⟨0, Nat.zero_le _, rfl, rfl, ⟨_, HF9.out⟩, HPV.out, HBW9.out⟩
              case round =>
                obtain ⟨i, hi, rfl, rfl, ⟨F2, hF2⟩, hbx, hbw⟩ := hrel
                by_cases hli : i < 3
                · obtain ⟨nn, hnn⟩ : ∃ nn : Nat, 3 * j + i = nn := ⟨_, rfl⟩
                  have hnn24 : nn < 24 := by omega
                  have HNN := Lib.hid hnn
                  rw [hnn]
                  clear hnn
                  have HF2 := Lib.hid hF2; have HBX2 := Lib.hid hbx; have HBW2 := Lib.hid hbw
                  clear hF2 hbx hbw
                  obtain ⟨q, hq⟩ : ∃ q : Bool, (bits .and .u32 (f / 2 ^ (nn % 32)) 1 == 1) = q := ⟨_, rfl⟩
                  have hfb2 := HF2.out.lt
                  have hd3 := (HF2.out.same (w' := wr.drew) rfl)
                  have hx3 := HBX2.out.drew
                  have hw3 := HBW2.out.drew'
                  have HF3 := Lib.hid hd3; have HBX3 := Lib.hid hx3; have HBW3 := Lib.hid hw3
                  clear hd3 hx3 hw3
                  cases q
                  · go_wp2
                    have hnn := HNN.out
                    exact ⟨⟨i + 1, by omega, by go_num, congrArg (Value.int .i64) (by omega), ⟨_, HF2.out⟩, HBX2.out, HBW2.out⟩, by simp [intOf]; omega⟩
                  · obtain rfl | rfl | rfl : i = 0 ∨ i = 1 ∨ i = 2 := by omega
                    · obtain ⟨mn, hmn⟩ : ∃ mn : Int, (if (y : Int) < (x : Int) then (y : Int) else (x : Int)) = mn := ⟨_, rfl⟩
                      obtain ⟨mx, hmx⟩ : ∃ mx : Int, (if (y : Int) > (x : Int) then (y : Int) else (x : Int)) = mx := ⟨_, rfl⟩
                      have bmn : -1000000 ≤ mn ∧ mn ≤ 1000000 := by rw [← hmn]; split <;> omega
                      have bmx : -1000000 ≤ mx ∧ mx ≤ 1000000 := by rw [← hmx]; split <;> omega
                      have hmin : ∀ w : World, Sem.run Try.prog (Builtin.min_ #[3, 3] 3 #[.int .i64 (x : Int), .int .i64 (y : Int)]) w = Result.ok (Value.int .i64 mn) w := fun w => by rw [run_min_int2, hmn]
                      have hmax : ∀ w : World, Sem.run Try.prog (Builtin.max_ #[3, 3] 3 #[.int .i64 (x : Int), .int .i64 (y : Int)]) w = Result.ok (Value.int .i64 mx) w := fun w => by rw [run_max_int2, hmx]
                      have hwk : (IntKind.i64.wrap 1).tmod 3 = 1 := by decide
                      obtain ⟨wm, F4, hup, hT4, hF4⟩ := fault_store HF3.out bmn bmx
                      have hx0 := HBX3.out.c 0 _ rfl; have hx1 := HBX3.out.c 1 _ rfl
                      have hbx4 := HBX3.out.turned hT4 (by omega)
                      have hbw4 : Below fb w7 wm := Below.turned HBW3.out hT4 (Nat.le_refl _)
                      have hy0 := hbx4.c 0 _ rfl; have hy1 := hbx4.c 1 _ rfl
                      have FIN := Lib.hid (And.intro hF4 (And.intro hbx4 hbw4))
                      clear hmn hmx bmn bmx hT4 hF4 hbx4 hbw4
                      go_wp2_with fail
                      obtain ⟨SSs, hSSs⟩ : ∃ S : Array Bool → World → Prop, ∀ l w', S l w' ↔ ((w'.cell? ⟨tb, 0, none⟩ = some (.int .i64 (x : Int))) ∧ (w'.cell? ⟨tb, 1, none⟩ = some (.int .i64 (y : Int)))) := ⟨_, fun _ _ => Iff.rfl⟩
                      refine wp_region_noPanic ?_
                      refine wp_region_G SSs 21 #[false, false, false, false, false, false, false, false, false, false, false, false, false, false, false, false, false, false, false, false, false] (by kernel_rfl) (by kernel_rfl) (by kernel_rfl) ((hSSs _ _).2 ⟨hx0, hx1⟩) (fun hCl hHeld => ?_)
                      generalize wr.drew = wd at *
                      refine reg_takeG 0 ?_ ?_ ?_ (by kernel_rfl) (by kernel_rfl) (by kernel_rfl) (fun _ _ _ h => h) ?_ ?_ ?_ hCl hHeld ?_
                      rotate_left 2
                      · simp only [List.getElem?_toArray, List.getElem?_cons_zero]; exact rfl
                      · intro l w'; rw [hSSs, hSSs]
                      · rfl
                      · intro w' hA; clear hA; go_simp; try with_reducible rfl
                      clear hCl hHeld
                      intro hCl hHeld
                      simp only [List.setIfInBounds_toArray, List.set_cons_zero] at hCl hHeld
                      try simp only [Act.put]
                      try simp only [List.setIfInBounds_toArray, List.set_cons_zero, List.set_cons_succ]
                      refine reg_takeG 1 ?_ ?_ ?_ (by kernel_rfl) (by kernel_rfl) (by kernel_rfl) (fun _ _ _ h => h) ?_ ?_ ?_ hCl hHeld ?_
                      rotate_left 2
                      · simp only [List.getElem?_toArray, List.getElem?_cons_succ, List.getElem?_cons_zero]; exact rfl
                      · intro l w'; rw [hSSs, hSSs]
                      · rfl
                      · intro w' hA; clear hA; go_simp; try with_reducible rfl
                      clear hCl hHeld
                      intro hCl hHeld
                      simp only [List.setIfInBounds_toArray, List.set_cons_zero, List.set_cons_succ] at hCl hHeld
                      try simp only [Act.put]
                      try simp only [List.setIfInBounds_toArray, List.set_cons_zero, List.set_cons_succ]
                      refine reg_takeG 2 ?_ ?_ ?_ (by kernel_rfl) (by kernel_rfl) (by kernel_rfl) (fun _ _ _ h => h) ?_ ?_ ?_ hCl hHeld ?_
                      rotate_left 2
                      · simp only [List.getElem?_toArray, List.getElem?_cons_succ, List.getElem?_cons_zero]; exact rfl
                      · intro l w'; rw [hSSs, hSSs]
                      · rfl
                      · intro w' hA; clear hA; go_simp; try with_reducible rfl
                      clear hCl hHeld
                      intro hCl hHeld
                      simp only [List.setIfInBounds_toArray, List.set_cons_zero, List.set_cons_succ] at hCl hHeld
                      try simp only [Act.put]
                      try simp only [List.setIfInBounds_toArray, List.set_cons_zero, List.set_cons_succ]
                      refine reg_takeG 3 ?_ ?_ ?_ (by kernel_rfl) (by kernel_rfl) (by kernel_rfl) (fun _ _ _ h => h) ?_ ?_ ?_ hCl hHeld ?_
                      rotate_left 2
                      · simp only [List.getElem?_toArray, List.getElem?_cons_succ, List.getElem?_cons_zero]; exact rfl
                      · intro l w'; rw [hSSs, hSSs]
                      · rfl
                      · intro w' hA; obtain ⟨l, hl, hi, hSl⟩ := hA; have hSl := (hSSs _ _).1 hSl; obtain ⟨hz0, hz1⟩ := hSl; go_simp; try with_reducible rfl
                      clear hCl hHeld
                      intro hCl hHeld
                      simp only [List.setIfInBounds_toArray, List.set_cons_zero, List.set_cons_succ] at hCl hHeld
                      try simp only [Act.put]
                      try simp only [List.setIfInBounds_toArray, List.set_cons_zero, List.set_cons_succ]
                      refine reg_takeG 4 ?_ ?_ ?_ (by kernel_rfl) (by kernel_rfl) (by kernel_rfl) (fun _ _ _ h => h) ?_ ?_ ?_ hCl hHeld ?_
                      rotate_left 2
                      · simp only [List.getElem?_toArray, List.getElem?_cons_succ, List.getElem?_cons_zero]; exact rfl
                      · intro l w'; rw [hSSs, hSSs]
                      · rfl
                      · intro w' hA; clear hA; go_simp; try with_reducible rfl
                      clear hCl hHeld
                      intro hCl hHeld
                      simp only [List.setIfInBounds_toArray, List.set_cons_zero, List.set_cons_succ] at hCl hHeld
                      try simp only [Act.put]
                      try simp only [List.setIfInBounds_toArray, List.set_cons_zero, List.set_cons_succ]
                      refine reg_takeG 5 ?_ ?_ ?_ (by kernel_rfl) (by kernel_rfl) (by kernel_rfl) (fun _ _ _ h => h) ?_ ?_ ?_ hCl hHeld ?_
                      rotate_left 2
                      · simp only [List.getElem?_toArray, List.getElem?_cons_succ, List.getElem?_cons_zero]; exact rfl
                      · intro l w'; rw [hSSs, hSSs]
                      · rfl
                      · intro w' hA; clear hA; go_simp; try with_reducible rfl
                      clear hCl hHeld
                      intro hCl hHeld
                      simp only [List.setIfInBounds_toArray, List.set_cons_zero, List.set_cons_succ] at hCl hHeld
                      try simp only [Act.put]
                      try simp only [List.setIfInBounds_toArray, List.set_cons_zero, List.set_cons_succ]
                      refine reg_takeG 6 ?_ ?_ ?_ (by kernel_rfl) (by kernel_rfl) (by kernel_rfl) (fun _ _ _ h => h) ?_ ?_ ?_ hCl hHeld ?_
                      rotate_left 2
                      · simp only [List.getElem?_toArray, List.getElem?_cons_succ, List.getElem?_cons_zero]; exact rfl
                      · intro l w'; rw [hSSs, hSSs]
                      · rfl
                      · intro w' hA; clear hA; go_simp; try with_reducible rfl
                      clear hCl hHeld
                      intro hCl hHeld
                      simp only [List.setIfInBounds_toArray, List.set_cons_zero, List.set_cons_succ] at hCl hHeld
                      try simp only [Act.put]
                      try simp only [List.setIfInBounds_toArray, List.set_cons_zero, List.set_cons_succ]
                      refine reg_takeG 7 ?_ ?_ ?_ (by kernel_rfl) (by kernel_rfl) (by kernel_rfl) (fun _ _ _ h => h) ?_ ?_ ?_ hCl hHeld ?_
                      rotate_left 2
                      · simp only [List.getElem?_toArray, List.getElem?_cons_succ, List.getElem?_cons_zero]; exact rfl
                      · intro l w'; rw [hSSs, hSSs]
                      · rfl
                      · intro w' hA; clear hA; go_simp; try with_reducible rfl
                      clear hCl hHeld
                      intro hCl hHeld
                      simp only [List.setIfInBounds_toArray, List.set_cons_zero, List.set_cons_succ] at hCl hHeld
                      try simp only [Act.put]
                      try simp only [List.setIfInBounds_toArray, List.set_cons_zero, List.set_cons_succ]
                      refine reg_takeG 8 ?_ ?_ ?_ (by kernel_rfl) (by kernel_rfl) (by kernel_rfl) (fun _ _ _ h => h) ?_ ?_ ?_ hCl hHeld ?_
                      rotate_left 2
                      · simp only [List.getElem?_toArray, List.getElem?_cons_succ, List.getElem?_cons_zero]; exact rfl
                      · intro l w'; rw [hSSs, hSSs]
                      · rfl
                      · intro w' hA; obtain ⟨l, hl, hi, hSl⟩ := hA; have hSl := (hSSs _ _).1 hSl; obtain ⟨hz0, hz1⟩ := hSl; go_simp; try with_reducible rfl
                      clear hCl hHeld
                      intro hCl hHeld
                      simp only [List.setIfInBounds_toArray, List.set_cons_zero, List.set_cons_succ] at hCl hHeld
                      try simp only [Act.put]
                      try simp only [List.setIfInBounds_toArray, List.set_cons_zero, List.set_cons_succ]
                      refine reg_takeG 9 ?_ ?_ ?_ (by kernel_rfl) (by kernel_rfl) (by kernel_rfl) (fun _ _ _ h => h) ?_ ?_ ?_ hCl hHeld ?_
                      rotate_left 2
                      · simp only [List.getElem?_toArray, List.getElem?_cons_succ, List.getElem?_cons_zero]; exact rfl
                      · intro l w'; rw [hSSs, hSSs]
                      · rfl
                      · intro w' hA; clear hA; go_simp; try with_reducible rfl
                      clear hCl hHeld
                      intro hCl hHeld
                      simp only [List.setIfInBounds_toArray, List.set_cons_zero, List.set_cons_succ] at hCl hHeld
                      try simp only [Act.put]
                      try simp only [List.setIfInBounds_toArray, List.set_cons_zero, List.set_cons_succ]
                      refine reg_takeG 10 ?_ ?_ ?_ (by kernel_rfl) (by kernel_rfl) (by kernel_rfl) (fun _ _ _ h => h) ?_ ?_ ?_ hCl hHeld ?_
                      rotate_left 2
                      · simp only [List.getElem?_toArray, List.getElem?_cons_succ, List.getElem?_cons_zero]; exact rfl
                      · intro l w'; rw [hSSs, hSSs]
                      · rfl
                      · intro w' hA; clear hA; go_simp; try with_reducible rfl
                      clear hCl hHeld
                      intro hCl hHeld
                      simp only [List.setIfInBounds_toArray, List.set_cons_zero, List.set_cons_succ] at hCl hHeld
                      try simp only [Act.put]
                      try simp only [List.setIfInBounds_toArray, List.set_cons_zero, List.set_cons_succ]
                      refine reg_takeG 11 ?_ ?_ ?_ (by kernel_rfl) (by kernel_rfl) (by kernel_rfl) (fun _ _ _ h => h) ?_ ?_ ?_ hCl hHeld ?_
                      rotate_left 2
                      · simp only [List.getElem?_toArray, List.getElem?_cons_succ, List.getElem?_cons_zero]; exact rfl
                      · intro l w'; rw [hSSs, hSSs]
                      · rfl
                      · intro w' hA; clear hA; go_simp; try with_reducible rfl
                      clear hCl hHeld
                      intro hCl hHeld
                      simp only [List.setIfInBounds_toArray, List.set_cons_zero, List.set_cons_succ] at hCl hHeld
                      try simp only [Act.put]
                      try simp only [List.setIfInBounds_toArray, List.set_cons_zero, List.set_cons_succ]
                      refine reg_takeG 12 ?_ ?_ ?_ (by kernel_rfl) (by kernel_rfl) (by kernel_rfl) (fun _ _ _ h => h) ?_ ?_ ?_ hCl hHeld ?_
                      rotate_left 2
                      · simp only [List.getElem?_toArray, List.getElem?_cons_succ, List.getElem?_cons_zero]; exact rfl
                      · intro l w'; rw [hSSs, hSSs]
                      · rfl
                      · intro w' hA; obtain ⟨l, hl, hi, hSl⟩ := hA; have hSl := (hSSs _ _).1 hSl; obtain ⟨hz0, hz1⟩ := hSl; go_simp; try with_reducible rfl
                      clear hCl hHeld
                      intro hCl hHeld
                      simp only [List.setIfInBounds_toArray, List.set_cons_zero, List.set_cons_succ] at hCl hHeld
                      try simp only [Act.put]
                      try simp only [List.setIfInBounds_toArray, List.set_cons_zero, List.set_cons_succ]
                      refine reg_takeG 13 ?_ ?_ ?_ (by kernel_rfl) (by kernel_rfl) (by kernel_rfl) (fun _ _ _ h => h) ?_ ?_ ?_ hCl hHeld ?_
                      rotate_left 2
                      · simp only [List.getElem?_toArray, List.getElem?_cons_succ, List.getElem?_cons_zero]; exact rfl
                      · intro l w'; rw [hSSs, hSSs]
                      · rfl
                      · intro w' hA; clear hA; go_simp; try with_reducible rfl
                      clear hCl hHeld
                      intro hCl hHeld
                      simp only [List.setIfInBounds_toArray, List.set_cons_zero, List.set_cons_succ] at hCl hHeld
                      try simp only [Act.put]
                      try simp only [List.setIfInBounds_toArray, List.set_cons_zero, List.set_cons_succ]
                      refine reg_takeG 14 ?_ ?_ ?_ (by kernel_rfl) (by kernel_rfl) (by kernel_rfl) (fun _ _ _ h => h) ?_ ?_ ?_ hCl hHeld ?_
                      rotate_left 2
                      · simp only [List.getElem?_toArray, List.getElem?_cons_succ, List.getElem?_cons_zero]; exact rfl
                      · intro l w'; rw [hSSs, hSSs]
                      · rfl
                      · intro w' hA; clear hA; go_simp; try with_reducible rfl
                      clear hCl hHeld
                      intro hCl hHeld
                      simp only [List.setIfInBounds_toArray, List.set_cons_zero, List.set_cons_succ] at hCl hHeld
                      try simp only [Act.put]
                      try simp only [List.setIfInBounds_toArray, List.set_cons_zero, List.set_cons_succ]
                      refine reg_takeG 15 ?_ ?_ ?_ (by kernel_rfl) (by kernel_rfl) (by kernel_rfl) (fun _ _ _ h => h) ?_ ?_ ?_ hCl hHeld ?_
                      rotate_left 2
                      · simp only [List.getElem?_toArray, List.getElem?_cons_succ, List.getElem?_cons_zero]; exact rfl
                      · intro l w'; rw [hSSs, hSSs]
                      · rfl
                      · intro w' hA; clear hA; go_simp; try with_reducible rfl
                      clear hCl hHeld
                      intro hCl hHeld
                      simp only [List.setIfInBounds_toArray, List.set_cons_zero, List.set_cons_succ] at hCl hHeld
                      try simp only [Act.put]
                      try simp only [List.setIfInBounds_toArray, List.set_cons_zero, List.set_cons_succ]
                      refine reg_takeG 16 ?_ ?_ ?_ (by kernel_rfl) (by kernel_rfl) (by kernel_rfl) (fun _ _ _ h => h) ?_ ?_ ?_ hCl hHeld ?_
                      rotate_left 2
                      · simp only [List.getElem?_toArray, List.getElem?_cons_succ, List.getElem?_cons_zero]; exact rfl
                      · intro l w'; rw [hSSs, hSSs]
                      · rfl
                      · intro w' hA; clear hA; go_simp; try with_reducible rfl
                      clear hCl hHeld
                      intro hCl hHeld
                      simp only [List.setIfInBounds_toArray, List.set_cons_zero, List.set_cons_succ] at hCl hHeld
                      try simp only [Act.put]
                      try simp only [List.setIfInBounds_toArray, List.set_cons_zero, List.set_cons_succ]
                      refine reg_takeG 17 ?_ ?_ ?_ (by kernel_rfl) (by kernel_rfl) (by kernel_rfl) (fun _ _ _ h => h) ?_ ?_ ?_ hCl hHeld ?_
                      rotate_left 2
                      · simp only [List.getElem?_toArray, List.getElem?_cons_succ, List.getElem?_cons_zero]; exact rfl
                      · intro l w'; rw [hSSs, hSSs]
                      · rfl
                      · intro w' hA; obtain ⟨l, hl, hi, hSl⟩ := hA; have hSl := (hSSs _ _).1 hSl; obtain ⟨hz0, hz1⟩ := hSl; go_simp; try with_reducible rfl
                      clear hCl hHeld
                      intro hCl hHeld
                      simp only [List.setIfInBounds_toArray, List.set_cons_zero, List.set_cons_succ] at hCl hHeld
                      try simp only [Act.put]
                      try simp only [List.setIfInBounds_toArray, List.set_cons_zero, List.set_cons_succ]
                      refine reg_takeG 18 ?_ ?_ ?_ (by kernel_rfl) (by kernel_rfl) (by kernel_rfl) (fun _ _ _ h => h) ?_ ?_ ?_ hCl hHeld ?_
                      rotate_left 2
                      · simp only [List.getElem?_toArray, List.getElem?_cons_succ, List.getElem?_cons_zero]; exact rfl
                      · intro l w'; rw [hSSs, hSSs]
                      · rfl
                      · intro w' hA; clear hA; go_simp; try with_reducible rfl
                      clear hCl hHeld
                      intro hCl hHeld
                      simp only [List.setIfInBounds_toArray, List.set_cons_zero, List.set_cons_succ] at hCl hHeld
                      try simp only [Act.put]
                      try simp only [List.setIfInBounds_toArray, List.set_cons_zero, List.set_cons_succ]
                      refine reg_takeG 19 ?_ ?_ ?_ (by kernel_rfl) (by kernel_rfl) (by kernel_rfl) (fun _ _ _ h => h) ?_ ?_ ?_ hCl hHeld ?_
                      rotate_left 2
                      · simp only [List.getElem?_toArray, List.getElem?_cons_succ, List.getElem?_cons_zero]; exact rfl
                      · intro l w'; rw [hSSs, hSSs]
                      · rfl
                      · intro w' hA; clear hA; go_simp; try with_reducible rfl
                      clear hCl hHeld
                      intro hCl hHeld
                      simp only [List.setIfInBounds_toArray, List.set_cons_zero, List.set_cons_succ] at hCl hHeld
                      try simp only [Act.put]
                      try simp only [List.setIfInBounds_toArray, List.set_cons_zero, List.set_cons_succ]
                      clear hCl hHeld
                      refine reg_callG 20 ?_ (by kernel_rfl) ?_ (fun K hK => ?_)
                      rotate_left 1
                      · simp only [List.getElem?_toArray, List.getElem?_cons_succ, List.getElem?_cons_zero]; exact rfl
                      go_simp
                      clear hx0 hx1 hup
                      refine hK.out _ _ ((hSSs _ _).2 ⟨hy0, hy1⟩) ?_
                      clear hK K
                      try simp only [Act.put]
                      try simp only [List.setIfInBounds_toArray, List.set_cons_zero, List.set_cons_succ]
                      refine wpAnyG_done (by kernel_rfl) ?_ _
                      refine NoPanic.normal ?_
                      clear hSSs SSs
                      go_wp2
                      have hnn := HNN.out
                      refine ⟨⟨_, _, _, _, _, _, _, _, _, _, _, _, _, _, _, _, _, _, _, _, _, _, _, _, _, _, _, _, _, _, _, _, _, _, ?_, rfl⟩, by simp [intOf]⟩
                      exact ⟨0 + 1, by omega, by go_num, congrArg (Value.int .i64) (by omega), ⟨_, FIN.out.1⟩, FIN.out.2.1, FIN.out.2.2⟩
                    · obtain ⟨mn, hmn⟩ : ∃ mn : Int, (if (z : Int) < (y : Int) then (z : Int) else (y : Int)) = mn := ⟨_, rfl⟩
                      obtain ⟨mx, hmx⟩ : ∃ mx : Int, (if (z : Int) > (y : Int) then (z : Int) else (y : Int)) = mx := ⟨_, rfl⟩
                      have bmn : -1000000 ≤ mn ∧ mn ≤ 1000000 := by rw [← hmn]; split <;> omega
                      have bmx : -1000000 ≤ mx ∧ mx ≤ 1000000 := by rw [← hmx]; split <;> omega
                      have hmin : ∀ w : World, Sem.run Try.prog (Builtin.min_ #[3, 3] 3 #[.int .i64 (y : Int), .int .i64 (z : Int)]) w = Result.ok (Value.int .i64 mn) w := fun w => by rw [run_min_int2, hmn]
                      have hmax : ∀ w : World, Sem.run Try.prog (Builtin.max_ #[3, 3] 3 #[.int .i64 (y : Int), .int .i64 (z : Int)]) w = Result.ok (Value.int .i64 mx) w := fun w => by rw [run_max_int2, hmx]
                      have hwk : (IntKind.i64.wrap 2).tmod 3 = 2 := by decide
                      obtain ⟨wm, F4, hup, hT4, hF4⟩ := fault_store HF3.out bmn bmx
                      have hx0 := HBX3.out.c 1 _ rfl; have hx1 := HBX3.out.c 2 _ rfl
                      have hbx4 := HBX3.out.turned hT4 (by omega)
                      have hbw4 : Below fb w7 wm := Below.turned HBW3.out hT4 (Nat.le_refl _)
                      have hy0 := hbx4.c 1 _ rfl; have hy1 := hbx4.c 2 _ rfl
                      have FIN := Lib.hid (And.intro hF4 (And.intro hbx4 hbw4))
                      clear hmn hmx bmn bmx hT4 hF4 hbx4 hbw4
                      go_wp2_with fail
                      obtain ⟨SSs, hSSs⟩ : ∃ S : Array Bool → World → Prop, ∀ l w', S l w' ↔ ((w'.cell? ⟨tb, 1, none⟩ = some (.int .i64 (y : Int))) ∧ (w'.cell? ⟨tb, 2, none⟩ = some (.int .i64 (z : Int)))) := ⟨_, fun _ _ => Iff.rfl⟩
                      refine wp_region_noPanic ?_
                      refine wp_region_G SSs 21 #[false, false, false, false, false, false, false, false, false, false, false, false, false, false, false, false, false, false, false, false, false] (by kernel_rfl) (by kernel_rfl) (by kernel_rfl) ((hSSs _ _).2 ⟨hx0, hx1⟩) (fun hCl hHeld => ?_)
                      generalize wr.drew = wd at *
                      refine reg_takeG 0 ?_ ?_ ?_ (by kernel_rfl) (by kernel_rfl) (by kernel_rfl) (fun _ _ _ h => h) ?_ ?_ ?_ hCl hHeld ?_
                      rotate_left 2
                      · simp only [List.getElem?_toArray, List.getElem?_cons_zero]; exact rfl
                      · intro l w'; rw [hSSs, hSSs]
                      · rfl
                      · intro w' hA; clear hA; go_simp; try with_reducible rfl
                      clear hCl hHeld
                      intro hCl hHeld
                      simp only [List.setIfInBounds_toArray, List.set_cons_zero] at hCl hHeld
                      try simp only [Act.put]
                      try simp only [List.setIfInBounds_toArray, List.set_cons_zero, List.set_cons_succ]
                      refine reg_takeG 1 ?_ ?_ ?_ (by kernel_rfl) (by kernel_rfl) (by kernel_rfl) (fun _ _ _ h => h) ?_ ?_ ?_ hCl hHeld ?_
                      rotate_left 2
                      · simp only [List.getElem?_toArray, List.getElem?_cons_succ, List.getElem?_cons_zero]; exact rfl
                      · intro l w'; rw [hSSs, hSSs]
                      · rfl
                      · intro w' hA; clear hA; go_simp; try with_reducible rfl
                      clear hCl hHeld
                      intro hCl hHeld
                      simp only [List.setIfInBounds_toArray, List.set_cons_zero, List.set_cons_succ] at hCl hHeld
                      try simp only [Act.put]
                      try simp only [List.setIfInBounds_toArray, List.set_cons_zero, List.set_cons_succ]
                      refine reg_takeG 2 ?_ ?_ ?_ (by kernel_rfl) (by kernel_rfl) (by kernel_rfl) (fun _ _ _ h => h) ?_ ?_ ?_ hCl hHeld ?_
                      rotate_left 2
                      · simp only [List.getElem?_toArray, List.getElem?_cons_succ, List.getElem?_cons_zero]; exact rfl
                      · intro l w'; rw [hSSs, hSSs]
                      · rfl
                      · intro w' hA; clear hA; go_simp; try with_reducible rfl
                      clear hCl hHeld
                      intro hCl hHeld
                      simp only [List.setIfInBounds_toArray, List.set_cons_zero, List.set_cons_succ] at hCl hHeld
                      try simp only [Act.put]
                      try simp only [List.setIfInBounds_toArray, List.set_cons_zero, List.set_cons_succ]
                      refine reg_takeG 3 ?_ ?_ ?_ (by kernel_rfl) (by kernel_rfl) (by kernel_rfl) (fun _ _ _ h => h) ?_ ?_ ?_ hCl hHeld ?_
                      rotate_left 2
                      · simp only [List.getElem?_toArray, List.getElem?_cons_succ, List.getElem?_cons_zero]; exact rfl
                      · intro l w'; rw [hSSs, hSSs]
                      · rfl
                      · intro w' hA; obtain ⟨l, hl, hi, hSl⟩ := hA; have hSl := (hSSs _ _).1 hSl; obtain ⟨hz0, hz1⟩ := hSl; go_simp; try with_reducible rfl
                      clear hCl hHeld
                      intro hCl hHeld
                      simp only [List.setIfInBounds_toArray, List.set_cons_zero, List.set_cons_succ] at hCl hHeld
                      try simp only [Act.put]
                      try simp only [List.setIfInBounds_toArray, List.set_cons_zero, List.set_cons_succ]
                      refine reg_takeG 4 ?_ ?_ ?_ (by kernel_rfl) (by kernel_rfl) (by kernel_rfl) (fun _ _ _ h => h) ?_ ?_ ?_ hCl hHeld ?_
                      rotate_left 2
                      · simp only [List.getElem?_toArray, List.getElem?_cons_succ, List.getElem?_cons_zero]; exact rfl
                      · intro l w'; rw [hSSs, hSSs]
                      · rfl
                      · intro w' hA; clear hA; go_simp; try with_reducible rfl
                      clear hCl hHeld
                      intro hCl hHeld
                      simp only [List.setIfInBounds_toArray, List.set_cons_zero, List.set_cons_succ] at hCl hHeld
                      try simp only [Act.put]
                      try simp only [List.setIfInBounds_toArray, List.set_cons_zero, List.set_cons_succ]
                      refine reg_takeG 5 ?_ ?_ ?_ (by kernel_rfl) (by kernel_rfl) (by kernel_rfl) (fun _ _ _ h => h) ?_ ?_ ?_ hCl hHeld ?_
                      rotate_left 2
                      · simp only [List.getElem?_toArray, List.getElem?_cons_succ, List.getElem?_cons_zero]; exact rfl
                      · intro l w'; rw [hSSs, hSSs]
                      · rfl
                      · intro w' hA; clear hA; go_simp; try with_reducible rfl
                      clear hCl hHeld
                      intro hCl hHeld
                      simp only [List.setIfInBounds_toArray, List.set_cons_zero, List.set_cons_succ] at hCl hHeld
                      try simp only [Act.put]
                      try simp only [List.setIfInBounds_toArray, List.set_cons_zero, List.set_cons_succ]
                      refine reg_takeG 6 ?_ ?_ ?_ (by kernel_rfl) (by kernel_rfl) (by kernel_rfl) (fun _ _ _ h => h) ?_ ?_ ?_ hCl hHeld ?_
                      rotate_left 2
                      · simp only [List.getElem?_toArray, List.getElem?_cons_succ, List.getElem?_cons_zero]; exact rfl
                      · intro l w'; rw [hSSs, hSSs]
                      · rfl
                      · intro w' hA; clear hA; go_simp; try with_reducible rfl
                      clear hCl hHeld
                      intro hCl hHeld
                      simp only [List.setIfInBounds_toArray, List.set_cons_zero, List.set_cons_succ] at hCl hHeld
                      try simp only [Act.put]
                      try simp only [List.setIfInBounds_toArray, List.set_cons_zero, List.set_cons_succ]
                      refine reg_takeG 7 ?_ ?_ ?_ (by kernel_rfl) (by kernel_rfl) (by kernel_rfl) (fun _ _ _ h => h) ?_ ?_ ?_ hCl hHeld ?_
                      rotate_left 2
                      · simp only [List.getElem?_toArray, List.getElem?_cons_succ, List.getElem?_cons_zero]; exact rfl
                      · intro l w'; rw [hSSs, hSSs]
                      · rfl
                      · intro w' hA; clear hA; go_simp; try with_reducible rfl
                      clear hCl hHeld
                      intro hCl hHeld
                      simp only [List.setIfInBounds_toArray, List.set_cons_zero, List.set_cons_succ] at hCl hHeld
                      try simp only [Act.put]
                      try simp only [List.setIfInBounds_toArray, List.set_cons_zero, List.set_cons_succ]
                      refine reg_takeG 8 ?_ ?_ ?_ (by kernel_rfl) (by kernel_rfl) (by kernel_rfl) (fun _ _ _ h => h) ?_ ?_ ?_ hCl hHeld ?_
                      rotate_left 2
                      · simp only [List.getElem?_toArray, List.getElem?_cons_succ, List.getElem?_cons_zero]; exact rfl
                      · intro l w'; rw [hSSs, hSSs]
                      · rfl
                      · intro w' hA; obtain ⟨l, hl, hi, hSl⟩ := hA; have hSl := (hSSs _ _).1 hSl; obtain ⟨hz0, hz1⟩ := hSl; go_simp; try with_reducible rfl
                      clear hCl hHeld
                      intro hCl hHeld
                      simp only [List.setIfInBounds_toArray, List.set_cons_zero, List.set_cons_succ] at hCl hHeld
                      try simp only [Act.put]
                      try simp only [List.setIfInBounds_toArray, List.set_cons_zero, List.set_cons_succ]
                      refine reg_takeG 9 ?_ ?_ ?_ (by kernel_rfl) (by kernel_rfl) (by kernel_rfl) (fun _ _ _ h => h) ?_ ?_ ?_ hCl hHeld ?_
                      rotate_left 2
                      · simp only [List.getElem?_toArray, List.getElem?_cons_succ, List.getElem?_cons_zero]; exact rfl
                      · intro l w'; rw [hSSs, hSSs]
                      · rfl
                      · intro w' hA; clear hA; go_simp; try with_reducible rfl
                      clear hCl hHeld
                      intro hCl hHeld
                      simp only [List.setIfInBounds_toArray, List.set_cons_zero, List.set_cons_succ] at hCl hHeld
                      try simp only [Act.put]
                      try simp only [List.setIfInBounds_toArray, List.set_cons_zero, List.set_cons_succ]
                      refine reg_takeG 10 ?_ ?_ ?_ (by kernel_rfl) (by kernel_rfl) (by kernel_rfl) (fun _ _ _ h => h) ?_ ?_ ?_ hCl hHeld ?_
                      rotate_left 2
                      · simp only [List.getElem?_toArray, List.getElem?_cons_succ, List.getElem?_cons_zero]; exact rfl
                      · intro l w'; rw [hSSs, hSSs]
                      · rfl
                      · intro w' hA; clear hA; go_simp; try with_reducible rfl
                      clear hCl hHeld
                      intro hCl hHeld
                      simp only [List.setIfInBounds_toArray, List.set_cons_zero, List.set_cons_succ] at hCl hHeld
                      try simp only [Act.put]
                      try simp only [List.setIfInBounds_toArray, List.set_cons_zero, List.set_cons_succ]
                      refine reg_takeG 11 ?_ ?_ ?_ (by kernel_rfl) (by kernel_rfl) (by kernel_rfl) (fun _ _ _ h => h) ?_ ?_ ?_ hCl hHeld ?_
                      rotate_left 2
                      · simp only [List.getElem?_toArray, List.getElem?_cons_succ, List.getElem?_cons_zero]; exact rfl
                      · intro l w'; rw [hSSs, hSSs]
                      · rfl
                      · intro w' hA; clear hA; go_simp; try with_reducible rfl
                      clear hCl hHeld
                      intro hCl hHeld
                      simp only [List.setIfInBounds_toArray, List.set_cons_zero, List.set_cons_succ] at hCl hHeld
                      try simp only [Act.put]
                      try simp only [List.setIfInBounds_toArray, List.set_cons_zero, List.set_cons_succ]
                      refine reg_takeG 12 ?_ ?_ ?_ (by kernel_rfl) (by kernel_rfl) (by kernel_rfl) (fun _ _ _ h => h) ?_ ?_ ?_ hCl hHeld ?_
                      rotate_left 2
                      · simp only [List.getElem?_toArray, List.getElem?_cons_succ, List.getElem?_cons_zero]; exact rfl
                      · intro l w'; rw [hSSs, hSSs]
                      · rfl
                      · intro w' hA; obtain ⟨l, hl, hi, hSl⟩ := hA; have hSl := (hSSs _ _).1 hSl; obtain ⟨hz0, hz1⟩ := hSl; go_simp; try with_reducible rfl
                      clear hCl hHeld
                      intro hCl hHeld
                      simp only [List.setIfInBounds_toArray, List.set_cons_zero, List.set_cons_succ] at hCl hHeld
                      try simp only [Act.put]
                      try simp only [List.setIfInBounds_toArray, List.set_cons_zero, List.set_cons_succ]
                      refine reg_takeG 13 ?_ ?_ ?_ (by kernel_rfl) (by kernel_rfl) (by kernel_rfl) (fun _ _ _ h => h) ?_ ?_ ?_ hCl hHeld ?_
                      rotate_left 2
                      · simp only [List.getElem?_toArray, List.getElem?_cons_succ, List.getElem?_cons_zero]; exact rfl
                      · intro l w'; rw [hSSs, hSSs]
                      · rfl
                      · intro w' hA; clear hA; go_simp; try with_reducible rfl
                      clear hCl hHeld
                      intro hCl hHeld
                      simp only [List.setIfInBounds_toArray, List.set_cons_zero, List.set_cons_succ] at hCl hHeld
                      try simp only [Act.put]
                      try simp only [List.setIfInBounds_toArray, List.set_cons_zero, List.set_cons_succ]
                      refine reg_takeG 14 ?_ ?_ ?_ (by kernel_rfl) (by kernel_rfl) (by kernel_rfl) (fun _ _ _ h => h) ?_ ?_ ?_ hCl hHeld ?_
                      rotate_left 2
                      · simp only [List.getElem?_toArray, List.getElem?_cons_succ, List.getElem?_cons_zero]; exact rfl
                      · intro l w'; rw [hSSs, hSSs]
                      · rfl
                      · intro w' hA; clear hA; go_simp; try with_reducible rfl
                      clear hCl hHeld
                      intro hCl hHeld
                      simp only [List.setIfInBounds_toArray, List.set_cons_zero, List.set_cons_succ] at hCl hHeld
                      try simp only [Act.put]
                      try simp only [List.setIfInBounds_toArray, List.set_cons_zero, List.set_cons_succ]
                      refine reg_takeG 15 ?_ ?_ ?_ (by kernel_rfl) (by kernel_rfl) (by kernel_rfl) (fun _ _ _ h => h) ?_ ?_ ?_ hCl hHeld ?_
                      rotate_left 2
                      · simp only [List.getElem?_toArray, List.getElem?_cons_succ, List.getElem?_cons_zero]; exact rfl
                      · intro l w'; rw [hSSs, hSSs]
                      · rfl
                      · intro w' hA; clear hA; go_simp; try with_reducible rfl
                      clear hCl hHeld
                      intro hCl hHeld
                      simp only [List.setIfInBounds_toArray, List.set_cons_zero, List.set_cons_succ] at hCl hHeld
                      try simp only [Act.put]
                      try simp only [List.setIfInBounds_toArray, List.set_cons_zero, List.set_cons_succ]
                      refine reg_takeG 16 ?_ ?_ ?_ (by kernel_rfl) (by kernel_rfl) (by kernel_rfl) (fun _ _ _ h => h) ?_ ?_ ?_ hCl hHeld ?_
                      rotate_left 2
                      · simp only [List.getElem?_toArray, List.getElem?_cons_succ, List.getElem?_cons_zero]; exact rfl
                      · intro l w'; rw [hSSs, hSSs]
                      · rfl
                      · intro w' hA; clear hA; go_simp; try with_reducible rfl
                      clear hCl hHeld
                      intro hCl hHeld
                      simp only [List.setIfInBounds_toArray, List.set_cons_zero, List.set_cons_succ] at hCl hHeld
                      try simp only [Act.put]
                      try simp only [List.setIfInBounds_toArray, List.set_cons_zero, List.set_cons_succ]
                      refine reg_takeG 17 ?_ ?_ ?_ (by kernel_rfl) (by kernel_rfl) (by kernel_rfl) (fun _ _ _ h => h) ?_ ?_ ?_ hCl hHeld ?_
                      rotate_left 2
                      · simp only [List.getElem?_toArray, List.getElem?_cons_succ, List.getElem?_cons_zero]; exact rfl
                      · intro l w'; rw [hSSs, hSSs]
                      · rfl
                      · intro w' hA; obtain ⟨l, hl, hi, hSl⟩ := hA; have hSl := (hSSs _ _).1 hSl; obtain ⟨hz0, hz1⟩ := hSl; go_simp; try with_reducible rfl
                      clear hCl hHeld
                      intro hCl hHeld
                      simp only [List.setIfInBounds_toArray, List.set_cons_zero, List.set_cons_succ] at hCl hHeld
                      try simp only [Act.put]
                      try simp only [List.setIfInBounds_toArray, List.set_cons_zero, List.set_cons_succ]
                      refine reg_takeG 18 ?_ ?_ ?_ (by kernel_rfl) (by kernel_rfl) (by kernel_rfl) (fun _ _ _ h => h) ?_ ?_ ?_ hCl hHeld ?_
                      rotate_left 2
                      · simp only [List.getElem?_toArray, List.getElem?_cons_succ, List.getElem?_cons_zero]; exact rfl
                      · intro l w'; rw [hSSs, hSSs]
                      · rfl
                      · intro w' hA; clear hA; go_simp; try with_reducible rfl
                      clear hCl hHeld
                      intro hCl hHeld
                      simp only [List.setIfInBounds_toArray, List.set_cons_zero, List.set_cons_succ] at hCl hHeld
                      try simp only [Act.put]
                      try simp only [List.setIfInBounds_toArray, List.set_cons_zero, List.set_cons_succ]
                      refine reg_takeG 19 ?_ ?_ ?_ (by kernel_rfl) (by kernel_rfl) (by kernel_rfl) (fun _ _ _ h => h) ?_ ?_ ?_ hCl hHeld ?_
                      rotate_left 2
                      · simp only [List.getElem?_toArray, List.getElem?_cons_succ, List.getElem?_cons_zero]; exact rfl
                      · intro l w'; rw [hSSs, hSSs]
                      · rfl
                      · intro w' hA; clear hA; go_simp; try with_reducible rfl
                      clear hCl hHeld
                      intro hCl hHeld
                      simp only [List.setIfInBounds_toArray, List.set_cons_zero, List.set_cons_succ] at hCl hHeld
                      try simp only [Act.put]
                      try simp only [List.setIfInBounds_toArray, List.set_cons_zero, List.set_cons_succ]
                      clear hCl hHeld
                      refine reg_callG 20 ?_ (by kernel_rfl) ?_ (fun K hK => ?_)
                      rotate_left 1
                      · simp only [List.getElem?_toArray, List.getElem?_cons_succ, List.getElem?_cons_zero]; exact rfl
                      go_simp
                      clear hx0 hx1 hup
                      refine hK.out _ _ ((hSSs _ _).2 ⟨hy0, hy1⟩) ?_
                      clear hK K
                      try simp only [Act.put]
                      try simp only [List.setIfInBounds_toArray, List.set_cons_zero, List.set_cons_succ]
                      refine wpAnyG_done (by kernel_rfl) ?_ _
                      refine NoPanic.normal ?_
                      clear hSSs SSs
                      go_wp2
                      have hnn := HNN.out
                      refine ⟨⟨_, _, _, _, _, _, _, _, _, _, _, _, _, _, _, _, _, _, _, _, _, _, _, _, _, _, _, _, _, _, _, _, _, _, ?_, rfl⟩, by simp [intOf]⟩
                      exact ⟨1 + 1, by omega, by go_num, congrArg (Value.int .i64) (by omega), ⟨_, FIN.out.1⟩, FIN.out.2.1, FIN.out.2.2⟩
                    · obtain ⟨mn, hmn⟩ : ∃ mn : Int, (if (x : Int) < (z : Int) then (x : Int) else (z : Int)) = mn := ⟨_, rfl⟩
                      obtain ⟨mx, hmx⟩ : ∃ mx : Int, (if (x : Int) > (z : Int) then (x : Int) else (z : Int)) = mx := ⟨_, rfl⟩
                      have bmn : -1000000 ≤ mn ∧ mn ≤ 1000000 := by rw [← hmn]; split <;> omega
                      have bmx : -1000000 ≤ mx ∧ mx ≤ 1000000 := by rw [← hmx]; split <;> omega
                      have hmin : ∀ w : World, Sem.run Try.prog (Builtin.min_ #[3, 3] 3 #[.int .i64 (z : Int), .int .i64 (x : Int)]) w = Result.ok (Value.int .i64 mn) w := fun w => by rw [run_min_int2, hmn]
                      have hmax : ∀ w : World, Sem.run Try.prog (Builtin.max_ #[3, 3] 3 #[.int .i64 (z : Int), .int .i64 (x : Int)]) w = Result.ok (Value.int .i64 mx) w := fun w => by rw [run_max_int2, hmx]
                      have hwk : (IntKind.i64.wrap 3).tmod 3 = 0 := by decide
                      obtain ⟨wm, F4, hup, hT4, hF4⟩ := fault_store HF3.out bmn bmx
                      have hx0 := HBX3.out.c 2 _ rfl; have hx1 := HBX3.out.c 0 _ rfl
                      have hbx4 := HBX3.out.turned hT4 (by omega)
                      have hbw4 : Below fb w7 wm := Below.turned HBW3.out hT4 (Nat.le_refl _)
                      have hy0 := hbx4.c 2 _ rfl; have hy1 := hbx4.c 0 _ rfl
                      have FIN := Lib.hid (And.intro hF4 (And.intro hbx4 hbw4))
                      clear hmn hmx bmn bmx hT4 hF4 hbx4 hbw4
                      go_wp2_with fail
                      obtain ⟨SSs, hSSs⟩ : ∃ S : Array Bool → World → Prop, ∀ l w', S l w' ↔ ((w'.cell? ⟨tb, 2, none⟩ = some (.int .i64 (z : Int))) ∧ (w'.cell? ⟨tb, 0, none⟩ = some (.int .i64 (x : Int)))) := ⟨_, fun _ _ => Iff.rfl⟩
                      refine wp_region_noPanic ?_
                      refine wp_region_G SSs 21 #[false, false, false, false, false, false, false, false, false, false, false, false, false, false, false, false, false, false, false, false, false] (by kernel_rfl) (by kernel_rfl) (by kernel_rfl) ((hSSs _ _).2 ⟨hx0, hx1⟩) (fun hCl hHeld => ?_)
                      generalize wr.drew = wd at *
                      refine reg_takeG 0 ?_ ?_ ?_ (by kernel_rfl) (by kernel_rfl) (by kernel_rfl) (fun _ _ _ h => h) ?_ ?_ ?_ hCl hHeld ?_
                      rotate_left 2
                      · simp only [List.getElem?_toArray, List.getElem?_cons_zero]; exact rfl
                      · intro l w'; rw [hSSs, hSSs]
                      · rfl
                      · intro w' hA; clear hA; go_simp; try with_reducible rfl
                      clear hCl hHeld
                      intro hCl hHeld
                      simp only [List.setIfInBounds_toArray, List.set_cons_zero] at hCl hHeld
                      try simp only [Act.put]
                      try simp only [List.setIfInBounds_toArray, List.set_cons_zero, List.set_cons_succ]
                      refine reg_takeG 1 ?_ ?_ ?_ (by kernel_rfl) (by kernel_rfl) (by kernel_rfl) (fun _ _ _ h => h) ?_ ?_ ?_ hCl hHeld ?_
                      rotate_left 2
                      · simp only [List.getElem?_toArray, List.getElem?_cons_succ, List.getElem?_cons_zero]; exact rfl
                      · intro l w'; rw [hSSs, hSSs]
                      · rfl
                      · intro w' hA; clear hA; go_simp; try with_reducible rfl
                      clear hCl hHeld
                      intro hCl hHeld
                      simp only [List.setIfInBounds_toArray, List.set_cons_zero, List.set_cons_succ] at hCl hHeld
                      try simp only [Act.put]
                      try simp only [List.setIfInBounds_toArray, List.set_cons_zero, List.set_cons_succ]
                      refine reg_takeG 2 ?_ ?_ ?_ (by kernel_rfl) (by kernel_rfl) (by kernel_rfl) (fun _ _ _ h => h) ?_ ?_ ?_ hCl hHeld ?_
                      rotate_left 2
                      · simp only [List.getElem?_toArray, List.getElem?_cons_succ, List.getElem?_cons_zero]; exact rfl
                      · intro l w'; rw [hSSs, hSSs]
                      · rfl
                      · intro w' hA; clear hA; go_simp; try with_reducible rfl
                      clear hCl hHeld
                      intro hCl hHeld
                      simp only [List.setIfInBounds_toArray, List.set_cons_zero, List.set_cons_succ] at hCl hHeld
                      try simp only [Act.put]
                      try simp only [List.setIfInBounds_toArray, List.set_cons_zero, List.set_cons_succ]
                      refine reg_takeG 3 ?_ ?_ ?_ (by kernel_rfl) (by kernel_rfl) (by kernel_rfl) (fun _ _ _ h => h) ?_ ?_ ?_ hCl hHeld ?_
                      rotate_left 2
                      · simp only [List.getElem?_toArray, List.getElem?_cons_succ, List.getElem?_cons_zero]; exact rfl
                      · intro l w'; rw [hSSs, hSSs]
                      · rfl
                      · intro w' hA; obtain ⟨l, hl, hi, hSl⟩ := hA; have hSl := (hSSs _ _).1 hSl; obtain ⟨hz0, hz1⟩ := hSl; go_simp; try with_reducible rfl
                      clear hCl hHeld
                      intro hCl hHeld
                      simp only [List.setIfInBounds_toArray, List.set_cons_zero, List.set_cons_succ] at hCl hHeld
                      try simp only [Act.put]
                      try simp only [List.setIfInBounds_toArray, List.set_cons_zero, List.set_cons_succ]
                      refine reg_takeG 4 ?_ ?_ ?_ (by kernel_rfl) (by kernel_rfl) (by kernel_rfl) (fun _ _ _ h => h) ?_ ?_ ?_ hCl hHeld ?_
                      rotate_left 2
                      · simp only [List.getElem?_toArray, List.getElem?_cons_succ, List.getElem?_cons_zero]; exact rfl
                      · intro l w'; rw [hSSs, hSSs]
                      · rfl
                      · intro w' hA; clear hA; go_simp; try with_reducible rfl
                      clear hCl hHeld
                      intro hCl hHeld
                      simp only [List.setIfInBounds_toArray, List.set_cons_zero, List.set_cons_succ] at hCl hHeld
                      try simp only [Act.put]
                      try simp only [List.setIfInBounds_toArray, List.set_cons_zero, List.set_cons_succ]
                      refine reg_takeG 5 ?_ ?_ ?_ (by kernel_rfl) (by kernel_rfl) (by kernel_rfl) (fun _ _ _ h => h) ?_ ?_ ?_ hCl hHeld ?_
                      rotate_left 2
                      · simp only [List.getElem?_toArray, List.getElem?_cons_succ, List.getElem?_cons_zero]; exact rfl
                      · intro l w'; rw [hSSs, hSSs]
                      · rfl
                      · intro w' hA; clear hA; go_simp; try with_reducible rfl
                      clear hCl hHeld
                      intro hCl hHeld
                      simp only [List.setIfInBounds_toArray, List.set_cons_zero, List.set_cons_succ] at hCl hHeld
                      try simp only [Act.put]
                      try simp only [List.setIfInBounds_toArray, List.set_cons_zero, List.set_cons_succ]
                      refine reg_takeG 6 ?_ ?_ ?_ (by kernel_rfl) (by kernel_rfl) (by kernel_rfl) (fun _ _ _ h => h) ?_ ?_ ?_ hCl hHeld ?_
                      rotate_left 2
                      · simp only [List.getElem?_toArray, List.getElem?_cons_succ, List.getElem?_cons_zero]; exact rfl
                      · intro l w'; rw [hSSs, hSSs]
                      · rfl
                      · intro w' hA; clear hA; go_simp; try with_reducible rfl
                      clear hCl hHeld
                      intro hCl hHeld
                      simp only [List.setIfInBounds_toArray, List.set_cons_zero, List.set_cons_succ] at hCl hHeld
                      try simp only [Act.put]
                      try simp only [List.setIfInBounds_toArray, List.set_cons_zero, List.set_cons_succ]
                      refine reg_takeG 7 ?_ ?_ ?_ (by kernel_rfl) (by kernel_rfl) (by kernel_rfl) (fun _ _ _ h => h) ?_ ?_ ?_ hCl hHeld ?_
                      rotate_left 2
                      · simp only [List.getElem?_toArray, List.getElem?_cons_succ, List.getElem?_cons_zero]; exact rfl
                      · intro l w'; rw [hSSs, hSSs]
                      · rfl
                      · intro w' hA; clear hA; go_simp; try with_reducible rfl
                      clear hCl hHeld
                      intro hCl hHeld
                      simp only [List.setIfInBounds_toArray, List.set_cons_zero, List.set_cons_succ] at hCl hHeld
                      try simp only [Act.put]
                      try simp only [List.setIfInBounds_toArray, List.set_cons_zero, List.set_cons_succ]
                      refine reg_takeG 8 ?_ ?_ ?_ (by kernel_rfl) (by kernel_rfl) (by kernel_rfl) (fun _ _ _ h => h) ?_ ?_ ?_ hCl hHeld ?_
                      rotate_left 2
                      · simp only [List.getElem?_toArray, List.getElem?_cons_succ, List.getElem?_cons_zero]; exact rfl
                      · intro l w'; rw [hSSs, hSSs]
                      · rfl
                      · intro w' hA; obtain ⟨l, hl, hi, hSl⟩ := hA; have hSl := (hSSs _ _).1 hSl; obtain ⟨hz0, hz1⟩ := hSl; go_simp; try with_reducible rfl
                      clear hCl hHeld
                      intro hCl hHeld
                      simp only [List.setIfInBounds_toArray, List.set_cons_zero, List.set_cons_succ] at hCl hHeld
                      try simp only [Act.put]
                      try simp only [List.setIfInBounds_toArray, List.set_cons_zero, List.set_cons_succ]
                      refine reg_takeG 9 ?_ ?_ ?_ (by kernel_rfl) (by kernel_rfl) (by kernel_rfl) (fun _ _ _ h => h) ?_ ?_ ?_ hCl hHeld ?_
                      rotate_left 2
                      · simp only [List.getElem?_toArray, List.getElem?_cons_succ, List.getElem?_cons_zero]; exact rfl
                      · intro l w'; rw [hSSs, hSSs]
                      · rfl
                      · intro w' hA; clear hA; go_simp; try with_reducible rfl
                      clear hCl hHeld
                      intro hCl hHeld
                      simp only [List.setIfInBounds_toArray, List.set_cons_zero, List.set_cons_succ] at hCl hHeld
                      try simp only [Act.put]
                      try simp only [List.setIfInBounds_toArray, List.set_cons_zero, List.set_cons_succ]
                      refine reg_takeG 10 ?_ ?_ ?_ (by kernel_rfl) (by kernel_rfl) (by kernel_rfl) (fun _ _ _ h => h) ?_ ?_ ?_ hCl hHeld ?_
                      rotate_left 2
                      · simp only [List.getElem?_toArray, List.getElem?_cons_succ, List.getElem?_cons_zero]; exact rfl
                      · intro l w'; rw [hSSs, hSSs]
                      · rfl
                      · intro w' hA; clear hA; go_simp; try with_reducible rfl
                      clear hCl hHeld
                      intro hCl hHeld
                      simp only [List.setIfInBounds_toArray, List.set_cons_zero, List.set_cons_succ] at hCl hHeld
                      try simp only [Act.put]
                      try simp only [List.setIfInBounds_toArray, List.set_cons_zero, List.set_cons_succ]
                      refine reg_takeG 11 ?_ ?_ ?_ (by kernel_rfl) (by kernel_rfl) (by kernel_rfl) (fun _ _ _ h => h) ?_ ?_ ?_ hCl hHeld ?_
                      rotate_left 2
                      · simp only [List.getElem?_toArray, List.getElem?_cons_succ, List.getElem?_cons_zero]; exact rfl
                      · intro l w'; rw [hSSs, hSSs]
                      · rfl
                      · intro w' hA; clear hA; go_simp; try with_reducible rfl
                      clear hCl hHeld
                      intro hCl hHeld
                      simp only [List.setIfInBounds_toArray, List.set_cons_zero, List.set_cons_succ] at hCl hHeld
                      try simp only [Act.put]
                      try simp only [List.setIfInBounds_toArray, List.set_cons_zero, List.set_cons_succ]
                      refine reg_takeG 12 ?_ ?_ ?_ (by kernel_rfl) (by kernel_rfl) (by kernel_rfl) (fun _ _ _ h => h) ?_ ?_ ?_ hCl hHeld ?_
                      rotate_left 2
                      · simp only [List.getElem?_toArray, List.getElem?_cons_succ, List.getElem?_cons_zero]; exact rfl
                      · intro l w'; rw [hSSs, hSSs]
                      · rfl
                      · intro w' hA; obtain ⟨l, hl, hi, hSl⟩ := hA; have hSl := (hSSs _ _).1 hSl; obtain ⟨hz0, hz1⟩ := hSl; go_simp; try with_reducible rfl
                      clear hCl hHeld
                      intro hCl hHeld
                      simp only [List.setIfInBounds_toArray, List.set_cons_zero, List.set_cons_succ] at hCl hHeld
                      try simp only [Act.put]
                      try simp only [List.setIfInBounds_toArray, List.set_cons_zero, List.set_cons_succ]
                      refine reg_takeG 13 ?_ ?_ ?_ (by kernel_rfl) (by kernel_rfl) (by kernel_rfl) (fun _ _ _ h => h) ?_ ?_ ?_ hCl hHeld ?_
                      rotate_left 2
                      · simp only [List.getElem?_toArray, List.getElem?_cons_succ, List.getElem?_cons_zero]; exact rfl
                      · intro l w'; rw [hSSs, hSSs]
                      · rfl
                      · intro w' hA; clear hA; go_simp; try with_reducible rfl
                      clear hCl hHeld
                      intro hCl hHeld
                      simp only [List.setIfInBounds_toArray, List.set_cons_zero, List.set_cons_succ] at hCl hHeld
                      try simp only [Act.put]
                      try simp only [List.setIfInBounds_toArray, List.set_cons_zero, List.set_cons_succ]
                      refine reg_takeG 14 ?_ ?_ ?_ (by kernel_rfl) (by kernel_rfl) (by kernel_rfl) (fun _ _ _ h => h) ?_ ?_ ?_ hCl hHeld ?_
                      rotate_left 2
                      · simp only [List.getElem?_toArray, List.getElem?_cons_succ, List.getElem?_cons_zero]; exact rfl
                      · intro l w'; rw [hSSs, hSSs]
                      · rfl
                      · intro w' hA; clear hA; go_simp; try with_reducible rfl
                      clear hCl hHeld
                      intro hCl hHeld
                      simp only [List.setIfInBounds_toArray, List.set_cons_zero, List.set_cons_succ] at hCl hHeld
                      try simp only [Act.put]
                      try simp only [List.setIfInBounds_toArray, List.set_cons_zero, List.set_cons_succ]
                      refine reg_takeG 15 ?_ ?_ ?_ (by kernel_rfl) (by kernel_rfl) (by kernel_rfl) (fun _ _ _ h => h) ?_ ?_ ?_ hCl hHeld ?_
                      rotate_left 2
                      · simp only [List.getElem?_toArray, List.getElem?_cons_succ, List.getElem?_cons_zero]; exact rfl
                      · intro l w'; rw [hSSs, hSSs]
                      · rfl
                      · intro w' hA; clear hA; go_simp; try with_reducible rfl
                      clear hCl hHeld
                      intro hCl hHeld
                      simp only [List.setIfInBounds_toArray, List.set_cons_zero, List.set_cons_succ] at hCl hHeld
                      try simp only [Act.put]
                      try simp only [List.setIfInBounds_toArray, List.set_cons_zero, List.set_cons_succ]
                      refine reg_takeG 16 ?_ ?_ ?_ (by kernel_rfl) (by kernel_rfl) (by kernel_rfl) (fun _ _ _ h => h) ?_ ?_ ?_ hCl hHeld ?_
                      rotate_left 2
                      · simp only [List.getElem?_toArray, List.getElem?_cons_succ, List.getElem?_cons_zero]; exact rfl
                      · intro l w'; rw [hSSs, hSSs]
                      · rfl
                      · intro w' hA; clear hA; go_simp; try with_reducible rfl
                      clear hCl hHeld
                      intro hCl hHeld
                      simp only [List.setIfInBounds_toArray, List.set_cons_zero, List.set_cons_succ] at hCl hHeld
                      try simp only [Act.put]
                      try simp only [List.setIfInBounds_toArray, List.set_cons_zero, List.set_cons_succ]
                      refine reg_takeG 17 ?_ ?_ ?_ (by kernel_rfl) (by kernel_rfl) (by kernel_rfl) (fun _ _ _ h => h) ?_ ?_ ?_ hCl hHeld ?_
                      rotate_left 2
                      · simp only [List.getElem?_toArray, List.getElem?_cons_succ, List.getElem?_cons_zero]; exact rfl
                      · intro l w'; rw [hSSs, hSSs]
                      · rfl
                      · intro w' hA; obtain ⟨l, hl, hi, hSl⟩ := hA; have hSl := (hSSs _ _).1 hSl; obtain ⟨hz0, hz1⟩ := hSl; go_simp; try with_reducible rfl
                      clear hCl hHeld
                      intro hCl hHeld
                      simp only [List.setIfInBounds_toArray, List.set_cons_zero, List.set_cons_succ] at hCl hHeld
                      try simp only [Act.put]
                      try simp only [List.setIfInBounds_toArray, List.set_cons_zero, List.set_cons_succ]
                      refine reg_takeG 18 ?_ ?_ ?_ (by kernel_rfl) (by kernel_rfl) (by kernel_rfl) (fun _ _ _ h => h) ?_ ?_ ?_ hCl hHeld ?_
                      rotate_left 2
                      · simp only [List.getElem?_toArray, List.getElem?_cons_succ, List.getElem?_cons_zero]; exact rfl
                      · intro l w'; rw [hSSs, hSSs]
                      · rfl
                      · intro w' hA; clear hA; go_simp; try with_reducible rfl
                      clear hCl hHeld
                      intro hCl hHeld
                      simp only [List.setIfInBounds_toArray, List.set_cons_zero, List.set_cons_succ] at hCl hHeld
                      try simp only [Act.put]
                      try simp only [List.setIfInBounds_toArray, List.set_cons_zero, List.set_cons_succ]
                      refine reg_takeG 19 ?_ ?_ ?_ (by kernel_rfl) (by kernel_rfl) (by kernel_rfl) (fun _ _ _ h => h) ?_ ?_ ?_ hCl hHeld ?_
                      rotate_left 2
                      · simp only [List.getElem?_toArray, List.getElem?_cons_succ, List.getElem?_cons_zero]; exact rfl
                      · intro l w'; rw [hSSs, hSSs]
                      · rfl
                      · intro w' hA; clear hA; go_simp; try with_reducible rfl
                      clear hCl hHeld
                      intro hCl hHeld
                      simp only [List.setIfInBounds_toArray, List.set_cons_zero, List.set_cons_succ] at hCl hHeld
                      try simp only [Act.put]
                      try simp only [List.setIfInBounds_toArray, List.set_cons_zero, List.set_cons_succ]
                      clear hCl hHeld
                      refine reg_callG 20 ?_ (by kernel_rfl) ?_ (fun K hK => ?_)
                      rotate_left 1
                      · simp only [List.getElem?_toArray, List.getElem?_cons_succ, List.getElem?_cons_zero]; exact rfl
                      go_simp
                      clear hx0 hx1 hup
                      refine hK.out _ _ ((hSSs _ _).2 ⟨hy0, hy1⟩) ?_
                      clear hK K
                      try simp only [Act.put]
                      try simp only [List.setIfInBounds_toArray, List.set_cons_zero, List.set_cons_succ]
                      refine wpAnyG_done (by kernel_rfl) ?_ _
                      refine NoPanic.normal ?_
                      clear hSSs SSs
                      go_wp2
                      have hnn := HNN.out
                      refine ⟨⟨_, _, _, _, _, _, _, _, _, _, _, _, _, _, _, _, _, _, _, _, _, _, _, _, _, _, _, _, _, _, _, _, _, _, ?_, rfl⟩, by simp [intOf]⟩
                      exact ⟨2 + 1, by omega, by go_num, congrArg (Value.int .i64) (by omega), ⟨_, FIN.out.1⟩, FIN.out.2.1, FIN.out.2.2⟩
                · obtain rfl : i = 3 := by omega
                  have FIN := Lib.hid (And.intro hF2 hbw)
                  clear hF2 hbw hbx
                  go_wp2
                  exact ⟨⟨j + 1, by omega, by go_num, congrArg (Value.int .i64) (by omega), ⟨_, FIN.out.1⟩, FIN.out.2⟩, by simp [intOf]; omega⟩
            · obtain rfl : j = 2 := by omega
              have hgl := HM.out.len
              obtain ⟨⟨ta, tb, tc⟩, h0⟩ : ∃ v, (gridT 1 1 bn)[0]? = some v := ⟨_, List.getElem?_eq_getElem (by omega)⟩
              have hz := HM.out.one _ (List.mem_of_getElem? h0)
              simp only [] at hz
              have hb7 : Below w7.heap.size w7 wr := by rw [HFB.out]; exact hbw
              have hpr : RowN wr (w.heap.size + 1) 62 2 (.slice (some ⟨gp, 0, none⟩) 4 gpc) 4 (ptsCells (gridP 1 1)) := (HROW.out.below HBT.out).below hb7
              have htr := HTR.out.below hb7
              have hbu := Build_any F (gridT 1 1 bn) ta tb tc fb gt 2 gtc gp 4 gpc (gridP 1 1) wr OK.out.good h0 hz (by omega) (by omega) OK.out.pts htr hF rfl (by omega) (by omega) HPS.out hpr.ptsC HM.out.some_ (by have := HM.out.few; omega) HM.out.ends
              have HBU := Lib.hid hbu; have HTRR := Lib.hid htr
              have HBWR := Lib.hid (HBW.out.trans ((HBT.out.trans (hb7.mono HBT.out.size)).mono HBW.out.size))
              have hgt := HGTL.out.1; have hsz5 := HBW.out.size
              clear hbu htr hpr hb7 hF hbw hz h0 hgl
              go_wp2_with fail
              refine HBU.out.mono ?_
              rintro e w9 ⟨mb, rfl, hbe, hb9⟩
              have hbs := HBWR.out.size
              have FIN := Lib.hid (And.intro (hbe.low hbs) (And.intro (HTRR.out.below hb9) (HBWR.out.trans (hb9.mono hbs))))
              clear hbe hb9
              go_wp2
              go_ret2
              exact ⟨mb, gt, gtc, F, rfl, FIN.out.1, FIN.out.2.1, by omega, FIN.out.2.2⟩
end Go.Proofs.Ytecnnpkpgbbfkaa
/- The statements' Grid, 1 by 2. -/
namespace Go.Proofs.Ytecnnpkpgbbfkaa
open Go.RowKit Go.MagM
set_option maxRecDepth 100000 in
set_option maxHeartbeats 16000000 in
theorem Grid12_any (w0 h0 b f : Int) (bn : Nat) (hbn : bn < 16) (e1 : bits .and .i64 w0 1 = 0) (e2 : bits .and .i64 h0 1 = 1) (hbit : ∀ k : Nat, k < 4 → bitB b k = bn.testBit k) (w : World) :
    Calls Try.prog 6 #[.int .i64 w0, .int .i64 h0, .int .u32 b, .int .u32 f] w fun e w' => ∃ (mb g c : Nat) (F : Int → Int → Bool), e = .returned (.tuple #[.pointer (some ⟨mb, 0, none⟩), .slice (some ⟨g, 0, none⟩) 4 c]) ∧ BuildEnd 62 49 F w.heap.size (gridP 1 2) (gridT 1 2 bn) mb w' ∧ TrIn w' g ((gridT 1 2 bn).map realV) ∧ w.heap.size ≤ g ∧ Below w.heap.size w w' := by
  have ok := grid_ok (w := 1) (h := 2) (by omega) (by omega) hbn
  have hm := grid_has (w := 1) (h := 2) (by omega) (by omega) hbn
  have hps : InPs (gridP 1 2) := grid_inPs (by omega) (by omega)
  have OK := Lib.hid ok; have HM := Lib.hid hm; have HPS := Lib.hid hps; have HBIT := Lib.hid hbit
  clear ok hm hps hbit
  obtain ⟨i0, hi, hz0, hz1, hz2⟩ := info_parts infoPt
  have HI := Lib.hid hi; have HZ0 := Lib.hid hz0; have HZ1 := Lib.hid hz1; have HZ2 := Lib.hid hz2
  obtain ⟨j0, hj, hy0, hy1, hy2⟩ := info_parts infoE3
  have HJ := Lib.hid hj; have HY0 := Lib.hid hy0; have HY1 := Lib.hid hy1; have HY2 := Lib.hid hy2
  clear hi hz0 hz1 hz2 hj hy0 hy1 hy2
  obtain ⟨w1, hw1, pw0, hB1, hs1⟩ := new_box w _ rfl [.int .i64 w0] 3
  have sc := pw0.c 0 _ rfl; have sf := pw0.f 0 _ rfl
  obtain ⟨w2, hw2⟩ : ∃ w2, w1.setCell ⟨w.heap.size, 0, none⟩ (.int .i64 1) = w2 := ⟨_, rfl⟩
  have pw2 : Box w2 w.heap.size [.int .i64 1] := by rw [← hw2]; exact pw0.set 0 (.int .i64 1)
  have hB2 : Below w.heap.size w w2 := by rw [← hw2]; exact hB1.setCell (p := ⟨w.heap.size, 0, none⟩) (by simp only []; omega) _
  have hz2 : w.heap.size + 1 ≤ w2.heap.size := by have := pw2.lt; omega
  have PW2 := Lib.hid pw2; have HB2 := Lib.hid hB2; have HZS := Lib.hid hz2
  clear pw0 hB1 hs1 pw2 hB2 hz2
  go_enter Try.func6, Try.ntmps6
  go_wp2
  clear sc sf hw1 hw2
  go_loopw [10, 11, 12, 35] (fun pv _ _ iv wr => ∃ (y : Nat) (vv : Value), y ≤ 3 ∧ iv = .int .i64 (y : Int) ∧ vv = pv ∧ RowN wr (w.heap.size + 1) 62 2 vv (y * 2) (ptsCells ((gridP 1 2).take (y * 2))) ∧ Box wr w.heap.size [.int .i64 1] ∧ Below w.heap.size w wr ∧ w.heap.size + 1 ≤ wr.heap.size) (fun _ _ _ iv _ => 3 - (intOf iv).toNat)
  case atStart => exact ⟨0, _, Nat.zero_le _, rfl, rfl, RowN.nil _ _ _ _, PW2.out, HB2.out, HZS.out⟩
  case round =>
    obtain ⟨y, vv, hy, rfl, rfl, hrow, hbx, hbw, hsz⟩ := hrel
    by_cases hlt : y < 3
    · have hyd : decide ((y : Int) < 3) = true := decide_eq_true (by omega)
      have cw := hbx.c 0 _ rfl
      have HROW := Lib.hid hrow; have HBX := Lib.hid hbx; have HBW := Lib.hid hbw; have HSZ := Lib.hid hsz
      clear hrow hbx hbw hsz
      go_wp2
      clear cw
      go_loopw [10, 12, 40] (fun pv _ iv wr => ∃ (x : Nat) (vv : Value), x ≤ 2 ∧ iv = .int .i64 (x : Int) ∧ vv = pv ∧ RowN wr (w.heap.size + 1) 62 2 vv (y * 2 + x) (ptsCells ((gridP 1 2).take (y * 2 + x))) ∧ Box wr w.heap.size [.int .i64 1] ∧ Below w.heap.size w wr ∧ w.heap.size + 1 ≤ wr.heap.size) (fun _ _ iv _ => 2 - (intOf iv).toNat)
      case atStart => exact ⟨0, _, Nat.zero_le _, rfl, rfl, HROW.out, HBX.out, HBW.out, HSZ.out⟩
      case round =>
        obtain ⟨x, vv, hx, rfl, rfl, hrow, hbx, hbw, hsz⟩ := hrel
        by_cases hlx : x < 2
        · have hel := gridP_at (w := 1) (h := 2) (by omega) (by omega) (x := x) (y := y) (by omega) (by omega)
          have hx2 : IntKind.i64.wrap (2 * (x : Int)) = 2 * (x : Int) := by rw [IntKind.wrap_i64]; omega
          have hy2 : IntKind.i64.wrap (2 * (y : Int)) = 2 * (y : Int) := by rw [IntKind.wrap_i64]; omega
          obtain ⟨w3, hw3, hpn, hb3, hs3⟩ := new_box wr _ rfl [.int .i64 (2 * (x : Int)), .int .i64 (2 * (y : Int))] 62
          have hrow3 := hrow.below hb3
          have hbx3 := hbx.below hb3
          have hbw3 := hbw.trans (hb3.mono hbw.size)
          obtain ⟨v1, w4, hrun, rown, hgrow, hkept⟩ := run_append_row (P := Try.prog) w3 (w.heap.size + 1) 40 40 62 i0 (.agg #[.int .i64 0, .int .i64 0]) 2 16 (by kernel_rfl) HI.out HZ0.out HZ1.out HZ2.out rfl (noWordI2 _ _) _ (y * 2 + x) _ hrow3 ⟨wr.heap.size, 0, none⟩ 1 1 [.int .i64 (2 * (x : Int)), .int .i64 (2 * (y : Int))] (by omega) rfl hpn.news (by intro u hu; simp at hu; rcases hu with rfl | rfl <;> rfl) (noWordI2 _ _) (by unfold maxLen; omega) (by omega) (by omega)
          have hne : ∀ k, vv.ownBlock = some k → w.heap.size + 1 ≤ k := fun k hk => (hrow3.lt k hk).1
          have hbx4 := hbx3.grown hgrow (fun e => by have := hne _ e; omega) hbx3.lt
          have hbw4 : Below w.heap.size w w4 := hbw3.grown hgrow (by omega) (fun k hk => by have := hne k hk; omega)
          have htk : ptsCells ((gridP 1 2).take (y * 2 + x)) ++ [.int .i64 (2 * (x : Int)), .int .i64 (2 * (y : Int))] = ptsCells ((gridP 1 2).take (y * 2 + (x + 1))) := by
            rw [← Nat.add_assoc, List.take_add_one, hel, ptsCells_app]; rfl
          rw [htk] at rown
          have FIN := Lib.hid (And.intro rown (And.intro hbx4 (And.intro hbw4 (show w.heap.size + 1 ≤ w4.heap.size by have := hgrow.size; omega))))
          clear hrow hbx hbw hsz hpn hb3 hs3 hrow3 hbx3 hbw3 rown hgrow hkept hne hbx4 hbw4 htk hel
          go_wp2_with (refine wpList_append_row rfl _ _ 40 rfl rfl rfl hrun ?_)
          have FI := FIN.out
          exact ⟨⟨x + 1, _, by omega, by go_num, rfl, FI.1, FI.2.1, FI.2.2.1, FI.2.2.2⟩, by simp [intOf]; omega⟩
        · obtain rfl : x = 2 := by omega
          have FIN := Lib.hid (And.intro hrow (And.intro hbx (And.intro hbw hsz)))
          clear hrow hbx hbw hsz
          go_wp2
          have FI := FIN.out
          have hrow := FI.1
          rw [show y * 2 + 2 = (y + 1) * 2 by omega] at hrow
          exact ⟨⟨y + 1, _, by omega, by go_num, rfl, hrow, FI.2.1, FI.2.2.1, FI.2.2.2⟩, by simp [intOf]; omega⟩
    · obtain rfl : y = 3 := by omega
      have hpt : (gridP 1 2).take (3 * 2) = gridP 1 2 := rfl
      rw [hpt] at hrow
      obtain ⟨gp, gpc, hvv⟩ : ∃ g c, vv = .slice (some ⟨g, 0, none⟩) 6 c := by
        rcases hrow.2 with ⟨h1, h2⟩ | ⟨g, cap, cur, h1, h2, h3⟩
        · omega
        · exact ⟨g, cap, h1⟩
      subst hvv
      have hpl := hrow.lt gp rfl
      obtain ⟨w5, hw5⟩ : ∃ w5, w5 = wr := ⟨_, rfl⟩
      rw [← hw5] at hrow hbx hbw hsz hpl
      rw [← hw5]
      have HROW := Lib.hid hrow; have HBX := Lib.hid hbx; have HBW := Lib.hid hbw; have HSZ := Lib.hid hsz; have HPL := Lib.hid hpl
      clear hrow hbx hbw hsz hpl hw5
      go_wp2
      go_loopw [13, 15, 16, 17, 18, 19, 20, 21, 55] (fun tv kv _ _ _ _ _ _ iv wr => ∃ (y : Nat) (vv : Value), y ≤ 2 ∧ iv = .int .i64 (y : Int) ∧ kv = .int .i64 ((y * 1 : Nat) : Int) ∧ vv = tv ∧ RowN wr w5.heap.size 46 3 vv (2 * (y * 1)) (tr3Cells ((gridT 1 2 bn).take (2 * (y * 1)))) ∧ Below w5.heap.size w5 wr) (fun _ _ _ _ _ _ _ _ iv _ => 2 - (intOf iv).toNat)
      case atStart => exact ⟨0, _, Nat.zero_le _, rfl, rfl, rfl, RowN.nil _ _ _ _, Below.refl _ _⟩
      case round =>
        obtain ⟨y, vv, hy, rfl, rfl, rfl, hrow, hbw⟩ := hrel
        by_cases hlt : y < 2
        · have hyd : decide ((y : Int) < 2) = true := decide_eq_true (by omega)
          have cw := (HBX.out.below hbw).c 0 _ rfl
          have HRW := Lib.hid hrow; have HBZ := Lib.hid hbw
          clear hrow hbw
          go_wp2
          clear cw
          go_loopw [13, 15, 17, 18, 19, 20, 21, 59] (fun tv kv _ _ _ _ _ iv wr => ∃ (x : Nat) (vv : Value), x ≤ 1 ∧ iv = .int .i64 (x : Int) ∧ kv = .int .i64 ((y * 1 + x : Nat) : Int) ∧ vv = tv ∧ RowN wr w5.heap.size 46 3 vv (2 * (y * 1 + x)) (tr3Cells ((gridT 1 2 bn).take (2 * (y * 1 + x)))) ∧ Below w5.heap.size w5 wr) (fun _ _ _ _ _ _ _ iv _ => 1 - (intOf iv).toNat)
          case atStart => exact ⟨0, _, Nat.zero_le _, rfl, by rw [Nat.add_zero], rfl, HRW.out, HBZ.out⟩
          case round =>
            obtain ⟨x, vv, hx, rfl, rfl, rfl, hrow, hbw⟩ := hrel
            by_cases hlx : x < 1
            · have cw := (HBX.out.below hbw).c 0 _ rfl
              have hev := HM.out.even y x hlt hlx
              have hod := HM.out.odd y x hlt hlx
              have hbt := HBIT.out (y * 1 + x) (by omega)
              obtain ⟨q, hq⟩ : ∃ q, bn.testBit (y * 1 + x) = q := ⟨_, rfl⟩
              rw [hq] at hev hod hbt
              have a0 := gridNo_any w.heap.size 1 x y wr (by omega) (by omega) (by omega) cw ((y : Int) * 2 + (x : Int)) (by omega)
              have a1 := gridNo_any w.heap.size 1 (x + 1) y wr (by omega) (by omega) (by omega) cw ((y : Int) * 2 + ((x : Int) + 1)) (by omega)
              have a2 := gridNo_any w.heap.size 1 (x + 1) (y + 1) wr (by omega) (by omega) (by omega) cw (((y : Int) + 1) * 2 + ((x : Int) + 1)) (by omega)
              have a3 := gridNo_any w.heap.size 1 x (y + 1) wr (by omega) (by omega) (by omega) cw (((y : Int) + 1) * 2 + (x : Int)) (by omega)
              rw [show (((x + 1 : Nat)) : Int) = (x : Int) + 1 by omega] at a1 a2
              rw [show (((y + 1 : Nat)) : Int) = (y : Int) + 1 by omega] at a2 a3
              obtain ⟨ca, hca⟩ : ∃ c : Int, (y : Int) * 2 + (x : Int) = c := ⟨_, rfl⟩
              obtain ⟨cb, hcb⟩ : ∃ c : Int, (y : Int) * 2 + ((x : Int) + 1) = c := ⟨_, rfl⟩
              obtain ⟨cc, hcc⟩ : ∃ c : Int, ((y : Int) + 1) * 2 + ((x : Int) + 1) = c := ⟨_, rfl⟩
              obtain ⟨cd, hcd⟩ : ∃ c : Int, ((y : Int) + 1) * 2 + (x : Int) = c := ⟨_, rfl⟩
              rw [hca] at a0; rw [hcb] at a1; rw [hcc] at a2; rw [hcd] at a3
              have C0 := Lib.hid a0; have C1 := Lib.hid a1; have C2 := Lib.hid a2; have C3 := Lib.hid a3
              have HEV := Lib.hid hev; have HOD := Lib.hid hod; have HBT := Lib.hid hbt; have HRW2 := Lib.hid hrow; have HBZ2 := Lib.hid hbw
              have HCA := Lib.hid hca; have HCB := Lib.hid hcb; have HCC := Lib.hid hcc; have HCD := Lib.hid hcd
              obtain ⟨kk, hkk⟩ : ∃ kk : Nat, y * 1 + x = kk := ⟨_, rfl⟩
              have hkk4 : kk < 4 := by omega
              rw [hkk] at hbt
              unfold bitB at hbt
              have na : (((y * 2 + x : Nat)) : Int) = ca := by omega
              have nb : (((y * 2 + (x + 1) : Nat)) : Int) = cb := by omega
              have nc : ((((y + 1) * 2 + (x + 1) : Nat)) : Int) = cc := by omega
              have nd : ((((y + 1) * 2 + x : Nat)) : Int) = cd := by omega
              have HKK := Lib.hid hkk
              rw [hkk]
              have HNA := Lib.hid (And.intro na (And.intro nb (And.intro nc nd)))
              clear a0 a1 a2 a3 hev hod hrow hbw hca hcb hcc hcd cw hkk na nb nc nd hq
              cases q
              · have hev' : (gridT 1 2 bn)[2 * (y * 1 + x)]? = some (y * 2 + (x + 1), (y + 1) * 2 + x, y * 2 + x) := HEV.out
                have hod' : (gridT 1 2 bn)[2 * (y * 1 + x) + 1]? = some ((y + 1) * 2 + x, y * 2 + (x + 1), (y + 1) * 2 + (x + 1)) := HOD.out
                have HEV' := Lib.hid hev'; have HOD' := Lib.hid hod'
                clear hev' hod'
                go_wp2_with fail
                refine C0.out.mono ?_
                rintro e w6 ⟨rfl, rfl⟩
                go_wp2_with fail
                refine C1.out.mono ?_
                rintro e w6 ⟨rfl, rfl⟩
                go_wp2_with fail
                refine C2.out.mono ?_
                rintro e w6 ⟨rfl, rfl⟩
                go_wp2_with fail
                refine C3.out.mono ?_
                rintro e w6 ⟨rfl, rfl⟩
                obtain ⟨w6, hw6, hpn, hb6, hs6⟩ := new_box wr _ rfl [.int .i64 cb, .int .i64 cd, .int .i64 ca, .int .i64 cd, .int .i64 cb, .int .i64 cc] 46
                have hrow6 := HRW2.out.below hb6
                have hbw6 := HBZ2.out.trans (hb6.mono HBZ2.out.size)
                obtain ⟨v1, w7, hrun, rown, hgrow, hkept⟩ := run_append_row (P := Try.prog) w6 w5.heap.size 26 26 46 j0 (.agg #[.int .i64 0, .int .i64 0, .int .i64 0]) 3 24 (by kernel_rfl) HJ.out HY0.out HY1.out HY2.out rfl (noWordI3 _ _ _) _ (2 * (y * 1 + x)) _ hrow6 ⟨wr.heap.size, 0, none⟩ 2 2 [.int .i64 cb, .int .i64 cd, .int .i64 ca, .int .i64 cd, .int .i64 cb, .int .i64 cc] (by omega) rfl hpn.news (by intro u hu; simp at hu; rcases hu with rfl | rfl | rfl | rfl | rfl | rfl <;> rfl) (noWordI6 _ _ _ _ _ _) (by unfold maxLen; omega) (by omega) (by have := hbw6.size; omega)
                have hbw7 : Below w5.heap.size w5 w7 := hbw6.grown hgrow (by have := hbw6.size; omega) (fun k hk => (hrow6.lt k hk).1)
                have htk : tr3Cells ((gridT 1 2 bn).take (2 * (y * 1 + x))) ++ [.int .i64 cb, .int .i64 cd, .int .i64 ca, .int .i64 cd, .int .i64 cb, .int .i64 cc] = tr3Cells ((gridT 1 2 bn).take (2 * (y * 1 + (x + 1)))) := by
                  obtain ⟨na, nb, nc, nd⟩ := HNA.out
                  rw [show 2 * (y * 1 + (x + 1)) = 2 * (y * 1 + x) + 1 + 1 by omega, List.take_add_one, List.take_add_one, HEV'.out, HOD'.out, tr3_app, tr3_app, List.append_assoc]
                  simp only [Option.toList_some, tr3Cells, na, nb, nc, nd, List.cons_append, List.nil_append]
                rw [htk, show 2 * (y * 1 + x) + 2 = 2 * (y * 1 + (x + 1)) by omega] at rown
                have FIN := Lib.hid (And.intro rown hbw7)
                clear hpn hb6 hs6 hrow6 hbw6 rown hgrow hkept hbw7 htk
                go_wp2_with (refine wpList_append_row rfl _ _ 26 rfl rfl rfl hrun ?_)
                have hkk := HKK.out
                refine ⟨⟨_, _, _, _, _, _, _, _, _, _, _, _, _, _, _, _, _, _, _, _, _, _, _, _, _, _, _, _, _, _, _, _, _, _, _, _, _, _, _, _, _, _, _, _, _, _, _, _, _, _, _, _, _, _, _, _, _, _, _, _, ?_, rfl⟩, by simp [intOf]; omega⟩
                exact ⟨x + 1, _, by omega, by go_num, congrArg (Value.int .i64) (by omega), rfl, FIN.out.1, FIN.out.2⟩
              · have hev' : (gridT 1 2 bn)[2 * (y * 1 + x)]? = some (y * 2 + x, y * 2 + (x + 1), (y + 1) * 2 + (x + 1)) := HEV.out
                have hod' : (gridT 1 2 bn)[2 * (y * 1 + x) + 1]? = some ((y + 1) * 2 + (x + 1), (y + 1) * 2 + x, y * 2 + x) := HOD.out
                have HEV' := Lib.hid hev'; have HOD' := Lib.hid hod'
                clear hev' hod'
                go_wp2_with fail
                refine C0.out.mono ?_
                rintro e w6 ⟨rfl, rfl⟩
                go_wp2_with fail
                refine C1.out.mono ?_
                rintro e w6 ⟨rfl, rfl⟩
                go_wp2_with fail
                refine C2.out.mono ?_
                rintro e w6 ⟨rfl, rfl⟩
                go_wp2_with fail
                refine C3.out.mono ?_
                rintro e w6 ⟨rfl, rfl⟩
                obtain ⟨w6, hw6, hpn, hb6, hs6⟩ := new_box wr _ rfl [.int .i64 ca, .int .i64 cb, .int .i64 cc, .int .i64 cc, .int .i64 cd, .int .i64 ca] 46
                have hrow6 := HRW2.out.below hb6
                have hbw6 := HBZ2.out.trans (hb6.mono HBZ2.out.size)
                obtain ⟨v1, w7, hrun, rown, hgrow, hkept⟩ := run_append_row (P := Try.prog) w6 w5.heap.size 26 26 46 j0 (.agg #[.int .i64 0, .int .i64 0, .int .i64 0]) 3 24 (by kernel_rfl) HJ.out HY0.out HY1.out HY2.out rfl (noWordI3 _ _ _) _ (2 * (y * 1 + x)) _ hrow6 ⟨wr.heap.size, 0, none⟩ 2 2 [.int .i64 ca, .int .i64 cb, .int .i64 cc, .int .i64 cc, .int .i64 cd, .int .i64 ca] (by omega) rfl hpn.news (by intro u hu; simp at hu; rcases hu with rfl | rfl | rfl | rfl | rfl | rfl <;> rfl) (noWordI6 _ _ _ _ _ _) (by unfold maxLen; omega) (by omega) (by have := hbw6.size; omega)
                have hbw7 : Below w5.heap.size w5 w7 := hbw6.grown hgrow (by have := hbw6.size; omega) (fun k hk => (hrow6.lt k hk).1)
                have htk : tr3Cells ((gridT 1 2 bn).take (2 * (y * 1 + x))) ++ [.int .i64 ca, .int .i64 cb, .int .i64 cc, .int .i64 cc, .int .i64 cd, .int .i64 ca] = tr3Cells ((gridT 1 2 bn).take (2 * (y * 1 + (x + 1)))) := by
                  obtain ⟨na, nb, nc, nd⟩ := HNA.out
                  rw [show 2 * (y * 1 + (x + 1)) = 2 * (y * 1 + x) + 1 + 1 by omega, List.take_add_one, List.take_add_one, HEV'.out, HOD'.out, tr3_app, tr3_app, List.append_assoc]
                  simp only [Option.toList_some, tr3Cells, na, nb, nc, nd, List.cons_append, List.nil_append]
                rw [htk, show 2 * (y * 1 + x) + 2 = 2 * (y * 1 + (x + 1)) by omega] at rown
                have FIN := Lib.hid (And.intro rown hbw7)
                clear hpn hb6 hs6 hrow6 hbw6 rown hgrow hkept hbw7 htk
                go_wp2_with (refine wpList_append_row rfl _ _ 26 rfl rfl rfl hrun ?_)
                have hkk := HKK.out
                refine ⟨⟨_, _, _, _, _, _, _, _, _, _, _, _, _, _, _, _, _, _, _, _, _, _, _, _, _, _, _, _, _, _, _, _, _, _, _, _, _, _, _, _, _, _, _, _, _, _, _, _, _, _, _, _, _, _, _, _, _, _, _, _, ?_, rfl⟩, by simp [intOf]; omega⟩
                exact ⟨x + 1, _, by omega, by go_num, congrArg (Value.int .i64) (by omega), rfl, FIN.out.1, FIN.out.2⟩
            · obtain rfl : x = 1 := by omega
              have FIN := Lib.hid (And.intro hrow hbw)
              clear hrow hbw
              go_wp2
              have hrow := FIN.out.1
              rw [show y * 1 + 1 = (y + 1) * 1 by omega] at hrow
              exact ⟨⟨y + 1, _, by omega, by go_num, congrArg (Value.int .i64) (by omega), rfl, hrow, FIN.out.2⟩, by simp [intOf]; omega⟩
        · obtain rfl : y = 2 := by omega
          have hgl := HM.out.len
          have htt : (gridT 1 2 bn).take (2 * (2 * 1)) = gridT 1 2 bn := List.take_of_length_le (by rw [hgl]; omega)
          rw [htt] at hrow
          obtain ⟨gt, gtc, hvv⟩ : ∃ g c, vv = .slice (some ⟨g, 0, none⟩) 4 c := by
            rcases hrow.2 with ⟨h1, h2⟩ | ⟨g, cap, cur, h1, h2, h3⟩
            · omega
            · exact ⟨g, cap, h1⟩
          subst hvv
          have hgtl := hrow.lt gt rfl
          obtain ⟨w7, hw7⟩ : ∃ w7, w7 = wr := ⟨_, rfl⟩
          rw [← hw7] at hrow hbw hgtl
          rw [← hw7]
          clear hw7
          obtain ⟨fb, hfb⟩ : ∃ fb, w7.heap.size = fb := ⟨_, rfl⟩
          obtain ⟨hmk, hmp⟩ := run_new_map (P := Try.prog) w7 64 22
          obtain ⟨w8, hw8⟩ : ∃ w8, w7.alloc (.map #[] 0) = w8 := ⟨_, rfl⟩
          rw [hw8, hfb] at hmk hmp
          have hb8 : Below fb w7 w8 := by rw [← hw8, ← hfb]; exact (Below.refl _ _).alloc (Nat.le_refl _) _
          have htr := hrow.trIn
          have HRWT := Lib.hid hrow; have HBT := Lib.hid hbw; have HTR := Lib.hid htr; have HGTL := Lib.hid hgtl; have HFB := Lib.hid hfb; have HMP := Lib.hid (fault_new hmp); have HB8 := Lib.hid hb8
          clear hrow hbw htr hgtl hfb hmp hb8 hw8
          go_wp2
          clear hmk
          go_loopw [23, 25, 26, 116] (fun nv _ _ iv wr => ∃ j : Nat, j ≤ 4 ∧ iv = .int .i64 (j : Int) ∧ nv = .int .i64 ((3 * j : Nat) : Int) ∧ (∃ F, FaultMap Try.prog 22 wr fb F) ∧ Below fb w7 wr) (fun _ _ _ iv _ => 4 - (intOf iv).toNat)
          case atStart => exact ⟨0, Nat.zero_le _, rfl, rfl, ⟨_, HMP.out⟩, HB8.out⟩
          case round =>
            obtain ⟨j, hj, rfl, rfl, ⟨F, hF⟩, hbw⟩ := hrel
            by_cases hlt : j < 4
            · have hyd : decide ((j : Int) < 4) = true := decide_eq_true (by omega)
              obtain ⟨⟨x, y, z⟩, hv⟩ : ∃ v, (gridT 1 2 bn)[j]? = some v := ⟨_, List.getElem?_eq_getElem (by have := HM.out.len; omega)⟩
              obtain ⟨px, py, pz⟩ := OK.out.pts _ (List.mem_of_getElem? hv)
              have hpl6 := OK.out.many
              simp only [] at px py pz
              have htk := HTR.out j (x : Int) (y : Int) (z : Int) (by rw [List.getElem?_map, hv]; rfl)
              have hfb := HFB.out
              have l1 := World.block_lt_of_cell? w7 _ htk.1
              simp only [] at l1
              have ka := (hbw.cell (p := ⟨gt, j * 3, none⟩) (by show gt < fb; omega)).trans htk.1
              have kb := (hbw.cell (p := ⟨gt, j * 3 + 1, none⟩) (by show gt < fb; omega)).trans htk.2.1
              have kc := (hbw.cell (p := ⟨gt, j * 3 + 2, none⟩) (by show gt < fb; omega)).trans htk.2.2
              obtain ⟨w9, hw9, hpv, hb9, hs9⟩ := new_box wr _ rfl [.int .i64 (x : Int), .int .i64 (y : Int), .int .i64 (z : Int)] 46
              have hF9 := hF.same (hb9.block fb hF.lt)
              have hfl := hF.lt
              have hbw9 : Below fb w7 w9 := hbw.trans (hb9.mono (by omega))
              obtain ⟨tb, htb⟩ : ∃ tb, wr.heap.size = tb := ⟨_, rfl⟩
              have htf : fb < tb := by omega
              rw [htb] at hpv
              have HF9 := Lib.hid hF9; have HBW9 := Lib.hid hbw9; have HPV := Lib.hid hpv
              have hxyz : x < 10 ∧ y < 10 ∧ z < 10 := by
                have : (gridP 1 2).length = 6 := rfl
                omega
              clear hv px py pz htk hfb l1 hb9 hs9 hF9 hbw9 hpv hF hbw hfl hpl6
              go_wp2
              clear ka kb kc hw9 htb
              go_loopw [23, 26, 120] (fun nv _ iv wr => ∃ i : Nat, i ≤ 3 ∧ iv = .int .i64 (i : Int) ∧ nv = .int .i64 ((3 * j + i : Nat) : Int) ∧ (∃ F, FaultMap Try.prog 22 wr fb F) ∧ Box wr tb [.int .i64 (x : Int), .int .i64 (y : Int), .int .i64 (z : Int)] ∧ Below fb w7 wr) (fun _ _ iv _ => 3 - (intOf iv).toNat)
              case atStart => exact ⟨0, Nat.zero_le _, rfl, rfl, ⟨_, HF9.out⟩, HPV.out, HBW9.out⟩
              case round =>
                obtain ⟨i, hi, rfl, rfl, ⟨F2, hF2⟩, hbx, hbw⟩ := hrel
                by_cases hli : i < 3
                · obtain ⟨nn, hnn⟩ : ∃ nn : Nat, 3 * j + i = nn := ⟨_, rfl⟩
                  have hnn24 : nn < 24 := by omega
                  have HNN := Lib.hid hnn
                  rw [hnn]
                  clear hnn
                  have HF2 := Lib.hid hF2; have HBX2 := Lib.hid hbx; have HBW2 := Lib.hid hbw
                  clear hF2 hbx hbw
                  obtain ⟨q, hq⟩ : ∃ q : Bool, (bits .and .u32 (f / 2 ^ (nn % 32)) 1 == 1) = q := ⟨_, rfl⟩
                  have hfb2 := HF2.out.lt
                  have hd3 := (HF2.out.same (w' := wr.drew) rfl)
                  have hx3 := HBX2.out.drew
                  have hw3 := HBW2.out.drew'
                  have HF3 := Lib.hid hd3; have HBX3 := Lib.hid hx3; have HBW3 := Lib.hid hw3
                  clear hd3 hx3 hw3
                  cases q
                  · go_wp2
                    have hnn := HNN.out
                    exact ⟨⟨i + 1, by omega, by go_num, congrArg (Value.int .i64) (by omega), ⟨_, HF2.out⟩, HBX2.out, HBW2.out⟩, by simp [intOf]; omega⟩
                  · obtain rfl | rfl | rfl : i = 0 ∨ i = 1 ∨ i = 2 := by omega
                    · obtain ⟨mn, hmn⟩ : ∃ mn : Int, (if (y : Int) < (x : Int) then (y : Int) else (x : Int)) = mn := ⟨_, rfl⟩
                      obtain ⟨mx, hmx⟩ : ∃ mx : Int, (if (y : Int) > (x : Int) then (y : Int) else (x : Int)) = mx := ⟨_, rfl⟩
                      have bmn : -1000000 ≤ mn ∧ mn ≤ 1000000 := by rw [← hmn]; split <;> omega
                      have bmx : -1000000 ≤ mx ∧ mx ≤ 1000000 := by rw [← hmx]; split <;> omega
                      have hmin : ∀ w : World, Sem.run Try.prog (Builtin.min_ #[3, 3] 3 #[.int .i64 (x : Int), .int .i64 (y : Int)]) w = Result.ok (Value.int .i64 mn) w := fun w => by rw [run_min_int2, hmn]
                      have hmax : ∀ w : World, Sem.run Try.prog (Builtin.max_ #[3, 3] 3 #[.int .i64 (x : Int), .int .i64 (y : Int)]) w = Result.ok (Value.int .i64 mx) w := fun w => by rw [run_max_int2, hmx]
                      have hwk : (IntKind.i64.wrap 1).tmod 3 = 1 := by decide
                      obtain ⟨wm, F4, hup, hT4, hF4⟩ := fault_store HF3.out bmn bmx
                      have hx0 := HBX3.out.c 0 _ rfl; have hx1 := HBX3.out.c 1 _ rfl
                      have hbx4 := HBX3.out.turned hT4 (by omega)
                      have hbw4 : Below fb w7 wm := Below.turned HBW3.out hT4 (Nat.le_refl _)
                      have hy0 := hbx4.c 0 _ rfl; have hy1 := hbx4.c 1 _ rfl
                      have FIN := Lib.hid (And.intro hF4 (And.intro hbx4 hbw4))
                      clear hmn hmx bmn bmx hT4 hF4 hbx4 hbw4
                      go_wp2_with fail
                      obtain ⟨SSs, hSSs⟩ : ∃ S : Array Bool → World → Prop, ∀ l w', S l w' ↔ ((w'.cell? ⟨tb, 0, none⟩ = some (.int .i64 (x : Int))) ∧ (w'.cell? ⟨tb, 1, none⟩ = some (.int .i64 (y : Int)))) := ⟨_, fun _ _ => Iff.rfl⟩
                      refine wp_region_noPanic ?_
                      refine wp_region_G SSs 21 #[false, false, false, false, false, false, false, false, false, false, false, false, false, false, false, false, false, false, false, false, false] (by kernel_rfl) (by kernel_rfl) (by kernel_rfl) ((hSSs _ _).2 ⟨hx0, hx1⟩) (fun hCl hHeld => ?_)
                      generalize wr.drew = wd at *
                      refine reg_takeG 0 ?_ ?_ ?_ (by kernel_rfl) (by kernel_rfl) (by kernel_rfl) (fun _ _ _ h => h) ?_ ?_ ?_ hCl hHeld ?_
                      rotate_left 2
                      · simp only [List.getElem?_toArray, List.getElem?_cons_zero]; exact rfl
                      · intro l w'; rw [hSSs, hSSs]
                      · rfl
                      · intro w' hA; clear hA; go_simp; try with_reducible rfl
                      clear hCl hHeld
                      intro hCl hHeld
                      simp only [List.setIfInBounds_toArray, List.set_cons_zero] at hCl hHeld
                      try simp only [Act.put]
                      try simp only [List.setIfInBounds_toArray, List.set_cons_zero, List.set_cons_succ]
                      refine reg_takeG 1 ?_ ?_ ?_ (by kernel_rfl) (by kernel_rfl) (by kernel_rfl) (fun _ _ _ h => h) ?_ ?_ ?_ hCl hHeld ?_
                      rotate_left 2
                      · simp only [List.getElem?_toArray, List.getElem?_cons_succ, List.getElem?_cons_zero]; exact rfl
                      · intro l w'; rw [hSSs, hSSs]
                      · rfl
                      · intro w' hA; clear hA; go_simp; try with_reducible rfl
                      clear hCl hHeld
                      intro hCl hHeld
                      simp only [List.setIfInBounds_toArray, List.set_cons_zero, List.set_cons_succ] at hCl hHeld
                      try simp only [Act.put]
                      try simp only [List.setIfInBounds_toArray, List.set_cons_zero, List.set_cons_succ]
                      refine reg_takeG 2 ?_ ?_ ?_ (by kernel_rfl) (by kernel_rfl) (by kernel_rfl) (fun _ _ _ h => h) ?_ ?_ ?_ hCl hHeld ?_
                      rotate_left 2
                      · simp only [List.getElem?_toArray, List.getElem?_cons_succ, List.getElem?_cons_zero]; exact rfl
                      · intro l w'; rw [hSSs, hSSs]
                      · rfl
                      · intro w' hA; clear hA; go_simp; try with_reducible rfl
                      clear hCl hHeld
                      intro hCl hHeld
                      simp only [List.setIfInBounds_toArray, List.set_cons_zero, List.set_cons_succ] at hCl hHeld
                      try simp only [Act.put]
                      try simp only [List.setIfInBounds_toArray, List.set_cons_zero, List.set_cons_succ]
                      refine reg_takeG 3 ?_ ?_ ?_ (by kernel_rfl) (by kernel_rfl) (by kernel_rfl) (fun _ _ _ h => h) ?_ ?_ ?_ hCl hHeld ?_
                      rotate_left 2
                      · simp only [List.getElem?_toArray, List.getElem?_cons_succ, List.getElem?_cons_zero]; exact rfl
                      · intro l w'; rw [hSSs, hSSs]
                      · rfl
                      · intro w' hA; obtain ⟨l, hl, hi, hSl⟩ := hA; have hSl := (hSSs _ _).1 hSl; obtain ⟨hz0, hz1⟩ := hSl; go_simp; try with_reducible rfl
                      clear hCl hHeld
                      intro hCl hHeld
                      simp only [List.setIfInBounds_toArray, List.set_cons_zero, List.set_cons_succ] at hCl hHeld
                      try simp only [Act.put]
                      try simp only [List.setIfInBounds_toArray, List.set_cons_zero, List.set_cons_succ]
                      refine reg_takeG 4 ?_ ?_ ?_ (by kernel_rfl) (by kernel_rfl) (by kernel_rfl) (fun _ _ _ h => h) ?_ ?_ ?_ hCl hHeld ?_
                      rotate_left 2
                      · simp only [List.getElem?_toArray, List.getElem?_cons_succ, List.getElem?_cons_zero]; exact rfl
                      · intro l w'; rw [hSSs, hSSs]
                      · rfl
                      · intro w' hA; clear hA; go_simp; try with_reducible rfl
                      clear hCl hHeld
                      intro hCl hHeld
                      simp only [List.setIfInBounds_toArray, List.set_cons_zero, List.set_cons_succ] at hCl hHeld
                      try simp only [Act.put]
                      try simp only [List.setIfInBounds_toArray, List.set_cons_zero, List.set_cons_succ]
                      refine reg_takeG 5 ?_ ?_ ?_ (by kernel_rfl) (by kernel_rfl) (by kernel_rfl) (fun _ _ _ h => h) ?_ ?_ ?_ hCl hHeld ?_
                      rotate_left 2
                      · simp only [List.getElem?_toArray, List.getElem?_cons_succ, List.getElem?_cons_zero]; exact rfl
                      · intro l w'; rw [hSSs, hSSs]
                      · rfl
                      · intro w' hA; clear hA; go_simp; try with_reducible rfl
                      clear hCl hHeld
                      intro hCl hHeld
                      simp only [List.setIfInBounds_toArray, List.set_cons_zero, List.set_cons_succ] at hCl hHeld
                      try simp only [Act.put]
                      try simp only [List.setIfInBounds_toArray, List.set_cons_zero, List.set_cons_succ]
                      refine reg_takeG 6 ?_ ?_ ?_ (by kernel_rfl) (by kernel_rfl) (by kernel_rfl) (fun _ _ _ h => h) ?_ ?_ ?_ hCl hHeld ?_
                      rotate_left 2
                      · simp only [List.getElem?_toArray, List.getElem?_cons_succ, List.getElem?_cons_zero]; exact rfl
                      · intro l w'; rw [hSSs, hSSs]
                      · rfl
                      · intro w' hA; clear hA; go_simp; try with_reducible rfl
                      clear hCl hHeld
                      intro hCl hHeld
                      simp only [List.setIfInBounds_toArray, List.set_cons_zero, List.set_cons_succ] at hCl hHeld
                      try simp only [Act.put]
                      try simp only [List.setIfInBounds_toArray, List.set_cons_zero, List.set_cons_succ]
                      refine reg_takeG 7 ?_ ?_ ?_ (by kernel_rfl) (by kernel_rfl) (by kernel_rfl) (fun _ _ _ h => h) ?_ ?_ ?_ hCl hHeld ?_
                      rotate_left 2
                      · simp only [List.getElem?_toArray, List.getElem?_cons_succ, List.getElem?_cons_zero]; exact rfl
                      · intro l w'; rw [hSSs, hSSs]
                      · rfl
                      · intro w' hA; clear hA; go_simp; try with_reducible rfl
                      clear hCl hHeld
                      intro hCl hHeld
                      simp only [List.setIfInBounds_toArray, List.set_cons_zero, List.set_cons_succ] at hCl hHeld
                      try simp only [Act.put]
                      try simp only [List.setIfInBounds_toArray, List.set_cons_zero, List.set_cons_succ]
                      refine reg_takeG 8 ?_ ?_ ?_ (by kernel_rfl) (by kernel_rfl) (by kernel_rfl) (fun _ _ _ h => h) ?_ ?_ ?_ hCl hHeld ?_
                      rotate_left 2
                      · simp only [List.getElem?_toArray, List.getElem?_cons_succ, List.getElem?_cons_zero]; exact rfl
                      · intro l w'; rw [hSSs, hSSs]
                      · rfl
                      · intro w' hA; obtain ⟨l, hl, hi, hSl⟩ := hA; have hSl := (hSSs _ _).1 hSl; obtain ⟨hz0, hz1⟩ := hSl; go_simp; try with_reducible rfl
                      clear hCl hHeld
                      intro hCl hHeld
                      simp only [List.setIfInBounds_toArray, List.set_cons_zero, List.set_cons_succ] at hCl hHeld
                      try simp only [Act.put]
                      try simp only [List.setIfInBounds_toArray, List.set_cons_zero, List.set_cons_succ]
                      refine reg_takeG 9 ?_ ?_ ?_ (by kernel_rfl) (by kernel_rfl) (by kernel_rfl) (fun _ _ _ h => h) ?_ ?_ ?_ hCl hHeld ?_
                      rotate_left 2
                      · simp only [List.getElem?_toArray, List.getElem?_cons_succ, List.getElem?_cons_zero]; exact rfl
                      · intro l w'; rw [hSSs, hSSs]
                      · rfl
                      · intro w' hA; clear hA; go_simp; try with_reducible rfl
                      clear hCl hHeld
                      intro hCl hHeld
                      simp only [List.setIfInBounds_toArray, List.set_cons_zero, List.set_cons_succ] at hCl hHeld
                      try simp only [Act.put]
                      try simp only [List.setIfInBounds_toArray, List.set_cons_zero, List.set_cons_succ]
                      refine reg_takeG 10 ?_ ?_ ?_ (by kernel_rfl) (by kernel_rfl) (by kernel_rfl) (fun _ _ _ h => h) ?_ ?_ ?_ hCl hHeld ?_
                      rotate_left 2
                      · simp only [List.getElem?_toArray, List.getElem?_cons_succ, List.getElem?_cons_zero]; exact rfl
                      · intro l w'; rw [hSSs, hSSs]
                      · rfl
                      · intro w' hA; clear hA; go_simp; try with_reducible rfl
                      clear hCl hHeld
                      intro hCl hHeld
                      simp only [List.setIfInBounds_toArray, List.set_cons_zero, List.set_cons_succ] at hCl hHeld
                      try simp only [Act.put]
                      try simp only [List.setIfInBounds_toArray, List.set_cons_zero, List.set_cons_succ]
                      refine reg_takeG 11 ?_ ?_ ?_ (by kernel_rfl) (by kernel_rfl) (by kernel_rfl) (fun _ _ _ h => h) ?_ ?_ ?_ hCl hHeld ?_
                      rotate_left 2
                      · simp only [List.getElem?_toArray, List.getElem?_cons_succ, List.getElem?_cons_zero]; exact rfl
                      · intro l w'; rw [hSSs, hSSs]
                      · rfl
                      · intro w' hA; clear hA; go_simp; try with_reducible rfl
                      clear hCl hHeld
                      intro hCl hHeld
                      simp only [List.setIfInBounds_toArray, List.set_cons_zero, List.set_cons_succ] at hCl hHeld
                      try simp only [Act.put]
                      try simp only [List.setIfInBounds_toArray, List.set_cons_zero, List.set_cons_succ]
                      refine reg_takeG 12 ?_ ?_ ?_ (by kernel_rfl) (by kernel_rfl) (by kernel_rfl) (fun _ _ _ h => h) ?_ ?_ ?_ hCl hHeld ?_
                      rotate_left 2
                      · simp only [List.getElem?_toArray, List.getElem?_cons_succ, List.getElem?_cons_zero]; exact rfl
                      · intro l w'; rw [hSSs, hSSs]
                      · rfl
                      · intro w' hA; obtain ⟨l, hl, hi, hSl⟩ := hA; have hSl := (hSSs _ _).1 hSl; obtain ⟨hz0, hz1⟩ := hSl; go_simp; try with_reducible rfl
                      clear hCl hHeld
                      intro hCl hHeld
                      simp only [List.setIfInBounds_toArray, List.set_cons_zero, List.set_cons_succ] at hCl hHeld
                      try simp only [Act.put]
                      try simp only [List.setIfInBounds_toArray, List.set_cons_zero, List.set_cons_succ]
                      refine reg_takeG 13 ?_ ?_ ?_ (by kernel_rfl) (by kernel_rfl) (by kernel_rfl) (fun _ _ _ h => h) ?_ ?_ ?_ hCl hHeld ?_
                      rotate_left 2
                      · simp only [List.getElem?_toArray, List.getElem?_cons_succ, List.getElem?_cons_zero]; exact rfl
                      · intro l w'; rw [hSSs, hSSs]
                      · rfl
                      · intro w' hA; clear hA; go_simp; try with_reducible rfl
                      clear hCl hHeld
                      intro hCl hHeld
                      simp only [List.setIfInBounds_toArray, List.set_cons_zero, List.set_cons_succ] at hCl hHeld
                      try simp only [Act.put]
                      try simp only [List.setIfInBounds_toArray, List.set_cons_zero, List.set_cons_succ]
                      refine reg_takeG 14 ?_ ?_ ?_ (by kernel_rfl) (by kernel_rfl) (by kernel_rfl) (fun _ _ _ h => h) ?_ ?_ ?_ hCl hHeld ?_
                      rotate_left 2
                      · simp only [List.getElem?_toArray, List.getElem?_cons_succ, List.getElem?_cons_zero]; exact rfl
                      · intro l w'; rw [hSSs, hSSs]
                      · rfl
                      · intro w' hA; clear hA; go_simp; try with_reducible rfl
                      clear hCl hHeld
                      intro hCl hHeld
                      simp only [List.setIfInBounds_toArray, List.set_cons_zero, List.set_cons_succ] at hCl hHeld
                      try simp only [Act.put]
                      try simp only [List.setIfInBounds_toArray, List.set_cons_zero, List.set_cons_succ]
                      refine reg_takeG 15 ?_ ?_ ?_ (by kernel_rfl) (by kernel_rfl) (by kernel_rfl) (fun _ _ _ h => h) ?_ ?_ ?_ hCl hHeld ?_
                      rotate_left 2
                      · simp only [List.getElem?_toArray, List.getElem?_cons_succ, List.getElem?_cons_zero]; exact rfl
                      · intro l w'; rw [hSSs, hSSs]
                      · rfl
                      · intro w' hA; clear hA; go_simp; try with_reducible rfl
                      clear hCl hHeld
                      intro hCl hHeld
                      simp only [List.setIfInBounds_toArray, List.set_cons_zero, List.set_cons_succ] at hCl hHeld
                      try simp only [Act.put]
                      try simp only [List.setIfInBounds_toArray, List.set_cons_zero, List.set_cons_succ]
                      refine reg_takeG 16 ?_ ?_ ?_ (by kernel_rfl) (by kernel_rfl) (by kernel_rfl) (fun _ _ _ h => h) ?_ ?_ ?_ hCl hHeld ?_
                      rotate_left 2
                      · simp only [List.getElem?_toArray, List.getElem?_cons_succ, List.getElem?_cons_zero]; exact rfl
                      · intro l w'; rw [hSSs, hSSs]
                      · rfl
                      · intro w' hA; clear hA; go_simp; try with_reducible rfl
                      clear hCl hHeld
                      intro hCl hHeld
                      simp only [List.setIfInBounds_toArray, List.set_cons_zero, List.set_cons_succ] at hCl hHeld
                      try simp only [Act.put]
                      try simp only [List.setIfInBounds_toArray, List.set_cons_zero, List.set_cons_succ]
                      refine reg_takeG 17 ?_ ?_ ?_ (by kernel_rfl) (by kernel_rfl) (by kernel_rfl) (fun _ _ _ h => h) ?_ ?_ ?_ hCl hHeld ?_
                      rotate_left 2
                      · simp only [List.getElem?_toArray, List.getElem?_cons_succ, List.getElem?_cons_zero]; exact rfl
                      · intro l w'; rw [hSSs, hSSs]
                      · rfl
                      · intro w' hA; obtain ⟨l, hl, hi, hSl⟩ := hA; have hSl := (hSSs _ _).1 hSl; obtain ⟨hz0, hz1⟩ := hSl; go_simp; try with_reducible rfl
                      clear hCl hHeld
                      intro hCl hHeld
                      simp only [List.setIfInBounds_toArray, List.set_cons_zero, List.set_cons_succ] at hCl hHeld
                      try simp only [Act.put]
                      try simp only [List.setIfInBounds_toArray, List.set_cons_zero, List.set_cons_succ]
                      refine reg_takeG 18 ?_ ?_ ?_ (by kernel_rfl) (by kernel_rfl) (by kernel_rfl) (fun _ _ _ h => h) ?_ ?_ ?_ hCl hHeld ?_
                      rotate_left 2
                      · simp only [List.getElem?_toArray, List.getElem?_cons_succ, List.getElem?_cons_zero]; exact rfl
                      · intro l w'; rw [hSSs, hSSs]
                      · rfl
                      · intro w' hA; clear hA; go_simp; try with_reducible rfl
                      clear hCl hHeld
                      intro hCl hHeld
                      simp only [List.setIfInBounds_toArray, List.set_cons_zero, List.set_cons_succ] at hCl hHeld
                      try simp only [Act.put]
                      try simp only [List.setIfInBounds_toArray, List.set_cons_zero, List.set_cons_succ]
                      refine reg_takeG 19 ?_ ?_ ?_ (by kernel_rfl) (by kernel_rfl) (by kernel_rfl) (fun _ _ _ h => h) ?_ ?_ ?_ hCl hHeld ?_
                      rotate_left 2
                      · simp only [List.getElem?_toArray, List.getElem?_cons_succ, List.getElem?_cons_zero]; exact rfl
                      · intro l w'; rw [hSSs, hSSs]
                      · rfl
                      · intro w' hA; clear hA; go_simp; try with_reducible rfl
                      clear hCl hHeld
                      intro hCl hHeld
                      simp only [List.setIfInBounds_toArray, List.set_cons_zero, List.set_cons_succ] at hCl hHeld
                      try simp only [Act.put]
                      try simp only [List.setIfInBounds_toArray, List.set_cons_zero, List.set_cons_succ]
                      clear hCl hHeld
                      refine reg_callG 20 ?_ (by kernel_rfl) ?_ (fun K hK => ?_)
                      rotate_left 1
                      · simp only [List.getElem?_toArray, List.getElem?_cons_succ, List.getElem?_cons_zero]; exact rfl
                      go_simp
                      clear hx0 hx1 hup
                      refine hK.out _ _ ((hSSs _ _).2 ⟨hy0, hy1⟩) ?_
                      clear hK K
                      try simp only [Act.put]
                      try simp only [List.setIfInBounds_toArray, List.set_cons_zero, List.set_cons_succ]
                      refine wpAnyG_done (by kernel_rfl) ?_ _
                      refine NoPanic.normal ?_
                      clear hSSs SSs
                      go_wp2
                      have hnn := HNN.out
                      refine ⟨⟨_, _, _, _, _, _, _, _, _, _, _, _, _, _, _, _, _, _, _, _, _, _, _, _, _, _, _, _, _, _, _, _, _, _, ?_, rfl⟩, by simp [intOf]⟩
                      exact ⟨0 + 1, by omega, by go_num, congrArg (Value.int .i64) (by omega), ⟨_, FIN.out.1⟩, FIN.out.2.1, FIN.out.2.2⟩
                    · obtain ⟨mn, hmn⟩ : ∃ mn : Int, (if (z : Int) < (y : Int) then (z : Int) else (y : Int)) = mn := ⟨_, rfl⟩
                      obtain ⟨mx, hmx⟩ : ∃ mx : Int, (if (z : Int) > (y : Int) then (z : Int) else (y : Int)) = mx := ⟨_, rfl⟩
                      have bmn : -1000000 ≤ mn ∧ mn ≤ 1000000 := by rw [← hmn]; split <;> omega
                      have bmx : -1000000 ≤ mx ∧ mx ≤ 1000000 := by rw [← hmx]; split <;> omega
                      have hmin : ∀ w : World, Sem.run Try.prog (Builtin.min_ #[3, 3] 3 #[.int .i64 (y : Int), .int .i64 (z : Int)]) w = Result.ok (Value.int .i64 mn) w := fun w => by rw [run_min_int2, hmn]
                      have hmax : ∀ w : World, Sem.run Try.prog (Builtin.max_ #[3, 3] 3 #[.int .i64 (y : Int), .int .i64 (z : Int)]) w = Result.ok (Value.int .i64 mx) w := fun w => by rw [run_max_int2, hmx]
                      have hwk : (IntKind.i64.wrap 2).tmod 3 = 2 := by decide
                      obtain ⟨wm, F4, hup, hT4, hF4⟩ := fault_store HF3.out bmn bmx
                      have hx0 := HBX3.out.c 1 _ rfl; have hx1 := HBX3.out.c 2 _ rfl
                      have hbx4 := HBX3.out.turned hT4 (by omega)
                      have hbw4 : Below fb w7 wm := Below.turned HBW3.out hT4 (Nat.le_refl _)
                      have hy0 := hbx4.c 1 _ rfl; have hy1 := hbx4.c 2 _ rfl
                      have FIN := Lib.hid (And.intro hF4 (And.intro hbx4 hbw4))
                      clear hmn hmx bmn bmx hT4 hF4 hbx4 hbw4
                      go_wp2_with fail
                      obtain ⟨SSs, hSSs⟩ : ∃ S : Array Bool → World → Prop, ∀ l w', S l w' ↔ ((w'.cell? ⟨tb, 1, none⟩ = some (.int .i64 (y : Int))) ∧ (w'.cell? ⟨tb, 2, none⟩ = some (.int .i64 (z : Int)))) := ⟨_, fun _ _ => Iff.rfl⟩
                      refine wp_region_noPanic ?_
                      refine wp_region_G SSs 21 #[false, false, false, false, false, false, false, false, false, false, false, false, false, false, false, false, false, false, false, false, false] (by kernel_rfl) (by kernel_rfl) (by kernel_rfl) ((hSSs _ _).2 ⟨hx0, hx1⟩) (fun hCl hHeld => ?_)
                      generalize wr.drew = wd at *
                      refine reg_takeG 0 ?_ ?_ ?_ (by kernel_rfl) (by kernel_rfl) (by kernel_rfl) (fun _ _ _ h => h) ?_ ?_ ?_ hCl hHeld ?_
                      rotate_left 2
                      · simp only [List.getElem?_toArray, List.getElem?_cons_zero]; exact rfl
                      · intro l w'; rw [hSSs, hSSs]
                      · rfl
                      · intro w' hA; clear hA; go_simp; try with_reducible rfl
                      clear hCl hHeld
                      intro hCl hHeld
                      simp only [List.setIfInBounds_toArray, List.set_cons_zero] at hCl hHeld
                      try simp only [Act.put]
                      try simp only [List.setIfInBounds_toArray, List.set_cons_zero, List.set_cons_succ]
                      refine reg_takeG 1 ?_ ?_ ?_ (by kernel_rfl) (by kernel_rfl) (by kernel_rfl) (fun _ _ _ h => h) ?_ ?_ ?_ hCl hHeld ?_
                      rotate_left 2
                      · simp only [List.getElem?_toArray, List.getElem?_cons_succ, List.getElem?_cons_zero]; exact rfl
                      · intro l w'; rw [hSSs, hSSs]
                      · rfl
                      · intro w' hA; clear hA; go_simp; try with_reducible rfl
                      clear hCl hHeld
                      intro hCl hHeld
                      simp only [List.setIfInBounds_toArray, List.set_cons_zero, List.set_cons_succ] at hCl hHeld
                      try simp only [Act.put]
                      try simp only [List.setIfInBounds_toArray, List.set_cons_zero, List.set_cons_succ]
                      refine reg_takeG 2 ?_ ?_ ?_ (by kernel_rfl) (by kernel_rfl) (by kernel_rfl) (fun _ _ _ h => h) ?_ ?_ ?_ hCl hHeld ?_
                      rotate_left 2
                      · simp only [List.getElem?_toArray, List.getElem?_cons_succ, List.getElem?_cons_zero]; exact rfl
                      · intro l w'; rw [hSSs, hSSs]
                      · rfl
                      · intro w' hA; clear hA; go_simp; try with_reducible rfl
                      clear hCl hHeld
                      intro hCl hHeld
                      simp only [List.setIfInBounds_toArray, List.set_cons_zero, List.set_cons_succ] at hCl hHeld
                      try simp only [Act.put]
                      try simp only [List.setIfInBounds_toArray, List.set_cons_zero, List.set_cons_succ]
                      refine reg_takeG 3 ?_ ?_ ?_ (by kernel_rfl) (by kernel_rfl) (by kernel_rfl) (fun _ _ _ h => h) ?_ ?_ ?_ hCl hHeld ?_
                      rotate_left 2
                      · simp only [List.getElem?_toArray, List.getElem?_cons_succ, List.getElem?_cons_zero]; exact rfl
                      · intro l w'; rw [hSSs, hSSs]
                      · rfl
                      · intro w' hA; obtain ⟨l, hl, hi, hSl⟩ := hA; have hSl := (hSSs _ _).1 hSl; obtain ⟨hz0, hz1⟩ := hSl; go_simp; try with_reducible rfl
                      clear hCl hHeld
                      intro hCl hHeld
                      simp only [List.setIfInBounds_toArray, List.set_cons_zero, List.set_cons_succ] at hCl hHeld
                      try simp only [Act.put]
                      try simp only [List.setIfInBounds_toArray, List.set_cons_zero, List.set_cons_succ]
                      refine reg_takeG 4 ?_ ?_ ?_ (by kernel_rfl) (by kernel_rfl) (by kernel_rfl) (fun _ _ _ h => h) ?_ ?_ ?_ hCl hHeld ?_
                      rotate_left 2
                      · simp only [List.getElem?_toArray, List.getElem?_cons_succ, List.getElem?_cons_zero]; exact rfl
                      · intro l w'; rw [hSSs, hSSs]
                      · rfl
                      · intro w' hA; clear hA; go_simp; try with_reducible rfl
                      clear hCl hHeld
                      intro hCl hHeld
                      simp only [List.setIfInBounds_toArray, List.set_cons_zero, List.set_cons_succ] at hCl hHeld
                      try simp only [Act.put]
                      try simp only [List.setIfInBounds_toArray, List.set_cons_zero, List.set_cons_succ]
                      refine reg_takeG 5 ?_ ?_ ?_ (by kernel_rfl) (by kernel_rfl) (by kernel_rfl) (fun _ _ _ h => h) ?_ ?_ ?_ hCl hHeld ?_
                      rotate_left 2
                      · simp only [List.getElem?_toArray, List.getElem?_cons_succ, List.getElem?_cons_zero]; exact rfl
                      · intro l w'; rw [hSSs, hSSs]
                      · rfl
                      · intro w' hA; clear hA; go_simp; try with_reducible rfl
                      clear hCl hHeld
                      intro hCl hHeld
                      simp only [List.setIfInBounds_toArray, List.set_cons_zero, List.set_cons_succ] at hCl hHeld
                      try simp only [Act.put]
                      try simp only [List.setIfInBounds_toArray, List.set_cons_zero, List.set_cons_succ]
                      refine reg_takeG 6 ?_ ?_ ?_ (by kernel_rfl) (by kernel_rfl) (by kernel_rfl) (fun _ _ _ h => h) ?_ ?_ ?_ hCl hHeld ?_
                      rotate_left 2
                      · simp only [List.getElem?_toArray, List.getElem?_cons_succ, List.getElem?_cons_zero]; exact rfl
                      · intro l w'; rw [hSSs, hSSs]
                      · rfl
                      · intro w' hA; clear hA; go_simp; try with_reducible rfl
                      clear hCl hHeld
                      intro hCl hHeld
                      simp only [List.setIfInBounds_toArray, List.set_cons_zero, List.set_cons_succ] at hCl hHeld
                      try simp only [Act.put]
                      try simp only [List.setIfInBounds_toArray, List.set_cons_zero, List.set_cons_succ]
                      refine reg_takeG 7 ?_ ?_ ?_ (by kernel_rfl) (by kernel_rfl) (by kernel_rfl) (fun _ _ _ h => h) ?_ ?_ ?_ hCl hHeld ?_
                      rotate_left 2
                      · simp only [List.getElem?_toArray, List.getElem?_cons_succ, List.getElem?_cons_zero]; exact rfl
                      · intro l w'; rw [hSSs, hSSs]
                      · rfl
                      · intro w' hA; clear hA; go_simp; try with_reducible rfl
                      clear hCl hHeld
                      intro hCl hHeld
                      simp only [List.setIfInBounds_toArray, List.set_cons_zero, List.set_cons_succ] at hCl hHeld
                      try simp only [Act.put]
                      try simp only [List.setIfInBounds_toArray, List.set_cons_zero, List.set_cons_succ]
                      refine reg_takeG 8 ?_ ?_ ?_ (by kernel_rfl) (by kernel_rfl) (by kernel_rfl) (fun _ _ _ h => h) ?_ ?_ ?_ hCl hHeld ?_
                      rotate_left 2
                      · simp only [List.getElem?_toArray, List.getElem?_cons_succ, List.getElem?_cons_zero]; exact rfl
                      · intro l w'; rw [hSSs, hSSs]
                      · rfl
                      · intro w' hA; obtain ⟨l, hl, hi, hSl⟩ := hA; have hSl := (hSSs _ _).1 hSl; obtain ⟨hz0, hz1⟩ := hSl; go_simp; try with_reducible rfl
                      clear hCl hHeld
                      intro hCl hHeld
                      simp only [List.setIfInBounds_toArray, List.set_cons_zero, List.set_cons_succ] at hCl hHeld
                      try simp only [Act.put]
                      try simp only [List.setIfInBounds_toArray, List.set_cons_zero, List.set_cons_succ]
                      refine reg_takeG 9 ?_ ?_ ?_ (by kernel_rfl) (by kernel_rfl) (by kernel_rfl) (fun _ _ _ h => h) ?_ ?_ ?_ hCl hHeld ?_
                      rotate_left 2
                      · simp only [List.getElem?_toArray, List.getElem?_cons_succ, List.getElem?_cons_zero]; exact rfl
                      · intro l w'; rw [hSSs, hSSs]
                      · rfl
                      · intro w' hA; clear hA; go_simp; try with_reducible rfl
                      clear hCl hHeld
                      intro hCl hHeld
                      simp only [List.setIfInBounds_toArray, List.set_cons_zero, List.set_cons_succ] at hCl hHeld
                      try simp only [Act.put]
                      try simp only [List.setIfInBounds_toArray, List.set_cons_zero, List.set_cons_succ]
                      refine reg_takeG 10 ?_ ?_ ?_ (by kernel_rfl) (by kernel_rfl) (by kernel_rfl) (fun _ _ _ h => h) ?_ ?_ ?_ hCl hHeld ?_
                      rotate_left 2
                      · simp only [List.getElem?_toArray, List.getElem?_cons_succ, List.getElem?_cons_zero]; exact rfl
                      · intro l w'; rw [hSSs, hSSs]
                      · rfl
                      · intro w' hA; clear hA; go_simp; try with_reducible rfl
                      clear hCl hHeld
                      intro hCl hHeld
                      simp only [List.setIfInBounds_toArray, List.set_cons_zero, List.set_cons_succ] at hCl hHeld
                      try simp only [Act.put]
                      try simp only [List.setIfInBounds_toArray, List.set_cons_zero, List.set_cons_succ]
                      refine reg_takeG 11 ?_ ?_ ?_ (by kernel_rfl) (by kernel_rfl) (by kernel_rfl) (fun _ _ _ h => h) ?_ ?_ ?_ hCl hHeld ?_
                      rotate_left 2
                      · simp only [List.getElem?_toArray, List.getElem?_cons_succ, List.getElem?_cons_zero]; exact rfl
                      · intro l w'; rw [hSSs, hSSs]
                      · rfl
                      · intro w' hA; clear hA; go_simp; try with_reducible rfl
                      clear hCl hHeld
                      intro hCl hHeld
                      simp only [List.setIfInBounds_toArray, List.set_cons_zero, List.set_cons_succ] at hCl hHeld
                      try simp only [Act.put]
                      try simp only [List.setIfInBounds_toArray, List.set_cons_zero, List.set_cons_succ]
                      refine reg_takeG 12 ?_ ?_ ?_ (by kernel_rfl) (by kernel_rfl) (by kernel_rfl) (fun _ _ _ h => h) ?_ ?_ ?_ hCl hHeld ?_
                      rotate_left 2
                      · simp only [List.getElem?_toArray, List.getElem?_cons_succ, List.getElem?_cons_zero]; exact rfl
                      · intro l w'; rw [hSSs, hSSs]
                      · rfl
                      · intro w' hA; obtain ⟨l, hl, hi, hSl⟩ := hA; have hSl := (hSSs _ _).1 hSl; obtain ⟨hz0, hz1⟩ := hSl; go_simp; try with_reducible rfl
                      clear hCl hHeld
                      intro hCl hHeld
                      simp only [List.setIfInBounds_toArray, List.set_cons_zero, List.set_cons_succ] at hCl hHeld
                      try simp only [Act.put]
                      try simp only [List.setIfInBounds_toArray, List.set_cons_zero, List.set_cons_succ]
                      refine reg_takeG 13 ?_ ?_ ?_ (by kernel_rfl) (by kernel_rfl) (by kernel_rfl) (fun _ _ _ h => h) ?_ ?_ ?_ hCl hHeld ?_
                      rotate_left 2
                      · simp only [List.getElem?_toArray, List.getElem?_cons_succ, List.getElem?_cons_zero]; exact rfl
                      · intro l w'; rw [hSSs, hSSs]
                      · rfl
                      · intro w' hA; clear hA; go_simp; try with_reducible rfl
                      clear hCl hHeld
                      intro hCl hHeld
                      simp only [List.setIfInBounds_toArray, List.set_cons_zero, List.set_cons_succ] at hCl hHeld
                      try simp only [Act.put]
                      try simp only [List.setIfInBounds_toArray, List.set_cons_zero, List.set_cons_succ]
                      refine reg_takeG 14 ?_ ?_ ?_ (by kernel_rfl) (by kernel_rfl) (by kernel_rfl) (fun _ _ _ h => h) ?_ ?_ ?_ hCl hHeld ?_
                      rotate_left 2
                      · simp only [List.getElem?_toArray, List.getElem?_cons_succ, List.getElem?_cons_zero]; exact rfl
                      · intro l w'; rw [hSSs, hSSs]
                      · rfl
                      · intro w' hA; clear hA; go_simp; try with_reducible rfl
                      clear hCl hHeld
                      intro hCl hHeld
                      simp only [List.setIfInBounds_toArray, List.set_cons_zero, List.set_cons_succ] at hCl hHeld
                      try simp only [Act.put]
                      try simp only [List.setIfInBounds_toArray, List.set_cons_zero, List.set_cons_succ]
                      refine reg_takeG 15 ?_ ?_ ?_ (by kernel_rfl) (by kernel_rfl) (by kernel_rfl) (fun _ _ _ h => h) ?_ ?_ ?_ hCl hHeld ?_
                      rotate_left 2
                      · simp only [List.getElem?_toArray, List.getElem?_cons_succ, List.getElem?_cons_zero]; exact rfl
                      · intro l w'; rw [hSSs, hSSs]
                      · rfl
                      · intro w' hA; clear hA; go_simp; try with_reducible rfl
                      clear hCl hHeld
                      intro hCl hHeld
                      simp only [List.setIfInBounds_toArray, List.set_cons_zero, List.set_cons_succ] at hCl hHeld
                      try simp only [Act.put]
                      try simp only [List.setIfInBounds_toArray, List.set_cons_zero, List.set_cons_succ]
                      refine reg_takeG 16 ?_ ?_ ?_ (by kernel_rfl) (by kernel_rfl) (by kernel_rfl) (fun _ _ _ h => h) ?_ ?_ ?_ hCl hHeld ?_
                      rotate_left 2
                      · simp only [List.getElem?_toArray, List.getElem?_cons_succ, List.getElem?_cons_zero]; exact rfl
                      · intro l w'; rw [hSSs, hSSs]
                      · rfl
                      · intro w' hA; clear hA; go_simp; try with_reducible rfl
                      clear hCl hHeld
                      intro hCl hHeld
                      simp only [List.setIfInBounds_toArray, List.set_cons_zero, List.set_cons_succ] at hCl hHeld
                      try simp only [Act.put]
                      try simp only [List.setIfInBounds_toArray, List.set_cons_zero, List.set_cons_succ]
                      refine reg_takeG 17 ?_ ?_ ?_ (by kernel_rfl) (by kernel_rfl) (by kernel_rfl) (fun _ _ _ h => h) ?_ ?_ ?_ hCl hHeld ?_
                      rotate_left 2
                      · simp only [List.getElem?_toArray, List.getElem?_cons_succ, List.getElem?_cons_zero]; exact rfl
                      · intro l w'; rw [hSSs, hSSs]
                      · rfl
                      · intro w' hA; obtain ⟨l, hl, hi, hSl⟩ := hA; have hSl := (hSSs _ _).1 hSl; obtain ⟨hz0, hz1⟩ := hSl; go_simp; try with_reducible rfl
                      clear hCl hHeld
                      intro hCl hHeld
                      simp only [List.setIfInBounds_toArray, List.set_cons_zero, List.set_cons_succ] at hCl hHeld
                      try simp only [Act.put]
                      try simp only [List.setIfInBounds_toArray, List.set_cons_zero, List.set_cons_succ]
                      refine reg_takeG 18 ?_ ?_ ?_ (by kernel_rfl) (by kernel_rfl) (by kernel_rfl) (fun _ _ _ h => h) ?_ ?_ ?_ hCl hHeld ?_
                      rotate_left 2
                      · simp only [List.getElem?_toArray, List.getElem?_cons_succ, List.getElem?_cons_zero]; exact rfl
                      · intro l w'; rw [hSSs, hSSs]
                      · rfl
                      · intro w' hA; clear hA; go_simp; try with_reducible rfl
                      clear hCl hHeld
                      intro hCl hHeld
                      simp only [List.setIfInBounds_toArray, List.set_cons_zero, List.set_cons_succ] at hCl hHeld
                      try simp only [Act.put]
                      try simp only [List.setIfInBounds_toArray, List.set_cons_zero, List.set_cons_succ]
                      refine reg_takeG 19 ?_ ?_ ?_ (by kernel_rfl) (by kernel_rfl) (by kernel_rfl) (fun _ _ _ h => h) ?_ ?_ ?_ hCl hHeld ?_
                      rotate_left 2
                      · simp only [List.getElem?_toArray, List.getElem?_cons_succ, List.getElem?_cons_zero]; exact rfl
                      · intro l w'; rw [hSSs, hSSs]
                      · rfl
                      · intro w' hA; clear hA; go_simp; try with_reducible rfl
                      clear hCl hHeld
                      intro hCl hHeld
                      simp only [List.setIfInBounds_toArray, List.set_cons_zero, List.set_cons_succ] at hCl hHeld
                      try simp only [Act.put]
                      try simp only [List.setIfInBounds_toArray, List.set_cons_zero, List.set_cons_succ]
                      clear hCl hHeld
                      refine reg_callG 20 ?_ (by kernel_rfl) ?_ (fun K hK => ?_)
                      rotate_left 1
                      · simp only [List.getElem?_toArray, List.getElem?_cons_succ, List.getElem?_cons_zero]; exact rfl
                      go_simp
                      clear hx0 hx1 hup
                      refine hK.out _ _ ((hSSs _ _).2 ⟨hy0, hy1⟩) ?_
                      clear hK K
                      try simp only [Act.put]
                      try simp only [List.setIfInBounds_toArray, List.set_cons_zero, List.set_cons_succ]
                      refine wpAnyG_done (by kernel_rfl) ?_ _
                      refine NoPanic.normal ?_
                      clear hSSs SSs
                      go_wp2
                      have hnn := HNN.out
                      refine ⟨⟨_, _, _, _, _, _, _, _, _, _, _, _, _, _, _, _, _, _, _, _, _, _, _, _, _, _, _, _, _, _, _, _, _, _, ?_, rfl⟩, by simp [intOf]⟩
                      exact ⟨1 + 1, by omega, by go_num, congrArg (Value.int .i64) (by omega), ⟨_, FIN.out.1⟩, FIN.out.2.1, FIN.out.2.2⟩
                    · obtain ⟨mn, hmn⟩ : ∃ mn : Int, (if (x : Int) < (z : Int) then (x : Int) else (z : Int)) = mn := ⟨_, rfl⟩
                      obtain ⟨mx, hmx⟩ : ∃ mx : Int, (if (x : Int) > (z : Int) then (x : Int) else (z : Int)) = mx := ⟨_, rfl⟩
                      have bmn : -1000000 ≤ mn ∧ mn ≤ 1000000 := by rw [← hmn]; split <;> omega
                      have bmx : -1000000 ≤ mx ∧ mx ≤ 1000000 := by rw [← hmx]; split <;> omega
                      have hmin : ∀ w : World, Sem.run Try.prog (Builtin.min_ #[3, 3] 3 #[.int .i64 (z : Int), .int .i64 (x : Int)]) w = Result.ok (Value.int .i64 mn) w := fun w => by rw [run_min_int2, hmn]
                      have hmax : ∀ w : World, Sem.run Try.prog (Builtin.max_ #[3, 3] 3 #[.int .i64 (z : Int), .int .i64 (x : Int)]) w = Result.ok (Value.int .i64 mx) w := fun w => by rw [run_max_int2, hmx]
                      have hwk : (IntKind.i64.wrap 3).tmod 3 = 0 := by decide
                      obtain ⟨wm, F4, hup, hT4, hF4⟩ := fault_store HF3.out bmn bmx
                      have hx0 := HBX3.out.c 2 _ rfl; have hx1 := HBX3.out.c 0 _ rfl
                      have hbx4 := HBX3.out.turned hT4 (by omega)
                      have hbw4 : Below fb w7 wm := Below.turned HBW3.out hT4 (Nat.le_refl _)
                      have hy0 := hbx4.c 2 _ rfl; have hy1 := hbx4.c 0 _ rfl
                      have FIN := Lib.hid (And.intro hF4 (And.intro hbx4 hbw4))
                      clear hmn hmx bmn bmx hT4 hF4 hbx4 hbw4
                      go_wp2_with fail
                      obtain ⟨SSs, hSSs⟩ : ∃ S : Array Bool → World → Prop, ∀ l w', S l w' ↔ ((w'.cell? ⟨tb, 2, none⟩ = some (.int .i64 (z : Int))) ∧ (w'.cell? ⟨tb, 0, none⟩ = some (.int .i64 (x : Int)))) := ⟨_, fun _ _ => Iff.rfl⟩
                      refine wp_region_noPanic ?_
                      refine wp_region_G SSs 21 #[false, false, false, false, false, false, false, false, false, false, false, false, false, false, false, false, false, false, false, false, false] (by kernel_rfl) (by kernel_rfl) (by kernel_rfl) ((hSSs _ _).2 ⟨hx0, hx1⟩) (fun hCl hHeld => ?_)
                      generalize wr.drew = wd at *
                      refine reg_takeG 0 ?_ ?_ ?_ (by kernel_rfl) (by kernel_rfl) (by kernel_rfl) (fun _ _ _ h => h) ?_ ?_ ?_ hCl hHeld ?_
                      rotate_left 2
                      · simp only [List.getElem?_toArray, List.getElem?_cons_zero]; exact rfl
                      · intro l w'; rw [hSSs, hSSs]
                      · rfl
                      · intro w' hA; clear hA; go_simp; try with_reducible rfl
                      clear hCl hHeld
                      intro hCl hHeld
                      simp only [List.setIfInBounds_toArray, List.set_cons_zero] at hCl hHeld
                      try simp only [Act.put]
                      try simp only [List.setIfInBounds_toArray, List.set_cons_zero, List.set_cons_succ]
                      refine reg_takeG 1 ?_ ?_ ?_ (by kernel_rfl) (by kernel_rfl) (by kernel_rfl) (fun _ _ _ h => h) ?_ ?_ ?_ hCl hHeld ?_
                      rotate_left 2
                      · simp only [List.getElem?_toArray, List.getElem?_cons_succ, List.getElem?_cons_zero]; exact rfl
                      · intro l w'; rw [hSSs, hSSs]
                      · rfl
                      · intro w' hA; clear hA; go_simp; try with_reducible rfl
                      clear hCl hHeld
                      intro hCl hHeld
                      simp only [List.setIfInBounds_toArray, List.set_cons_zero, List.set_cons_succ] at hCl hHeld
                      try simp only [Act.put]
                      try simp only [List.setIfInBounds_toArray, List.set_cons_zero, List.set_cons_succ]
                      refine reg_takeG 2 ?_ ?_ ?_ (by kernel_rfl) (by kernel_rfl) (by kernel_rfl) (fun _ _ _ h => h) ?_ ?_ ?_ hCl hHeld ?_
                      rotate_left 2
                      · simp only [List.getElem?_toArray, List.getElem?_cons_succ, List.getElem?_cons_zero]; exact rfl
                      · intro l w'; rw [hSSs, hSSs]
                      · rfl
                      · intro w' hA; clear hA; go_simp; try with_reducible rfl
                      clear hCl hHeld
                      intro hCl hHeld
                      simp only [List.setIfInBounds_toArray, List.set_cons_zero, List.set_cons_succ] at hCl hHeld
                      try simp only [Act.put]
                      try simp only [List.setIfInBounds_toArray, List.set_cons_zero, List.set_cons_succ]
                      refine reg_takeG 3 ?_ ?_ ?_ (by kernel_rfl) (by kernel_rfl) (by kernel_rfl) (fun _ _ _ h => h) ?_ ?_ ?_ hCl hHeld ?_
                      rotate_left 2
                      · simp only [List.getElem?_toArray, List.getElem?_cons_succ, List.getElem?_cons_zero]; exact rfl
                      · intro l w'; rw [hSSs, hSSs]
                      · rfl
                      · intro w' hA; obtain ⟨l, hl, hi, hSl⟩ := hA; have hSl := (hSSs _ _).1 hSl; obtain ⟨hz0, hz1⟩ := hSl; go_simp; try with_reducible rfl
                      clear hCl hHeld
                      intro hCl hHeld
                      simp only [List.setIfInBounds_toArray, List.set_cons_zero, List.set_cons_succ] at hCl hHeld
                      try simp only [Act.put]
                      try simp only [List.setIfInBounds_toArray, List.set_cons_zero, List.set_cons_succ]
                      refine reg_takeG 4 ?_ ?_ ?_ (by kernel_rfl) (by kernel_rfl) (by kernel_rfl) (fun _ _ _ h => h) ?_ ?_ ?_ hCl hHeld ?_
                      rotate_left 2
                      · simp only [List.getElem?_toArray, List.getElem?_cons_succ, List.getElem?_cons_zero]; exact rfl
                      · intro l w'; rw [hSSs, hSSs]
                      · rfl
                      · intro w' hA; clear hA; go_simp; try with_reducible rfl
                      clear hCl hHeld
                      intro hCl hHeld
                      simp only [List.setIfInBounds_toArray, List.set_cons_zero, List.set_cons_succ] at hCl hHeld
                      try simp only [Act.put]
                      try simp only [List.setIfInBounds_toArray, List.set_cons_zero, List.set_cons_succ]
                      refine reg_takeG 5 ?_ ?_ ?_ (by kernel_rfl) (by kernel_rfl) (by kernel_rfl) (fun _ _ _ h => h) ?_ ?_ ?_ hCl hHeld ?_
                      rotate_left 2
                      · simp only [List.getElem?_toArray, List.getElem?_cons_succ, List.getElem?_cons_zero]; exact rfl
                      · intro l w'; rw [hSSs, hSSs]
                      · rfl
                      · intro w' hA; clear hA; go_simp; try with_reducible rfl
                      clear hCl hHeld
                      intro hCl hHeld
                      simp only [List.setIfInBounds_toArray, List.set_cons_zero, List.set_cons_succ] at hCl hHeld
                      try simp only [Act.put]
                      try simp only [List.setIfInBounds_toArray, List.set_cons_zero, List.set_cons_succ]
                      refine reg_takeG 6 ?_ ?_ ?_ (by kernel_rfl) (by kernel_rfl) (by kernel_rfl) (fun _ _ _ h => h) ?_ ?_ ?_ hCl hHeld ?_
                      rotate_left 2
                      · simp only [List.getElem?_toArray, List.getElem?_cons_succ, List.getElem?_cons_zero]; exact rfl
                      · intro l w'; rw [hSSs, hSSs]
                      · rfl
                      · intro w' hA; clear hA; go_simp; try with_reducible rfl
                      clear hCl hHeld
                      intro hCl hHeld
                      simp only [List.setIfInBounds_toArray, List.set_cons_zero, List.set_cons_succ] at hCl hHeld
                      try simp only [Act.put]
                      try simp only [List.setIfInBounds_toArray, List.set_cons_zero, List.set_cons_succ]
                      refine reg_takeG 7 ?_ ?_ ?_ (by kernel_rfl) (by kernel_rfl) (by kernel_rfl) (fun _ _ _ h => h) ?_ ?_ ?_ hCl hHeld ?_
                      rotate_left 2
                      · simp only [List.getElem?_toArray, List.getElem?_cons_succ, List.getElem?_cons_zero]; exact rfl
                      · intro l w'; rw [hSSs, hSSs]
                      · rfl
                      · intro w' hA; clear hA; go_simp; try with_reducible rfl
                      clear hCl hHeld
                      intro hCl hHeld
                      simp only [List.setIfInBounds_toArray, List.set_cons_zero, List.set_cons_succ] at hCl hHeld
                      try simp only [Act.put]
                      try simp only [List.setIfInBounds_toArray, List.set_cons_zero, List.set_cons_succ]
                      refine reg_takeG 8 ?_ ?_ ?_ (by kernel_rfl) (by kernel_rfl) (by kernel_rfl) (fun _ _ _ h => h) ?_ ?_ ?_ hCl hHeld ?_
                      rotate_left 2
                      · simp only [List.getElem?_toArray, List.getElem?_cons_succ, List.getElem?_cons_zero]; exact rfl
                      · intro l w'; rw [hSSs, hSSs]
                      · rfl
                      · intro w' hA; obtain ⟨l, hl, hi, hSl⟩ := hA; have hSl := (hSSs _ _).1 hSl; obtain ⟨hz0, hz1⟩ := hSl; go_simp; try with_reducible rfl
                      clear hCl hHeld
                      intro hCl hHeld
                      simp only [List.setIfInBounds_toArray, List.set_cons_zero, List.set_cons_succ] at hCl hHeld
                      try simp only [Act.put]
                      try simp only [List.setIfInBounds_toArray, List.set_cons_zero, List.set_cons_succ]
                      refine reg_takeG 9 ?_ ?_ ?_ (by kernel_rfl) (by kernel_rfl) (by kernel_rfl) (fun _ _ _ h => h) ?_ ?_ ?_ hCl hHeld ?_
                      rotate_left 2
                      · simp only [List.getElem?_toArray, List.getElem?_cons_succ, List.getElem?_cons_zero]; exact rfl
                      · intro l w'; rw [hSSs, hSSs]
                      · rfl
                      · intro w' hA; clear hA; go_simp; try with_reducible rfl
                      clear hCl hHeld
                      intro hCl hHeld
                      simp only [List.setIfInBounds_toArray, List.set_cons_zero, List.set_cons_succ] at hCl hHeld
                      try simp only [Act.put]
                      try simp only [List.setIfInBounds_toArray, List.set_cons_zero, List.set_cons_succ]
                      refine reg_takeG 10 ?_ ?_ ?_ (by kernel_rfl) (by kernel_rfl) (by kernel_rfl) (fun _ _ _ h => h) ?_ ?_ ?_ hCl hHeld ?_
                      rotate_left 2
                      · simp only [List.getElem?_toArray, List.getElem?_cons_succ, List.getElem?_cons_zero]; exact rfl
                      · intro l w'; rw [hSSs, hSSs]
                      · rfl
                      · intro w' hA; clear hA; go_simp; try with_reducible rfl
                      clear hCl hHeld
                      intro hCl hHeld
                      simp only [List.setIfInBounds_toArray, List.set_cons_zero, List.set_cons_succ] at hCl hHeld
                      try simp only [Act.put]
                      try simp only [List.setIfInBounds_toArray, List.set_cons_zero, List.set_cons_succ]
                      refine reg_takeG 11 ?_ ?_ ?_ (by kernel_rfl) (by kernel_rfl) (by kernel_rfl) (fun _ _ _ h => h) ?_ ?_ ?_ hCl hHeld ?_
                      rotate_left 2
                      · simp only [List.getElem?_toArray, List.getElem?_cons_succ, List.getElem?_cons_zero]; exact rfl
                      · intro l w'; rw [hSSs, hSSs]
                      · rfl
                      · intro w' hA; clear hA; go_simp; try with_reducible rfl
                      clear hCl hHeld
                      intro hCl hHeld
                      simp only [List.setIfInBounds_toArray, List.set_cons_zero, List.set_cons_succ] at hCl hHeld
                      try simp only [Act.put]
                      try simp only [List.setIfInBounds_toArray, List.set_cons_zero, List.set_cons_succ]
                      refine reg_takeG 12 ?_ ?_ ?_ (by kernel_rfl) (by kernel_rfl) (by kernel_rfl) (fun _ _ _ h => h) ?_ ?_ ?_ hCl hHeld ?_
                      rotate_left 2
                      · simp only [List.getElem?_toArray, List.getElem?_cons_succ, List.getElem?_cons_zero]; exact rfl
                      · intro l w'; rw [hSSs, hSSs]
                      · rfl
                      · intro w' hA; obtain ⟨l, hl, hi, hSl⟩ := hA; have hSl := (hSSs _ _).1 hSl; obtain ⟨hz0, hz1⟩ := hSl; go_simp; try with_reducible rfl
                      clear hCl hHeld
                      intro hCl hHeld
                      simp only [List.setIfInBounds_toArray, List.set_cons_zero, List.set_cons_succ] at hCl hHeld
                      try simp only [Act.put]
                      try simp only [List.setIfInBounds_toArray, List.set_cons_zero, List.set_cons_succ]
                      refine reg_takeG 13 ?_ ?_ ?_ (by kernel_rfl) (by kernel_rfl) (by kernel_rfl) (fun _ _ _ h => h) ?_ ?_ ?_ hCl hHeld ?_
                      rotate_left 2
                      · simp only [List.getElem?_toArray, List.getElem?_cons_succ, List.getElem?_cons_zero]; exact rfl
                      · intro l w'; rw [hSSs, hSSs]
                      · rfl
                      · intro w' hA; clear hA; go_simp; try with_reducible rfl
                      clear hCl hHeld
                      intro hCl hHeld
                      simp only [List.setIfInBounds_toArray, List.set_cons_zero, List.set_cons_succ] at hCl hHeld
                      try simp only [Act.put]
                      try simp only [List.setIfInBounds_toArray, List.set_cons_zero, List.set_cons_succ]
                      refine reg_takeG 14 ?_ ?_ ?_ (by kernel_rfl) (by kernel_rfl) (by kernel_rfl) (fun _ _ _ h => h) ?_ ?_ ?_ hCl hHeld ?_
                      rotate_left 2
                      · simp only [List.getElem?_toArray, List.getElem?_cons_succ, List.getElem?_cons_zero]; exact rfl
                      · intro l w'; rw [hSSs, hSSs]
                      · rfl
                      · intro w' hA; clear hA; go_simp; try with_reducible rfl
                      clear hCl hHeld
                      intro hCl hHeld
                      simp only [List.setIfInBounds_toArray, List.set_cons_zero, List.set_cons_succ] at hCl hHeld
                      try simp only [Act.put]
                      try simp only [List.setIfInBounds_toArray, List.set_cons_zero, List.set_cons_succ]
                      refine reg_takeG 15 ?_ ?_ ?_ (by kernel_rfl) (by kernel_rfl) (by kernel_rfl) (fun _ _ _ h => h) ?_ ?_ ?_ hCl hHeld ?_
                      rotate_left 2
                      · simp only [List.getElem?_toArray, List.getElem?_cons_succ, List.getElem?_cons_zero]; exact rfl
                      · intro l w'; rw [hSSs, hSSs]
                      · rfl
                      · intro w' hA; clear hA; go_simp; try with_reducible rfl
                      clear hCl hHeld
                      intro hCl hHeld
                      simp only [List.setIfInBounds_toArray, List.set_cons_zero, List.set_cons_succ] at hCl hHeld
                      try simp only [Act.put]
                      try simp only [List.setIfInBounds_toArray, List.set_cons_zero, List.set_cons_succ]
                      refine reg_takeG 16 ?_ ?_ ?_ (by kernel_rfl) (by kernel_rfl) (by kernel_rfl) (fun _ _ _ h => h) ?_ ?_ ?_ hCl hHeld ?_
                      rotate_left 2
                      · simp only [List.getElem?_toArray, List.getElem?_cons_succ, List.getElem?_cons_zero]; exact rfl
                      · intro l w'; rw [hSSs, hSSs]
                      · rfl
                      · intro w' hA; clear hA; go_simp; try with_reducible rfl
                      clear hCl hHeld
                      intro hCl hHeld
                      simp only [List.setIfInBounds_toArray, List.set_cons_zero, List.set_cons_succ] at hCl hHeld
                      try simp only [Act.put]
                      try simp only [List.setIfInBounds_toArray, List.set_cons_zero, List.set_cons_succ]
                      refine reg_takeG 17 ?_ ?_ ?_ (by kernel_rfl) (by kernel_rfl) (by kernel_rfl) (fun _ _ _ h => h) ?_ ?_ ?_ hCl hHeld ?_
                      rotate_left 2
                      · simp only [List.getElem?_toArray, List.getElem?_cons_succ, List.getElem?_cons_zero]; exact rfl
                      · intro l w'; rw [hSSs, hSSs]
                      · rfl
                      · intro w' hA; obtain ⟨l, hl, hi, hSl⟩ := hA; have hSl := (hSSs _ _).1 hSl; obtain ⟨hz0, hz1⟩ := hSl; go_simp; try with_reducible rfl
                      clear hCl hHeld
                      intro hCl hHeld
                      simp only [List.setIfInBounds_toArray, List.set_cons_zero, List.set_cons_succ] at hCl hHeld
                      try simp only [Act.put]
                      try simp only [List.setIfInBounds_toArray, List.set_cons_zero, List.set_cons_succ]
                      refine reg_takeG 18 ?_ ?_ ?_ (by kernel_rfl) (by kernel_rfl) (by kernel_rfl) (fun _ _ _ h => h) ?_ ?_ ?_ hCl hHeld ?_
                      rotate_left 2
                      · simp only [List.getElem?_toArray, List.getElem?_cons_succ, List.getElem?_cons_zero]; exact rfl
                      · intro l w'; rw [hSSs, hSSs]
                      · rfl
                      · intro w' hA; clear hA; go_simp; try with_reducible rfl
                      clear hCl hHeld
                      intro hCl hHeld
                      simp only [List.setIfInBounds_toArray, List.set_cons_zero, List.set_cons_succ] at hCl hHeld
                      try simp only [Act.put]
                      try simp only [List.setIfInBounds_toArray, List.set_cons_zero, List.set_cons_succ]
                      refine reg_takeG 19 ?_ ?_ ?_ (by kernel_rfl) (by kernel_rfl) (by kernel_rfl) (fun _ _ _ h => h) ?_ ?_ ?_ hCl hHeld ?_
                      rotate_left 2
                      · simp only [List.getElem?_toArray, List.getElem?_cons_succ, List.getElem?_cons_zero]; exact rfl
                      · intro l w'; rw [hSSs, hSSs]
                      · rfl
                      · intro w' hA; clear hA; go_simp; try with_reducible rfl
                      clear hCl hHeld
                      intro hCl hHeld
                      simp only [List.setIfInBounds_toArray, List.set_cons_zero, List.set_cons_succ] at hCl hHeld
                      try simp only [Act.put]
                      try simp only [List.setIfInBounds_toArray, List.set_cons_zero, List.set_cons_succ]
                      clear hCl hHeld
                      refine reg_callG 20 ?_ (by kernel_rfl) ?_ (fun K hK => ?_)
                      rotate_left 1
                      · simp only [List.getElem?_toArray, List.getElem?_cons_succ, List.getElem?_cons_zero]; exact rfl
                      go_simp
                      clear hx0 hx1 hup
                      refine hK.out _ _ ((hSSs _ _).2 ⟨hy0, hy1⟩) ?_
                      clear hK K
                      try simp only [Act.put]
                      try simp only [List.setIfInBounds_toArray, List.set_cons_zero, List.set_cons_succ]
                      refine wpAnyG_done (by kernel_rfl) ?_ _
                      refine NoPanic.normal ?_
                      clear hSSs SSs
                      go_wp2
                      have hnn := HNN.out
                      refine ⟨⟨_, _, _, _, _, _, _, _, _, _, _, _, _, _, _, _, _, _, _, _, _, _, _, _, _, _, _, _, _, _, _, _, _, _, ?_, rfl⟩, by simp [intOf]⟩
                      exact ⟨2 + 1, by omega, by go_num, congrArg (Value.int .i64) (by omega), ⟨_, FIN.out.1⟩, FIN.out.2.1, FIN.out.2.2⟩
                · obtain rfl : i = 3 := by omega
                  have FIN := Lib.hid (And.intro hF2 hbw)
                  clear hF2 hbw hbx
                  go_wp2
                  exact ⟨⟨j + 1, by omega, by go_num, congrArg (Value.int .i64) (by omega), ⟨_, FIN.out.1⟩, FIN.out.2⟩, by simp [intOf]; omega⟩
            · obtain rfl : j = 4 := by omega
              have hgl := HM.out.len
              obtain ⟨⟨ta, tb, tc⟩, h0⟩ : ∃ v, (gridT 1 2 bn)[0]? = some v := ⟨_, List.getElem?_eq_getElem (by omega)⟩
              have hz := HM.out.one _ (List.mem_of_getElem? h0)
              simp only [] at hz
              have hb7 : Below w7.heap.size w7 wr := by rw [HFB.out]; exact hbw
              have hpr : RowN wr (w.heap.size + 1) 62 2 (.slice (some ⟨gp, 0, none⟩) 6 gpc) 6 (ptsCells (gridP 1 2)) := (HROW.out.below HBT.out).below hb7
              have htr := HTR.out.below hb7
              have hbu := Build_any F (gridT 1 2 bn) ta tb tc fb gt 4 gtc gp 6 gpc (gridP 1 2) wr OK.out.good h0 hz (by omega) (by omega) OK.out.pts htr hF rfl (by omega) (by omega) HPS.out hpr.ptsC HM.out.some_ (by have := HM.out.few; omega) HM.out.ends
              have HBU := Lib.hid hbu; have HTRR := Lib.hid htr
              have HBWR := Lib.hid (HBW.out.trans ((HBT.out.trans (hb7.mono HBT.out.size)).mono HBW.out.size))
              have hgt := HGTL.out.1; have hsz5 := HBW.out.size
              clear hbu htr hpr hb7 hF hbw hz h0 hgl
              go_wp2_with fail
              refine HBU.out.mono ?_
              rintro e w9 ⟨mb, rfl, hbe, hb9⟩
              have hbs := HBWR.out.size
              have FIN := Lib.hid (And.intro (hbe.low hbs) (And.intro (HTRR.out.below hb9) (HBWR.out.trans (hb9.mono hbs))))
              clear hbe hb9
              go_wp2
              go_ret2
              exact ⟨mb, gt, gtc, F, rfl, FIN.out.1, FIN.out.2.1, by omega, FIN.out.2.2⟩
end Go.Proofs.Ytecnnpkpgbbfkaa
