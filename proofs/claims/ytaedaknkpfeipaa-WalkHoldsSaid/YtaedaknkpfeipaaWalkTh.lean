/- WalkHolds: what the program answers. Written by tools/walk5.py. -/
import Derived.Test.YtaedaknkpfeipaaPartq
import Derived.Test.YtaedaknkpfeipaaPartk
import Derived.BigGuardIn
import Derived.BigGuardPartIn
namespace Go.Proofs.Ytaedaknkpfeipaa
open Go.RowKit Go.MagM Go.Shelf
attribute [local go_sem] Oper.semAt_some
theorem one_look {P : List (Int × Int)} {a b c : Nat} (ha : a < P.length) (hb : b < P.length) (hc : c < P.length) : LookIn P (newM (a : Int) b c) := by
  intro t T hT
  have hl : t < 4 := (List.getElem?_eq_some_iff.1 hT).1
  have hva : ∀ {x : Nat}, x < P.length → InV P (x : Int) := fun h => ⟨by omega, by omega⟩
  obtain rfl | rfl | rfl | rfl : t = 0 ∨ t = 1 ∨ t = 2 ∨ t = 3 := by omega
  all_goals
    simp only [newM, List.getElem?_cons_zero, List.getElem?_cons_succ, Option.some.injEq] at hT
    subst hT
  · refine ⟨fun _ i hi => ?_, fun k hk => ?_⟩
    · obtain rfl | rfl | rfl : i = 0 ∨ i = 1 ∨ i = 2 := by omega
      · exact hva ha
      · exact hva hb
      · exact hva hc
    · unfold placeT at hk
      rw [if_neg (by simp only []; omega), if_neg (by simp only []; omega), if_neg (by simp only []; omega)] at hk
      omega
  all_goals
    refine ⟨fun hr => ?_, fun k hk => ?_⟩
    · unfold realT at hr
      have := of_decide_eq_true hr
      simp only [] at this
      omega
    · unfold placeT at hk
      rw [if_neg (by simp only []; omega), if_neg (by simp only []; omega), if_pos rfl] at hk
      obtain rfl : k = 2 := by omega
      exact ⟨by first | exact hva hc | exact hva ha | exact hva hb, by first | exact hva hb | exact hva hc | exact hva ha⟩
theorem one_only {a b c : Nat} {y : Nat} {U : TriM} (h : (newM (a : Int) b c)[y]? = some U) (hr : realT U = true) : y = 0 ∧ U = ⟨(a : Int), b, c, 1, 2, 3, false, false, false⟩ := by
  have hl : y < 4 := (List.getElem?_eq_some_iff.1 h).1
  obtain rfl | rfl | rfl | rfl : y = 0 ∨ y = 1 ∨ y = 2 ∨ y = 3 := by omega
  all_goals simp only [newM, List.getElem?_cons_zero, List.getElem?_cons_succ, Option.some.injEq] at h
  · exact ⟨rfl, h.symm⟩
  all_goals
    subst h
    unfold realT at hr
    have := of_decide_eq_true hr
    simp only [] at this
    omega
/-- The three points as they are handed in. -/
def three6 (x0 y0 x1 y1 x2 y2 : Int) : Nat → Int × Int
  | 0 => (x0, y0)
  | 1 => (x1, y1)
  | _ => (x2, y2)
theorem index6_run (x0 y0 x1 y1 x2 y2 : Int) (i : Nat) (hi : i < 3) (w : World) : (Instr.index 77 (.agg #[.int .i64 x0, .int .i64 y0, .int .i64 x1, .int .i64 y1, .int .i64 x2, .int .i64 y2]) (.int .i64 (i : Int))).run Try.prog w = .ok (.agg #[.int .i64 (three6 x0 y0 x1 y1 x2 y2 i).1, .int .i64 (three6 x0 y0 x1 y1 x2 y2 i).2]) w := by
  obtain rfl | rfl | rfl : i = 0 ∨ i = 1 ∨ i = 2 := by omega
  · kernel_rfl
  · kernel_rfl
  · kernel_rfl
theorem corner_held {P : List (Int × Int)} {T : TriM} (hD : 0 < crP (ptT P T 0) (ptT P T 1) (ptT P T 2)) : ∀ k, k < 3 → holdsT P T (ptT P T k) = true := by
  intro k hk
  refine holdsT_iff.2 fun i hi => ?_
  rcases three_of hk hi with rfl | rfl | rfl
  · have h3 : crP (ptT P T ((i + 1) % 3)) (ptT P T ((i + 2) % 3)) (ptT P T i) = crP (ptT P T 0) (ptT P T 1) (ptT P T 2) := by
      obtain rfl | rfl | rfl : i = 0 ∨ i = 1 ∨ i = 2 := by omega
      · exact crP_cyc _ _ _
      · exact (crP_cyc _ _ _).trans (crP_cyc _ _ _)
      · rfl
    rw [h3]; omega
  · rw [show ((k + 1) % 3 + 2) % 3 = k by omega, crP_self]; omega
  · rw [show ((k + 2) % 3 + 1) % 3 = k by omega, crP_ends]; omega
set_option maxRecDepth 100000 in
set_option maxHeartbeats 16000000 in
theorem WalkHolds_walk (x0 y0 x1 y1 x2 y2 a' b' : Int) (w : World) :
    Calls Try.prog 8 #[.agg #[.int .i64 x0, .int .i64 y0, .int .i64 x1, .int .i64 y1, .int .i64 x2, .int .i64 y2], .agg #[.int .i64 a', .int .i64 b']] w fun e w' => e = .returned (.bool true) ∧ Below w.heap.size w w' := by
  obtain ⟨i0, hi, hz0, hz1, hz2⟩ := info_parts infoPt
  have HI := Lib.hid hi; have HZ0 := Lib.hid hz0; have HZ1 := Lib.hid hz1; have HZ2 := Lib.hid hz2
  clear hi hz0 hz1 hz2
  obtain ⟨w1, hw1, pl1, hb1, hs1⟩ := new_box w _ rfl [.int .i64 x0, .int .i64 y0, .int .i64 x1, .int .i64 y1, .int .i64 x2, .int .i64 y2] 77
  obtain ⟨w2, hw2, pp2, hb2, hs2⟩ := new_box w1 _ hs1 [.int .i64 a', .int .i64 b'] 26
  obtain ⟨w3, hw3, pr3, hb3, hs3⟩ := new_box w2 _ hs2 [.bool false] 4
  have hB3 : Below w.heap.size w w3 := hb1.trans ((hb2.mono (by omega)).trans (hb3.mono (by omega)))
  have PL := Lib.hid ((pl1.below (hb2.mono (by omega))).below (hb3.mono (by omega))); have PP := Lib.hid (pp2.below (hb3.mono (by omega))); have PR := Lib.hid pr3; have HB3 := Lib.hid hB3; have HS3 := Lib.hid hs3
  have HF := Lib.hid (fit10_any w3)
  clear pl1 pp2 pr3 hb1 hb2 hb3 hB3
  refine (callsIn_wide (n := 20)).1 (callsIn_of_wp_marks (F := Fence.wide) (n := 20) Try.func8 rfl trivial ?_ rfl)
  simp only [Try.ntmps8, List.size_toArray, List.length_cons, List.length_nil, Nat.reduceAdd, Nat.reduceSub, Array.replicate_succ, Array.replicate_zero, List.push_toArray, List.append_toArray, List.nil_append, List.cons_append]
  rw [wpIn_wide]
  go_wp2_with fail
  refine HF.out.mono ?_
  rintro e w4 ⟨rfl, hb34⟩
  obtain ⟨sb, hsb⟩ : ∃ sb, w4.heap.size = sb := ⟨_, rfl⟩
  obtain ⟨w5, hw5, bs5, hb45, hs5⟩ := new_box w4 _ rfl [.slice none 0 0] 22
  rw [hsb] at bs5
  have hsb3 : w.heap.size + 3 ≤ sb := by have := hb34.size; have := HS3.out; omega
  have hb35 : Below w3.heap.size w3 w5 := hb34.trans (hb45.mono hb34.size)
  have pl5 := PL.out.below hb35
  obtain ⟨v0, v1, v2, v3, v4, v5, -⟩ := pl5.open6
  have HB35 := Lib.hid hb35; have BS5 := Lib.hid bs5
  have hs5' : w5.heap.size = sb + 1 := by rw [hs5, hsb]
  have HS5 := Lib.hid hs5'
  clear hb34 hb45 hb35 bs5 pl5 hs5 hs5'
  obtain ⟨Q, hQ⟩ : ∃ Q : List (Int × Int), [(tame x0, tame y0), (tame x1, tame y1), (tame x2, tame y2)] = Q := ⟨_, rfl⟩
  have hQi : ∀ i, i < 3 → Q[i]? = some (tame (three6 x0 y0 x1 y1 x2 y2 i).1, tame (three6 x0 y0 x1 y1 x2 y2 i).2) := by
    intro i hi
    rw [← hQ]
    obtain rfl | rfl | rfl : i = 0 ∨ i = 1 ∨ i = 2 := by omega
    all_goals rfl
  have HQI := Lib.hid hQi; have HQ := Lib.hid hQ
  clear hQi hQ
  go_wp2
  clear v0 v1 v2 v3 v4 v5
  go_loopw [19] (fun iv wr => ∃ (i : Nat) (vv : Value), i ≤ 3 ∧ iv = .int .i64 (i : Int) ∧ Box wr sb [vv] ∧ RowN wr (sb + 1) 26 2 vv i (ptsCells (Q.take i)) ∧ Below sb w5 wr) (fun iv _ => 3 - (intOf iv).toNat)
  case atStart => exact ⟨0, _, Nat.zero_le _, rfl, BS5.out, RowN.nil _ _ _ _, Below.refl _ _⟩
  case round =>
    obtain ⟨i, vv, hi, rfl, hbs, hrow, hbw⟩ := hrel
    by_cases hlt : i < 3
    · have hix := fun W => index6_run x0 y0 x1 y1 x2 y2 i hlt W
      have hqi := HQI.out i hlt
      obtain ⟨xi, hxi⟩ : ∃ q, (three6 x0 y0 x1 y1 x2 y2 i).1 = q := ⟨_, rfl⟩
      obtain ⟨yi, hyi⟩ : ∃ q, (three6 x0 y0 x1 y1 x2 y2 i).2 = q := ⟨_, rfl⟩
      rw [hxi, hyi] at hqi
      simp only [hxi, hyi] at hix
      obtain ⟨tx, htx⟩ : ∃ q, tame xi = q := ⟨_, rfl⟩
      obtain ⟨ty, hty⟩ : ∃ q, tame yi = q := ⟨_, rfl⟩
      rw [htx, hty] at hqi
      obtain ⟨yb, hyb⟩ : ∃ yb, wr.heap.size = yb := ⟨_, rfl⟩
      obtain ⟨w6, hw6, py6, hb6, hs6⟩ := new_box wr _ rfl [.int .i64 xi, .int .i64 yi] 26
      rw [hyb] at py6
      have bs_0 : Box w6.drew sb [vv] := (hbs.below hb6).drew
      have py_0 : Box w6.drew yb [.int .i64 xi, .int .i64 yi] := py6.drew
      have row_0 : RowN w6.drew (sb + 1) 26 2 vv i (ptsCells (Q.take i)) := (hrow.below hb6).drew
      have hB_0 : Below sb w5 w6.drew := (hbw.trans (hb6.mono (by have := hbs.lt; omega))).drew'
      have hob0 : ∀ k, vv.ownBlock = some k → k < yb := fun k hk => by have := (hrow.lt k hk).2; omega
      have hsy : sb < yb := by have := hbs.lt; omega
      have HQT := Lib.hid hqi
      have co := bs_0.c0; have cx := py_0.c0; have cy := py_0.c1
      have hi2 : (0 : Int) ≤ (i : Int) := by omega
      have hi3 : (i : Int) < 3 := by omega
      clear hrow hbs hbw hb6 hs6 py6 hxi hyi hqi
      go_wp2
      clear hix hw6
      obtain ⟨SSq, hSSq⟩ : ∃ S : Array Bool → World → Prop, ∀ l w', S l w' ↔ ((l.getD 5 true = false → w'.cell? ⟨sb, 0, none⟩ = some (vv)) ∧ (w'.cell? ⟨yb, 0, none⟩ = some (.int .i64 xi)) ∧ (w'.cell? ⟨yb, 1, none⟩ = some (.int .i64 yi))) := ⟨_, fun _ _ => Iff.rfl⟩
      refine wp_region_noPanic ?_
      refine wp_region_G SSq 6 #[false, false, false, false, false, false] (by kernel_rfl) (by kernel_rfl) (by kernel_rfl) ((hSSq _ _).2 ⟨(fun _ => co), cx, cy⟩) (fun hCl hHeld => ?_)
      generalize w6.drew = wd at *
      refine reg_takeG 0 ?_ ?_ ?_ (by kernel_rfl) (by kernel_rfl) (by kernel_rfl) (fun _ _ _ h => h) ?_ ?_ ?_ hCl hHeld ?_
      rotate_left 2
      · simp only [List.getElem?_toArray, List.getElem?_cons_zero]; exact rfl
      · intro l w'; rw [hSSq, hSSq]; rw [getD_set_ne (i := 0) (j := 5) true (by decide)]
      · rfl
      · intro w' hA; obtain ⟨l, hl, hi, hSl⟩ := hA; have hSl := (hSSq _ _).1 hSl; obtain ⟨hy0, hz1, hz2⟩ := hSl; have hz0 := hy0 (hl.not (t := 5) (by kernel_rfl) hi); go_simp; try with_reducible rfl
      clear hCl hHeld
      intro hCl hHeld
      simp only [List.setIfInBounds_toArray, List.set_cons_zero] at hCl hHeld
      try simp only [Act.put]
      try simp only [List.setIfInBounds_toArray, List.set_cons_zero, List.set_cons_succ]
      refine reg_takeG 1 ?_ ?_ ?_ (by kernel_rfl) (by kernel_rfl) (by kernel_rfl) (fun _ _ _ h => h) ?_ ?_ ?_ hCl hHeld ?_
      rotate_left 2
      · simp only [List.getElem?_toArray, List.getElem?_cons_succ, List.getElem?_cons_zero]; exact rfl
      · intro l w'; rw [hSSq, hSSq]; rw [getD_set_ne (i := 1) (j := 5) true (by decide)]
      · rfl
      · intro w' hA; obtain ⟨l, hl, hi, hSl⟩ := hA; have hSl := (hSSq _ _).1 hSl; obtain ⟨hy0, hz1, hz2⟩ := hSl; have hz0 := hy0 (hl.not (t := 5) (by kernel_rfl) hi); go_simp; try with_reducible rfl
      clear hCl hHeld
      intro hCl hHeld
      simp only [List.setIfInBounds_toArray, List.set_cons_zero, List.set_cons_succ] at hCl hHeld
      try simp only [Act.put]
      try simp only [List.setIfInBounds_toArray, List.set_cons_zero, List.set_cons_succ]
      clear hCl hHeld
      refine reg_callG 2 ?_ (by kernel_rfl) ?_ (fun K hK => ?_)
      rotate_left 1
      · simp only [List.getElem?_toArray, List.getElem?_cons_succ, List.getElem?_cons_zero]; exact rfl
      go_simp
      refine (Tame_any xi yi _).mono ?_
      rintro e w8 ⟨rfl, hb8⟩
      go_wp2_with fail
      have bs_8 := bs_0.below hb8; have py_8 := py_0.below hb8; have row_8 := row_0.below hb8; have hB_8 := hB_0.trans (hb8.mono (by have := hB_0.size; have := HS5.out; omega))
      have co8 := bs_8.c0; have cx8 := py_8.c0; have cy8 := py_8.c1
      refine hK.out _ _ ((hSSq _ _).2 ⟨(fun _ => co8), cx8, cy8⟩) ?_
      clear hK K
      try simp only [Act.put]
      try simp only [List.setIfInBounds_toArray, List.set_cons_zero, List.set_cons_succ]
      obtain ⟨w9, hw9, pq, hb9, hs9⟩ := new_box w8 _ rfl [.int .i64 tx, .int .i64 ty] 26
      refine reg_callG 3 ?_ (by kernel_rfl) ?_ (fun K hK => ?_)
      rotate_left 1
      · simp only [List.getElem?_toArray, List.getElem?_cons_succ, List.getElem?_cons_zero]; exact rfl
      go_simp
      try rw [hw9]
      have bs_9 := bs_8.below hb9; have py_9 := py_8.below hb9; have row_9 := row_8.below hb9; have hB_9 := hB_8.trans (hb9.mono (by have := hB_8.size; have := HS5.out; omega))
      have co9 := bs_9.c0; have cx9 := py_9.c0; have cy9 := py_9.c1
      refine hK.out _ _ ((hSSq _ _).2 ⟨(fun _ => co9), cx9, cy9⟩) ?_
      clear hK K
      try simp only [Act.put]
      try simp only [List.setIfInBounds_toArray, List.set_cons_zero, List.set_cons_succ]
      have hsz9 : sb + 1 ≤ w9.heap.size := by have := bs_9.lt; omega
      obtain ⟨v', w10, hrun, rown, hgrow, hkept⟩ := run_append_row (P := Try.prog) w9 (sb + 1) 22 22 26 i0 (.agg #[.int .i64 0, .int .i64 0]) 2 16 (by kernel_rfl) HI.out HZ0.out HZ1.out HZ2.out rfl (noWordI2 _ _) _ i _ row_9 ⟨w8.heap.size, 0, none⟩ 1 1 [.int .i64 tx, .int .i64 ty] (by omega) rfl pq.news (by intro u hu; simp at hu; rcases hu with rfl | rfl <;> rfl) (noWordI2 _ _) (by unfold maxLen; omega) (by omega) hsz9
      have hob : ∀ k, vv.ownBlock = some k → sb + 1 ≤ k := fun k hk => (row_9.lt k hk).1
      refine reg_callG 4 ?_ (by kernel_rfl) ?_ (fun K hK => ?_)
      rotate_left 1
      · simp only [List.getElem?_toArray, List.getElem?_cons_succ, List.getElem?_cons_zero]; exact rfl
      refine wanted_go rfl ?_
      refine wp_append_row _ _ 22 rfl rfl rfl hrun ?_
      obtain ⟨g', cap', rfl⟩ := ownsRow_succ rown.own
      have bs_10 := bs_9.grown hgrow (fun e => by have := hob _ e; omega) bs_9.lt
      have py_10 := py_9.grown hgrow (fun e => Nat.lt_irrefl _ (hob0 _ e)) py_9.lt
      have hB_10 : Below sb w5 w10 := hB_9.grown hgrow (by omega) (fun k hk => by have := hob k hk; omega)
      have co10 := bs_10.c0; have cx10 := py_10.c0; have cy10 := py_10.c1
      refine hK.out _ _ ((hSSq _ _).2 ⟨(fun _ => co10), cx10, cy10⟩) ?_
      clear hK K
      try simp only [Act.put]
      try simp only [List.setIfInBounds_toArray, List.set_cons_zero, List.set_cons_succ]
      obtain ⟨d4, f4⟩ := bs_10.open1
      have hyb2 : yb ≠ sb := by omega
      have bs_11 := bs_10.set 0 (.slice (some ⟨g', 0, none⟩) (i + 1) cap')
      have py_11 := py_10.far (g' := sb) hyb2 0 (.slice (some ⟨g', 0, none⟩) (i + 1) cap')
      have hB_11 : Below sb w5 (w10.setCell ⟨sb, 0, none⟩ (.slice (some ⟨g', 0, none⟩) (i + 1) cap')) := hB_10.setCell (p := ⟨sb, 0, none⟩) (Nat.le_refl _) _
      have row_11 : RowN (w10.setCell ⟨sb, 0, none⟩ (.slice (some ⟨g', 0, none⟩) (i + 1) cap')) (sb + 1) 26 2 (.slice (some ⟨g', 0, none⟩) (i + 1) cap') (i + 1) (ptsCells (Q.take i) ++ [.int .i64 tx, .int .i64 ty]) := rown.block (fun k hk _ => heap_set_far _ _ _ _ _ (by have := (rown.lt k hk).1; omega))
      have cx11 := py_11.c0; have cy11 := py_11.c1
      refine reg_callG 5 ?_ (by kernel_rfl) ?_ (fun K hK => ?_)
      rotate_left 1
      · simp only [List.getElem?_toArray, List.getElem?_cons_succ, List.getElem?_cons_zero]; exact rfl
      go_simp
      refine hK.out _ _ ((hSSq _ _).2 ⟨(fun h => absurd h (by decide)), cx11, cy11⟩) ?_
      clear hK K
      try simp only [Act.put]
      try simp only [List.setIfInBounds_toArray, List.set_cons_zero, List.set_cons_succ]
      refine wpAnyG_done (by kernel_rfl) ?_ _
      refine NoPanic.normal ?_
      clear hSSq SSq
      have htk : ptsCells (Q.take i) ++ [.int .i64 tx, .int .i64 ty] = ptsCells (Q.take (i + 1)) := by
        rw [List.take_add_one, HQT.out, ptsCells_app]; rfl
      rw [htk] at row_11
      have FIN := Lib.hid (And.intro bs_11 (And.intro row_11 hB_11))
      clear htk bs_8 bs_9 bs_10 bs_11 py_8 py_9 py_10 py_11 row_0 row_8 row_9 row_11 rown hrun hgrow hkept hob hob0 hB_0 hB_8 hB_9 hB_10 hB_11 bs_0 py_0 pq d4 f4 hyb2 cx11 cy11 hb8 hb9 hs9 hw9
      go_wp2
      go_roundw
      case rel => exact ⟨i + 1, _, by omega, by go_num, by simpa using FIN.out.1, FIN.out.2.1, FIN.out.2.2⟩
      case measure => simp [intOf]; omega
    · obtain rfl : i = 3 := by omega
      have htk : Q.take 3 = Q := by rw [← HQ.out]; rfl
      rw [htk] at hrow
      obtain ⟨gb, gc, rfl⟩ : ∃ g c, vv = .slice (some ⟨g, 0, none⟩) 3 c := by
        rcases hrow.2 with ⟨h1, h2⟩ | ⟨g, cap, cur, h1, h2, h3⟩
        · omega
        · exact ⟨g, cap, h1⟩
      have hrl := hrow.lt gb rfl
      have hcr : ∀ j u, (ptsCells Q)[j]? = some u → wr.cell? ⟨gb, j, none⟩ = some u := fun j u hj => hrow.cells (g := gb) rfl j u hj
      have hk5 : KeepB (fun b => b < sb) w5 wr := KeepB.of_below hbw (fun _ h => h)
      have ppr := box_keep (PP.out.below HB35.out) hk5 (show w.heap.size + 1 < sb by omega)
      have prr := box_keep (PR.out.below HB35.out) hk5 (show w.heap.size + 1 + 1 < sb by omega)
      have hBr : Below w.heap.size w wr := (HB3.out.trans (HB35.out.mono (by have := HS3.out; omega))).trans (hbw.mono (by omega))
      have y0' := ppr.c0; have y1' := ppr.c1
      have PPR := Lib.hid ppr; have PRR := Lib.hid prr; have BSR := Lib.hid hbs; have HCR := Lib.hid hcr; have HBR := Lib.hid hBr
      clear hcr hk5 ppr prr hBr hbs hrow hbw
      go_wp2_with fail
      refine (Tame_any a' b' wr).mono ?_
      rintro e w6 ⟨rfl, hb6⟩
      obtain ⟨p0, hp0⟩ : ∃ q, tame a' = q := ⟨_, rfl⟩
      obtain ⟨p1, hp1⟩ : ∃ q, tame b' = q := ⟨_, rfl⟩
      have HIP := Lib.hid (show InP p0 ∧ InP p1 from ⟨by rw [← hp0]; exact tame_in a', by rw [← hp1]; exact tame_in b'⟩)
      rw [hp0, hp1]
      have pp6 := PPR.out.below hb6
      obtain ⟨z0, z1, z2, z3⟩ := pp6.open2
      obtain ⟨z4, z5⟩ := pp6.put2 (.int .i64 p0)
      obtain ⟨w7, hw7⟩ : ∃ w7, (w6.setCell ⟨w.heap.size + 1, 0, none⟩ (.int .i64 p0)).setCell ⟨w.heap.size + 1, 1, none⟩ (.int .i64 p1) = w7 := ⟨_, rfl⟩
      have pp7 : Box w7 (w.heap.size + 1) [.int .i64 p0, .int .i64 p1] := by rw [← hw7]; exact (pp6.set 0 _).set 1 _
      have pr7 : Box w7 (w.heap.size + 1 + 1) [.bool false] := by rw [← hw7]; exact ((PRR.out.below hb6).far (by omega) _ _).far (by omega) _ _
      have bs7 : Box w7 sb [.slice (some ⟨gb, 0, none⟩) 3 gc] := by rw [← hw7]; exact ((BSR.out.below hb6).far (by omega) _ _).far (by omega) _ _
      have hc7 : ∀ j u, (ptsCells Q)[j]? = some u → w7.cell? ⟨gb, j, none⟩ = some u := by
        intro j u hj
        have h1 := (hb6.cell (p := ⟨gb, j, none⟩) hrl.2).trans (HCR.out j u hj)
        rw [← hw7]
        have e : ((w6.setCell ⟨w.heap.size + 1, 0, none⟩ (.int .i64 p0)).setCell ⟨w.heap.size + 1, 1, none⟩ (.int .i64 p1)).heap[gb]? = w6.heap[gb]? := by
          rw [heap_set_far _ _ _ _ _ (by omega), heap_set_far _ _ _ _ _ (by omega)]
        exact (World.cell?_of_block (a := ⟨gb, j, none⟩) e).trans h1
      have hB7 : Below w.heap.size w w7 := by
        rw [← hw7]
        exact ((HBR.out.trans (hb6.mono HBR.out.size)).setCell (p := ⟨w.heap.size + 1, 0, none⟩) (by simp only []; omega) _).setCell (p := ⟨w.heap.size + 1, 1, none⟩) (by simp only []; omega) _
      have hQl : Q.length = 3 := by rw [← HQ.out]; rfl
      have hQP : InPs Q := by
        intro q hq
        rw [← HQ.out] at hq
        simp only [List.mem_cons, List.not_mem_nil, or_false] at hq
        rcases hq with rfl | rfl | rfl
        all_goals exact ⟨tame_in _, tame_in _⟩
      have hgl : gb < w7.heap.size := World.block_lt_of_cell? w7 ⟨gb, 0, none⟩ (hc7 0 (.int .i64 (tame x0)) (by rw [← HQ.out]; rfl))
      have ht : turnM Q ((0 : Nat) : Int) ((1 : Nat) : Int) ((2 : Nat) : Int) = (crP (ptA Q 0) (ptA Q 1) (ptA Q 2)).sign := by rw [← HQ.out]; rfl
      have y0 := bs7.c0
      have PP7 := Lib.hid pp7; have PR7 := Lib.hid pr7; have BS7 := Lib.hid bs7; have HC7 := Lib.hid hc7; have HB7 := Lib.hid hB7; have HQL := Lib.hid hQl; have HQP := Lib.hid hQP; have HGL := Lib.hid hgl
      clear hb6 pp6 pp7 pr7 bs7 hc7 hB7 hQl hQP hgl hp0 hp1 y0' y1'
      rcases Int.lt_trichotomy (crP (ptA Q 0) (ptA Q 1) (ptA Q 2)) 0 with htn | htn | htn
      · have hN : ∃ b c : Nat, b < 3 ∧ c < 3 ∧ 0 < crP (ptA Q 0) (ptA Q b) (ptA Q c) ∧ Calls Try.prog 11 #[.slice (some ⟨gb, 0, none⟩) 3 gc, .int .i64 0, .int .i64 1, .int .i64 2] w7 fun e w' => ∃ mb pb pc tv, e = .returned (.tuple #[.pointer (some ⟨mb, 0, none⟩), .bool true]) ∧ MeshO 26 37 w' w7.heap.size mb pb pc tv Q (newM ((0 : Nat) : Int) (b : Int) (c : Int)) ∧ w7.heap.size ≤ pb ∧ Below w7.heap.size w7 w' :=
          ⟨2, 1, by omega, by omega, by rw [show crP (ptA Q 0) (ptA Q 2) (ptA Q 1) = -crP (ptA Q 0) (ptA Q 1) (ptA Q 2) from crs_back _ _ _ _ _ _]; omega, New_back (some ⟨gb, 0, none⟩) gb 3 gc Q w7 HQL.out (by omega) (by omega) HQP.out rfl (fun j u hj => by rw [Nat.zero_add]; exact HC7.out j u hj) 0 1 2 (by rw [ht]; exact Int.sign_eq_neg_one_of_neg htn)⟩
        clear ht htn
        obtain ⟨b, c, hb3, hc3, hD, hN⟩ := hN
        have HN := Lib.hid hN; have HD := Lib.hid hD
        clear hN hD
        go_wp2_with fail
        refine HN.out.mono ?_
        rintro e w8 ⟨mb, pb, pc, tv, rfl, hm, hpb, hb8⟩
        obtain ⟨tb, tc, rfl, hr⟩ := MeshO.sl hm (by show 0 < 4; omega)
        obtain ⟨mbx, hmbx⟩ : ∃ x, w8.heap.size = x := ⟨_, rfl⟩
        obtain ⟨w9, hw9, pm9, hb9, hs9⟩ := new_box w8 _ rfl [.pointer (some ⟨mb, 0, none⟩)] 28
        rw [hmbx] at pm9
        have hmbn : w.heap.size + 1 + 1 < mbx := by have h1 := hb8.size; have h2 := PR7.out.lt; omega
        have hb79 : Below w7.heap.size w7 w9 := hb8.trans (hb9.mono hb8.size)
        have hr9 := hr.below hb9
        have hin9 := hr9.in_ (by rw [HQL.out]; omega) (by show 0 < 4; omega)
        have m9 := pm9.c0
        have HAL := Lib.hid (All_any (some ⟨mb, 0, none⟩) w9)
        have HR9 := Lib.hid hr9; have HIN9 := Lib.hid hin9; have PM9 := Lib.hid pm9; have HB79 := Lib.hid hb79
        clear hm hpb hb8 hb9 hb79 hr hr9 hin9 pm9 hs9
        go_wp2_with fail
        refine HAL.out.mono ?_
        rintro e w10 ⟨rfl, hw10⟩
        go_wp2
        have hsz : w10.heap.size = w9.heap.size + 1 := by rw [← hw10]; simp
        have hb910 : Below w9.heap.size w9 w10 := by rw [← hw10]; exact (Below.refl _ _).alloc (Nat.le_refl _) _
        have bm10 : Boxed w10 w9.heap.size 28 (.pointer (some ⟨mb, 0, none⟩)) := by rw [← hw10]; exact Boxed.new w9 _ _
        have hb710 := HB79.out.trans (hb910.mono HB79.out.size)
        have hin10 : MeshIn (fun b => b < w10.heap.size) mb pb (some ⟨tb, 0, none⟩) := meshIn_le HIN9.out (by omega)
        have hr10 := HR9.out.below hb910
        have pm10 := PM9.out.below hb910
        have pp10 := PP7.out.below hb710
        have pr10 := PR7.out.below hb710
        have bs10 := BS7.out.below hb710
        have hc10 : ∀ j u, (ptsCells Q)[j]? = some u → w10.cell? ⟨gb, j, none⟩ = some u := fun j u hj => (hb710.cell (p := ⟨gb, j, none⟩) HGL.out).trans (HC7.out j u hj)
        have hB10 := HB7.out.trans (hb710.mono HB7.out.size)
        have hltW : ∀ b, (fun b => b < w10.heap.size) b → b < w10.heap.size := fun _ h => h
        have hbl : w9.heap.size < w10.heap.size := by omega
        have hl3 : (newM ((0 : Nat) : Int) (b : Int) (c : Int)).length = 4 := rfl
        have hlk := one_look (P := Q) (a := 0) (b := b) (c := c) (by rw [HQL.out]; omega) (by rw [HQL.out]; omega) (by rw [HQL.out]; omega)
        have hgl10 : gb < w10.heap.size := by have := HGL.out; have := hb710.size; omega
        rw [← wpIn_wide (n := 20)]
        refine range_start (fun a0 ha0 => ?_)
        refine wpIn_rangeFunc_ownH rfl (by omega) (gf := 35) (lb := #[.pointer (some ⟨w9.heap.size, 0, none⟩)]) (by rw [ha0]; rfl) trivial (enters_of Try.func35 (by kernel_rfl) rfl)
          (all_stops 19 (by omega) w9.heap.size (fun b => b < w10.heap.size) w10 hltW hr10 hin10 bm10.cell hbl) (fun h k => KeepB.trans h k) ?kb (Below.refl _ _) (fun _ => rfl)
          (fun (pre : List (RA (newM ((0 : Nat) : Int) (b : Int) (c : Int)))) W => KeepB (fun b => b < w10.heap.size) w10 W ∧ Below w.heap.size w W)
          (fun _ _ _ => False)
          (OwnFrom.and (keepB_own hltW) (ownFrom_below (by have := hB10.size; omega) (by have := hB10.size; omega)))
          (fun _ _ _ _ _ h _ _ => h)
          ⟨KeepB.refl _ _, hB10⟩
          (fun x a' W => ∃ yb, a' = { tmps := (((#[39, 40].zip (encA x)).foldl (fun t (p, v) => t.setIfInBounds p v) a0.tmps).setIfInBounds 10 (.int .i64 (x.1.1 : Int))).setIfInBounds 11 (.pointer (some ⟨yb, 0, none⟩)), defers := [] } ∧ w10.heap.size ≤ yb ∧ Box W yb x.1.2.cells)
          ?own ?assign ?body ?done ?stop
        case kb =>
          intro W l o o' hl _ _ _ b hb
          exact World.putObj_heap_other (fun e => by have := hltW b hb; omega)
        case own =>
          intro x a' s A B row hs hg hr
          obtain ⟨yb, g1, g2, g3⟩ := hs
          exact ⟨yb, g1, g2, box_own _ yb (fun _ : Unit => x.1.2.cells) () A B row g3 hg hr⟩
        case assign =>
          intro l pre x W K hI hK
          rw [ha0] at hK ⊢
          obtain ⟨⟨y, U⟩, hy1, hy2⟩ := x
          obtain ⟨u0, u1, u2, k0, k1, k2, g0, g1, g2⟩ := U
          dsimp only [encA, triV] at hK ⊢
          obtain ⟨W1, hW1, py, hbW, hsW⟩ := new_box W _ rfl [.int .i64 u0, .int .i64 u1, .int .i64 u2, .int .i64 k0, .int .i64 k1, .int .i64 k2, .bool g0, .bool g1, .bool g2] 37
          gi_wp2
          have hW10 : w10.heap.size ≤ W.heap.size := by
            have hx := (hI.1 w9.heap.size hbl).trans bm10
            have := (Array.getElem?_eq_some_iff.1 hx).1
            omega
          refine hK _ _ ((keepsOthers_below hbW).from _) (KeepB.of_below hbW (fun b hb => by have := hltW b hb; omega)) ?_ ⟨W.heap.size, by kernel_rfl, hW10, py⟩
          exact ⟨hI.1.trans (KeepB.of_below hbW (fun b hb => by have := hltW b hb; omega)), hI.2.trans (hbW.mono hI.2.size)⟩
        case body =>
          as_aux_lemma =>
            rintro l pre x a' W hWl - ⟨hKB, hBW⟩ ⟨yb, rfl, hyb, py⟩ hlen
            obtain ⟨⟨y, U⟩, hy1, hy2⟩ := x
            simp only [] at py hy1 hy2
            obtain ⟨rfl, rfl⟩ := one_only hy1 hy2
            have hW10 : w10.heap.size ≤ W.heap.size := by
              have hx := (hKB w9.heap.size hbl).trans bm10
              have := (Array.getElem?_eq_some_iff.1 hx).1
              omega
            have hltWW : ∀ b, b < w10.heap.size → b < W.heap.size := fun b hb => by omega
            have hrW := hr10.keep hin10 hKB
            obtain ⟨⟨aa0', a1⟩, hpa⟩ : ∃ q, ptA Q 0 = q := ⟨_, rfl⟩
            obtain ⟨⟨b0, b1⟩, hpb'⟩ : ∃ q, ptA Q b = q := ⟨_, rfl⟩
            obtain ⟨⟨c0, c1⟩, hpc⟩ : ∃ q, ptA Q c = q := ⟨_, rfl⟩
            have ga : Q[0]? = some (aa0', a1) := by have := ptA_at (P := Q) (v := 0) (by rw [HQL.out]; omega); rw [hpa] at this; exact this
            have gb' : Q[b]? = some (b0, b1) := by have := ptA_at (P := Q) (v := b) (by rw [HQL.out]; omega); rw [hpb'] at this; exact this
            have gc' : Q[c]? = some (c0, c1) := by have := ptA_at (P := Q) (v := c) (by rw [HQL.out]; omega); rw [hpc] at this; exact this
            have HKA := Lib.hid (HQP.out _ (List.mem_of_getElem? ga)); have HKB := Lib.hid (HQP.out _ (List.mem_of_getElem? gb')); have HKC := Lib.hid (HQP.out _ (List.mem_of_getElem? gc'))
            obtain ⟨o2, ho2⟩ : ∃ o, (crs aa0' a1 b0 b1 p0 p1).sign = o := ⟨_, rfl⟩
            obtain ⟨o0, ho0⟩ : ∃ o, (crs b0 b1 c0 c1 p0 p1).sign = o := ⟨_, rfl⟩
            obtain ⟨o1, ho1⟩ : ∃ o, (crs c0 c1 aa0' a1 p0 p1).sign = o := ⟨_, rfl⟩
            have OR0 := Lib.hid (fun W' => Orient_is aa0' a1 b0 b1 p0 p1 HKA.out.1 HKA.out.2 HKB.out.1 HKB.out.2 HIP.out.1 HIP.out.2 ho2 W')
            have OR1 := Lib.hid (fun W' => Orient_is b0 b1 c0 c1 p0 p1 HKB.out.1 HKB.out.2 HKC.out.1 HKC.out.2 HIP.out.1 HIP.out.2 ho0 W')
            have OR2 := Lib.hid (fun W' => Orient_is c0 c1 aa0' a1 p0 p1 HKC.out.1 HKC.out.2 HKA.out.1 HKA.out.2 HIP.out.1 HIP.out.2 ho1 W')
            obtain ⟨T, hT⟩ : ∃ T : TriM, (⟨((0 : Nat) : Int), (b : Int), (c : Int), 1, 2, 3, false, false, false⟩ : TriM) = T := ⟨_, rfl⟩
            have hpt0 : ptT Q T 0 = (aa0', a1) := by rw [← hT]; exact hpa
            have hpt1 : ptT Q T 1 = (b0, b1) := by rw [← hT]; exact hpb'
            have hpt2 : ptT Q T 2 = (c0, c1) := by rw [← hT]; exact hpc
            obtain ⟨hv, hhv⟩ : ∃ v, holdsT Q T (p0, p1) = v := ⟨_, rfl⟩
            have hvv : (decide (0 ≤ o2) && decide (0 ≤ o0) && decide (0 ≤ o1)) = hv := by
              rw [← hhv]
              have q0 : sideT Q T 0 (p0, p1) = o0 := by rw [show sideT Q T 0 (p0, p1) = (crP (ptT Q T 1) (ptT Q T 2) (p0, p1)).sign from rfl, hpt1, hpt2]; exact ho0
              have q1 : sideT Q T 1 (p0, p1) = o1 := by rw [show sideT Q T 1 (p0, p1) = (crP (ptT Q T 2) (ptT Q T 0) (p0, p1)).sign from rfl, hpt2, hpt0]; exact ho1
              have q2 : sideT Q T 2 (p0, p1) = o2 := by rw [show sideT Q T 2 (p0, p1) = (crP (ptT Q T 0) (ptT Q T 1) (p0, p1)).sign from rfl, hpt0, hpt1]; exact ho2
              unfold holdsT
              rw [q0, q1, q2]
              cases decide (0 ≤ o2) <;> cases decide (0 ≤ o0) <;> cases decide (0 ≤ o1) <;> rfl
            have hDT : 0 < crP (ptT Q T 0) (ptT Q T 1) (ptT Q T 2) := by have h := HD.out; rw [hpa, hpb', hpc] at h; rw [hpt0, hpt1, hpt2]; exact h
            have hcor : ∀ k, k < 3 → holdsT Q T (ptT Q T k) = true := corner_held hDT
            have hho : ∀ (q : Int × Int) (v : Bool) (w' : World), Below W.heap.size W w' → InP q.1 ∧ InP q.2 → holdsT Q T q = v → Calls Try.prog 28 #[.pointer (some ⟨mb, 0, none⟩), .int .i64 ((0 : Nat) : Int), .agg #[.int .i64 q.1, .int .i64 q.2]] w' fun e w'' => e = .returned (.bool v) ∧ Below w'.heap.size w' w'' := by
              intro q v w' hb hq hv
              have h := Holds_any 0 T q w' (hrW.below hb) HQP.out hq (by rw [← hT]; rfl) (hlk 0 T (by rw [← hT]; rfl)).1
              rw [show realT T = true by rw [← hT]; exact hy2, hv] at h
              exact h
            have HV0 := Lib.hid hhv; have HVV := Lib.hid hvv
            have HV1 := Lib.hid (show holdsT Q T (aa0', a1) = true by rw [← hpt0]; exact hcor 0 (by omega))
            have HV2 := Lib.hid (show holdsT Q T (b0, b1) = true by rw [← hpt1]; exact hcor 1 (by omega))
            have HV3 := Lib.hid (show holdsT Q T (c0, c1) = true by rw [← hpt2]; exact hcor 2 (by omega))
            obtain ⟨aa0, haa⟩ : ∃ q, aa0' = q := ⟨_, rfl⟩
            have hCD : ∀ w', Below W.drew.heap.size W.drew w' → w'.cell? ⟨sb, 0, none⟩ = some (.slice (some ⟨gb, 0, none⟩) 3 gc) ∧ w'.cell? ⟨yb, 0, none⟩ = some (.int .i64 0) ∧ w'.cell? ⟨yb, 1, none⟩ = some (.int .i64 (b : Int)) ∧ w'.cell? ⟨yb, 2, none⟩ = some (.int .i64 (c : Int)) ∧ w'.cell? ⟨gb, 0, none⟩ = some (.int .i64 aa0) ∧ w'.cell? ⟨gb, 1, none⟩ = some (.int .i64 a1) ∧ w'.cell? ⟨gb, b * 2, none⟩ = some (.int .i64 b0) ∧ w'.cell? ⟨gb, b * 2 + 1, none⟩ = some (.int .i64 b1) ∧ w'.cell? ⟨gb, c * 2, none⟩ = some (.int .i64 c0) ∧ w'.cell? ⟨gb, c * 2 + 1, none⟩ = some (.int .i64 c1) := by
              intro w' hb
              have hb' : Below W.heap.size W w' := ((Below.refl W.heap.size W).drew').trans hb
              have hkk : KeepB (fun b => b < w10.heap.size) w10 w' := hKB.trans (KeepB.of_below hb' (fun b hb => hltWW b hb))
              have hbsl : sb < w10.heap.size := bs10.lt
              have pyw := py.below hb'
              have hcw : ∀ j u, (ptsCells Q)[j]? = some u → w'.cell? ⟨gb, j, none⟩ = some u := fun j u hj => (hkk.cell hgl10).trans (hc10 j u hj)
              obtain ⟨q0, q1⟩ := ptsCells_get Q 0 _ _ ga
              obtain ⟨q2, q3⟩ := ptsCells_get Q b _ _ gb'
              obtain ⟨q4, q5⟩ := ptsCells_get Q c _ _ gc'
              rw [haa] at q0
              exact ⟨(hkk.cell hbsl).trans bs10.c0, pyw.c 0 _ rfl, pyw.c 1 _ rfl, pyw.c 2 _ rfl, hcw _ _ q0, hcw _ _ q1, hcw _ _ q2, hcw _ _ q3, hcw _ _ q4, hcw _ _ q5⟩
            have CD := Lib.hid hCD
            have CC := Lib.hid (show ∀ w', Below W.heap.size W w' → Below W.heap.size W w' from fun _ h => h)
            have PPW := Lib.hid (box_keep pp10 hKB (show w.heap.size + 1 < w10.heap.size from pp10.lt))
            have PMW := Lib.hid (box_keep pm10 hKB (show mbx < w10.heap.size from pm10.lt))
            have HKBW := Lib.hid hKB; have HBW := Lib.hid hBW
            have j1 : (0 : Int) ≤ (b : Int) := by omega
            have j2 : (b : Int) < 3 := by omega
            have j3 : (0 : Int) ≤ (c : Int) := by omega
            have j4 : (c : Int) < 3 := by omega
            rw [haa] at OR0 OR2 HKA HV1
            rw [ha0]
            dsimp only [encA, triV]
            clear hCD hKB hBW py hrW hpa hpb' hpc ga gb' gc' ho2 ho0 ho1 hpt0 hpt1 hpt2 hvv hhv hcor hDT haa
            gi_wp2
            refine rnd_region_held (S := fun w' => w'.cell? ⟨sb, 0, none⟩ = some (.slice (some ⟨gb, 0, none⟩) 3 gc) ∧ w'.cell? ⟨yb, 0, none⟩ = some (.int .i64 0) ∧ w'.cell? ⟨yb, 1, none⟩ = some (.int .i64 (b : Int)) ∧ w'.cell? ⟨yb, 2, none⟩ = some (.int .i64 (c : Int)) ∧ w'.cell? ⟨gb, 0, none⟩ = some (.int .i64 aa0) ∧ w'.cell? ⟨gb, 1, none⟩ = some (.int .i64 a1) ∧ w'.cell? ⟨gb, b * 2, none⟩ = some (.int .i64 b0) ∧ w'.cell? ⟨gb, b * 2 + 1, none⟩ = some (.int .i64 b1) ∧ w'.cell? ⟨gb, c * 2, none⟩ = some (.int .i64 c0) ∧ w'.cell? ⟨gb, c * 2 + 1, none⟩ = some (.int .i64 c1)) (by kernel_rfl) (by kernel_rfl) (CD.out _ (Below.refl _ _)) (fun hHeld => ?_)
            refine reg_take 0 ?_ ?_ ?_ (by kernel_rfl) (by kernel_rfl) (by kernel_rfl) (fun _ _ _ h => h) ?_ ?_ (by assumption) ?_
            rotate_left 2
            · simp only [List.getElem?_toArray, List.getElem?_cons_zero]; exact rfl
            · rfl
            · intro w hSw; (try dsimp only at hSw); go_simp; try with_reducible rfl
            try simp only [Act.put]
            try simp only [List.setIfInBounds_toArray, List.set_cons_zero, List.set_cons_succ]
            refine reg_take 1 ?_ ?_ ?_ (by kernel_rfl) (by kernel_rfl) (by kernel_rfl) (fun _ _ _ h => h) ?_ ?_ (by assumption) ?_
            rotate_left 2
            · simp only [List.getElem?_toArray, List.getElem?_cons_succ, List.getElem?_cons_zero]; exact rfl
            · rfl
            · intro w hSw; (try dsimp only at hSw); go_simp; try with_reducible rfl
            try simp only [Act.put]
            try simp only [List.setIfInBounds_toArray, List.set_cons_zero, List.set_cons_succ]
            refine reg_take 2 ?_ ?_ ?_ (by kernel_rfl) (by kernel_rfl) (by kernel_rfl) (fun _ _ _ h => h) ?_ ?_ (by assumption) ?_
            rotate_left 2
            · simp only [List.getElem?_toArray, List.getElem?_cons_succ, List.getElem?_cons_zero]; exact rfl
            · rfl
            · intro w hSw; (try dsimp only at hSw); go_simp; try with_reducible rfl
            try simp only [Act.put]
            try simp only [List.setIfInBounds_toArray, List.set_cons_zero, List.set_cons_succ]
            refine reg_take 3 ?_ ?_ ?_ (by kernel_rfl) (by kernel_rfl) (by kernel_rfl) (fun _ _ _ h => h) ?_ ?_ (by assumption) ?_
            rotate_left 2
            · simp only [List.getElem?_toArray, List.getElem?_cons_succ, List.getElem?_cons_zero]; exact rfl
            · rfl
            · intro w hSw; (try dsimp only at hSw); go_simp; try with_reducible rfl
            try simp only [Act.put]
            try simp only [List.setIfInBounds_toArray, List.set_cons_zero, List.set_cons_succ]
            refine reg_take 4 ?_ ?_ ?_ (by kernel_rfl) (by kernel_rfl) (by kernel_rfl) (fun _ _ _ h => h) ?_ ?_ (by assumption) ?_
            rotate_left 2
            · simp only [List.getElem?_toArray, List.getElem?_cons_succ, List.getElem?_cons_zero]; exact rfl
            · rfl
            · intro w hSw; (try dsimp only at hSw); go_simp; try with_reducible rfl
            try simp only [Act.put]
            try simp only [List.setIfInBounds_toArray, List.set_cons_zero, List.set_cons_succ]
            refine reg_take 5 ?_ ?_ ?_ (by kernel_rfl) (by kernel_rfl) (by kernel_rfl) (fun _ _ _ h => h) ?_ ?_ (by assumption) ?_
            rotate_left 2
            · simp only [List.getElem?_toArray, List.getElem?_cons_succ, List.getElem?_cons_zero]; exact rfl
            · rfl
            · intro w hSw; (try dsimp only at hSw); go_simp; try with_reducible rfl
            try simp only [Act.put]
            try simp only [List.setIfInBounds_toArray, List.set_cons_zero, List.set_cons_succ]
            refine reg_take 6 ?_ ?_ ?_ (by kernel_rfl) (by kernel_rfl) (by kernel_rfl) (fun _ _ _ h => h) ?_ ?_ (by assumption) ?_
            rotate_left 2
            · simp only [List.getElem?_toArray, List.getElem?_cons_succ, List.getElem?_cons_zero]; exact rfl
            · rfl
            · intro w hSw; (try dsimp only at hSw); go_simp; try with_reducible rfl
            try simp only [Act.put]
            try simp only [List.setIfInBounds_toArray, List.set_cons_zero, List.set_cons_succ]
            refine reg_take 7 ?_ ?_ ?_ (by kernel_rfl) (by kernel_rfl) (by kernel_rfl) (fun _ _ _ h => h) ?_ ?_ (by assumption) ?_
            rotate_left 2
            · simp only [List.getElem?_toArray, List.getElem?_cons_succ, List.getElem?_cons_zero]; exact rfl
            · rfl
            · intro w hSw; (try dsimp only at hSw); go_simp; try with_reducible rfl
            try simp only [Act.put]
            try simp only [List.setIfInBounds_toArray, List.set_cons_zero, List.set_cons_succ]
            refine reg_take 8 ?_ ?_ ?_ (by kernel_rfl) (by kernel_rfl) (by kernel_rfl) (fun _ _ _ h => h) ?_ ?_ (by assumption) ?_
            rotate_left 2
            · simp only [List.getElem?_toArray, List.getElem?_cons_succ, List.getElem?_cons_zero]; exact rfl
            · rfl
            · intro w hSw; (try dsimp only at hSw); go_simp; try with_reducible rfl
            try simp only [Act.put]
            try simp only [List.setIfInBounds_toArray, List.set_cons_zero, List.set_cons_succ]
            refine reg_take 9 ?_ ?_ ?_ (by kernel_rfl) (by kernel_rfl) (by kernel_rfl) (fun _ _ _ h => h) ?_ ?_ (by assumption) ?_
            rotate_left 2
            · simp only [List.getElem?_toArray, List.getElem?_cons_succ, List.getElem?_cons_zero]; exact rfl
            · rfl
            · intro w hSw; (try dsimp only at hSw); go_simp; try with_reducible rfl
            try simp only [Act.put]
            try simp only [List.setIfInBounds_toArray, List.set_cons_zero, List.set_cons_succ]
            refine reg_take 10 ?_ ?_ ?_ (by kernel_rfl) (by kernel_rfl) (by kernel_rfl) (fun _ _ _ h => h) ?_ ?_ (by assumption) ?_
            rotate_left 2
            · simp only [List.getElem?_toArray, List.getElem?_cons_succ, List.getElem?_cons_zero]; exact rfl
            · rfl
            · intro w hSw; (try dsimp only at hSw); go_simp; try with_reducible rfl
            try simp only [Act.put]
            try simp only [List.setIfInBounds_toArray, List.set_cons_zero, List.set_cons_succ]
            refine reg_take 11 ?_ ?_ ?_ (by kernel_rfl) (by kernel_rfl) (by kernel_rfl) (fun _ _ _ h => h) ?_ ?_ (by assumption) ?_
            rotate_left 2
            · simp only [List.getElem?_toArray, List.getElem?_cons_succ, List.getElem?_cons_zero]; exact rfl
            · rfl
            · intro w hSw; (try dsimp only at hSw); go_simp; try with_reducible rfl
            try simp only [Act.put]
            try simp only [List.setIfInBounds_toArray, List.set_cons_zero, List.set_cons_succ]
            refine reg_take 12 ?_ ?_ ?_ (by kernel_rfl) (by kernel_rfl) (by kernel_rfl) (fun _ _ _ h => h) ?_ ?_ (by assumption) ?_
            rotate_left 2
            · simp only [List.getElem?_toArray, List.getElem?_cons_succ, List.getElem?_cons_zero]; exact rfl
            · rfl
            · intro w hSw; (try dsimp only at hSw); go_simp; try with_reducible rfl
            try simp only [Act.put]
            try simp only [List.setIfInBounds_toArray, List.set_cons_zero, List.set_cons_succ]
            refine reg_take 13 ?_ ?_ ?_ (by kernel_rfl) (by kernel_rfl) (by kernel_rfl) (fun _ _ _ h => h) ?_ ?_ (by assumption) ?_
            rotate_left 2
            · simp only [List.getElem?_toArray, List.getElem?_cons_succ, List.getElem?_cons_zero]; exact rfl
            · rfl
            · intro w hSw; (try dsimp only at hSw); go_simp; try with_reducible rfl
            try simp only [Act.put]
            try simp only [List.setIfInBounds_toArray, List.set_cons_zero, List.set_cons_succ]
            refine reg_take 14 ?_ ?_ ?_ (by kernel_rfl) (by kernel_rfl) (by kernel_rfl) (fun _ _ _ h => h) ?_ ?_ (by assumption) ?_
            rotate_left 2
            · simp only [List.getElem?_toArray, List.getElem?_cons_succ, List.getElem?_cons_zero]; exact rfl
            · rfl
            · intro w hSw; (try dsimp only at hSw); go_simp; try with_reducible rfl
            try simp only [Act.put]
            try simp only [List.setIfInBounds_toArray, List.set_cons_zero, List.set_cons_succ]
            refine reg_take 15 ?_ ?_ ?_ (by kernel_rfl) (by kernel_rfl) (by kernel_rfl) (fun _ _ _ h => h) ?_ ?_ (by assumption) ?_
            rotate_left 2
            · simp only [List.getElem?_toArray, List.getElem?_cons_succ, List.getElem?_cons_zero]; exact rfl
            · rfl
            · intro w hSw; (try dsimp only at hSw); go_simp; try with_reducible rfl
            try simp only [Act.put]
            try simp only [List.setIfInBounds_toArray, List.set_cons_zero, List.set_cons_succ]
            refine reg_take 16 ?_ ?_ ?_ (by kernel_rfl) (by kernel_rfl) (by kernel_rfl) (fun _ _ _ h => h) ?_ ?_ (by assumption) ?_
            rotate_left 2
            · simp only [List.getElem?_toArray, List.getElem?_cons_succ, List.getElem?_cons_zero]; exact rfl
            · rfl
            · intro w hSw; (try dsimp only at hSw); go_simp; try with_reducible rfl
            try simp only [Act.put]
            try simp only [List.setIfInBounds_toArray, List.set_cons_zero, List.set_cons_succ]
            refine reg_take 17 ?_ ?_ ?_ (by kernel_rfl) (by kernel_rfl) (by kernel_rfl) (fun _ _ _ h => h) ?_ ?_ (by assumption) ?_
            rotate_left 2
            · simp only [List.getElem?_toArray, List.getElem?_cons_succ, List.getElem?_cons_zero]; exact rfl
            · rfl
            · intro w hSw; (try dsimp only at hSw); go_simp; try with_reducible rfl
            try simp only [Act.put]
            try simp only [List.setIfInBounds_toArray, List.set_cons_zero, List.set_cons_succ]
            refine reg_grab (fun WWx ax hWW hAA => ?_)
            have LEAF : ∀ (g18 g19 g20 : Nat) (Wx : World), Below W.drew.heap.size W.drew Wx → W.drew.heap.size ≤ g18 → W.drew.heap.size ≤ g19 → W.drew.heap.size ≤ g20 → g18 ≠ g19 → g18 ≠ g20 → g19 ≠ g20 → Box Wx g18 [.int .i64 0, .int .i64 0] → Box Wx g19 [.int .i64 0, .int .i64 0] → Box Wx g20 [.int .i64 0, .int .i64 0] → WWx 3 #[true, true, true, true, true, true, true, true, true, true, true, true, true, true, true, true, true, true, true, true, true, false, false, false] (((ax.put (some 12) (.pointer (some ⟨g18, 0, none⟩))).put (some 13) (.pointer (some ⟨g19, 0, none⟩))).put (some 14) (.pointer (some ⟨g20, 0, none⟩))) Wx := by
              intro g18 g19 g20 Wx hbx hlg18 hlg19 hlg20 hng18g19 hng18g20 hng19g20 pzg18 pzg19 pzg20
              have hHeld := CD.out _ hbx
              rw [hWW, hAA]
              try simp only [Act.put]
              try simp only [List.setIfInBounds_toArray, List.set_cons_zero, List.set_cons_succ]
              refine reg_call 21 ?_ (by kernel_rfl) ?_ (fun K hK => ?_)
              rotate_left 1
              · simp only [List.getElem?_toArray, List.getElem?_cons_succ, List.getElem?_cons_zero]; exact rfl
              obtain ⟨x1, hx1⟩ : ∃ x, setAll Wx g18 0 [.int .i64 aa0, .int .i64 a1] = x := ⟨_, rfl⟩
              have u18 : Box x1 g18 [.int .i64 aa0, .int .i64 a1] := by rw [← hx1]; exact pzg18.setAll _ rfl
              have u19 : Box x1 g19 [.int .i64 0, .int .i64 0] := by rw [← hx1]; exact pzg19.farAll (fun e => hng18g19 e.symm) _
              have u20 : Box x1 g20 [.int .i64 0, .int .i64 0] := by rw [← hx1]; exact pzg20.farAll (fun e => hng18g20 e.symm) _
              have hbx1 : Below W.drew.heap.size W.drew x1 := by rw [← hx1]; exact below_setAll hbx hlg18 _
              refine wanted_go rfl ?_
              refine wp_store_box _ _ _ rfl [.int .i64 aa0, .int .i64 a1] pzg18 rfl rfl (by kernel_rfl) (by simp) rfl hx1 ?_
              refine hK.out _ _ (CD.out _ hbx1) (fun hHeld => ?_)
              clear hK K
              try simp only [Act.put]
              try simp only [List.setIfInBounds_toArray, List.set_cons_zero, List.set_cons_succ]
              refine reg_call 22 ?_ (by kernel_rfl) ?_ (fun K hK => ?_)
              rotate_left 1
              · simp only [List.getElem?_toArray, List.getElem?_cons_succ, List.getElem?_cons_zero]; exact rfl
              obtain ⟨x2, hx2⟩ : ∃ x, setAll x1 g19 0 [.int .i64 b0, .int .i64 b1] = x := ⟨_, rfl⟩
              have t19 : Box x2 g19 [.int .i64 b0, .int .i64 b1] := by rw [← hx2]; exact u19.setAll _ rfl
              have t18 : Box x2 g18 [.int .i64 aa0, .int .i64 a1] := by rw [← hx2]; exact u18.farAll hng18g19 _
              have t20 : Box x2 g20 [.int .i64 0, .int .i64 0] := by rw [← hx2]; exact u20.farAll (fun e => hng19g20 e.symm) _
              have hbx2 : Below W.drew.heap.size W.drew x2 := by rw [← hx2]; exact below_setAll hbx1 hlg19 _
              refine wanted_go rfl ?_
              refine wp_store_box _ _ _ rfl [.int .i64 b0, .int .i64 b1] u19 rfl rfl (by kernel_rfl) (by simp) rfl hx2 ?_
              refine hK.out _ _ (CD.out _ hbx2) (fun hHeld => ?_)
              clear hK K
              try simp only [Act.put]
              try simp only [List.setIfInBounds_toArray, List.set_cons_zero, List.set_cons_succ]
              refine reg_call 23 ?_ (by kernel_rfl) ?_ (fun K hK => ?_)
              rotate_left 1
              · simp only [List.getElem?_toArray, List.getElem?_cons_succ, List.getElem?_cons_zero]; exact rfl
              obtain ⟨x3, hx3⟩ : ∃ x, setAll x2 g20 0 [.int .i64 c0, .int .i64 c1] = x := ⟨_, rfl⟩
              have s20 : Box x3 g20 [.int .i64 c0, .int .i64 c1] := by rw [← hx3]; exact t20.setAll _ rfl
              have s18 : Box x3 g18 [.int .i64 aa0, .int .i64 a1] := by rw [← hx3]; exact t18.farAll hng18g20 _
              have s19 : Box x3 g19 [.int .i64 b0, .int .i64 b1] := by rw [← hx3]; exact t19.farAll hng19g20 _
              have hbx3 : Below W.drew.heap.size W.drew x3 := by rw [← hx3]; exact below_setAll hbx2 hlg20 _
              refine wanted_go rfl ?_
              refine wp_store_box _ _ _ rfl [.int .i64 c0, .int .i64 c1] t20 rfl rfl (by kernel_rfl) (by simp) rfl hx3 ?_
              refine hK.out _ _ (CD.out _ hbx3) (fun hHeld => ?_)
              clear hK K
              try simp only [Act.put]
              try simp only [List.setIfInBounds_toArray, List.set_cons_zero, List.set_cons_succ]
              refine wpAnyH_done (by kernel_rfl) ?_ _
              refine OnlyN.normal ?_
              have hx_0 : Below W.heap.size W x3 := ((Below.refl W.heap.size W).drew').trans hbx3
              have hx_1 := Below.refl x3.heap.size x3
              have S18 := Lib.hid (fun (w' : World) (hb : Below x3.heap.size x3 w') => s18.below hb)
              have S19 := Lib.hid (fun (w' : World) (hb : Below x3.heap.size x3 w') => s19.below hb)
              have S20 := Lib.hid (fun (w' : World) (hb : Below x3.heap.size x3 w') => s20.below hb)
              have PPX := Lib.hid (fun (w' : World) (hb : Below x3.heap.size x3 w') => PPW.out.below (hx_0.trans (hb.mono hx_0.size)))
              have PMX := Lib.hid (fun (w' : World) (hb : Below x3.heap.size x3 w') => PMW.out.below (hx_0.trans (hb.mono hx_0.size)))
              have HX0 := Lib.hid hx_0
              have HOX := Lib.hid (fun (w' : World) (hb : Below x3.heap.size x3 w') => HX0.out.trans (hb.mono HX0.out.size))
              have HO0 := Lib.hid (fun (w' : World) (hb : Below x3.heap.size x3 w') => hho (p0, p1) hv w' (HOX.out w' hb) HIP.out HV0.out)
              have HO1 := Lib.hid (fun (w' : World) (hb : Below x3.heap.size x3 w') => hho (aa0, a1) true w' (HOX.out w' hb) HKA.out HV1.out)
              have HO2 := Lib.hid (fun (w' : World) (hb : Below x3.heap.size x3 w') => hho (b0, b1) true w' (HOX.out w' hb) HKB.out HV2.out)
              have HO3 := Lib.hid (fun (w' : World) (hb : Below x3.heap.size x3 w') => hho (c0, c1) true w' (HOX.out w' hb) HKC.out HV3.out)
              have hx_0 := hx_1
              clear hx_1 hbx hbx1 hbx2 hbx3 hlg18 hlg19 hlg20 hng18g19 hng18g20 hng19g20 pzg18 pzg19 pzg20 u18 u19 u20 t18 t19 t20 s18 s19 s20 hx1 hx2 hx3 hHeld hWW hAA
              by_cases h2 : 0 ≤ o2
              · have d2 : decide (0 ≤ o2) = true := decide_eq_true h2
                by_cases h0 : 0 ≤ o0
                · have d0 : decide (0 ≤ o0) = true := decide_eq_true h0
                  obtain ⟨q1, d1⟩ : ∃ q, decide (0 ≤ o1) = q := ⟨_, rfl⟩
                  have hq : hv = q1 := by rw [← HVV.out, d2, d0, d1]; rfl
                  subst hq
                  have D1 := Lib.hid d1
                  cases hv with
                  | true =>
                    have d1 := D1.out
                    obtain ⟨y180, y181, -⟩ := (S18.out _ hx_0).open2
                    obtain ⟨y190, y191, -⟩ := (S19.out _ hx_0).open2
                    obtain ⟨y200, y201, -⟩ := (S20.out _ hx_0).open2
                    obtain ⟨yp0, yp1, -⟩ := (PPX.out _ hx_0).open2
                    have ym := (PMX.out _ hx_0).c0
                    gi_wp2_with fail
                    refine ⟨trivial, (CallsIn.inRound l (callsIn_wide.2 (OR0.out _))).mono ?_⟩
                    rintro e wo0 ⟨rfl, hb_wo0⟩
                    have ho0 := hx_0.trans (hb_wo0.mono hx_0.size)
                    clear hb_wo0
                    clear y180 y181 y190 y191 y200 y201 yp0 yp1 ym
                    obtain ⟨y180, y181, -⟩ := (S18.out _ ho0).open2
                    obtain ⟨y190, y191, -⟩ := (S19.out _ ho0).open2
                    obtain ⟨y200, y201, -⟩ := (S20.out _ ho0).open2
                    obtain ⟨yp0, yp1, -⟩ := (PPX.out _ ho0).open2
                    have ym := (PMX.out _ ho0).c0
                    gi_wp2_with fail
                    refine ⟨trivial, (CallsIn.inRound l (callsIn_wide.2 (OR1.out _))).mono ?_⟩
                    rintro e wo1 ⟨rfl, hb_wo1⟩
                    have ho1 := ho0.trans (hb_wo1.mono ho0.size)
                    clear hb_wo1
                    clear y180 y181 y190 y191 y200 y201 yp0 yp1 ym
                    obtain ⟨y180, y181, -⟩ := (S18.out _ ho1).open2
                    obtain ⟨y190, y191, -⟩ := (S19.out _ ho1).open2
                    obtain ⟨y200, y201, -⟩ := (S20.out _ ho1).open2
                    obtain ⟨yp0, yp1, -⟩ := (PPX.out _ ho1).open2
                    have ym := (PMX.out _ ho1).c0
                    gi_wp2_with fail
                    refine ⟨trivial, (CallsIn.inRound l (callsIn_wide.2 (OR2.out _))).mono ?_⟩
                    rintro e wo2 ⟨rfl, hb_wo2⟩
                    have ho2 := ho1.trans (hb_wo2.mono ho1.size)
                    clear hb_wo2
                    clear y180 y181 y190 y191 y200 y201 yp0 yp1 ym
                    obtain ⟨y180, y181, -⟩ := (S18.out _ ho2).open2
                    obtain ⟨y190, y191, -⟩ := (S19.out _ ho2).open2
                    obtain ⟨y200, y201, -⟩ := (S20.out _ ho2).open2
                    obtain ⟨yp0, yp1, -⟩ := (PPX.out _ ho2).open2
                    have ym := (PMX.out _ ho2).c0
                    have hh := HO0.out _ ho2
                    gi_wp2_with fail
                    refine ⟨trivial, (CallsIn.inRound l (callsIn_wide.2 (hh))).mono ?_⟩
                    rintro e wk0 ⟨rfl, hb_wk0⟩
                    have hk0 := ho2.trans (hb_wk0.mono ho2.size)
                    clear hb_wk0
                    clear hh y180 y181 y190 y191 y200 y201 yp0 yp1 ym
                    obtain ⟨y180, y181, -⟩ := (S18.out _ hk0).open2
                    obtain ⟨y190, y191, -⟩ := (S19.out _ hk0).open2
                    obtain ⟨y200, y201, -⟩ := (S20.out _ hk0).open2
                    obtain ⟨yp0, yp1, -⟩ := (PPX.out _ hk0).open2
                    have ym := (PMX.out _ hk0).c0
                    have hh := HO1.out _ hk0
                    gi_wp2_with fail
                    refine ⟨trivial, (CallsIn.inRound l (callsIn_wide.2 (hh))).mono ?_⟩
                    rintro e wk1 ⟨rfl, hb_wk1⟩
                    have hk1 := hk0.trans (hb_wk1.mono hk0.size)
                    clear hb_wk1
                    clear hh y180 y181 y190 y191 y200 y201 yp0 yp1 ym
                    obtain ⟨y180, y181, -⟩ := (S18.out _ hk1).open2
                    obtain ⟨y190, y191, -⟩ := (S19.out _ hk1).open2
                    obtain ⟨y200, y201, -⟩ := (S20.out _ hk1).open2
                    obtain ⟨yp0, yp1, -⟩ := (PPX.out _ hk1).open2
                    have ym := (PMX.out _ hk1).c0
                    have hh := HO2.out _ hk1
                    gi_wp2_with fail
                    refine ⟨trivial, (CallsIn.inRound l (callsIn_wide.2 (hh))).mono ?_⟩
                    rintro e wk2 ⟨rfl, hb_wk2⟩
                    have hk2 := hk1.trans (hb_wk2.mono hk1.size)
                    clear hb_wk2
                    clear hh y180 y181 y190 y191 y200 y201 yp0 yp1 ym
                    obtain ⟨y180, y181, -⟩ := (S18.out _ hk2).open2
                    obtain ⟨y190, y191, -⟩ := (S19.out _ hk2).open2
                    obtain ⟨y200, y201, -⟩ := (S20.out _ hk2).open2
                    obtain ⟨yp0, yp1, -⟩ := (PPX.out _ hk2).open2
                    have ym := (PMX.out _ hk2).c0
                    have hh := HO3.out _ hk2
                    gi_wp2_with fail
                    refine ⟨trivial, (CallsIn.inRound l (callsIn_wide.2 (hh))).mono ?_⟩
                    rintro e wk3 ⟨rfl, hb_wk3⟩
                    have hk3 := hk2.trans (hb_wk3.mono hk2.size)
                    clear hb_wk3
                    clear hh y180 y181 y190 y191 y200 y201 yp0 yp1 ym
                    have hb_y := HOX.out _ hk3
                    gi_wp2
                    refine ⟨(keepsOthers_below hb_y).from _, KeepB.of_below hb_y (fun b hb => by have := hltW b hb; omega), HKBW.out.trans (KeepB.of_below hb_y (fun b hb => by have := hltW b hb; omega)), HBW.out.trans (hb_y.mono HBW.out.size)⟩
                  | false =>
                    have d1 := D1.out
                    obtain ⟨y180, y181, -⟩ := (S18.out _ hx_0).open2
                    obtain ⟨y190, y191, -⟩ := (S19.out _ hx_0).open2
                    obtain ⟨y200, y201, -⟩ := (S20.out _ hx_0).open2
                    obtain ⟨yp0, yp1, -⟩ := (PPX.out _ hx_0).open2
                    have ym := (PMX.out _ hx_0).c0
                    gi_wp2_with fail
                    refine ⟨trivial, (CallsIn.inRound l (callsIn_wide.2 (OR0.out _))).mono ?_⟩
                    rintro e wo0 ⟨rfl, hb_wo0⟩
                    have ho0 := hx_0.trans (hb_wo0.mono hx_0.size)
                    clear hb_wo0
                    clear y180 y181 y190 y191 y200 y201 yp0 yp1 ym
                    obtain ⟨y180, y181, -⟩ := (S18.out _ ho0).open2
                    obtain ⟨y190, y191, -⟩ := (S19.out _ ho0).open2
                    obtain ⟨y200, y201, -⟩ := (S20.out _ ho0).open2
                    obtain ⟨yp0, yp1, -⟩ := (PPX.out _ ho0).open2
                    have ym := (PMX.out _ ho0).c0
                    gi_wp2_with fail
                    refine ⟨trivial, (CallsIn.inRound l (callsIn_wide.2 (OR1.out _))).mono ?_⟩
                    rintro e wo1 ⟨rfl, hb_wo1⟩
                    have ho1 := ho0.trans (hb_wo1.mono ho0.size)
                    clear hb_wo1
                    clear y180 y181 y190 y191 y200 y201 yp0 yp1 ym
                    obtain ⟨y180, y181, -⟩ := (S18.out _ ho1).open2
                    obtain ⟨y190, y191, -⟩ := (S19.out _ ho1).open2
                    obtain ⟨y200, y201, -⟩ := (S20.out _ ho1).open2
                    obtain ⟨yp0, yp1, -⟩ := (PPX.out _ ho1).open2
                    have ym := (PMX.out _ ho1).c0
                    gi_wp2_with fail
                    refine ⟨trivial, (CallsIn.inRound l (callsIn_wide.2 (OR2.out _))).mono ?_⟩
                    rintro e wo2 ⟨rfl, hb_wo2⟩
                    have ho2 := ho1.trans (hb_wo2.mono ho1.size)
                    clear hb_wo2
                    clear y180 y181 y190 y191 y200 y201 yp0 yp1 ym
                    obtain ⟨y180, y181, -⟩ := (S18.out _ ho2).open2
                    obtain ⟨y190, y191, -⟩ := (S19.out _ ho2).open2
                    obtain ⟨y200, y201, -⟩ := (S20.out _ ho2).open2
                    obtain ⟨yp0, yp1, -⟩ := (PPX.out _ ho2).open2
                    have ym := (PMX.out _ ho2).c0
                    have hh := HO0.out _ ho2
                    gi_wp2_with fail
                    refine ⟨trivial, (CallsIn.inRound l (callsIn_wide.2 (hh))).mono ?_⟩
                    rintro e wk0 ⟨rfl, hb_wk0⟩
                    have hk0 := ho2.trans (hb_wk0.mono ho2.size)
                    clear hb_wk0
                    clear hh y180 y181 y190 y191 y200 y201 yp0 yp1 ym
                    obtain ⟨y180, y181, -⟩ := (S18.out _ hk0).open2
                    obtain ⟨y190, y191, -⟩ := (S19.out _ hk0).open2
                    obtain ⟨y200, y201, -⟩ := (S20.out _ hk0).open2
                    obtain ⟨yp0, yp1, -⟩ := (PPX.out _ hk0).open2
                    have ym := (PMX.out _ hk0).c0
                    have hh := HO1.out _ hk0
                    gi_wp2_with fail
                    refine ⟨trivial, (CallsIn.inRound l (callsIn_wide.2 (hh))).mono ?_⟩
                    rintro e wk1 ⟨rfl, hb_wk1⟩
                    have hk1 := hk0.trans (hb_wk1.mono hk0.size)
                    clear hb_wk1
                    clear hh y180 y181 y190 y191 y200 y201 yp0 yp1 ym
                    obtain ⟨y180, y181, -⟩ := (S18.out _ hk1).open2
                    obtain ⟨y190, y191, -⟩ := (S19.out _ hk1).open2
                    obtain ⟨y200, y201, -⟩ := (S20.out _ hk1).open2
                    obtain ⟨yp0, yp1, -⟩ := (PPX.out _ hk1).open2
                    have ym := (PMX.out _ hk1).c0
                    have hh := HO2.out _ hk1
                    gi_wp2_with fail
                    refine ⟨trivial, (CallsIn.inRound l (callsIn_wide.2 (hh))).mono ?_⟩
                    rintro e wk2 ⟨rfl, hb_wk2⟩
                    have hk2 := hk1.trans (hb_wk2.mono hk1.size)
                    clear hb_wk2
                    clear hh y180 y181 y190 y191 y200 y201 yp0 yp1 ym
                    obtain ⟨y180, y181, -⟩ := (S18.out _ hk2).open2
                    obtain ⟨y190, y191, -⟩ := (S19.out _ hk2).open2
                    obtain ⟨y200, y201, -⟩ := (S20.out _ hk2).open2
                    obtain ⟨yp0, yp1, -⟩ := (PPX.out _ hk2).open2
                    have ym := (PMX.out _ hk2).c0
                    have hh := HO3.out _ hk2
                    gi_wp2_with fail
                    refine ⟨trivial, (CallsIn.inRound l (callsIn_wide.2 (hh))).mono ?_⟩
                    rintro e wk3 ⟨rfl, hb_wk3⟩
                    have hk3 := hk2.trans (hb_wk3.mono hk2.size)
                    clear hb_wk3
                    clear hh y180 y181 y190 y191 y200 y201 yp0 yp1 ym
                    have hb_y := HOX.out _ hk3
                    gi_wp2
                    refine ⟨(keepsOthers_below hb_y).from _, KeepB.of_below hb_y (fun b hb => by have := hltW b hb; omega), HKBW.out.trans (KeepB.of_below hb_y (fun b hb => by have := hltW b hb; omega)), HBW.out.trans (hb_y.mono HBW.out.size)⟩
                · have d0 : decide (0 ≤ o0) = false := decide_eq_false h0
                  have hq : hv = false := by rw [← HVV.out, d2, d0]; rfl
                  subst hq
                  obtain ⟨y180, y181, -⟩ := (S18.out _ hx_0).open2
                  obtain ⟨y190, y191, -⟩ := (S19.out _ hx_0).open2
                  obtain ⟨y200, y201, -⟩ := (S20.out _ hx_0).open2
                  obtain ⟨yp0, yp1, -⟩ := (PPX.out _ hx_0).open2
                  have ym := (PMX.out _ hx_0).c0
                  gi_wp2_with fail
                  refine ⟨trivial, (CallsIn.inRound l (callsIn_wide.2 (OR0.out _))).mono ?_⟩
                  rintro e wo0 ⟨rfl, hb_wo0⟩
                  have ho0 := hx_0.trans (hb_wo0.mono hx_0.size)
                  clear hb_wo0
                  clear y180 y181 y190 y191 y200 y201 yp0 yp1 ym
                  obtain ⟨y180, y181, -⟩ := (S18.out _ ho0).open2
                  obtain ⟨y190, y191, -⟩ := (S19.out _ ho0).open2
                  obtain ⟨y200, y201, -⟩ := (S20.out _ ho0).open2
                  obtain ⟨yp0, yp1, -⟩ := (PPX.out _ ho0).open2
                  have ym := (PMX.out _ ho0).c0
                  gi_wp2_with fail
                  refine ⟨trivial, (CallsIn.inRound l (callsIn_wide.2 (OR1.out _))).mono ?_⟩
                  rintro e wo1 ⟨rfl, hb_wo1⟩
                  have ho1 := ho0.trans (hb_wo1.mono ho0.size)
                  clear hb_wo1
                  clear y180 y181 y190 y191 y200 y201 yp0 yp1 ym
                  gi_wp2_with fail
                  refine ⟨trivial, ?_⟩
                  go_at_K
                  obtain ⟨y180, y181, -⟩ := (S18.out _ ho1).open2
                  obtain ⟨y190, y191, -⟩ := (S19.out _ ho1).open2
                  obtain ⟨y200, y201, -⟩ := (S20.out _ ho1).open2
                  obtain ⟨yp0, yp1, -⟩ := (PPX.out _ ho1).open2
                  have ym := (PMX.out _ ho1).c0
                  have hh := HO0.out _ ho1
                  gi_wp2_with fail
                  refine ⟨trivial, (CallsIn.inRound l (callsIn_wide.2 (hh))).mono ?_⟩
                  rintro e wk0 ⟨rfl, hb_wk0⟩
                  have hk0 := ho1.trans (hb_wk0.mono ho1.size)
                  clear hb_wk0
                  clear hh y180 y181 y190 y191 y200 y201 yp0 yp1 ym
                  obtain ⟨y180, y181, -⟩ := (S18.out _ hk0).open2
                  obtain ⟨y190, y191, -⟩ := (S19.out _ hk0).open2
                  obtain ⟨y200, y201, -⟩ := (S20.out _ hk0).open2
                  obtain ⟨yp0, yp1, -⟩ := (PPX.out _ hk0).open2
                  have ym := (PMX.out _ hk0).c0
                  have hh := HO1.out _ hk0
                  gi_wp2_with fail
                  refine ⟨trivial, (CallsIn.inRound l (callsIn_wide.2 (hh))).mono ?_⟩
                  rintro e wk1 ⟨rfl, hb_wk1⟩
                  have hk1 := hk0.trans (hb_wk1.mono hk0.size)
                  clear hb_wk1
                  clear hh y180 y181 y190 y191 y200 y201 yp0 yp1 ym
                  obtain ⟨y180, y181, -⟩ := (S18.out _ hk1).open2
                  obtain ⟨y190, y191, -⟩ := (S19.out _ hk1).open2
                  obtain ⟨y200, y201, -⟩ := (S20.out _ hk1).open2
                  obtain ⟨yp0, yp1, -⟩ := (PPX.out _ hk1).open2
                  have ym := (PMX.out _ hk1).c0
                  have hh := HO2.out _ hk1
                  gi_wp2_with fail
                  refine ⟨trivial, (CallsIn.inRound l (callsIn_wide.2 (hh))).mono ?_⟩
                  rintro e wk2 ⟨rfl, hb_wk2⟩
                  have hk2 := hk1.trans (hb_wk2.mono hk1.size)
                  clear hb_wk2
                  clear hh y180 y181 y190 y191 y200 y201 yp0 yp1 ym
                  obtain ⟨y180, y181, -⟩ := (S18.out _ hk2).open2
                  obtain ⟨y190, y191, -⟩ := (S19.out _ hk2).open2
                  obtain ⟨y200, y201, -⟩ := (S20.out _ hk2).open2
                  obtain ⟨yp0, yp1, -⟩ := (PPX.out _ hk2).open2
                  have ym := (PMX.out _ hk2).c0
                  have hh := HO3.out _ hk2
                  gi_wp2_with fail
                  refine ⟨trivial, (CallsIn.inRound l (callsIn_wide.2 (hh))).mono ?_⟩
                  rintro e wk3 ⟨rfl, hb_wk3⟩
                  have hk3 := hk2.trans (hb_wk3.mono hk2.size)
                  clear hb_wk3
                  clear hh y180 y181 y190 y191 y200 y201 yp0 yp1 ym
                  have hb_y := HOX.out _ hk3
                  gi_wp2
                  refine ⟨(keepsOthers_below hb_y).from _, KeepB.of_below hb_y (fun b hb => by have := hltW b hb; omega), HKBW.out.trans (KeepB.of_below hb_y (fun b hb => by have := hltW b hb; omega)), HBW.out.trans (hb_y.mono HBW.out.size)⟩
              · have d2 : decide (0 ≤ o2) = false := decide_eq_false h2
                have hq : hv = false := by rw [← HVV.out, d2]; rfl
                subst hq
                obtain ⟨y180, y181, -⟩ := (S18.out _ hx_0).open2
                obtain ⟨y190, y191, -⟩ := (S19.out _ hx_0).open2
                obtain ⟨y200, y201, -⟩ := (S20.out _ hx_0).open2
                obtain ⟨yp0, yp1, -⟩ := (PPX.out _ hx_0).open2
                have ym := (PMX.out _ hx_0).c0
                gi_wp2_with fail
                refine ⟨trivial, (CallsIn.inRound l (callsIn_wide.2 (OR0.out _))).mono ?_⟩
                rintro e wo0 ⟨rfl, hb_wo0⟩
                have ho0 := hx_0.trans (hb_wo0.mono hx_0.size)
                clear hb_wo0
                clear y180 y181 y190 y191 y200 y201 yp0 yp1 ym
                gi_wp2_with fail
                refine ⟨trivial, ?_⟩
                go_at_K
                gi_wp2_with fail
                refine ⟨trivial, ?_⟩
                go_at_K
                obtain ⟨y180, y181, -⟩ := (S18.out _ ho0).open2
                obtain ⟨y190, y191, -⟩ := (S19.out _ ho0).open2
                obtain ⟨y200, y201, -⟩ := (S20.out _ ho0).open2
                obtain ⟨yp0, yp1, -⟩ := (PPX.out _ ho0).open2
                have ym := (PMX.out _ ho0).c0
                have hh := HO0.out _ ho0
                gi_wp2_with fail
                refine ⟨trivial, (CallsIn.inRound l (callsIn_wide.2 (hh))).mono ?_⟩
                rintro e wk0 ⟨rfl, hb_wk0⟩
                have hk0 := ho0.trans (hb_wk0.mono ho0.size)
                clear hb_wk0
                clear hh y180 y181 y190 y191 y200 y201 yp0 yp1 ym
                obtain ⟨y180, y181, -⟩ := (S18.out _ hk0).open2
                obtain ⟨y190, y191, -⟩ := (S19.out _ hk0).open2
                obtain ⟨y200, y201, -⟩ := (S20.out _ hk0).open2
                obtain ⟨yp0, yp1, -⟩ := (PPX.out _ hk0).open2
                have ym := (PMX.out _ hk0).c0
                have hh := HO1.out _ hk0
                gi_wp2_with fail
                refine ⟨trivial, (CallsIn.inRound l (callsIn_wide.2 (hh))).mono ?_⟩
                rintro e wk1 ⟨rfl, hb_wk1⟩
                have hk1 := hk0.trans (hb_wk1.mono hk0.size)
                clear hb_wk1
                clear hh y180 y181 y190 y191 y200 y201 yp0 yp1 ym
                obtain ⟨y180, y181, -⟩ := (S18.out _ hk1).open2
                obtain ⟨y190, y191, -⟩ := (S19.out _ hk1).open2
                obtain ⟨y200, y201, -⟩ := (S20.out _ hk1).open2
                obtain ⟨yp0, yp1, -⟩ := (PPX.out _ hk1).open2
                have ym := (PMX.out _ hk1).c0
                have hh := HO2.out _ hk1
                gi_wp2_with fail
                refine ⟨trivial, (CallsIn.inRound l (callsIn_wide.2 (hh))).mono ?_⟩
                rintro e wk2 ⟨rfl, hb_wk2⟩
                have hk2 := hk1.trans (hb_wk2.mono hk1.size)
                clear hb_wk2
                clear hh y180 y181 y190 y191 y200 y201 yp0 yp1 ym
                obtain ⟨y180, y181, -⟩ := (S18.out _ hk2).open2
                obtain ⟨y190, y191, -⟩ := (S19.out _ hk2).open2
                obtain ⟨y200, y201, -⟩ := (S20.out _ hk2).open2
                obtain ⟨yp0, yp1, -⟩ := (PPX.out _ hk2).open2
                have ym := (PMX.out _ hk2).c0
                have hh := HO3.out _ hk2
                gi_wp2_with fail
                refine ⟨trivial, (CallsIn.inRound l (callsIn_wide.2 (hh))).mono ?_⟩
                rintro e wk3 ⟨rfl, hb_wk3⟩
                have hk3 := hk2.trans (hb_wk3.mono hk2.size)
                clear hb_wk3
                clear hh y180 y181 y190 y191 y200 y201 yp0 yp1 ym
                have hb_y := HOX.out _ hk3
                gi_wp2
                refine ⟨(keepsOthers_below hb_y).from _, KeepB.of_below hb_y (fun b hb => by have := hltW b hb; omega), HKBW.out.trans (KeepB.of_below hb_y (fun b hb => by have := hltW b hb; omega)), HBW.out.trans (hb_y.mono HBW.out.size)⟩
            rw [hWW, hAA]
            try simp only [Act.put]
            try simp only [List.setIfInBounds_toArray, List.set_cons_zero, List.set_cons_succ]
            refine reg_all3 18 19 20 _ _ _ (by kernel_rfl) rfl rfl rfl (fun K hK => ?_) (fun K hK => ?_) (fun K hK => ?_) 
            · obtain ⟨wzq18, hwwzq18, pzwzq18, hbwzq18, hswzq18⟩ := new_box W.drew _ rfl [.int .i64 0, .int .i64 0] 26
              go_simp
              try rw [hwwzq18]
              refine hK.out _ _ (CD.out _ hbwzq18) (fun hHeld => ?_)
              clear hK K
              try simp only [Act.put]
              try simp only [List.setIfInBounds_toArray, List.set_cons_zero, List.set_cons_succ]
              refine reg_all2 19 20 _ _ (by kernel_rfl) rfl rfl (fun K hK => ?_) (fun K hK => ?_) 
              · obtain ⟨wz18q19, hwwz18q19, pzwz18q19, hbwz18q19, hswz18q19⟩ := new_box wzq18 _ hswzq18 [.int .i64 0, .int .i64 0] 26
                go_simp
                try rw [hwwz18q19]
                refine hK.out _ _ (CD.out _ (hbwzq18.trans (hbwz18q19.mono (by omega)))) (fun hHeld => ?_)
                clear hK K
                try simp only [Act.put]
                try simp only [List.setIfInBounds_toArray, List.set_cons_zero, List.set_cons_succ]
                refine reg_all1 20 _ (by kernel_rfl) rfl (fun K hK => ?_) 
                · obtain ⟨wz1819q20, hwwz1819q20, pzwz1819q20, hbwz1819q20, hswz1819q20⟩ := new_box wz18q19 _ hswz18q19 [.int .i64 0, .int .i64 0] 26
                  go_simp
                  try rw [hwwz1819q20]
                  refine hK.out _ _ (CD.out _ ((hbwzq18.trans (hbwz18q19.mono (by omega))).trans (hbwz1819q20.mono (by omega)))) (fun hHeld => ?_)
                  clear hK K
                  try simp only [Act.put]
                  try simp only [List.setIfInBounds_toArray, List.set_cons_zero, List.set_cons_succ]
                  have hL := LEAF (W.drew.heap.size) (W.drew.heap.size + 1) (W.drew.heap.size + 1 + 1) _ ((hbwzq18.trans (hbwz18q19.mono (by omega))).trans (hbwz1819q20.mono (by omega))) (by omega) (by omega) (by omega) (by omega) (by omega) (by omega) ((pzwzq18.below (hbwz18q19.mono (by omega))).below (hbwz1819q20.mono (by omega))) (pzwz18q19.below (hbwz1819q20.mono (by omega))) pzwz1819q20
                  rw [hWW, hAA] at hL
                  try simp only [Act.put] at hL
                  try simp only [List.setIfInBounds_toArray, List.set_cons_zero, List.set_cons_succ] at hL
                  exact hL
              · obtain ⟨wz18q20, hwwz18q20, pzwz18q20, hbwz18q20, hswz18q20⟩ := new_box wzq18 _ hswzq18 [.int .i64 0, .int .i64 0] 26
                go_simp
                try rw [hwwz18q20]
                refine hK.out _ _ (CD.out _ (hbwzq18.trans (hbwz18q20.mono (by omega)))) (fun hHeld => ?_)
                clear hK K
                try simp only [Act.put]
                try simp only [List.setIfInBounds_toArray, List.set_cons_zero, List.set_cons_succ]
                refine reg_all1 19 _ (by kernel_rfl) rfl (fun K hK => ?_) 
                · obtain ⟨wz1820q19, hwwz1820q19, pzwz1820q19, hbwz1820q19, hswz1820q19⟩ := new_box wz18q20 _ hswz18q20 [.int .i64 0, .int .i64 0] 26
                  go_simp
                  try rw [hwwz1820q19]
                  refine hK.out _ _ (CD.out _ ((hbwzq18.trans (hbwz18q20.mono (by omega))).trans (hbwz1820q19.mono (by omega)))) (fun hHeld => ?_)
                  clear hK K
                  try simp only [Act.put]
                  try simp only [List.setIfInBounds_toArray, List.set_cons_zero, List.set_cons_succ]
                  have hL := LEAF (W.drew.heap.size) (W.drew.heap.size + 1 + 1) (W.drew.heap.size + 1) _ ((hbwzq18.trans (hbwz18q20.mono (by omega))).trans (hbwz1820q19.mono (by omega))) (by omega) (by omega) (by omega) (by omega) (by omega) (by omega) ((pzwzq18.below (hbwz18q20.mono (by omega))).below (hbwz1820q19.mono (by omega))) pzwz1820q19 (pzwz18q20.below (hbwz1820q19.mono (by omega)))
                  rw [hWW, hAA] at hL
                  try simp only [Act.put] at hL
                  try simp only [List.setIfInBounds_toArray, List.set_cons_zero, List.set_cons_succ] at hL
                  exact hL
            · obtain ⟨wzq19, hwwzq19, pzwzq19, hbwzq19, hswzq19⟩ := new_box W.drew _ rfl [.int .i64 0, .int .i64 0] 26
              go_simp
              try rw [hwwzq19]
              refine hK.out _ _ (CD.out _ hbwzq19) (fun hHeld => ?_)
              clear hK K
              try simp only [Act.put]
              try simp only [List.setIfInBounds_toArray, List.set_cons_zero, List.set_cons_succ]
              refine reg_all2 18 20 _ _ (by kernel_rfl) rfl rfl (fun K hK => ?_) (fun K hK => ?_) 
              · obtain ⟨wz19q18, hwwz19q18, pzwz19q18, hbwz19q18, hswz19q18⟩ := new_box wzq19 _ hswzq19 [.int .i64 0, .int .i64 0] 26
                go_simp
                try rw [hwwz19q18]
                refine hK.out _ _ (CD.out _ (hbwzq19.trans (hbwz19q18.mono (by omega)))) (fun hHeld => ?_)
                clear hK K
                try simp only [Act.put]
                try simp only [List.setIfInBounds_toArray, List.set_cons_zero, List.set_cons_succ]
                refine reg_all1 20 _ (by kernel_rfl) rfl (fun K hK => ?_) 
                · obtain ⟨wz1918q20, hwwz1918q20, pzwz1918q20, hbwz1918q20, hswz1918q20⟩ := new_box wz19q18 _ hswz19q18 [.int .i64 0, .int .i64 0] 26
                  go_simp
                  try rw [hwwz1918q20]
                  refine hK.out _ _ (CD.out _ ((hbwzq19.trans (hbwz19q18.mono (by omega))).trans (hbwz1918q20.mono (by omega)))) (fun hHeld => ?_)
                  clear hK K
                  try simp only [Act.put]
                  try simp only [List.setIfInBounds_toArray, List.set_cons_zero, List.set_cons_succ]
                  have hL := LEAF (W.drew.heap.size + 1) (W.drew.heap.size) (W.drew.heap.size + 1 + 1) _ ((hbwzq19.trans (hbwz19q18.mono (by omega))).trans (hbwz1918q20.mono (by omega))) (by omega) (by omega) (by omega) (by omega) (by omega) (by omega) (pzwz19q18.below (hbwz1918q20.mono (by omega))) ((pzwzq19.below (hbwz19q18.mono (by omega))).below (hbwz1918q20.mono (by omega))) pzwz1918q20
                  rw [hWW, hAA] at hL
                  try simp only [Act.put] at hL
                  try simp only [List.setIfInBounds_toArray, List.set_cons_zero, List.set_cons_succ] at hL
                  exact hL
              · obtain ⟨wz19q20, hwwz19q20, pzwz19q20, hbwz19q20, hswz19q20⟩ := new_box wzq19 _ hswzq19 [.int .i64 0, .int .i64 0] 26
                go_simp
                try rw [hwwz19q20]
                refine hK.out _ _ (CD.out _ (hbwzq19.trans (hbwz19q20.mono (by omega)))) (fun hHeld => ?_)
                clear hK K
                try simp only [Act.put]
                try simp only [List.setIfInBounds_toArray, List.set_cons_zero, List.set_cons_succ]
                refine reg_all1 18 _ (by kernel_rfl) rfl (fun K hK => ?_) 
                · obtain ⟨wz1920q18, hwwz1920q18, pzwz1920q18, hbwz1920q18, hswz1920q18⟩ := new_box wz19q20 _ hswz19q20 [.int .i64 0, .int .i64 0] 26
                  go_simp
                  try rw [hwwz1920q18]
                  refine hK.out _ _ (CD.out _ ((hbwzq19.trans (hbwz19q20.mono (by omega))).trans (hbwz1920q18.mono (by omega)))) (fun hHeld => ?_)
                  clear hK K
                  try simp only [Act.put]
                  try simp only [List.setIfInBounds_toArray, List.set_cons_zero, List.set_cons_succ]
                  have hL := LEAF (W.drew.heap.size + 1 + 1) (W.drew.heap.size) (W.drew.heap.size + 1) _ ((hbwzq19.trans (hbwz19q20.mono (by omega))).trans (hbwz1920q18.mono (by omega))) (by omega) (by omega) (by omega) (by omega) (by omega) (by omega) pzwz1920q18 ((pzwzq19.below (hbwz19q20.mono (by omega))).below (hbwz1920q18.mono (by omega))) (pzwz19q20.below (hbwz1920q18.mono (by omega)))
                  rw [hWW, hAA] at hL
                  try simp only [Act.put] at hL
                  try simp only [List.setIfInBounds_toArray, List.set_cons_zero, List.set_cons_succ] at hL
                  exact hL
            · obtain ⟨wzq20, hwwzq20, pzwzq20, hbwzq20, hswzq20⟩ := new_box W.drew _ rfl [.int .i64 0, .int .i64 0] 26
              go_simp
              try rw [hwwzq20]
              refine hK.out _ _ (CD.out _ hbwzq20) (fun hHeld => ?_)
              clear hK K
              try simp only [Act.put]
              try simp only [List.setIfInBounds_toArray, List.set_cons_zero, List.set_cons_succ]
              refine reg_all2 18 19 _ _ (by kernel_rfl) rfl rfl (fun K hK => ?_) (fun K hK => ?_) 
              · obtain ⟨wz20q18, hwwz20q18, pzwz20q18, hbwz20q18, hswz20q18⟩ := new_box wzq20 _ hswzq20 [.int .i64 0, .int .i64 0] 26
                go_simp
                try rw [hwwz20q18]
                refine hK.out _ _ (CD.out _ (hbwzq20.trans (hbwz20q18.mono (by omega)))) (fun hHeld => ?_)
                clear hK K
                try simp only [Act.put]
                try simp only [List.setIfInBounds_toArray, List.set_cons_zero, List.set_cons_succ]
                refine reg_all1 19 _ (by kernel_rfl) rfl (fun K hK => ?_) 
                · obtain ⟨wz2018q19, hwwz2018q19, pzwz2018q19, hbwz2018q19, hswz2018q19⟩ := new_box wz20q18 _ hswz20q18 [.int .i64 0, .int .i64 0] 26
                  go_simp
                  try rw [hwwz2018q19]
                  refine hK.out _ _ (CD.out _ ((hbwzq20.trans (hbwz20q18.mono (by omega))).trans (hbwz2018q19.mono (by omega)))) (fun hHeld => ?_)
                  clear hK K
                  try simp only [Act.put]
                  try simp only [List.setIfInBounds_toArray, List.set_cons_zero, List.set_cons_succ]
                  have hL := LEAF (W.drew.heap.size + 1) (W.drew.heap.size + 1 + 1) (W.drew.heap.size) _ ((hbwzq20.trans (hbwz20q18.mono (by omega))).trans (hbwz2018q19.mono (by omega))) (by omega) (by omega) (by omega) (by omega) (by omega) (by omega) (pzwz20q18.below (hbwz2018q19.mono (by omega))) pzwz2018q19 ((pzwzq20.below (hbwz20q18.mono (by omega))).below (hbwz2018q19.mono (by omega)))
                  rw [hWW, hAA] at hL
                  try simp only [Act.put] at hL
                  try simp only [List.setIfInBounds_toArray, List.set_cons_zero, List.set_cons_succ] at hL
                  exact hL
              · obtain ⟨wz20q19, hwwz20q19, pzwz20q19, hbwz20q19, hswz20q19⟩ := new_box wzq20 _ hswzq20 [.int .i64 0, .int .i64 0] 26
                go_simp
                try rw [hwwz20q19]
                refine hK.out _ _ (CD.out _ (hbwzq20.trans (hbwz20q19.mono (by omega)))) (fun hHeld => ?_)
                clear hK K
                try simp only [Act.put]
                try simp only [List.setIfInBounds_toArray, List.set_cons_zero, List.set_cons_succ]
                refine reg_all1 18 _ (by kernel_rfl) rfl (fun K hK => ?_) 
                · obtain ⟨wz2019q18, hwwz2019q18, pzwz2019q18, hbwz2019q18, hswz2019q18⟩ := new_box wz20q19 _ hswz20q19 [.int .i64 0, .int .i64 0] 26
                  go_simp
                  try rw [hwwz2019q18]
                  refine hK.out _ _ (CD.out _ ((hbwzq20.trans (hbwz20q19.mono (by omega))).trans (hbwz2019q18.mono (by omega)))) (fun hHeld => ?_)
                  clear hK K
                  try simp only [Act.put]
                  try simp only [List.setIfInBounds_toArray, List.set_cons_zero, List.set_cons_succ]
                  have hL := LEAF (W.drew.heap.size + 1 + 1) (W.drew.heap.size + 1) (W.drew.heap.size) _ ((hbwzq20.trans (hbwz20q19.mono (by omega))).trans (hbwz2019q18.mono (by omega))) (by omega) (by omega) (by omega) (by omega) (by omega) (by omega) pzwz2019q18 (pzwz20q19.below (hbwz2019q18.mono (by omega))) ((pzwzq20.below (hbwz20q19.mono (by omega))).below (hbwz2019q18.mono (by omega)))
                  rw [hWW, hAA] at hL
                  try simp only [Act.put] at hL
                  try simp only [List.setIfInBounds_toArray, List.set_cons_zero, List.set_cons_succ] at hL
                  exact hL
        case done =>
          as_aux_lemma =>
            rintro D xs W hD hS ⟨hKB, hBW⟩ hK
            have hrW := hr10.keep hin10 hKB
            have ppW := box_keep pp10 hKB (show w.heap.size + 1 < w10.heap.size from pp10.lt)
            have prW := box_keep pr10 hKB (show w.heap.size + 1 + 1 < w10.heap.size from pr10.lt)
            have pmW := box_keep pm10 hKB (show mbx < w10.heap.size from pm10.lt)
            have hmn : mbx ≠ w.heap.size + 1 + 1 := by omega
            have hDl : D < W.heap.size := (Array.getElem?_eq_some_iff.1 hK).1
            have hW10 : w10.heap.size ≤ W.heap.size := by
              have hx := (hKB w9.heap.size hbl).trans bm10
              have := (Array.getElem?_eq_some_iff.1 hx).1
              omega
            have hinW := meshIn_le hin10 hW10
            have hri := one_right 0 b c HD.out (p0, p1)
            have HLO := Lib.hid (fun (w' : World) (hb : Below W.heap.size W w') => Look_any (p0, p1) w' (hrW.below hb) HQP.out HIP.out hlk)
            obtain ⟨⟨k, t, x, y⟩, hx⟩ : ∃ x, lookM Q (newM ((0 : Nat) : Int) (b : Int) (c : Int)) (p0, p1) = x := ⟨_, rfl⟩
            rw [hx] at hri
            have HLO := Lib.hid (show ∀ w' : World, Below W.heap.size W w' → Calls Try.prog 27 #[.pointer (some ⟨mb, 0, none⟩), .agg #[.int .i64 p0, .int .i64 p1]] w' fun e w'' => e = .returned (placeV (k, t, x, y)) ∧ Below w'.heap.size w' w'' from fun w' hb => by have h := HLO.out w' hb; rw [hx] at h; exact h)
            have HRI := Lib.hid (fun (w' : World) (hb : Below W.heap.size W w') => WRight_any (p0, p1) (k, t, x, y) w' (hrW.below hb) (meshIn_le hinW hb.size) HQP.out HIP.out hlk hri)
            have hCE : ∀ w', Below W.heap.size W w' → w'.cell? ⟨mbx, 0, none⟩ = some (.pointer (some ⟨mb, 0, none⟩)) ∧ w'.cell? ⟨w.heap.size + 1, 0, none⟩ = some (.int .i64 p0) ∧ w'.cell? ⟨w.heap.size + 1, 1, none⟩ = some (.int .i64 p1) := fun w' hb => ⟨(pmW.below hb).c0, (ppW.below hb).c0, (ppW.below hb).c1⟩
            have CE := Lib.hid hCE; have PRX := Lib.hid prW; have PMB := Lib.hid pmW; have PPB := Lib.hid ppW
            have HK := Lib.hid hK; have HBW := Lib.hid hBW
            unfold placeV at HRI
            rw [ha0]
            clear hCE hKB hBW hrW ppW prW pmW hK hri hx hinW
            gi_wp2
            go_wp2
            refine wp_region_noPanic ?_
            refine wp_region_held_drew (S := fun w' => w'.cell? ⟨mbx, 0, none⟩ = some (.pointer (some ⟨mb, 0, none⟩)) ∧ w'.cell? ⟨w.heap.size + 1, 0, none⟩ = some (.int .i64 p0) ∧ w'.cell? ⟨w.heap.size + 1, 1, none⟩ = some (.int .i64 p1)) (by kernel_rfl) (CE.out _ (Below.refl _ _).drew') (fun hHeld => ?_)
            refine reg_take 0 ?_ ?_ ?_ (by kernel_rfl) (by kernel_rfl) (by kernel_rfl) (fun _ _ _ h => h) ?_ ?_ (by assumption) ?_
            rotate_left 2
            · simp only [List.getElem?_toArray, List.getElem?_cons_zero]; exact rfl
            · rfl
            · intro w hSw; (try dsimp only at hSw); go_simp; try with_reducible rfl
            try simp only [Act.put]
            try simp only [List.setIfInBounds_toArray, List.set_cons_zero, List.set_cons_succ]
            refine reg_take 1 ?_ ?_ ?_ (by kernel_rfl) (by kernel_rfl) (by kernel_rfl) (fun _ _ _ h => h) ?_ ?_ (by assumption) ?_
            rotate_left 2
            · simp only [List.getElem?_toArray, List.getElem?_cons_succ, List.getElem?_cons_zero]; exact rfl
            · rfl
            · intro w hSw; (try dsimp only at hSw); go_simp; try with_reducible rfl
            try simp only [Act.put]
            try simp only [List.setIfInBounds_toArray, List.set_cons_zero, List.set_cons_succ]
            refine reg_take 2 ?_ ?_ ?_ (by kernel_rfl) (by kernel_rfl) (by kernel_rfl) (fun _ _ _ h => h) ?_ ?_ (by assumption) ?_
            rotate_left 2
            · simp only [List.getElem?_toArray, List.getElem?_cons_succ, List.getElem?_cons_zero]; exact rfl
            · rfl
            · intro w hSw; (try dsimp only at hSw); go_simp; try with_reducible rfl
            try simp only [Act.put]
            try simp only [List.setIfInBounds_toArray, List.set_cons_zero, List.set_cons_succ]
            refine reg_take 3 ?_ ?_ ?_ (by kernel_rfl) (by kernel_rfl) (by kernel_rfl) (fun _ _ _ h => h) ?_ ?_ (by assumption) ?_
            rotate_left 2
            · simp only [List.getElem?_toArray, List.getElem?_cons_succ, List.getElem?_cons_zero]; exact rfl
            · rfl
            · intro w hSw; (try dsimp only at hSw); go_simp; try with_reducible rfl
            try simp only [Act.put]
            try simp only [List.setIfInBounds_toArray, List.set_cons_zero, List.set_cons_succ]
            refine reg_call 4 ?_ (by kernel_rfl) ?_ (fun K hK => ?_)
            rotate_left 1
            · simp only [List.getElem?_toArray, List.getElem?_cons_succ, List.getElem?_cons_zero]; exact rfl
            go_simp
            refine (HLO.out _ (Below.refl _ _).drew').mono ?_
            rintro e wl ⟨rfl, hbl⟩
            have he_1 := ((Below.refl W.heap.size W).drew').trans (hbl.mono (Nat.le_refl _))
            unfold placeV
            simp only []
            go_wp2_with fail
            refine hK.out _ _ (CE.out _ he_1) (fun hHeld => ?_)
            clear hK K
            try simp only [Act.put]
            try simp only [List.setIfInBounds_toArray, List.set_cons_zero, List.set_cons_succ]
            refine reg_call 5 ?_ (by kernel_rfl) ?_ (fun K hK => ?_)
            rotate_left 1
            · simp only [List.getElem?_toArray, List.getElem?_cons_succ, List.getElem?_cons_zero]; exact rfl
            go_simp
            refine (HRI.out _ he_1).mono ?_
            rintro e wr2 ⟨rfl, hbr⟩
            have he_2 := he_1.trans (hbr.mono he_1.size)
            go_wp2_with fail
            refine hK.out _ _ (CE.out _ he_2) (fun hHeld => ?_)
            clear hK K
            try simp only [Act.put]
            try simp only [List.setIfInBounds_toArray, List.set_cons_zero, List.set_cons_succ]
            refine reg_call 6 ?_ (by kernel_rfl) ?_ (fun K hK => ?_)
            rotate_left 1
            · simp only [List.getElem?_toArray, List.getElem?_cons_succ, List.getElem?_cons_zero]; exact rfl
            have pr_2 := PRX.out.below he_2
            obtain ⟨q0, q1⟩ := pr_2.open1
            have m_2 := PMB.out.below he_2
            have p_2 := PPB.out.below he_2
            go_simp
            refine hK.out _ _ (⟨(m_2.far (by omega) 0 _).c0, (p_2.far (by omega) 0 _).c0, (p_2.far (by omega) 0 _).c1⟩) (fun hHeld => ?_)
            clear hK K
            try simp only [Act.put]
            try simp only [List.setIfInBounds_toArray, List.set_cons_zero, List.set_cons_succ]
            refine wpAnyH_done (by kernel_rfl) ?_ _
            refine NoPanic.normal ?_
            have h1 := (he_2.block D hDl).trans HK.out
            have hDn : D ≠ w.heap.size + 1 + 1 := by have := hB10.size; have := HS3.out; have := PR7.out.lt; have := HB7.out.size; have := hb710.size; omega
            have h2 : (wr2.setCell ⟨w.heap.size + 1 + 1, 0, none⟩ (.bool true)).heap[D]? = some (.deferred (some [])) := (heap_set_far _ _ _ _ _ hDn).trans h1
            have h3 := pr_2.set 0 (.bool true)
            have h4 : Below w.heap.size w (wr2.setCell ⟨w.heap.size + 1 + 1, 0, none⟩ (.bool true)) := (HBW.out.trans (he_2.mono HBW.out.size)).setCell (p := ⟨w.heap.size + 1 + 1, 0, none⟩) (by simp only []; omega) _
            go_wp2
            refine ⟨by simp, .inl ⟨_, _, rfl, run_takeDeferred h2, ?_⟩⟩
            have hc5 := cell_kept h3.c0 (grownBy_putObj' _ D (.deferred none)) (fun r e => by cases e; exact ⟨_, h2, rfl⟩)
            refine ⟨.bool true, ?_, rfl, h4.trans (belowK_b (w := w) (Nat.le_refl _) _ D _ _ (by omega) h2 rfl rfl)⟩
            simp [results, Try.results8, go_sem, hc5]
        case stop =>
          rintro D c pre W _ _ h _
          exact h.elim
      · have hN := New_no (some ⟨gb, 0, none⟩) gb 3 gc Q w7 HQL.out (by omega) (by omega) HQP.out rfl (fun j u hj => by rw [Nat.zero_add]; exact HC7.out j u hj) ((0 : Nat) : Int) ((1 : Nat) : Int) ((2 : Nat) : Int) (by rw [ht, htn]; rfl)
        have hN' : Calls Try.prog 11 #[.slice (some ⟨gb, 0, none⟩) 3 gc, .int .i64 0, .int .i64 1, .int .i64 2] w7 fun e w' => e = .returned (.tuple #[.pointer none, .bool false]) ∧ Below w7.heap.size w7 w' := hN
        have HN := Lib.hid hN'
        clear ht htn hN hN'
        go_wp2_with fail
        refine HN.out.mono ?_
        rintro e w8 ⟨rfl, hb8⟩
        obtain ⟨w9, hw9, pm9, hb9, hs9⟩ := new_box w8 _ rfl [.pointer none] 28
        have hb79 : Below w7.heap.size w7 w9 := hb8.trans (hb9.mono hb8.size)
        have hne8 : w.heap.size + 1 + 1 ≠ w8.heap.size := by have h1 := hb8.size; have h2 := PR7.out.lt; omega
        obtain ⟨y0, y1⟩ := pm9.open1
        obtain ⟨wa, hwa⟩ : ∃ wa, w9.setCell ⟨w8.heap.size, 0, none⟩ (.pointer none) = wa := ⟨_, rfl⟩
        have pra : Box wa (w.heap.size + 1 + 1) [.bool false] := by rw [← hwa]; exact (PR7.out.below hb79).far hne8 0 _
        have hba : Below w7.heap.size w7 wa := by rw [← hwa]; exact hb79.setCell (p := ⟨w8.heap.size, 0, none⟩) (by have := hb8.size; simp only []; omega) _
        obtain ⟨q0, q1⟩ := pra.open1
        have pz := pra.set 0 (.bool true)
        have FIN := Lib.hid ((HB7.out.trans (hba.mono HB7.out.size)).setCell (p := ⟨w.heap.size + 1 + 1, 0, none⟩) (by simp only []; omega) (.bool true))
        have PZ := Lib.hid pz
        clear hb8 hb9 hb79 pm9 pz pra hba hne8 hs9
        go_wp2
        clear q0 q1
        have z0 := PZ.out.c0
        refine ⟨.bool true, ?_, rfl, FIN.out⟩
        simp [results, Try.results8, go_sem, z0]
      · have hN : ∃ b c : Nat, b < 3 ∧ c < 3 ∧ 0 < crP (ptA Q 0) (ptA Q b) (ptA Q c) ∧ Calls Try.prog 11 #[.slice (some ⟨gb, 0, none⟩) 3 gc, .int .i64 0, .int .i64 1, .int .i64 2] w7 fun e w' => ∃ mb pb pc tv, e = .returned (.tuple #[.pointer (some ⟨mb, 0, none⟩), .bool true]) ∧ MeshO 26 37 w' w7.heap.size mb pb pc tv Q (newM ((0 : Nat) : Int) (b : Int) (c : Int)) ∧ w7.heap.size ≤ pb ∧ Below w7.heap.size w7 w' :=
          ⟨1, 2, by omega, by omega, htn, New_yes (some ⟨gb, 0, none⟩) gb 3 gc Q w7 HQL.out (by omega) (by omega) HQP.out rfl (fun j u hj => by rw [Nat.zero_add]; exact HC7.out j u hj) 0 1 2 (by rw [ht]; exact Int.sign_eq_one_of_pos htn)⟩
        clear ht htn
        obtain ⟨b, c, hb3, hc3, hD, hN⟩ := hN
        have HN := Lib.hid hN; have HD := Lib.hid hD
        clear hN hD
        go_wp2_with fail
        refine HN.out.mono ?_
        rintro e w8 ⟨mb, pb, pc, tv, rfl, hm, hpb, hb8⟩
        obtain ⟨tb, tc, rfl, hr⟩ := MeshO.sl hm (by show 0 < 4; omega)
        obtain ⟨mbx, hmbx⟩ : ∃ x, w8.heap.size = x := ⟨_, rfl⟩
        obtain ⟨w9, hw9, pm9, hb9, hs9⟩ := new_box w8 _ rfl [.pointer (some ⟨mb, 0, none⟩)] 28
        rw [hmbx] at pm9
        have hmbn : w.heap.size + 1 + 1 < mbx := by have h1 := hb8.size; have h2 := PR7.out.lt; omega
        have hb79 : Below w7.heap.size w7 w9 := hb8.trans (hb9.mono hb8.size)
        have hr9 := hr.below hb9
        have hin9 := hr9.in_ (by rw [HQL.out]; omega) (by show 0 < 4; omega)
        have m9 := pm9.c0
        have HAL := Lib.hid (All_any (some ⟨mb, 0, none⟩) w9)
        have HR9 := Lib.hid hr9; have HIN9 := Lib.hid hin9; have PM9 := Lib.hid pm9; have HB79 := Lib.hid hb79
        clear hm hpb hb8 hb9 hb79 hr hr9 hin9 pm9 hs9
        go_wp2_with fail
        refine HAL.out.mono ?_
        rintro e w10 ⟨rfl, hw10⟩
        go_wp2
        have hsz : w10.heap.size = w9.heap.size + 1 := by rw [← hw10]; simp
        have hb910 : Below w9.heap.size w9 w10 := by rw [← hw10]; exact (Below.refl _ _).alloc (Nat.le_refl _) _
        have bm10 : Boxed w10 w9.heap.size 28 (.pointer (some ⟨mb, 0, none⟩)) := by rw [← hw10]; exact Boxed.new w9 _ _
        have hb710 := HB79.out.trans (hb910.mono HB79.out.size)
        have hin10 : MeshIn (fun b => b < w10.heap.size) mb pb (some ⟨tb, 0, none⟩) := meshIn_le HIN9.out (by omega)
        have hr10 := HR9.out.below hb910
        have pm10 := PM9.out.below hb910
        have pp10 := PP7.out.below hb710
        have pr10 := PR7.out.below hb710
        have bs10 := BS7.out.below hb710
        have hc10 : ∀ j u, (ptsCells Q)[j]? = some u → w10.cell? ⟨gb, j, none⟩ = some u := fun j u hj => (hb710.cell (p := ⟨gb, j, none⟩) HGL.out).trans (HC7.out j u hj)
        have hB10 := HB7.out.trans (hb710.mono HB7.out.size)
        have hltW : ∀ b, (fun b => b < w10.heap.size) b → b < w10.heap.size := fun _ h => h
        have hbl : w9.heap.size < w10.heap.size := by omega
        have hl3 : (newM ((0 : Nat) : Int) (b : Int) (c : Int)).length = 4 := rfl
        have hlk := one_look (P := Q) (a := 0) (b := b) (c := c) (by rw [HQL.out]; omega) (by rw [HQL.out]; omega) (by rw [HQL.out]; omega)
        have hgl10 : gb < w10.heap.size := by have := HGL.out; have := hb710.size; omega
        rw [← wpIn_wide (n := 20)]
        refine range_start (fun a0 ha0 => ?_)
        refine wpIn_rangeFunc_ownH rfl (by omega) (gf := 35) (lb := #[.pointer (some ⟨w9.heap.size, 0, none⟩)]) (by rw [ha0]; rfl) trivial (enters_of Try.func35 (by kernel_rfl) rfl)
          (all_stops 19 (by omega) w9.heap.size (fun b => b < w10.heap.size) w10 hltW hr10 hin10 bm10.cell hbl) (fun h k => KeepB.trans h k) ?kb (Below.refl _ _) (fun _ => rfl)
          (fun (pre : List (RA (newM ((0 : Nat) : Int) (b : Int) (c : Int)))) W => KeepB (fun b => b < w10.heap.size) w10 W ∧ Below w.heap.size w W)
          (fun _ _ _ => False)
          (OwnFrom.and (keepB_own hltW) (ownFrom_below (by have := hB10.size; omega) (by have := hB10.size; omega)))
          (fun _ _ _ _ _ h _ _ => h)
          ⟨KeepB.refl _ _, hB10⟩
          (fun x a' W => ∃ yb, a' = { tmps := (((#[39, 40].zip (encA x)).foldl (fun t (p, v) => t.setIfInBounds p v) a0.tmps).setIfInBounds 10 (.int .i64 (x.1.1 : Int))).setIfInBounds 11 (.pointer (some ⟨yb, 0, none⟩)), defers := [] } ∧ w10.heap.size ≤ yb ∧ Box W yb x.1.2.cells)
          ?own ?assign ?body ?done ?stop
        case kb =>
          intro W l o o' hl _ _ _ b hb
          exact World.putObj_heap_other (fun e => by have := hltW b hb; omega)
        case own =>
          intro x a' s A B row hs hg hr
          obtain ⟨yb, g1, g2, g3⟩ := hs
          exact ⟨yb, g1, g2, box_own _ yb (fun _ : Unit => x.1.2.cells) () A B row g3 hg hr⟩
        case assign =>
          intro l pre x W K hI hK
          rw [ha0] at hK ⊢
          obtain ⟨⟨y, U⟩, hy1, hy2⟩ := x
          obtain ⟨u0, u1, u2, k0, k1, k2, g0, g1, g2⟩ := U
          dsimp only [encA, triV] at hK ⊢
          obtain ⟨W1, hW1, py, hbW, hsW⟩ := new_box W _ rfl [.int .i64 u0, .int .i64 u1, .int .i64 u2, .int .i64 k0, .int .i64 k1, .int .i64 k2, .bool g0, .bool g1, .bool g2] 37
          gi_wp2
          have hW10 : w10.heap.size ≤ W.heap.size := by
            have hx := (hI.1 w9.heap.size hbl).trans bm10
            have := (Array.getElem?_eq_some_iff.1 hx).1
            omega
          refine hK _ _ ((keepsOthers_below hbW).from _) (KeepB.of_below hbW (fun b hb => by have := hltW b hb; omega)) ?_ ⟨W.heap.size, by kernel_rfl, hW10, py⟩
          exact ⟨hI.1.trans (KeepB.of_below hbW (fun b hb => by have := hltW b hb; omega)), hI.2.trans (hbW.mono hI.2.size)⟩
        case body =>
          as_aux_lemma =>
            rintro l pre x a' W hWl - ⟨hKB, hBW⟩ ⟨yb, rfl, hyb, py⟩ hlen
            obtain ⟨⟨y, U⟩, hy1, hy2⟩ := x
            simp only [] at py hy1 hy2
            obtain ⟨rfl, rfl⟩ := one_only hy1 hy2
            have hW10 : w10.heap.size ≤ W.heap.size := by
              have hx := (hKB w9.heap.size hbl).trans bm10
              have := (Array.getElem?_eq_some_iff.1 hx).1
              omega
            have hltWW : ∀ b, b < w10.heap.size → b < W.heap.size := fun b hb => by omega
            have hrW := hr10.keep hin10 hKB
            obtain ⟨⟨aa0', a1⟩, hpa⟩ : ∃ q, ptA Q 0 = q := ⟨_, rfl⟩
            obtain ⟨⟨b0, b1⟩, hpb'⟩ : ∃ q, ptA Q b = q := ⟨_, rfl⟩
            obtain ⟨⟨c0, c1⟩, hpc⟩ : ∃ q, ptA Q c = q := ⟨_, rfl⟩
            have ga : Q[0]? = some (aa0', a1) := by have := ptA_at (P := Q) (v := 0) (by rw [HQL.out]; omega); rw [hpa] at this; exact this
            have gb' : Q[b]? = some (b0, b1) := by have := ptA_at (P := Q) (v := b) (by rw [HQL.out]; omega); rw [hpb'] at this; exact this
            have gc' : Q[c]? = some (c0, c1) := by have := ptA_at (P := Q) (v := c) (by rw [HQL.out]; omega); rw [hpc] at this; exact this
            have HKA := Lib.hid (HQP.out _ (List.mem_of_getElem? ga)); have HKB := Lib.hid (HQP.out _ (List.mem_of_getElem? gb')); have HKC := Lib.hid (HQP.out _ (List.mem_of_getElem? gc'))
            obtain ⟨o2, ho2⟩ : ∃ o, (crs aa0' a1 b0 b1 p0 p1).sign = o := ⟨_, rfl⟩
            obtain ⟨o0, ho0⟩ : ∃ o, (crs b0 b1 c0 c1 p0 p1).sign = o := ⟨_, rfl⟩
            obtain ⟨o1, ho1⟩ : ∃ o, (crs c0 c1 aa0' a1 p0 p1).sign = o := ⟨_, rfl⟩
            have OR0 := Lib.hid (fun W' => Orient_is aa0' a1 b0 b1 p0 p1 HKA.out.1 HKA.out.2 HKB.out.1 HKB.out.2 HIP.out.1 HIP.out.2 ho2 W')
            have OR1 := Lib.hid (fun W' => Orient_is b0 b1 c0 c1 p0 p1 HKB.out.1 HKB.out.2 HKC.out.1 HKC.out.2 HIP.out.1 HIP.out.2 ho0 W')
            have OR2 := Lib.hid (fun W' => Orient_is c0 c1 aa0' a1 p0 p1 HKC.out.1 HKC.out.2 HKA.out.1 HKA.out.2 HIP.out.1 HIP.out.2 ho1 W')
            obtain ⟨T, hT⟩ : ∃ T : TriM, (⟨((0 : Nat) : Int), (b : Int), (c : Int), 1, 2, 3, false, false, false⟩ : TriM) = T := ⟨_, rfl⟩
            have hpt0 : ptT Q T 0 = (aa0', a1) := by rw [← hT]; exact hpa
            have hpt1 : ptT Q T 1 = (b0, b1) := by rw [← hT]; exact hpb'
            have hpt2 : ptT Q T 2 = (c0, c1) := by rw [← hT]; exact hpc
            obtain ⟨hv, hhv⟩ : ∃ v, holdsT Q T (p0, p1) = v := ⟨_, rfl⟩
            have hvv : (decide (0 ≤ o2) && decide (0 ≤ o0) && decide (0 ≤ o1)) = hv := by
              rw [← hhv]
              have q0 : sideT Q T 0 (p0, p1) = o0 := by rw [show sideT Q T 0 (p0, p1) = (crP (ptT Q T 1) (ptT Q T 2) (p0, p1)).sign from rfl, hpt1, hpt2]; exact ho0
              have q1 : sideT Q T 1 (p0, p1) = o1 := by rw [show sideT Q T 1 (p0, p1) = (crP (ptT Q T 2) (ptT Q T 0) (p0, p1)).sign from rfl, hpt2, hpt0]; exact ho1
              have q2 : sideT Q T 2 (p0, p1) = o2 := by rw [show sideT Q T 2 (p0, p1) = (crP (ptT Q T 0) (ptT Q T 1) (p0, p1)).sign from rfl, hpt0, hpt1]; exact ho2
              unfold holdsT
              rw [q0, q1, q2]
              cases decide (0 ≤ o2) <;> cases decide (0 ≤ o0) <;> cases decide (0 ≤ o1) <;> rfl
            have hDT : 0 < crP (ptT Q T 0) (ptT Q T 1) (ptT Q T 2) := by have h := HD.out; rw [hpa, hpb', hpc] at h; rw [hpt0, hpt1, hpt2]; exact h
            have hcor : ∀ k, k < 3 → holdsT Q T (ptT Q T k) = true := corner_held hDT
            have hho : ∀ (q : Int × Int) (v : Bool) (w' : World), Below W.heap.size W w' → InP q.1 ∧ InP q.2 → holdsT Q T q = v → Calls Try.prog 28 #[.pointer (some ⟨mb, 0, none⟩), .int .i64 ((0 : Nat) : Int), .agg #[.int .i64 q.1, .int .i64 q.2]] w' fun e w'' => e = .returned (.bool v) ∧ Below w'.heap.size w' w'' := by
              intro q v w' hb hq hv
              have h := Holds_any 0 T q w' (hrW.below hb) HQP.out hq (by rw [← hT]; rfl) (hlk 0 T (by rw [← hT]; rfl)).1
              rw [show realT T = true by rw [← hT]; exact hy2, hv] at h
              exact h
            have HV0 := Lib.hid hhv; have HVV := Lib.hid hvv
            have HV1 := Lib.hid (show holdsT Q T (aa0', a1) = true by rw [← hpt0]; exact hcor 0 (by omega))
            have HV2 := Lib.hid (show holdsT Q T (b0, b1) = true by rw [← hpt1]; exact hcor 1 (by omega))
            have HV3 := Lib.hid (show holdsT Q T (c0, c1) = true by rw [← hpt2]; exact hcor 2 (by omega))
            obtain ⟨aa0, haa⟩ : ∃ q, aa0' = q := ⟨_, rfl⟩
            have hCD : ∀ w', Below W.drew.heap.size W.drew w' → w'.cell? ⟨sb, 0, none⟩ = some (.slice (some ⟨gb, 0, none⟩) 3 gc) ∧ w'.cell? ⟨yb, 0, none⟩ = some (.int .i64 0) ∧ w'.cell? ⟨yb, 1, none⟩ = some (.int .i64 (b : Int)) ∧ w'.cell? ⟨yb, 2, none⟩ = some (.int .i64 (c : Int)) ∧ w'.cell? ⟨gb, 0, none⟩ = some (.int .i64 aa0) ∧ w'.cell? ⟨gb, 1, none⟩ = some (.int .i64 a1) ∧ w'.cell? ⟨gb, b * 2, none⟩ = some (.int .i64 b0) ∧ w'.cell? ⟨gb, b * 2 + 1, none⟩ = some (.int .i64 b1) ∧ w'.cell? ⟨gb, c * 2, none⟩ = some (.int .i64 c0) ∧ w'.cell? ⟨gb, c * 2 + 1, none⟩ = some (.int .i64 c1) := by
              intro w' hb
              have hb' : Below W.heap.size W w' := ((Below.refl W.heap.size W).drew').trans hb
              have hkk : KeepB (fun b => b < w10.heap.size) w10 w' := hKB.trans (KeepB.of_below hb' (fun b hb => hltWW b hb))
              have hbsl : sb < w10.heap.size := bs10.lt
              have pyw := py.below hb'
              have hcw : ∀ j u, (ptsCells Q)[j]? = some u → w'.cell? ⟨gb, j, none⟩ = some u := fun j u hj => (hkk.cell hgl10).trans (hc10 j u hj)
              obtain ⟨q0, q1⟩ := ptsCells_get Q 0 _ _ ga
              obtain ⟨q2, q3⟩ := ptsCells_get Q b _ _ gb'
              obtain ⟨q4, q5⟩ := ptsCells_get Q c _ _ gc'
              rw [haa] at q0
              exact ⟨(hkk.cell hbsl).trans bs10.c0, pyw.c 0 _ rfl, pyw.c 1 _ rfl, pyw.c 2 _ rfl, hcw _ _ q0, hcw _ _ q1, hcw _ _ q2, hcw _ _ q3, hcw _ _ q4, hcw _ _ q5⟩
            have CD := Lib.hid hCD
            have CC := Lib.hid (show ∀ w', Below W.heap.size W w' → Below W.heap.size W w' from fun _ h => h)
            have PPW := Lib.hid (box_keep pp10 hKB (show w.heap.size + 1 < w10.heap.size from pp10.lt))
            have PMW := Lib.hid (box_keep pm10 hKB (show mbx < w10.heap.size from pm10.lt))
            have HKBW := Lib.hid hKB; have HBW := Lib.hid hBW
            have j1 : (0 : Int) ≤ (b : Int) := by omega
            have j2 : (b : Int) < 3 := by omega
            have j3 : (0 : Int) ≤ (c : Int) := by omega
            have j4 : (c : Int) < 3 := by omega
            rw [haa] at OR0 OR2 HKA HV1
            rw [ha0]
            dsimp only [encA, triV]
            clear hCD hKB hBW py hrW hpa hpb' hpc ga gb' gc' ho2 ho0 ho1 hpt0 hpt1 hpt2 hvv hhv hcor hDT haa
            gi_wp2
            refine rnd_region_held (S := fun w' => w'.cell? ⟨sb, 0, none⟩ = some (.slice (some ⟨gb, 0, none⟩) 3 gc) ∧ w'.cell? ⟨yb, 0, none⟩ = some (.int .i64 0) ∧ w'.cell? ⟨yb, 1, none⟩ = some (.int .i64 (b : Int)) ∧ w'.cell? ⟨yb, 2, none⟩ = some (.int .i64 (c : Int)) ∧ w'.cell? ⟨gb, 0, none⟩ = some (.int .i64 aa0) ∧ w'.cell? ⟨gb, 1, none⟩ = some (.int .i64 a1) ∧ w'.cell? ⟨gb, b * 2, none⟩ = some (.int .i64 b0) ∧ w'.cell? ⟨gb, b * 2 + 1, none⟩ = some (.int .i64 b1) ∧ w'.cell? ⟨gb, c * 2, none⟩ = some (.int .i64 c0) ∧ w'.cell? ⟨gb, c * 2 + 1, none⟩ = some (.int .i64 c1)) (by kernel_rfl) (by kernel_rfl) (CD.out _ (Below.refl _ _)) (fun hHeld => ?_)
            refine reg_take 0 ?_ ?_ ?_ (by kernel_rfl) (by kernel_rfl) (by kernel_rfl) (fun _ _ _ h => h) ?_ ?_ (by assumption) ?_
            rotate_left 2
            · simp only [List.getElem?_toArray, List.getElem?_cons_zero]; exact rfl
            · rfl
            · intro w hSw; (try dsimp only at hSw); go_simp; try with_reducible rfl
            try simp only [Act.put]
            try simp only [List.setIfInBounds_toArray, List.set_cons_zero, List.set_cons_succ]
            refine reg_take 1 ?_ ?_ ?_ (by kernel_rfl) (by kernel_rfl) (by kernel_rfl) (fun _ _ _ h => h) ?_ ?_ (by assumption) ?_
            rotate_left 2
            · simp only [List.getElem?_toArray, List.getElem?_cons_succ, List.getElem?_cons_zero]; exact rfl
            · rfl
            · intro w hSw; (try dsimp only at hSw); go_simp; try with_reducible rfl
            try simp only [Act.put]
            try simp only [List.setIfInBounds_toArray, List.set_cons_zero, List.set_cons_succ]
            refine reg_take 2 ?_ ?_ ?_ (by kernel_rfl) (by kernel_rfl) (by kernel_rfl) (fun _ _ _ h => h) ?_ ?_ (by assumption) ?_
            rotate_left 2
            · simp only [List.getElem?_toArray, List.getElem?_cons_succ, List.getElem?_cons_zero]; exact rfl
            · rfl
            · intro w hSw; (try dsimp only at hSw); go_simp; try with_reducible rfl
            try simp only [Act.put]
            try simp only [List.setIfInBounds_toArray, List.set_cons_zero, List.set_cons_succ]
            refine reg_take 3 ?_ ?_ ?_ (by kernel_rfl) (by kernel_rfl) (by kernel_rfl) (fun _ _ _ h => h) ?_ ?_ (by assumption) ?_
            rotate_left 2
            · simp only [List.getElem?_toArray, List.getElem?_cons_succ, List.getElem?_cons_zero]; exact rfl
            · rfl
            · intro w hSw; (try dsimp only at hSw); go_simp; try with_reducible rfl
            try simp only [Act.put]
            try simp only [List.setIfInBounds_toArray, List.set_cons_zero, List.set_cons_succ]
            refine reg_take 4 ?_ ?_ ?_ (by kernel_rfl) (by kernel_rfl) (by kernel_rfl) (fun _ _ _ h => h) ?_ ?_ (by assumption) ?_
            rotate_left 2
            · simp only [List.getElem?_toArray, List.getElem?_cons_succ, List.getElem?_cons_zero]; exact rfl
            · rfl
            · intro w hSw; (try dsimp only at hSw); go_simp; try with_reducible rfl
            try simp only [Act.put]
            try simp only [List.setIfInBounds_toArray, List.set_cons_zero, List.set_cons_succ]
            refine reg_take 5 ?_ ?_ ?_ (by kernel_rfl) (by kernel_rfl) (by kernel_rfl) (fun _ _ _ h => h) ?_ ?_ (by assumption) ?_
            rotate_left 2
            · simp only [List.getElem?_toArray, List.getElem?_cons_succ, List.getElem?_cons_zero]; exact rfl
            · rfl
            · intro w hSw; (try dsimp only at hSw); go_simp; try with_reducible rfl
            try simp only [Act.put]
            try simp only [List.setIfInBounds_toArray, List.set_cons_zero, List.set_cons_succ]
            refine reg_take 6 ?_ ?_ ?_ (by kernel_rfl) (by kernel_rfl) (by kernel_rfl) (fun _ _ _ h => h) ?_ ?_ (by assumption) ?_
            rotate_left 2
            · simp only [List.getElem?_toArray, List.getElem?_cons_succ, List.getElem?_cons_zero]; exact rfl
            · rfl
            · intro w hSw; (try dsimp only at hSw); go_simp; try with_reducible rfl
            try simp only [Act.put]
            try simp only [List.setIfInBounds_toArray, List.set_cons_zero, List.set_cons_succ]
            refine reg_take 7 ?_ ?_ ?_ (by kernel_rfl) (by kernel_rfl) (by kernel_rfl) (fun _ _ _ h => h) ?_ ?_ (by assumption) ?_
            rotate_left 2
            · simp only [List.getElem?_toArray, List.getElem?_cons_succ, List.getElem?_cons_zero]; exact rfl
            · rfl
            · intro w hSw; (try dsimp only at hSw); go_simp; try with_reducible rfl
            try simp only [Act.put]
            try simp only [List.setIfInBounds_toArray, List.set_cons_zero, List.set_cons_succ]
            refine reg_take 8 ?_ ?_ ?_ (by kernel_rfl) (by kernel_rfl) (by kernel_rfl) (fun _ _ _ h => h) ?_ ?_ (by assumption) ?_
            rotate_left 2
            · simp only [List.getElem?_toArray, List.getElem?_cons_succ, List.getElem?_cons_zero]; exact rfl
            · rfl
            · intro w hSw; (try dsimp only at hSw); go_simp; try with_reducible rfl
            try simp only [Act.put]
            try simp only [List.setIfInBounds_toArray, List.set_cons_zero, List.set_cons_succ]
            refine reg_take 9 ?_ ?_ ?_ (by kernel_rfl) (by kernel_rfl) (by kernel_rfl) (fun _ _ _ h => h) ?_ ?_ (by assumption) ?_
            rotate_left 2
            · simp only [List.getElem?_toArray, List.getElem?_cons_succ, List.getElem?_cons_zero]; exact rfl
            · rfl
            · intro w hSw; (try dsimp only at hSw); go_simp; try with_reducible rfl
            try simp only [Act.put]
            try simp only [List.setIfInBounds_toArray, List.set_cons_zero, List.set_cons_succ]
            refine reg_take 10 ?_ ?_ ?_ (by kernel_rfl) (by kernel_rfl) (by kernel_rfl) (fun _ _ _ h => h) ?_ ?_ (by assumption) ?_
            rotate_left 2
            · simp only [List.getElem?_toArray, List.getElem?_cons_succ, List.getElem?_cons_zero]; exact rfl
            · rfl
            · intro w hSw; (try dsimp only at hSw); go_simp; try with_reducible rfl
            try simp only [Act.put]
            try simp only [List.setIfInBounds_toArray, List.set_cons_zero, List.set_cons_succ]
            refine reg_take 11 ?_ ?_ ?_ (by kernel_rfl) (by kernel_rfl) (by kernel_rfl) (fun _ _ _ h => h) ?_ ?_ (by assumption) ?_
            rotate_left 2
            · simp only [List.getElem?_toArray, List.getElem?_cons_succ, List.getElem?_cons_zero]; exact rfl
            · rfl
            · intro w hSw; (try dsimp only at hSw); go_simp; try with_reducible rfl
            try simp only [Act.put]
            try simp only [List.setIfInBounds_toArray, List.set_cons_zero, List.set_cons_succ]
            refine reg_take 12 ?_ ?_ ?_ (by kernel_rfl) (by kernel_rfl) (by kernel_rfl) (fun _ _ _ h => h) ?_ ?_ (by assumption) ?_
            rotate_left 2
            · simp only [List.getElem?_toArray, List.getElem?_cons_succ, List.getElem?_cons_zero]; exact rfl
            · rfl
            · intro w hSw; (try dsimp only at hSw); go_simp; try with_reducible rfl
            try simp only [Act.put]
            try simp only [List.setIfInBounds_toArray, List.set_cons_zero, List.set_cons_succ]
            refine reg_take 13 ?_ ?_ ?_ (by kernel_rfl) (by kernel_rfl) (by kernel_rfl) (fun _ _ _ h => h) ?_ ?_ (by assumption) ?_
            rotate_left 2
            · simp only [List.getElem?_toArray, List.getElem?_cons_succ, List.getElem?_cons_zero]; exact rfl
            · rfl
            · intro w hSw; (try dsimp only at hSw); go_simp; try with_reducible rfl
            try simp only [Act.put]
            try simp only [List.setIfInBounds_toArray, List.set_cons_zero, List.set_cons_succ]
            refine reg_take 14 ?_ ?_ ?_ (by kernel_rfl) (by kernel_rfl) (by kernel_rfl) (fun _ _ _ h => h) ?_ ?_ (by assumption) ?_
            rotate_left 2
            · simp only [List.getElem?_toArray, List.getElem?_cons_succ, List.getElem?_cons_zero]; exact rfl
            · rfl
            · intro w hSw; (try dsimp only at hSw); go_simp; try with_reducible rfl
            try simp only [Act.put]
            try simp only [List.setIfInBounds_toArray, List.set_cons_zero, List.set_cons_succ]
            refine reg_take 15 ?_ ?_ ?_ (by kernel_rfl) (by kernel_rfl) (by kernel_rfl) (fun _ _ _ h => h) ?_ ?_ (by assumption) ?_
            rotate_left 2
            · simp only [List.getElem?_toArray, List.getElem?_cons_succ, List.getElem?_cons_zero]; exact rfl
            · rfl
            · intro w hSw; (try dsimp only at hSw); go_simp; try with_reducible rfl
            try simp only [Act.put]
            try simp only [List.setIfInBounds_toArray, List.set_cons_zero, List.set_cons_succ]
            refine reg_take 16 ?_ ?_ ?_ (by kernel_rfl) (by kernel_rfl) (by kernel_rfl) (fun _ _ _ h => h) ?_ ?_ (by assumption) ?_
            rotate_left 2
            · simp only [List.getElem?_toArray, List.getElem?_cons_succ, List.getElem?_cons_zero]; exact rfl
            · rfl
            · intro w hSw; (try dsimp only at hSw); go_simp; try with_reducible rfl
            try simp only [Act.put]
            try simp only [List.setIfInBounds_toArray, List.set_cons_zero, List.set_cons_succ]
            refine reg_take 17 ?_ ?_ ?_ (by kernel_rfl) (by kernel_rfl) (by kernel_rfl) (fun _ _ _ h => h) ?_ ?_ (by assumption) ?_
            rotate_left 2
            · simp only [List.getElem?_toArray, List.getElem?_cons_succ, List.getElem?_cons_zero]; exact rfl
            · rfl
            · intro w hSw; (try dsimp only at hSw); go_simp; try with_reducible rfl
            try simp only [Act.put]
            try simp only [List.setIfInBounds_toArray, List.set_cons_zero, List.set_cons_succ]
            refine reg_grab (fun WWx ax hWW hAA => ?_)
            have LEAF : ∀ (g18 g19 g20 : Nat) (Wx : World), Below W.drew.heap.size W.drew Wx → W.drew.heap.size ≤ g18 → W.drew.heap.size ≤ g19 → W.drew.heap.size ≤ g20 → g18 ≠ g19 → g18 ≠ g20 → g19 ≠ g20 → Box Wx g18 [.int .i64 0, .int .i64 0] → Box Wx g19 [.int .i64 0, .int .i64 0] → Box Wx g20 [.int .i64 0, .int .i64 0] → WWx 3 #[true, true, true, true, true, true, true, true, true, true, true, true, true, true, true, true, true, true, true, true, true, false, false, false] (((ax.put (some 12) (.pointer (some ⟨g18, 0, none⟩))).put (some 13) (.pointer (some ⟨g19, 0, none⟩))).put (some 14) (.pointer (some ⟨g20, 0, none⟩))) Wx := by
              intro g18 g19 g20 Wx hbx hlg18 hlg19 hlg20 hng18g19 hng18g20 hng19g20 pzg18 pzg19 pzg20
              have hHeld := CD.out _ hbx
              rw [hWW, hAA]
              try simp only [Act.put]
              try simp only [List.setIfInBounds_toArray, List.set_cons_zero, List.set_cons_succ]
              refine reg_call 21 ?_ (by kernel_rfl) ?_ (fun K hK => ?_)
              rotate_left 1
              · simp only [List.getElem?_toArray, List.getElem?_cons_succ, List.getElem?_cons_zero]; exact rfl
              obtain ⟨x1, hx1⟩ : ∃ x, setAll Wx g18 0 [.int .i64 aa0, .int .i64 a1] = x := ⟨_, rfl⟩
              have u18 : Box x1 g18 [.int .i64 aa0, .int .i64 a1] := by rw [← hx1]; exact pzg18.setAll _ rfl
              have u19 : Box x1 g19 [.int .i64 0, .int .i64 0] := by rw [← hx1]; exact pzg19.farAll (fun e => hng18g19 e.symm) _
              have u20 : Box x1 g20 [.int .i64 0, .int .i64 0] := by rw [← hx1]; exact pzg20.farAll (fun e => hng18g20 e.symm) _
              have hbx1 : Below W.drew.heap.size W.drew x1 := by rw [← hx1]; exact below_setAll hbx hlg18 _
              refine wanted_go rfl ?_
              refine wp_store_box _ _ _ rfl [.int .i64 aa0, .int .i64 a1] pzg18 rfl rfl (by kernel_rfl) (by simp) rfl hx1 ?_
              refine hK.out _ _ (CD.out _ hbx1) (fun hHeld => ?_)
              clear hK K
              try simp only [Act.put]
              try simp only [List.setIfInBounds_toArray, List.set_cons_zero, List.set_cons_succ]
              refine reg_call 22 ?_ (by kernel_rfl) ?_ (fun K hK => ?_)
              rotate_left 1
              · simp only [List.getElem?_toArray, List.getElem?_cons_succ, List.getElem?_cons_zero]; exact rfl
              obtain ⟨x2, hx2⟩ : ∃ x, setAll x1 g19 0 [.int .i64 b0, .int .i64 b1] = x := ⟨_, rfl⟩
              have t19 : Box x2 g19 [.int .i64 b0, .int .i64 b1] := by rw [← hx2]; exact u19.setAll _ rfl
              have t18 : Box x2 g18 [.int .i64 aa0, .int .i64 a1] := by rw [← hx2]; exact u18.farAll hng18g19 _
              have t20 : Box x2 g20 [.int .i64 0, .int .i64 0] := by rw [← hx2]; exact u20.farAll (fun e => hng19g20 e.symm) _
              have hbx2 : Below W.drew.heap.size W.drew x2 := by rw [← hx2]; exact below_setAll hbx1 hlg19 _
              refine wanted_go rfl ?_
              refine wp_store_box _ _ _ rfl [.int .i64 b0, .int .i64 b1] u19 rfl rfl (by kernel_rfl) (by simp) rfl hx2 ?_
              refine hK.out _ _ (CD.out _ hbx2) (fun hHeld => ?_)
              clear hK K
              try simp only [Act.put]
              try simp only [List.setIfInBounds_toArray, List.set_cons_zero, List.set_cons_succ]
              refine reg_call 23 ?_ (by kernel_rfl) ?_ (fun K hK => ?_)
              rotate_left 1
              · simp only [List.getElem?_toArray, List.getElem?_cons_succ, List.getElem?_cons_zero]; exact rfl
              obtain ⟨x3, hx3⟩ : ∃ x, setAll x2 g20 0 [.int .i64 c0, .int .i64 c1] = x := ⟨_, rfl⟩
              have s20 : Box x3 g20 [.int .i64 c0, .int .i64 c1] := by rw [← hx3]; exact t20.setAll _ rfl
              have s18 : Box x3 g18 [.int .i64 aa0, .int .i64 a1] := by rw [← hx3]; exact t18.farAll hng18g20 _
              have s19 : Box x3 g19 [.int .i64 b0, .int .i64 b1] := by rw [← hx3]; exact t19.farAll hng19g20 _
              have hbx3 : Below W.drew.heap.size W.drew x3 := by rw [← hx3]; exact below_setAll hbx2 hlg20 _
              refine wanted_go rfl ?_
              refine wp_store_box _ _ _ rfl [.int .i64 c0, .int .i64 c1] t20 rfl rfl (by kernel_rfl) (by simp) rfl hx3 ?_
              refine hK.out _ _ (CD.out _ hbx3) (fun hHeld => ?_)
              clear hK K
              try simp only [Act.put]
              try simp only [List.setIfInBounds_toArray, List.set_cons_zero, List.set_cons_succ]
              refine wpAnyH_done (by kernel_rfl) ?_ _
              refine OnlyN.normal ?_
              have hx_0 : Below W.heap.size W x3 := ((Below.refl W.heap.size W).drew').trans hbx3
              have hx_1 := Below.refl x3.heap.size x3
              have S18 := Lib.hid (fun (w' : World) (hb : Below x3.heap.size x3 w') => s18.below hb)
              have S19 := Lib.hid (fun (w' : World) (hb : Below x3.heap.size x3 w') => s19.below hb)
              have S20 := Lib.hid (fun (w' : World) (hb : Below x3.heap.size x3 w') => s20.below hb)
              have PPX := Lib.hid (fun (w' : World) (hb : Below x3.heap.size x3 w') => PPW.out.below (hx_0.trans (hb.mono hx_0.size)))
              have PMX := Lib.hid (fun (w' : World) (hb : Below x3.heap.size x3 w') => PMW.out.below (hx_0.trans (hb.mono hx_0.size)))
              have HX0 := Lib.hid hx_0
              have HOX := Lib.hid (fun (w' : World) (hb : Below x3.heap.size x3 w') => HX0.out.trans (hb.mono HX0.out.size))
              have HO0 := Lib.hid (fun (w' : World) (hb : Below x3.heap.size x3 w') => hho (p0, p1) hv w' (HOX.out w' hb) HIP.out HV0.out)
              have HO1 := Lib.hid (fun (w' : World) (hb : Below x3.heap.size x3 w') => hho (aa0, a1) true w' (HOX.out w' hb) HKA.out HV1.out)
              have HO2 := Lib.hid (fun (w' : World) (hb : Below x3.heap.size x3 w') => hho (b0, b1) true w' (HOX.out w' hb) HKB.out HV2.out)
              have HO3 := Lib.hid (fun (w' : World) (hb : Below x3.heap.size x3 w') => hho (c0, c1) true w' (HOX.out w' hb) HKC.out HV3.out)
              have hx_0 := hx_1
              clear hx_1 hbx hbx1 hbx2 hbx3 hlg18 hlg19 hlg20 hng18g19 hng18g20 hng19g20 pzg18 pzg19 pzg20 u18 u19 u20 t18 t19 t20 s18 s19 s20 hx1 hx2 hx3 hHeld hWW hAA
              by_cases h2 : 0 ≤ o2
              · have d2 : decide (0 ≤ o2) = true := decide_eq_true h2
                by_cases h0 : 0 ≤ o0
                · have d0 : decide (0 ≤ o0) = true := decide_eq_true h0
                  obtain ⟨q1, d1⟩ : ∃ q, decide (0 ≤ o1) = q := ⟨_, rfl⟩
                  have hq : hv = q1 := by rw [← HVV.out, d2, d0, d1]; rfl
                  subst hq
                  have D1 := Lib.hid d1
                  cases hv with
                  | true =>
                    have d1 := D1.out
                    obtain ⟨y180, y181, -⟩ := (S18.out _ hx_0).open2
                    obtain ⟨y190, y191, -⟩ := (S19.out _ hx_0).open2
                    obtain ⟨y200, y201, -⟩ := (S20.out _ hx_0).open2
                    obtain ⟨yp0, yp1, -⟩ := (PPX.out _ hx_0).open2
                    have ym := (PMX.out _ hx_0).c0
                    gi_wp2_with fail
                    refine ⟨trivial, (CallsIn.inRound l (callsIn_wide.2 (OR0.out _))).mono ?_⟩
                    rintro e wo0 ⟨rfl, hb_wo0⟩
                    have ho0 := hx_0.trans (hb_wo0.mono hx_0.size)
                    clear hb_wo0
                    clear y180 y181 y190 y191 y200 y201 yp0 yp1 ym
                    obtain ⟨y180, y181, -⟩ := (S18.out _ ho0).open2
                    obtain ⟨y190, y191, -⟩ := (S19.out _ ho0).open2
                    obtain ⟨y200, y201, -⟩ := (S20.out _ ho0).open2
                    obtain ⟨yp0, yp1, -⟩ := (PPX.out _ ho0).open2
                    have ym := (PMX.out _ ho0).c0
                    gi_wp2_with fail
                    refine ⟨trivial, (CallsIn.inRound l (callsIn_wide.2 (OR1.out _))).mono ?_⟩
                    rintro e wo1 ⟨rfl, hb_wo1⟩
                    have ho1 := ho0.trans (hb_wo1.mono ho0.size)
                    clear hb_wo1
                    clear y180 y181 y190 y191 y200 y201 yp0 yp1 ym
                    obtain ⟨y180, y181, -⟩ := (S18.out _ ho1).open2
                    obtain ⟨y190, y191, -⟩ := (S19.out _ ho1).open2
                    obtain ⟨y200, y201, -⟩ := (S20.out _ ho1).open2
                    obtain ⟨yp0, yp1, -⟩ := (PPX.out _ ho1).open2
                    have ym := (PMX.out _ ho1).c0
                    gi_wp2_with fail
                    refine ⟨trivial, (CallsIn.inRound l (callsIn_wide.2 (OR2.out _))).mono ?_⟩
                    rintro e wo2 ⟨rfl, hb_wo2⟩
                    have ho2 := ho1.trans (hb_wo2.mono ho1.size)
                    clear hb_wo2
                    clear y180 y181 y190 y191 y200 y201 yp0 yp1 ym
                    obtain ⟨y180, y181, -⟩ := (S18.out _ ho2).open2
                    obtain ⟨y190, y191, -⟩ := (S19.out _ ho2).open2
                    obtain ⟨y200, y201, -⟩ := (S20.out _ ho2).open2
                    obtain ⟨yp0, yp1, -⟩ := (PPX.out _ ho2).open2
                    have ym := (PMX.out _ ho2).c0
                    have hh := HO0.out _ ho2
                    gi_wp2_with fail
                    refine ⟨trivial, (CallsIn.inRound l (callsIn_wide.2 (hh))).mono ?_⟩
                    rintro e wk0 ⟨rfl, hb_wk0⟩
                    have hk0 := ho2.trans (hb_wk0.mono ho2.size)
                    clear hb_wk0
                    clear hh y180 y181 y190 y191 y200 y201 yp0 yp1 ym
                    obtain ⟨y180, y181, -⟩ := (S18.out _ hk0).open2
                    obtain ⟨y190, y191, -⟩ := (S19.out _ hk0).open2
                    obtain ⟨y200, y201, -⟩ := (S20.out _ hk0).open2
                    obtain ⟨yp0, yp1, -⟩ := (PPX.out _ hk0).open2
                    have ym := (PMX.out _ hk0).c0
                    have hh := HO1.out _ hk0
                    gi_wp2_with fail
                    refine ⟨trivial, (CallsIn.inRound l (callsIn_wide.2 (hh))).mono ?_⟩
                    rintro e wk1 ⟨rfl, hb_wk1⟩
                    have hk1 := hk0.trans (hb_wk1.mono hk0.size)
                    clear hb_wk1
                    clear hh y180 y181 y190 y191 y200 y201 yp0 yp1 ym
                    obtain ⟨y180, y181, -⟩ := (S18.out _ hk1).open2
                    obtain ⟨y190, y191, -⟩ := (S19.out _ hk1).open2
                    obtain ⟨y200, y201, -⟩ := (S20.out _ hk1).open2
                    obtain ⟨yp0, yp1, -⟩ := (PPX.out _ hk1).open2
                    have ym := (PMX.out _ hk1).c0
                    have hh := HO2.out _ hk1
                    gi_wp2_with fail
                    refine ⟨trivial, (CallsIn.inRound l (callsIn_wide.2 (hh))).mono ?_⟩
                    rintro e wk2 ⟨rfl, hb_wk2⟩
                    have hk2 := hk1.trans (hb_wk2.mono hk1.size)
                    clear hb_wk2
                    clear hh y180 y181 y190 y191 y200 y201 yp0 yp1 ym
                    obtain ⟨y180, y181, -⟩ := (S18.out _ hk2).open2
                    obtain ⟨y190, y191, -⟩ := (S19.out _ hk2).open2
                    obtain ⟨y200, y201, -⟩ := (S20.out _ hk2).open2
                    obtain ⟨yp0, yp1, -⟩ := (PPX.out _ hk2).open2
                    have ym := (PMX.out _ hk2).c0
                    have hh := HO3.out _ hk2
                    gi_wp2_with fail
                    refine ⟨trivial, (CallsIn.inRound l (callsIn_wide.2 (hh))).mono ?_⟩
                    rintro e wk3 ⟨rfl, hb_wk3⟩
                    have hk3 := hk2.trans (hb_wk3.mono hk2.size)
                    clear hb_wk3
                    clear hh y180 y181 y190 y191 y200 y201 yp0 yp1 ym
                    have hb_y := HOX.out _ hk3
                    gi_wp2
                    refine ⟨(keepsOthers_below hb_y).from _, KeepB.of_below hb_y (fun b hb => by have := hltW b hb; omega), HKBW.out.trans (KeepB.of_below hb_y (fun b hb => by have := hltW b hb; omega)), HBW.out.trans (hb_y.mono HBW.out.size)⟩
                  | false =>
                    have d1 := D1.out
                    obtain ⟨y180, y181, -⟩ := (S18.out _ hx_0).open2
                    obtain ⟨y190, y191, -⟩ := (S19.out _ hx_0).open2
                    obtain ⟨y200, y201, -⟩ := (S20.out _ hx_0).open2
                    obtain ⟨yp0, yp1, -⟩ := (PPX.out _ hx_0).open2
                    have ym := (PMX.out _ hx_0).c0
                    gi_wp2_with fail
                    refine ⟨trivial, (CallsIn.inRound l (callsIn_wide.2 (OR0.out _))).mono ?_⟩
                    rintro e wo0 ⟨rfl, hb_wo0⟩
                    have ho0 := hx_0.trans (hb_wo0.mono hx_0.size)
                    clear hb_wo0
                    clear y180 y181 y190 y191 y200 y201 yp0 yp1 ym
                    obtain ⟨y180, y181, -⟩ := (S18.out _ ho0).open2
                    obtain ⟨y190, y191, -⟩ := (S19.out _ ho0).open2
                    obtain ⟨y200, y201, -⟩ := (S20.out _ ho0).open2
                    obtain ⟨yp0, yp1, -⟩ := (PPX.out _ ho0).open2
                    have ym := (PMX.out _ ho0).c0
                    gi_wp2_with fail
                    refine ⟨trivial, (CallsIn.inRound l (callsIn_wide.2 (OR1.out _))).mono ?_⟩
                    rintro e wo1 ⟨rfl, hb_wo1⟩
                    have ho1 := ho0.trans (hb_wo1.mono ho0.size)
                    clear hb_wo1
                    clear y180 y181 y190 y191 y200 y201 yp0 yp1 ym
                    obtain ⟨y180, y181, -⟩ := (S18.out _ ho1).open2
                    obtain ⟨y190, y191, -⟩ := (S19.out _ ho1).open2
                    obtain ⟨y200, y201, -⟩ := (S20.out _ ho1).open2
                    obtain ⟨yp0, yp1, -⟩ := (PPX.out _ ho1).open2
                    have ym := (PMX.out _ ho1).c0
                    gi_wp2_with fail
                    refine ⟨trivial, (CallsIn.inRound l (callsIn_wide.2 (OR2.out _))).mono ?_⟩
                    rintro e wo2 ⟨rfl, hb_wo2⟩
                    have ho2 := ho1.trans (hb_wo2.mono ho1.size)
                    clear hb_wo2
                    clear y180 y181 y190 y191 y200 y201 yp0 yp1 ym
                    obtain ⟨y180, y181, -⟩ := (S18.out _ ho2).open2
                    obtain ⟨y190, y191, -⟩ := (S19.out _ ho2).open2
                    obtain ⟨y200, y201, -⟩ := (S20.out _ ho2).open2
                    obtain ⟨yp0, yp1, -⟩ := (PPX.out _ ho2).open2
                    have ym := (PMX.out _ ho2).c0
                    have hh := HO0.out _ ho2
                    gi_wp2_with fail
                    refine ⟨trivial, (CallsIn.inRound l (callsIn_wide.2 (hh))).mono ?_⟩
                    rintro e wk0 ⟨rfl, hb_wk0⟩
                    have hk0 := ho2.trans (hb_wk0.mono ho2.size)
                    clear hb_wk0
                    clear hh y180 y181 y190 y191 y200 y201 yp0 yp1 ym
                    obtain ⟨y180, y181, -⟩ := (S18.out _ hk0).open2
                    obtain ⟨y190, y191, -⟩ := (S19.out _ hk0).open2
                    obtain ⟨y200, y201, -⟩ := (S20.out _ hk0).open2
                    obtain ⟨yp0, yp1, -⟩ := (PPX.out _ hk0).open2
                    have ym := (PMX.out _ hk0).c0
                    have hh := HO1.out _ hk0
                    gi_wp2_with fail
                    refine ⟨trivial, (CallsIn.inRound l (callsIn_wide.2 (hh))).mono ?_⟩
                    rintro e wk1 ⟨rfl, hb_wk1⟩
                    have hk1 := hk0.trans (hb_wk1.mono hk0.size)
                    clear hb_wk1
                    clear hh y180 y181 y190 y191 y200 y201 yp0 yp1 ym
                    obtain ⟨y180, y181, -⟩ := (S18.out _ hk1).open2
                    obtain ⟨y190, y191, -⟩ := (S19.out _ hk1).open2
                    obtain ⟨y200, y201, -⟩ := (S20.out _ hk1).open2
                    obtain ⟨yp0, yp1, -⟩ := (PPX.out _ hk1).open2
                    have ym := (PMX.out _ hk1).c0
                    have hh := HO2.out _ hk1
                    gi_wp2_with fail
                    refine ⟨trivial, (CallsIn.inRound l (callsIn_wide.2 (hh))).mono ?_⟩
                    rintro e wk2 ⟨rfl, hb_wk2⟩
                    have hk2 := hk1.trans (hb_wk2.mono hk1.size)
                    clear hb_wk2
                    clear hh y180 y181 y190 y191 y200 y201 yp0 yp1 ym
                    obtain ⟨y180, y181, -⟩ := (S18.out _ hk2).open2
                    obtain ⟨y190, y191, -⟩ := (S19.out _ hk2).open2
                    obtain ⟨y200, y201, -⟩ := (S20.out _ hk2).open2
                    obtain ⟨yp0, yp1, -⟩ := (PPX.out _ hk2).open2
                    have ym := (PMX.out _ hk2).c0
                    have hh := HO3.out _ hk2
                    gi_wp2_with fail
                    refine ⟨trivial, (CallsIn.inRound l (callsIn_wide.2 (hh))).mono ?_⟩
                    rintro e wk3 ⟨rfl, hb_wk3⟩
                    have hk3 := hk2.trans (hb_wk3.mono hk2.size)
                    clear hb_wk3
                    clear hh y180 y181 y190 y191 y200 y201 yp0 yp1 ym
                    have hb_y := HOX.out _ hk3
                    gi_wp2
                    refine ⟨(keepsOthers_below hb_y).from _, KeepB.of_below hb_y (fun b hb => by have := hltW b hb; omega), HKBW.out.trans (KeepB.of_below hb_y (fun b hb => by have := hltW b hb; omega)), HBW.out.trans (hb_y.mono HBW.out.size)⟩
                · have d0 : decide (0 ≤ o0) = false := decide_eq_false h0
                  have hq : hv = false := by rw [← HVV.out, d2, d0]; rfl
                  subst hq
                  obtain ⟨y180, y181, -⟩ := (S18.out _ hx_0).open2
                  obtain ⟨y190, y191, -⟩ := (S19.out _ hx_0).open2
                  obtain ⟨y200, y201, -⟩ := (S20.out _ hx_0).open2
                  obtain ⟨yp0, yp1, -⟩ := (PPX.out _ hx_0).open2
                  have ym := (PMX.out _ hx_0).c0
                  gi_wp2_with fail
                  refine ⟨trivial, (CallsIn.inRound l (callsIn_wide.2 (OR0.out _))).mono ?_⟩
                  rintro e wo0 ⟨rfl, hb_wo0⟩
                  have ho0 := hx_0.trans (hb_wo0.mono hx_0.size)
                  clear hb_wo0
                  clear y180 y181 y190 y191 y200 y201 yp0 yp1 ym
                  obtain ⟨y180, y181, -⟩ := (S18.out _ ho0).open2
                  obtain ⟨y190, y191, -⟩ := (S19.out _ ho0).open2
                  obtain ⟨y200, y201, -⟩ := (S20.out _ ho0).open2
                  obtain ⟨yp0, yp1, -⟩ := (PPX.out _ ho0).open2
                  have ym := (PMX.out _ ho0).c0
                  gi_wp2_with fail
                  refine ⟨trivial, (CallsIn.inRound l (callsIn_wide.2 (OR1.out _))).mono ?_⟩
                  rintro e wo1 ⟨rfl, hb_wo1⟩
                  have ho1 := ho0.trans (hb_wo1.mono ho0.size)
                  clear hb_wo1
                  clear y180 y181 y190 y191 y200 y201 yp0 yp1 ym
                  gi_wp2_with fail
                  refine ⟨trivial, ?_⟩
                  go_at_K
                  obtain ⟨y180, y181, -⟩ := (S18.out _ ho1).open2
                  obtain ⟨y190, y191, -⟩ := (S19.out _ ho1).open2
                  obtain ⟨y200, y201, -⟩ := (S20.out _ ho1).open2
                  obtain ⟨yp0, yp1, -⟩ := (PPX.out _ ho1).open2
                  have ym := (PMX.out _ ho1).c0
                  have hh := HO0.out _ ho1
                  gi_wp2_with fail
                  refine ⟨trivial, (CallsIn.inRound l (callsIn_wide.2 (hh))).mono ?_⟩
                  rintro e wk0 ⟨rfl, hb_wk0⟩
                  have hk0 := ho1.trans (hb_wk0.mono ho1.size)
                  clear hb_wk0
                  clear hh y180 y181 y190 y191 y200 y201 yp0 yp1 ym
                  obtain ⟨y180, y181, -⟩ := (S18.out _ hk0).open2
                  obtain ⟨y190, y191, -⟩ := (S19.out _ hk0).open2
                  obtain ⟨y200, y201, -⟩ := (S20.out _ hk0).open2
                  obtain ⟨yp0, yp1, -⟩ := (PPX.out _ hk0).open2
                  have ym := (PMX.out _ hk0).c0
                  have hh := HO1.out _ hk0
                  gi_wp2_with fail
                  refine ⟨trivial, (CallsIn.inRound l (callsIn_wide.2 (hh))).mono ?_⟩
                  rintro e wk1 ⟨rfl, hb_wk1⟩
                  have hk1 := hk0.trans (hb_wk1.mono hk0.size)
                  clear hb_wk1
                  clear hh y180 y181 y190 y191 y200 y201 yp0 yp1 ym
                  obtain ⟨y180, y181, -⟩ := (S18.out _ hk1).open2
                  obtain ⟨y190, y191, -⟩ := (S19.out _ hk1).open2
                  obtain ⟨y200, y201, -⟩ := (S20.out _ hk1).open2
                  obtain ⟨yp0, yp1, -⟩ := (PPX.out _ hk1).open2
                  have ym := (PMX.out _ hk1).c0
                  have hh := HO2.out _ hk1
                  gi_wp2_with fail
                  refine ⟨trivial, (CallsIn.inRound l (callsIn_wide.2 (hh))).mono ?_⟩
                  rintro e wk2 ⟨rfl, hb_wk2⟩
                  have hk2 := hk1.trans (hb_wk2.mono hk1.size)
                  clear hb_wk2
                  clear hh y180 y181 y190 y191 y200 y201 yp0 yp1 ym
                  obtain ⟨y180, y181, -⟩ := (S18.out _ hk2).open2
                  obtain ⟨y190, y191, -⟩ := (S19.out _ hk2).open2
                  obtain ⟨y200, y201, -⟩ := (S20.out _ hk2).open2
                  obtain ⟨yp0, yp1, -⟩ := (PPX.out _ hk2).open2
                  have ym := (PMX.out _ hk2).c0
                  have hh := HO3.out _ hk2
                  gi_wp2_with fail
                  refine ⟨trivial, (CallsIn.inRound l (callsIn_wide.2 (hh))).mono ?_⟩
                  rintro e wk3 ⟨rfl, hb_wk3⟩
                  have hk3 := hk2.trans (hb_wk3.mono hk2.size)
                  clear hb_wk3
                  clear hh y180 y181 y190 y191 y200 y201 yp0 yp1 ym
                  have hb_y := HOX.out _ hk3
                  gi_wp2
                  refine ⟨(keepsOthers_below hb_y).from _, KeepB.of_below hb_y (fun b hb => by have := hltW b hb; omega), HKBW.out.trans (KeepB.of_below hb_y (fun b hb => by have := hltW b hb; omega)), HBW.out.trans (hb_y.mono HBW.out.size)⟩
              · have d2 : decide (0 ≤ o2) = false := decide_eq_false h2
                have hq : hv = false := by rw [← HVV.out, d2]; rfl
                subst hq
                obtain ⟨y180, y181, -⟩ := (S18.out _ hx_0).open2
                obtain ⟨y190, y191, -⟩ := (S19.out _ hx_0).open2
                obtain ⟨y200, y201, -⟩ := (S20.out _ hx_0).open2
                obtain ⟨yp0, yp1, -⟩ := (PPX.out _ hx_0).open2
                have ym := (PMX.out _ hx_0).c0
                gi_wp2_with fail
                refine ⟨trivial, (CallsIn.inRound l (callsIn_wide.2 (OR0.out _))).mono ?_⟩
                rintro e wo0 ⟨rfl, hb_wo0⟩
                have ho0 := hx_0.trans (hb_wo0.mono hx_0.size)
                clear hb_wo0
                clear y180 y181 y190 y191 y200 y201 yp0 yp1 ym
                gi_wp2_with fail
                refine ⟨trivial, ?_⟩
                go_at_K
                gi_wp2_with fail
                refine ⟨trivial, ?_⟩
                go_at_K
                obtain ⟨y180, y181, -⟩ := (S18.out _ ho0).open2
                obtain ⟨y190, y191, -⟩ := (S19.out _ ho0).open2
                obtain ⟨y200, y201, -⟩ := (S20.out _ ho0).open2
                obtain ⟨yp0, yp1, -⟩ := (PPX.out _ ho0).open2
                have ym := (PMX.out _ ho0).c0
                have hh := HO0.out _ ho0
                gi_wp2_with fail
                refine ⟨trivial, (CallsIn.inRound l (callsIn_wide.2 (hh))).mono ?_⟩
                rintro e wk0 ⟨rfl, hb_wk0⟩
                have hk0 := ho0.trans (hb_wk0.mono ho0.size)
                clear hb_wk0
                clear hh y180 y181 y190 y191 y200 y201 yp0 yp1 ym
                obtain ⟨y180, y181, -⟩ := (S18.out _ hk0).open2
                obtain ⟨y190, y191, -⟩ := (S19.out _ hk0).open2
                obtain ⟨y200, y201, -⟩ := (S20.out _ hk0).open2
                obtain ⟨yp0, yp1, -⟩ := (PPX.out _ hk0).open2
                have ym := (PMX.out _ hk0).c0
                have hh := HO1.out _ hk0
                gi_wp2_with fail
                refine ⟨trivial, (CallsIn.inRound l (callsIn_wide.2 (hh))).mono ?_⟩
                rintro e wk1 ⟨rfl, hb_wk1⟩
                have hk1 := hk0.trans (hb_wk1.mono hk0.size)
                clear hb_wk1
                clear hh y180 y181 y190 y191 y200 y201 yp0 yp1 ym
                obtain ⟨y180, y181, -⟩ := (S18.out _ hk1).open2
                obtain ⟨y190, y191, -⟩ := (S19.out _ hk1).open2
                obtain ⟨y200, y201, -⟩ := (S20.out _ hk1).open2
                obtain ⟨yp0, yp1, -⟩ := (PPX.out _ hk1).open2
                have ym := (PMX.out _ hk1).c0
                have hh := HO2.out _ hk1
                gi_wp2_with fail
                refine ⟨trivial, (CallsIn.inRound l (callsIn_wide.2 (hh))).mono ?_⟩
                rintro e wk2 ⟨rfl, hb_wk2⟩
                have hk2 := hk1.trans (hb_wk2.mono hk1.size)
                clear hb_wk2
                clear hh y180 y181 y190 y191 y200 y201 yp0 yp1 ym
                obtain ⟨y180, y181, -⟩ := (S18.out _ hk2).open2
                obtain ⟨y190, y191, -⟩ := (S19.out _ hk2).open2
                obtain ⟨y200, y201, -⟩ := (S20.out _ hk2).open2
                obtain ⟨yp0, yp1, -⟩ := (PPX.out _ hk2).open2
                have ym := (PMX.out _ hk2).c0
                have hh := HO3.out _ hk2
                gi_wp2_with fail
                refine ⟨trivial, (CallsIn.inRound l (callsIn_wide.2 (hh))).mono ?_⟩
                rintro e wk3 ⟨rfl, hb_wk3⟩
                have hk3 := hk2.trans (hb_wk3.mono hk2.size)
                clear hb_wk3
                clear hh y180 y181 y190 y191 y200 y201 yp0 yp1 ym
                have hb_y := HOX.out _ hk3
                gi_wp2
                refine ⟨(keepsOthers_below hb_y).from _, KeepB.of_below hb_y (fun b hb => by have := hltW b hb; omega), HKBW.out.trans (KeepB.of_below hb_y (fun b hb => by have := hltW b hb; omega)), HBW.out.trans (hb_y.mono HBW.out.size)⟩
            rw [hWW, hAA]
            try simp only [Act.put]
            try simp only [List.setIfInBounds_toArray, List.set_cons_zero, List.set_cons_succ]
            refine reg_all3 18 19 20 _ _ _ (by kernel_rfl) rfl rfl rfl (fun K hK => ?_) (fun K hK => ?_) (fun K hK => ?_) 
            · obtain ⟨wzq18, hwwzq18, pzwzq18, hbwzq18, hswzq18⟩ := new_box W.drew _ rfl [.int .i64 0, .int .i64 0] 26
              go_simp
              try rw [hwwzq18]
              refine hK.out _ _ (CD.out _ hbwzq18) (fun hHeld => ?_)
              clear hK K
              try simp only [Act.put]
              try simp only [List.setIfInBounds_toArray, List.set_cons_zero, List.set_cons_succ]
              refine reg_all2 19 20 _ _ (by kernel_rfl) rfl rfl (fun K hK => ?_) (fun K hK => ?_) 
              · obtain ⟨wz18q19, hwwz18q19, pzwz18q19, hbwz18q19, hswz18q19⟩ := new_box wzq18 _ hswzq18 [.int .i64 0, .int .i64 0] 26
                go_simp
                try rw [hwwz18q19]
                refine hK.out _ _ (CD.out _ (hbwzq18.trans (hbwz18q19.mono (by omega)))) (fun hHeld => ?_)
                clear hK K
                try simp only [Act.put]
                try simp only [List.setIfInBounds_toArray, List.set_cons_zero, List.set_cons_succ]
                refine reg_all1 20 _ (by kernel_rfl) rfl (fun K hK => ?_) 
                · obtain ⟨wz1819q20, hwwz1819q20, pzwz1819q20, hbwz1819q20, hswz1819q20⟩ := new_box wz18q19 _ hswz18q19 [.int .i64 0, .int .i64 0] 26
                  go_simp
                  try rw [hwwz1819q20]
                  refine hK.out _ _ (CD.out _ ((hbwzq18.trans (hbwz18q19.mono (by omega))).trans (hbwz1819q20.mono (by omega)))) (fun hHeld => ?_)
                  clear hK K
                  try simp only [Act.put]
                  try simp only [List.setIfInBounds_toArray, List.set_cons_zero, List.set_cons_succ]
                  have hL := LEAF (W.drew.heap.size) (W.drew.heap.size + 1) (W.drew.heap.size + 1 + 1) _ ((hbwzq18.trans (hbwz18q19.mono (by omega))).trans (hbwz1819q20.mono (by omega))) (by omega) (by omega) (by omega) (by omega) (by omega) (by omega) ((pzwzq18.below (hbwz18q19.mono (by omega))).below (hbwz1819q20.mono (by omega))) (pzwz18q19.below (hbwz1819q20.mono (by omega))) pzwz1819q20
                  rw [hWW, hAA] at hL
                  try simp only [Act.put] at hL
                  try simp only [List.setIfInBounds_toArray, List.set_cons_zero, List.set_cons_succ] at hL
                  exact hL
              · obtain ⟨wz18q20, hwwz18q20, pzwz18q20, hbwz18q20, hswz18q20⟩ := new_box wzq18 _ hswzq18 [.int .i64 0, .int .i64 0] 26
                go_simp
                try rw [hwwz18q20]
                refine hK.out _ _ (CD.out _ (hbwzq18.trans (hbwz18q20.mono (by omega)))) (fun hHeld => ?_)
                clear hK K
                try simp only [Act.put]
                try simp only [List.setIfInBounds_toArray, List.set_cons_zero, List.set_cons_succ]
                refine reg_all1 19 _ (by kernel_rfl) rfl (fun K hK => ?_) 
                · obtain ⟨wz1820q19, hwwz1820q19, pzwz1820q19, hbwz1820q19, hswz1820q19⟩ := new_box wz18q20 _ hswz18q20 [.int .i64 0, .int .i64 0] 26
                  go_simp
                  try rw [hwwz1820q19]
                  refine hK.out _ _ (CD.out _ ((hbwzq18.trans (hbwz18q20.mono (by omega))).trans (hbwz1820q19.mono (by omega)))) (fun hHeld => ?_)
                  clear hK K
                  try simp only [Act.put]
                  try simp only [List.setIfInBounds_toArray, List.set_cons_zero, List.set_cons_succ]
                  have hL := LEAF (W.drew.heap.size) (W.drew.heap.size + 1 + 1) (W.drew.heap.size + 1) _ ((hbwzq18.trans (hbwz18q20.mono (by omega))).trans (hbwz1820q19.mono (by omega))) (by omega) (by omega) (by omega) (by omega) (by omega) (by omega) ((pzwzq18.below (hbwz18q20.mono (by omega))).below (hbwz1820q19.mono (by omega))) pzwz1820q19 (pzwz18q20.below (hbwz1820q19.mono (by omega)))
                  rw [hWW, hAA] at hL
                  try simp only [Act.put] at hL
                  try simp only [List.setIfInBounds_toArray, List.set_cons_zero, List.set_cons_succ] at hL
                  exact hL
            · obtain ⟨wzq19, hwwzq19, pzwzq19, hbwzq19, hswzq19⟩ := new_box W.drew _ rfl [.int .i64 0, .int .i64 0] 26
              go_simp
              try rw [hwwzq19]
              refine hK.out _ _ (CD.out _ hbwzq19) (fun hHeld => ?_)
              clear hK K
              try simp only [Act.put]
              try simp only [List.setIfInBounds_toArray, List.set_cons_zero, List.set_cons_succ]
              refine reg_all2 18 20 _ _ (by kernel_rfl) rfl rfl (fun K hK => ?_) (fun K hK => ?_) 
              · obtain ⟨wz19q18, hwwz19q18, pzwz19q18, hbwz19q18, hswz19q18⟩ := new_box wzq19 _ hswzq19 [.int .i64 0, .int .i64 0] 26
                go_simp
                try rw [hwwz19q18]
                refine hK.out _ _ (CD.out _ (hbwzq19.trans (hbwz19q18.mono (by omega)))) (fun hHeld => ?_)
                clear hK K
                try simp only [Act.put]
                try simp only [List.setIfInBounds_toArray, List.set_cons_zero, List.set_cons_succ]
                refine reg_all1 20 _ (by kernel_rfl) rfl (fun K hK => ?_) 
                · obtain ⟨wz1918q20, hwwz1918q20, pzwz1918q20, hbwz1918q20, hswz1918q20⟩ := new_box wz19q18 _ hswz19q18 [.int .i64 0, .int .i64 0] 26
                  go_simp
                  try rw [hwwz1918q20]
                  refine hK.out _ _ (CD.out _ ((hbwzq19.trans (hbwz19q18.mono (by omega))).trans (hbwz1918q20.mono (by omega)))) (fun hHeld => ?_)
                  clear hK K
                  try simp only [Act.put]
                  try simp only [List.setIfInBounds_toArray, List.set_cons_zero, List.set_cons_succ]
                  have hL := LEAF (W.drew.heap.size + 1) (W.drew.heap.size) (W.drew.heap.size + 1 + 1) _ ((hbwzq19.trans (hbwz19q18.mono (by omega))).trans (hbwz1918q20.mono (by omega))) (by omega) (by omega) (by omega) (by omega) (by omega) (by omega) (pzwz19q18.below (hbwz1918q20.mono (by omega))) ((pzwzq19.below (hbwz19q18.mono (by omega))).below (hbwz1918q20.mono (by omega))) pzwz1918q20
                  rw [hWW, hAA] at hL
                  try simp only [Act.put] at hL
                  try simp only [List.setIfInBounds_toArray, List.set_cons_zero, List.set_cons_succ] at hL
                  exact hL
              · obtain ⟨wz19q20, hwwz19q20, pzwz19q20, hbwz19q20, hswz19q20⟩ := new_box wzq19 _ hswzq19 [.int .i64 0, .int .i64 0] 26
                go_simp
                try rw [hwwz19q20]
                refine hK.out _ _ (CD.out _ (hbwzq19.trans (hbwz19q20.mono (by omega)))) (fun hHeld => ?_)
                clear hK K
                try simp only [Act.put]
                try simp only [List.setIfInBounds_toArray, List.set_cons_zero, List.set_cons_succ]
                refine reg_all1 18 _ (by kernel_rfl) rfl (fun K hK => ?_) 
                · obtain ⟨wz1920q18, hwwz1920q18, pzwz1920q18, hbwz1920q18, hswz1920q18⟩ := new_box wz19q20 _ hswz19q20 [.int .i64 0, .int .i64 0] 26
                  go_simp
                  try rw [hwwz1920q18]
                  refine hK.out _ _ (CD.out _ ((hbwzq19.trans (hbwz19q20.mono (by omega))).trans (hbwz1920q18.mono (by omega)))) (fun hHeld => ?_)
                  clear hK K
                  try simp only [Act.put]
                  try simp only [List.setIfInBounds_toArray, List.set_cons_zero, List.set_cons_succ]
                  have hL := LEAF (W.drew.heap.size + 1 + 1) (W.drew.heap.size) (W.drew.heap.size + 1) _ ((hbwzq19.trans (hbwz19q20.mono (by omega))).trans (hbwz1920q18.mono (by omega))) (by omega) (by omega) (by omega) (by omega) (by omega) (by omega) pzwz1920q18 ((pzwzq19.below (hbwz19q20.mono (by omega))).below (hbwz1920q18.mono (by omega))) (pzwz19q20.below (hbwz1920q18.mono (by omega)))
                  rw [hWW, hAA] at hL
                  try simp only [Act.put] at hL
                  try simp only [List.setIfInBounds_toArray, List.set_cons_zero, List.set_cons_succ] at hL
                  exact hL
            · obtain ⟨wzq20, hwwzq20, pzwzq20, hbwzq20, hswzq20⟩ := new_box W.drew _ rfl [.int .i64 0, .int .i64 0] 26
              go_simp
              try rw [hwwzq20]
              refine hK.out _ _ (CD.out _ hbwzq20) (fun hHeld => ?_)
              clear hK K
              try simp only [Act.put]
              try simp only [List.setIfInBounds_toArray, List.set_cons_zero, List.set_cons_succ]
              refine reg_all2 18 19 _ _ (by kernel_rfl) rfl rfl (fun K hK => ?_) (fun K hK => ?_) 
              · obtain ⟨wz20q18, hwwz20q18, pzwz20q18, hbwz20q18, hswz20q18⟩ := new_box wzq20 _ hswzq20 [.int .i64 0, .int .i64 0] 26
                go_simp
                try rw [hwwz20q18]
                refine hK.out _ _ (CD.out _ (hbwzq20.trans (hbwz20q18.mono (by omega)))) (fun hHeld => ?_)
                clear hK K
                try simp only [Act.put]
                try simp only [List.setIfInBounds_toArray, List.set_cons_zero, List.set_cons_succ]
                refine reg_all1 19 _ (by kernel_rfl) rfl (fun K hK => ?_) 
                · obtain ⟨wz2018q19, hwwz2018q19, pzwz2018q19, hbwz2018q19, hswz2018q19⟩ := new_box wz20q18 _ hswz20q18 [.int .i64 0, .int .i64 0] 26
                  go_simp
                  try rw [hwwz2018q19]
                  refine hK.out _ _ (CD.out _ ((hbwzq20.trans (hbwz20q18.mono (by omega))).trans (hbwz2018q19.mono (by omega)))) (fun hHeld => ?_)
                  clear hK K
                  try simp only [Act.put]
                  try simp only [List.setIfInBounds_toArray, List.set_cons_zero, List.set_cons_succ]
                  have hL := LEAF (W.drew.heap.size + 1) (W.drew.heap.size + 1 + 1) (W.drew.heap.size) _ ((hbwzq20.trans (hbwz20q18.mono (by omega))).trans (hbwz2018q19.mono (by omega))) (by omega) (by omega) (by omega) (by omega) (by omega) (by omega) (pzwz20q18.below (hbwz2018q19.mono (by omega))) pzwz2018q19 ((pzwzq20.below (hbwz20q18.mono (by omega))).below (hbwz2018q19.mono (by omega)))
                  rw [hWW, hAA] at hL
                  try simp only [Act.put] at hL
                  try simp only [List.setIfInBounds_toArray, List.set_cons_zero, List.set_cons_succ] at hL
                  exact hL
              · obtain ⟨wz20q19, hwwz20q19, pzwz20q19, hbwz20q19, hswz20q19⟩ := new_box wzq20 _ hswzq20 [.int .i64 0, .int .i64 0] 26
                go_simp
                try rw [hwwz20q19]
                refine hK.out _ _ (CD.out _ (hbwzq20.trans (hbwz20q19.mono (by omega)))) (fun hHeld => ?_)
                clear hK K
                try simp only [Act.put]
                try simp only [List.setIfInBounds_toArray, List.set_cons_zero, List.set_cons_succ]
                refine reg_all1 18 _ (by kernel_rfl) rfl (fun K hK => ?_) 
                · obtain ⟨wz2019q18, hwwz2019q18, pzwz2019q18, hbwz2019q18, hswz2019q18⟩ := new_box wz20q19 _ hswz20q19 [.int .i64 0, .int .i64 0] 26
                  go_simp
                  try rw [hwwz2019q18]
                  refine hK.out _ _ (CD.out _ ((hbwzq20.trans (hbwz20q19.mono (by omega))).trans (hbwz2019q18.mono (by omega)))) (fun hHeld => ?_)
                  clear hK K
                  try simp only [Act.put]
                  try simp only [List.setIfInBounds_toArray, List.set_cons_zero, List.set_cons_succ]
                  have hL := LEAF (W.drew.heap.size + 1 + 1) (W.drew.heap.size + 1) (W.drew.heap.size) _ ((hbwzq20.trans (hbwz20q19.mono (by omega))).trans (hbwz2019q18.mono (by omega))) (by omega) (by omega) (by omega) (by omega) (by omega) (by omega) pzwz2019q18 (pzwz20q19.below (hbwz2019q18.mono (by omega))) ((pzwzq20.below (hbwz20q19.mono (by omega))).below (hbwz2019q18.mono (by omega)))
                  rw [hWW, hAA] at hL
                  try simp only [Act.put] at hL
                  try simp only [List.setIfInBounds_toArray, List.set_cons_zero, List.set_cons_succ] at hL
                  exact hL
        case done =>
          as_aux_lemma =>
            rintro D xs W hD hS ⟨hKB, hBW⟩ hK
            have hrW := hr10.keep hin10 hKB
            have ppW := box_keep pp10 hKB (show w.heap.size + 1 < w10.heap.size from pp10.lt)
            have prW := box_keep pr10 hKB (show w.heap.size + 1 + 1 < w10.heap.size from pr10.lt)
            have pmW := box_keep pm10 hKB (show mbx < w10.heap.size from pm10.lt)
            have hmn : mbx ≠ w.heap.size + 1 + 1 := by omega
            have hDl : D < W.heap.size := (Array.getElem?_eq_some_iff.1 hK).1
            have hW10 : w10.heap.size ≤ W.heap.size := by
              have hx := (hKB w9.heap.size hbl).trans bm10
              have := (Array.getElem?_eq_some_iff.1 hx).1
              omega
            have hinW := meshIn_le hin10 hW10
            have hri := one_right 0 b c HD.out (p0, p1)
            have HLO := Lib.hid (fun (w' : World) (hb : Below W.heap.size W w') => Look_any (p0, p1) w' (hrW.below hb) HQP.out HIP.out hlk)
            obtain ⟨⟨k, t, x, y⟩, hx⟩ : ∃ x, lookM Q (newM ((0 : Nat) : Int) (b : Int) (c : Int)) (p0, p1) = x := ⟨_, rfl⟩
            rw [hx] at hri
            have HLO := Lib.hid (show ∀ w' : World, Below W.heap.size W w' → Calls Try.prog 27 #[.pointer (some ⟨mb, 0, none⟩), .agg #[.int .i64 p0, .int .i64 p1]] w' fun e w'' => e = .returned (placeV (k, t, x, y)) ∧ Below w'.heap.size w' w'' from fun w' hb => by have h := HLO.out w' hb; rw [hx] at h; exact h)
            have HRI := Lib.hid (fun (w' : World) (hb : Below W.heap.size W w') => WRight_any (p0, p1) (k, t, x, y) w' (hrW.below hb) (meshIn_le hinW hb.size) HQP.out HIP.out hlk hri)
            have hCE : ∀ w', Below W.heap.size W w' → w'.cell? ⟨mbx, 0, none⟩ = some (.pointer (some ⟨mb, 0, none⟩)) ∧ w'.cell? ⟨w.heap.size + 1, 0, none⟩ = some (.int .i64 p0) ∧ w'.cell? ⟨w.heap.size + 1, 1, none⟩ = some (.int .i64 p1) := fun w' hb => ⟨(pmW.below hb).c0, (ppW.below hb).c0, (ppW.below hb).c1⟩
            have CE := Lib.hid hCE; have PRX := Lib.hid prW; have PMB := Lib.hid pmW; have PPB := Lib.hid ppW
            have HK := Lib.hid hK; have HBW := Lib.hid hBW
            unfold placeV at HRI
            rw [ha0]
            clear hCE hKB hBW hrW ppW prW pmW hK hri hx hinW
            gi_wp2
            go_wp2
            refine wp_region_noPanic ?_
            refine wp_region_held_drew (S := fun w' => w'.cell? ⟨mbx, 0, none⟩ = some (.pointer (some ⟨mb, 0, none⟩)) ∧ w'.cell? ⟨w.heap.size + 1, 0, none⟩ = some (.int .i64 p0) ∧ w'.cell? ⟨w.heap.size + 1, 1, none⟩ = some (.int .i64 p1)) (by kernel_rfl) (CE.out _ (Below.refl _ _).drew') (fun hHeld => ?_)
            refine reg_take 0 ?_ ?_ ?_ (by kernel_rfl) (by kernel_rfl) (by kernel_rfl) (fun _ _ _ h => h) ?_ ?_ (by assumption) ?_
            rotate_left 2
            · simp only [List.getElem?_toArray, List.getElem?_cons_zero]; exact rfl
            · rfl
            · intro w hSw; (try dsimp only at hSw); go_simp; try with_reducible rfl
            try simp only [Act.put]
            try simp only [List.setIfInBounds_toArray, List.set_cons_zero, List.set_cons_succ]
            refine reg_take 1 ?_ ?_ ?_ (by kernel_rfl) (by kernel_rfl) (by kernel_rfl) (fun _ _ _ h => h) ?_ ?_ (by assumption) ?_
            rotate_left 2
            · simp only [List.getElem?_toArray, List.getElem?_cons_succ, List.getElem?_cons_zero]; exact rfl
            · rfl
            · intro w hSw; (try dsimp only at hSw); go_simp; try with_reducible rfl
            try simp only [Act.put]
            try simp only [List.setIfInBounds_toArray, List.set_cons_zero, List.set_cons_succ]
            refine reg_take 2 ?_ ?_ ?_ (by kernel_rfl) (by kernel_rfl) (by kernel_rfl) (fun _ _ _ h => h) ?_ ?_ (by assumption) ?_
            rotate_left 2
            · simp only [List.getElem?_toArray, List.getElem?_cons_succ, List.getElem?_cons_zero]; exact rfl
            · rfl
            · intro w hSw; (try dsimp only at hSw); go_simp; try with_reducible rfl
            try simp only [Act.put]
            try simp only [List.setIfInBounds_toArray, List.set_cons_zero, List.set_cons_succ]
            refine reg_take 3 ?_ ?_ ?_ (by kernel_rfl) (by kernel_rfl) (by kernel_rfl) (fun _ _ _ h => h) ?_ ?_ (by assumption) ?_
            rotate_left 2
            · simp only [List.getElem?_toArray, List.getElem?_cons_succ, List.getElem?_cons_zero]; exact rfl
            · rfl
            · intro w hSw; (try dsimp only at hSw); go_simp; try with_reducible rfl
            try simp only [Act.put]
            try simp only [List.setIfInBounds_toArray, List.set_cons_zero, List.set_cons_succ]
            refine reg_call 4 ?_ (by kernel_rfl) ?_ (fun K hK => ?_)
            rotate_left 1
            · simp only [List.getElem?_toArray, List.getElem?_cons_succ, List.getElem?_cons_zero]; exact rfl
            go_simp
            refine (HLO.out _ (Below.refl _ _).drew').mono ?_
            rintro e wl ⟨rfl, hbl⟩
            have he_1 := ((Below.refl W.heap.size W).drew').trans (hbl.mono (Nat.le_refl _))
            unfold placeV
            simp only []
            go_wp2_with fail
            refine hK.out _ _ (CE.out _ he_1) (fun hHeld => ?_)
            clear hK K
            try simp only [Act.put]
            try simp only [List.setIfInBounds_toArray, List.set_cons_zero, List.set_cons_succ]
            refine reg_call 5 ?_ (by kernel_rfl) ?_ (fun K hK => ?_)
            rotate_left 1
            · simp only [List.getElem?_toArray, List.getElem?_cons_succ, List.getElem?_cons_zero]; exact rfl
            go_simp
            refine (HRI.out _ he_1).mono ?_
            rintro e wr2 ⟨rfl, hbr⟩
            have he_2 := he_1.trans (hbr.mono he_1.size)
            go_wp2_with fail
            refine hK.out _ _ (CE.out _ he_2) (fun hHeld => ?_)
            clear hK K
            try simp only [Act.put]
            try simp only [List.setIfInBounds_toArray, List.set_cons_zero, List.set_cons_succ]
            refine reg_call 6 ?_ (by kernel_rfl) ?_ (fun K hK => ?_)
            rotate_left 1
            · simp only [List.getElem?_toArray, List.getElem?_cons_succ, List.getElem?_cons_zero]; exact rfl
            have pr_2 := PRX.out.below he_2
            obtain ⟨q0, q1⟩ := pr_2.open1
            have m_2 := PMB.out.below he_2
            have p_2 := PPB.out.below he_2
            go_simp
            refine hK.out _ _ (⟨(m_2.far (by omega) 0 _).c0, (p_2.far (by omega) 0 _).c0, (p_2.far (by omega) 0 _).c1⟩) (fun hHeld => ?_)
            clear hK K
            try simp only [Act.put]
            try simp only [List.setIfInBounds_toArray, List.set_cons_zero, List.set_cons_succ]
            refine wpAnyH_done (by kernel_rfl) ?_ _
            refine NoPanic.normal ?_
            have h1 := (he_2.block D hDl).trans HK.out
            have hDn : D ≠ w.heap.size + 1 + 1 := by have := hB10.size; have := HS3.out; have := PR7.out.lt; have := HB7.out.size; have := hb710.size; omega
            have h2 : (wr2.setCell ⟨w.heap.size + 1 + 1, 0, none⟩ (.bool true)).heap[D]? = some (.deferred (some [])) := (heap_set_far _ _ _ _ _ hDn).trans h1
            have h3 := pr_2.set 0 (.bool true)
            have h4 : Below w.heap.size w (wr2.setCell ⟨w.heap.size + 1 + 1, 0, none⟩ (.bool true)) := (HBW.out.trans (he_2.mono HBW.out.size)).setCell (p := ⟨w.heap.size + 1 + 1, 0, none⟩) (by simp only []; omega) _
            go_wp2
            refine ⟨by simp, .inl ⟨_, _, rfl, run_takeDeferred h2, ?_⟩⟩
            have hc5 := cell_kept h3.c0 (grownBy_putObj' _ D (.deferred none)) (fun r e => by cases e; exact ⟨_, h2, rfl⟩)
            refine ⟨.bool true, ?_, rfl, h4.trans (belowK_b (w := w) (Nat.le_refl _) _ D _ _ (by omega) h2 rfl rfl)⟩
            simp [results, Try.results8, go_sem, hc5]
        case stop =>
          rintro D c pre W _ _ h _
          exact h.elim
end Go.Proofs.Ytaedaknkpfeipaa
