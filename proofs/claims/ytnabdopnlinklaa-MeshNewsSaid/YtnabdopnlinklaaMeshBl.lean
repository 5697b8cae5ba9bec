/- MeshNews. Written by tools/mesh17.py. -/
import Derived.Test.YtnabdopnlinklaaParto
import Derived.Test.YtnabdopnlinklaaPartp
import Derived.Test.YtnabdopnlinklaaPredG
import Derived.Test.YtnabdopnlinklaaPartk
import Derived.BigGuardIn
import Derived.BigGuardPartIn
namespace Go.Proofs.Ytnabdopnlinklaa
open Go.RowKit Go.MagM Go.Shelf
attribute [local go_sem] Oper.semAt_some
theorem infoPt9 : (Try.prog.info? 26).map (fun i => (i.zero, i.size, i.bytes)) = some (some (.agg #[.int .i64 0, .int .i64 0]), 2, 16) := by kernel_rfl
def tameP (p : Int × Int) : Int × Int := (tame p.1, tame p.2)
theorem min3_run (P : Program) (a b c m : Int) (hm : m = min a (min b c)) (ats : Array TypeId) (ty : TypeId) (w : World) : (Builtin.min_ ats ty #[.int .i64 a, .int .i64 b, .int .i64 c]).run P w = .ok (.int .i64 m) w := by
  subst hm
  have e : (if c < (if b < a then b else a) then c else (if b < a then b else a)) = min a (min b c) := by
    by_cases h1 : b < a
    · rw [if_pos h1]
      by_cases h2 : c < b
      · rw [if_pos h2]; omega
      · rw [if_neg h2]; omega
    · rw [if_neg h1]
      by_cases h2 : c < a
      · rw [if_pos h2]; omega
      · rw [if_neg h2]; omega
  rw [← e]
  simp [Builtin.min_, Builtin.min2, List.foldlM]
theorem heap_cell_far (w : World) {g b i j : Nat} (h : b ≠ g) (v : Value) : (w.setCell ⟨g, i, none⟩ v).cell? ⟨b, j, none⟩ = w.cell? ⟨b, j, none⟩ := World.cell?_of_block (a := ⟨b, j, none⟩) (heap_set_far w g i b v h)
set_option maxRecDepth 100000 in
set_option maxHeartbeats 16000000 in
theorem MeshNews_walk (ao : Option Addr) (n lc : Nat) (l : List (Int × Int)) (x0 x1 x2 : Int) (w : World) (hl : l.length = n) (hraw : PtsAt w ao l) :
    Calls Try.prog 3 #[.slice ao n lc, .agg #[.int .i64 x0, .int .i64 x1, .int .i64 x2]] w fun e w' => e = .returned (.bool true) ∧ Below w.heap.size w w' := by
  obtain ⟨i0, hi, hz0, hz1, hz2⟩ := info_parts infoPt9
  have HI := Lib.hid hi; have HZ0 := Lib.hid hz0; have HZ1 := Lib.hid hz1; have HZ2 := Lib.hid hz2
  clear hi hz0 hz1 hz2
  obtain ⟨w1, hw1, pa1, hb1, hs1⟩ := new_box w _ rfl [.int .i64 x0, .int .i64 x1, .int .i64 x2] 23
  obtain ⟨w2, hw2, pr2, hb2, hs2⟩ := new_box w1 _ hs1 [.bool false] 4
  have hB2 : Below w.heap.size w w2 := hb1.trans (hb2.mono (by omega))
  have PA := Lib.hid (pa1.below (hb2.mono (by omega))); have PR := Lib.hid pr2; have HB2 := Lib.hid hB2; have HS2 := Lib.hid hs2
  have HF := Lib.hid (fit9_any w2); have HL := Lib.hid hl; have HRAW := Lib.hid (hraw.below hB2)
  clear pa1 pr2 hb1 hb2 hB2 hl hraw
  refine (callsIn_wide (n := 20)).1 (callsIn_of_wp_marks (F := Fence.wide) (n := 20) Try.func3 rfl trivial ?_ rfl)
  simp only [Try.ntmps3, List.size_toArray, List.length_cons, List.length_nil, Nat.reduceAdd, Nat.reduceSub, Array.replicate_succ, Array.replicate_zero, List.push_toArray, List.append_toArray, List.nil_append, List.cons_append]
  rw [wpIn_wide]
  go_wp2_with fail
  refine HF.out.mono ?_
  rintro e w3 ⟨rfl, hb23⟩
  have hB3 : Below w.heap.size w w3 := HB2.out.trans (hb23.mono HB2.out.size)
  have RAW3 := Lib.hid (HRAW.out.below hb23); have PA3 := Lib.hid (PA.out.below hb23); have PR3 := Lib.hid (PR.out.below hb23); have HB3 := Lib.hid hB3
  have hsz3 : w.heap.size + 2 ≤ w3.heap.size := by have := hb23.size; have := HS2.out; omega
  have HSZ3 := Lib.hid hsz3
  clear hb23 hB3 hsz3
  by_cases hn : n = 0 ∨ 20 < n
  · have hret : ∀ K : Prop, K → K := fun _ h => h
    obtain ⟨q0, q1⟩ := PR3.out.open1
    have PZ := Lib.hid (PR3.out.set 0 (.bool true))
    have FIN := Lib.hid (HB3.out.setCell (p := ⟨w.heap.size + 1, 0, none⟩) (by simp only []; omega) (.bool true))
    rcases hn with hn | hn
    · subst hn
      go_wp2
      have z0 := PZ.out.c0
      refine ⟨.bool true, ?_, rfl, FIN.out⟩
      simp [results, Try.results3, go_sem, z0]
    · have e0 : ((n : Int) == 0) = false := by simp; omega
      have e00 : (n == 0) = false := by simp; omega
      have e1 : (20 : Int) < (n : Int) := by omega
      go_wp2
      have z0 := PZ.out.c0
      refine ⟨.bool true, ?_, rfl, FIN.out⟩
      simp [results, Try.results3, go_sem, z0]
  have hn0 : 0 < n := by omega
  have hn20 : n ≤ 20 := by omega
  clear hn
  have e0 : ((n : Int) == 0) = false := by simp; omega
  have e00 : (n == 0) = false := by simp; omega
  have e1 : ¬ (20 : Int) < (n : Int) := by omega
  obtain ⟨sb, hsb⟩ : ∃ sb, w3.heap.size = sb := ⟨_, rfl⟩
  obtain ⟨w5, hw5, bs5, hb35, hs5⟩ := new_box w3 _ rfl [.slice none 0 0] 22
  rw [hsb] at bs5 hs5
  have hsb3 : w.heap.size + 2 ≤ sb := by have := HSZ3.out; omega
  have BS5 := Lib.hid bs5; have HB35 := Lib.hid hb35; have HS5 := Lib.hid hs5
  obtain ⟨Q, hQ⟩ : ∃ Q : List (Int × Int), l.map tameP = Q := ⟨_, rfl⟩
  have HQ := Lib.hid hQ
  have HQL := Lib.hid (show Q.length = n by rw [← hQ, List.length_map]; exact HL.out)
  clear bs5 hb35 hs5 hQ
  go_wp2
  go_loopw [7, 30] (fun _ iv wr => ∃ (i : Nat) (vv : Value), i ≤ n ∧ iv = .int .i64 (i : Int) ∧ Box wr sb [vv] ∧ RowN wr (sb + 1) 26 2 vv i (ptsCells (Q.take i)) ∧ Below sb w5 wr) (fun _ iv _ => n - (intOf iv).toNat)
  case atStart => exact ⟨0, _, Nat.zero_le _, rfl, BS5.out, RowN.nil _ _ _ _, Below.refl _ _⟩
  case round =>
    obtain ⟨i, vv, hi, rfl, hbs, hrow, hbw⟩ := hrel
    by_cases hlt : i < n
    · obtain ⟨⟨xi, yi⟩, hxy⟩ : ∃ q, l[i]? = some q := ⟨_, List.getElem?_eq_getElem (by have := HL.out; omega)⟩
      obtain ⟨tx, htx⟩ : ∃ q, tame xi = q := ⟨_, rfl⟩
      obtain ⟨ty, hty⟩ : ∃ q, tame yi = q := ⟨_, rfl⟩
      have hqi : Q[i]? = some (tx, ty) := by rw [← HQ.out, List.getElem?_map, hxy]; simp [tameP, htx, hty]
      obtain ⟨lb, lo, hao, r0, r1⟩ := RAW3.out i xi yi hxy
      subst hao
      have hlbl := World.block_lt_of_cell? w3 _ r0
      have h3r := HB35.out.trans (hbw.mono (by omega))
      have hlr : ∀ k, k < w3.heap.size → wr.heap[k]? = w3.heap[k]? := fun k hk => h3r.block k (by simpa using hk)
      have hr0 := (World.cell?_of_block (a := ⟨lb, lo + i * 2, none⟩) (hlr lb hlbl)).trans r0
      have hr1 := (World.cell?_of_block (a := ⟨lb, lo + i * 2 + 1, none⟩) (hlr lb hlbl)).trans r1
      obtain ⟨yb, hyb⟩ : ∃ yb, wr.heap.size = yb := ⟨_, rfl⟩
      obtain ⟨w6, hw6, py6, hb6, hs6⟩ := new_box wr _ rfl [.int .i64 xi, .int .i64 yi] 26
      rw [hyb] at py6
      have bs_0 : Box w6.drew sb [vv] := (hbs.below hb6).drew
      have py_0 : Box w6.drew yb [.int .i64 xi, .int .i64 yi] := py6.drew
      have row_0 : RowN w6.drew (sb + 1) 26 2 vv i (ptsCells (Q.take i)) := (hrow.below hb6).drew
      have hB_0 : Below sb w5 w6.drew := (hbw.trans (hb6.mono (by have := hbs.lt; omega))).drew'
      have hob0 : ∀ k, vv.ownBlock = some k → k < yb := fun k hk => by have := (hrow.lt k hk).2; omega
      have hsy : sb < yb := by have := hbs.lt; omega
      have HQT := Lib.hid hqi
      have co := bs_0.c0; have cx := py_0.c0; have cy := py_0.c1
      have hi2 : (0 : Int) ≤ (i : Int) := by omega
      have hi3 : (i : Int) < (n : Int) := by omega
      clear hrow hbs hbw hb6 hs6 py6 hqi hxy r0 r1 h3r hlr hlbl
      go_wp2
      clear hr0 hr1 hw6
      obtain ⟨SSq, hSSq⟩ : ∃ S : Array Bool → World → Prop, ∀ l w', S l w' ↔ ((l.getD 5 true = false → w'.cell? ⟨sb, 0, none⟩ = some (vv)) ∧ (w'.cell? ⟨yb, 0, none⟩ = some (.int .i64 xi)) ∧ (w'.cell? ⟨yb, 1, none⟩ = some (.int .i64 yi))) := ⟨_, fun _ _ => Iff.rfl⟩
      refine wp_region_noPanic ?_
      refine wp_region_G SSq 6 #[false, false, false, false, false, false] (by kernel_rfl) (by kernel_rfl) (by kernel_rfl) ((hSSq _ _).2 ⟨(fun _ => co), cx, cy⟩) (fun hCl hHeld => ?_)
      generalize w6.drew = wd at *
      refine reg_takeG 0 ?_ ?_ ?_ (by kernel_rfl) (by kernel_rfl) (by kernel_rfl) (fun _ _ _ h => h) ?_ ?_ ?_ hCl hHeld ?_
      rotate_left 2
      · simp only [List.getElem?_toArray, List.getElem?_cons_zero]; exact rfl
      · intro l w'; rw [hSSq, hSSq]; rw [getD_set_ne (i := 0) (j := 5) true (by decide)]
      · rfl
      · intro w' hA; obtain ⟨l, hl, hi, hSl⟩ := hA; have hSl := (hSSq _ _).1 hSl; obtain ⟨hy0, hz1, hz2⟩ := hSl; have hz0 := hy0 (hl.not (t := 5) (by kernel_rfl) hi); go_simp; try with_reducible rfl
      clear hCl hHeld
      intro hCl hHeld
      simp only [List.setIfInBounds_toArray, List.set_cons_zero] at hCl hHeld
      try simp only [Act.put]
      try simp only [List.setIfInBounds_toArray, List.set_cons_zero, List.set_cons_succ]
      refine reg_takeG 1 ?_ ?_ ?_ (by kernel_rfl) (by kernel_rfl) (by kernel_rfl) (fun _ _ _ h => h) ?_ ?_ ?_ hCl hHeld ?_
      rotate_left 2
      · simp only [List.getElem?_toArray, List.getElem?_cons_succ, List.getElem?_cons_zero]; exact rfl
      · intro l w'; rw [hSSq, hSSq]; rw [getD_set_ne (i := 1) (j := 5) true (by decide)]
      · rfl
      · intro w' hA; obtain ⟨l, hl, hi, hSl⟩ := hA; have hSl := (hSSq _ _).1 hSl; obtain ⟨hy0, hz1, hz2⟩ := hSl; have hz0 := hy0 (hl.not (t := 5) (by kernel_rfl) hi); go_simp; try with_reducible rfl
      clear hCl hHeld
      intro hCl hHeld
      simp only [List.setIfInBounds_toArray, List.set_cons_zero, List.set_cons_succ] at hCl hHeld
      try simp only [Act.put]
      try simp only [List.setIfInBounds_toArray, List.set_cons_zero, List.set_cons_succ]
      clear hCl hHeld
      refine reg_callG 2 ?_ (by kernel_rfl) ?_ (fun K hK => ?_)
      rotate_left 1
      · simp only [List.getElem?_toArray, List.getElem?_cons_succ, List.getElem?_cons_zero]; exact rfl
      go_simp
      refine (Tame_any xi yi _).mono ?_
      rintro e w8 ⟨rfl, hb8⟩
      go_wp2_with fail
      have bs_8 := bs_0.below hb8; have py_8 := py_0.below hb8; have row_8 := row_0.below hb8; have hB_8 := hB_0.trans (hb8.mono (by have := hB_0.size; have := HS5.out; omega))
      have co8 := bs_8.c0; have cx8 := py_8.c0; have cy8 := py_8.c1
      refine hK.out _ _ ((hSSq _ _).2 ⟨(fun _ => co8), cx8, cy8⟩) ?_
      clear hK K
      try simp only [Act.put]
      try simp only [List.setIfInBounds_toArray, List.set_cons_zero, List.set_cons_succ]
      obtain ⟨w9, hw9, pq, hb9, hs9⟩ := new_box w8 _ rfl [.int .i64 tx, .int .i64 ty] 26
      refine reg_callG 3 ?_ (by kernel_rfl) ?_ (fun K hK => ?_)
      rotate_left 1
      · simp only [List.getElem?_toArray, List.getElem?_cons_succ, List.getElem?_cons_zero]; exact rfl
      go_simp
      try rw [hw9]
      have bs_9 := bs_8.below hb9; have py_9 := py_8.below hb9; have row_9 := row_8.below hb9; have hB_9 := hB_8.trans (hb9.mono (by have := hB_8.size; have := HS5.out; omega))
      have co9 := bs_9.c0; have cx9 := py_9.c0; have cy9 := py_9.c1
      refine hK.out _ _ ((hSSq _ _).2 ⟨(fun _ => co9), cx9, cy9⟩) ?_
      clear hK K
      try simp only [Act.put]
      try simp only [List.setIfInBounds_toArray, List.set_cons_zero, List.set_cons_succ]
      have hsz9 : sb + 1 ≤ w9.heap.size := by have := bs_9.lt; omega
      obtain ⟨v', w10, hrun, rown, hgrow, hkept⟩ := run_append_row (P := Try.prog) w9 (sb + 1) 22 22 26 i0 (.agg #[.int .i64 0, .int .i64 0]) 2 16 (by kernel_rfl) HI.out HZ0.out HZ1.out HZ2.out rfl (noWordI2 _ _) _ i _ row_9 ⟨w8.heap.size, 0, none⟩ 1 1 [.int .i64 tx, .int .i64 ty] (by omega) rfl pq.news (by intro u hu; simp at hu; rcases hu with rfl | rfl <;> rfl) (noWordI2 _ _) (by unfold maxLen; omega) (by omega) hsz9
      have hob : ∀ k, vv.ownBlock = some k → sb + 1 ≤ k := fun k hk => (row_9.lt k hk).1
      refine reg_callG 4 ?_ (by kernel_rfl) ?_ (fun K hK => ?_)
      rotate_left 1
      · simp only [List.getElem?_toArray, List.getElem?_cons_succ, List.getElem?_cons_zero]; exact rfl
      refine wanted_go rfl ?_
      refine wp_append_row _ _ 22 rfl rfl rfl hrun ?_
      obtain ⟨g', cap', rfl⟩ := ownsRow_succ rown.own
      have bs_10 := bs_9.grown hgrow (fun e => by have := hob _ e; omega) bs_9.lt
      have py_10 := py_9.grown hgrow (fun e => Nat.lt_irrefl _ (hob0 _ e)) py_9.lt
      have hB_10 : Below sb w5 w10 := hB_9.grown hgrow (by omega) (fun k hk => by have := hob k hk; omega)
      have co10 := bs_10.c0; have cx10 := py_10.c0; have cy10 := py_10.c1
      refine hK.out _ _ ((hSSq _ _).2 ⟨(fun _ => co10), cx10, cy10⟩) ?_
      clear hK K
      try simp only [Act.put]
      try simp only [List.setIfInBounds_toArray, List.set_cons_zero, List.set_cons_succ]
      obtain ⟨d4, f4⟩ := bs_10.open1
      have hyb2 : yb ≠ sb := by omega
      have bs_11 := bs_10.set 0 (.slice (some ⟨g', 0, none⟩) (i + 1) cap')
      have py_11 := py_10.far (g' := sb) hyb2 0 (.slice (some ⟨g', 0, none⟩) (i + 1) cap')
      have hB_11 : Below sb w5 (w10.setCell ⟨sb, 0, none⟩ (.slice (some ⟨g', 0, none⟩) (i + 1) cap')) := hB_10.setCell (p := ⟨sb, 0, none⟩) (Nat.le_refl _) _
      have row_11 : RowN (w10.setCell ⟨sb, 0, none⟩ (.slice (some ⟨g', 0, none⟩) (i + 1) cap')) (sb + 1) 26 2 (.slice (some ⟨g', 0, none⟩) (i + 1) cap') (i + 1) (ptsCells (Q.take i) ++ [.int .i64 tx, .int .i64 ty]) := rown.block (fun k hk _ => heap_set_far _ _ _ _ _ (by have := (rown.lt k hk).1; omega))
      have cx11 := py_11.c0; have cy11 := py_11.c1
      refine reg_callG 5 ?_ (by kernel_rfl) ?_ (fun K hK => ?_)
      rotate_left 1
      · simp only [List.getElem?_toArray, List.getElem?_cons_succ, List.getElem?_cons_zero]; exact rfl
      go_simp
      refine hK.out _ _ ((hSSq _ _).2 ⟨(fun h => absurd h (by decide)), cx11, cy11⟩) ?_
      clear hK K
      try simp only [Act.put]
      try simp only [List.setIfInBounds_toArray, List.set_cons_zero, List.set_cons_succ]
      refine wpAnyG_done (by kernel_rfl) ?_ _
      refine NoPanic.normal ?_
      clear hSSq SSq
      have htk : ptsCells (Q.take i) ++ [.int .i64 tx, .int .i64 ty] = ptsCells (Q.take (i + 1)) := by
        rw [List.take_add_one, HQT.out, ptsCells_app]; rfl
      rw [htk] at row_11
      have FIN := Lib.hid (And.intro bs_11 (And.intro row_11 hB_11))
      clear htk bs_8 bs_9 bs_10 bs_11 py_8 py_9 py_10 py_11 row_0 row_8 row_9 row_11 rown hrun hgrow hkept hob hob0 hB_0 hB_8 hB_9 hB_10 hB_11 bs_0 py_0 pq d4 f4 hyb2 cx11 cy11 hb8 hb9 hs9 hw9
      go_wp2
      go_roundw
      case rel => exact ⟨i + 1, _, by omega, by go_num, by simpa using FIN.out.1, FIN.out.2.1, FIN.out.2.2⟩
      case measure => simp [intOf]; omega
    · obtain rfl : i = n := by omega
      have htk : Q.take i = Q := List.take_of_length_le (by have := HQL.out; omega)
      rw [htk] at hrow
      obtain ⟨gb, gc, rfl⟩ : ∃ g c, vv = .slice (some ⟨g, 0, none⟩) i c := by
        rcases hrow.2 with ⟨h1, h2⟩ | ⟨g, cap, cur, h1, h2, h3⟩
        · omega
        · exact ⟨g, cap, h1⟩
      have hrl := hrow.lt gb rfl
      have hcr : ∀ j u, (ptsCells Q)[j]? = some u → wr.cell? ⟨gb, j, none⟩ = some u := fun j u hj => hrow.cells (g := gb) rfl j u hj
      have h3r := HB35.out.trans (hbw.mono (by omega))
      have PAR := Lib.hid (PA3.out.below h3r); have PRR := Lib.hid (PR3.out.below h3r)
      have HBR := Lib.hid (HB3.out.trans (h3r.mono HB3.out.size))
      have BSR := Lib.hid hbs; have HCR := Lib.hid hcr; have HGL := Lib.hid hrl.2
      obtain ⟨m0, m0a, m0b, hm0⟩ := and_some x0 4095 (by omega)
      obtain ⟨m1, m1a, m1b, hm1⟩ := and_some x1 4095 (by omega)
      obtain ⟨m2, m2a, m2b, hm2⟩ := and_some x2 4095 (by omega)
      have hm0' : bits .and .i64 x0 4095 = m0 := hm0
      have hm1' : bits .and .i64 x1 4095 = m1 := hm1
      have hm2' : bits .and .i64 x2 4095 = m2 := hm2
      obtain ⟨a, ha⟩ : ∃ t : Nat, m0.tmod (i : Int) = (t : Int) := ⟨(m0.tmod (i : Int)).toNat, by rw [Int.toNat_of_nonneg (Int.tmod_nonneg _ m0a)]⟩
      obtain ⟨b, hb⟩ : ∃ t : Nat, m1.tmod (i : Int) = (t : Int) := ⟨(m1.tmod (i : Int)).toNat, by rw [Int.toNat_of_nonneg (Int.tmod_nonneg _ m1a)]⟩
      obtain ⟨c, hc⟩ : ∃ t : Nat, m2.tmod (i : Int) = (t : Int) := ⟨(m2.tmod (i : Int)).toNat, by rw [Int.toNat_of_nonneg (Int.tmod_nonneg _ m2a)]⟩
      have hin0 : ¬ i = 0 := by omega
      have hal : a < i := by have := Int.tmod_lt_of_pos m0 (show (0 : Int) < (i : Int) by omega); omega
      have hbl : b < i := by have := Int.tmod_lt_of_pos m1 (show (0 : Int) < (i : Int) by omega); omega
      have hcl : c < i := by have := Int.tmod_lt_of_pos m2 (show (0 : Int) < (i : Int) by omega); omega
      have CD := Lib.hid (show ∀ w', Below wr.drew.heap.size wr.drew w' → w'.cell? ⟨w.heap.size, 0, none⟩ = some (.int .i64 x0) ∧ w'.cell? ⟨w.heap.size, 1, none⟩ = some (.int .i64 x1) ∧ w'.cell? ⟨w.heap.size, 2, none⟩ = some (.int .i64 x2) from fun w' hb => by
        have hp := PAR.out.below (((Below.refl wr.heap.size wr).drew').trans hb)
        exact ⟨hp.c 0 _ rfl, hp.c 1 _ rfl, hp.c 2 _ rfl⟩)
      clear hm0 hm1 hm2 hrow hbs hbw hcr h3r hrl htk
      go_wp2
      refine wp_region_noPanic ?_
      refine wp_region_held_drew (S := fun w' => w'.cell? ⟨w.heap.size, 0, none⟩ = some (.int .i64 x0) ∧ w'.cell? ⟨w.heap.size, 1, none⟩ = some (.int .i64 x1) ∧ w'.cell? ⟨w.heap.size, 2, none⟩ = some (.int .i64 x2)) (by kernel_rfl) (CD.out _ (Below.refl _ _)) (fun hHeld => ?_)
      refine reg_take 0 ?_ ?_ ?_ (by kernel_rfl) (by kernel_rfl) (by kernel_rfl) (fun _ _ _ h => h) ?_ ?_ (by assumption) ?_
      rotate_left 2
      · simp only [List.getElem?_toArray, List.getElem?_cons_zero]; exact rfl
      · rfl
      · intro w hSw; (try dsimp only at hSw); go_simp; try with_reducible rfl
      try simp only [Act.put]
      try simp only [List.setIfInBounds_toArray, List.set_cons_zero, List.set_cons_succ]
      refine reg_take 1 ?_ ?_ ?_ (by kernel_rfl) (by kernel_rfl) (by kernel_rfl) (fun _ _ _ h => h) ?_ ?_ (by assumption) ?_
      rotate_left 2
      · simp only [List.getElem?_toArray, List.getElem?_cons_succ, List.getElem?_cons_zero]; exact rfl
      · rfl
      · intro w hSw; (try dsimp only at hSw); go_simp; try with_reducible rfl
      try simp only [Act.put]
      try simp only [List.setIfInBounds_toArray, List.set_cons_zero, List.set_cons_succ]
      refine reg_take 2 ?_ ?_ ?_ (by kernel_rfl) (by kernel_rfl) (by kernel_rfl) (fun _ _ _ h => h) ?_ ?_ (by assumption) ?_
      rotate_left 2
      · simp only [List.getElem?_toArray, List.getElem?_cons_succ, List.getElem?_cons_zero]; exact rfl
      · rfl
      · intro w hSw; (try dsimp only at hSw); go_simp; try with_reducible rfl
      try simp only [Act.put]
      try simp only [List.setIfInBounds_toArray, List.set_cons_zero, List.set_cons_succ]
      refine reg_take 3 ?_ ?_ ?_ (by kernel_rfl) (by kernel_rfl) (by kernel_rfl) (fun _ _ _ h => h) ?_ ?_ (by assumption) ?_
      rotate_left 2
      · simp only [List.getElem?_toArray, List.getElem?_cons_succ, List.getElem?_cons_zero]; exact rfl
      · rfl
      · intro w hSw; (try dsimp only at hSw); go_simp; try with_reducible rfl
      try simp only [Act.put]
      try simp only [List.setIfInBounds_toArray, List.set_cons_zero, List.set_cons_succ]
      refine reg_take 4 ?_ ?_ ?_ (by kernel_rfl) (by kernel_rfl) (by kernel_rfl) (fun _ _ _ h => h) ?_ ?_ (by assumption) ?_
      rotate_left 2
      · simp only [List.getElem?_toArray, List.getElem?_cons_succ, List.getElem?_cons_zero]; exact rfl
      · rfl
      · intro w hSw; (try dsimp only at hSw); go_simp; try with_reducible rfl
      try simp only [Act.put]
      try simp only [List.setIfInBounds_toArray, List.set_cons_zero, List.set_cons_succ]
      refine reg_take 5 ?_ ?_ ?_ (by kernel_rfl) (by kernel_rfl) (by kernel_rfl) (fun _ _ _ h => h) ?_ ?_ (by assumption) ?_
      rotate_left 2
      · simp only [List.getElem?_toArray, List.getElem?_cons_succ, List.getElem?_cons_zero]; exact rfl
      · rfl
      · intro w hSw; (try dsimp only at hSw); go_simp; try with_reducible rfl
      try simp only [Act.put]
      try simp only [List.setIfInBounds_toArray, List.set_cons_zero, List.set_cons_succ]
      refine reg_take 6 ?_ ?_ ?_ (by kernel_rfl) (by kernel_rfl) (by kernel_rfl) (fun _ _ _ h => h) ?_ ?_ (by assumption) ?_
      rotate_left 2
      · simp only [List.getElem?_toArray, List.getElem?_cons_succ, List.getElem?_cons_zero]; exact rfl
      · rfl
      · intro w hSw; (try dsimp only at hSw); go_simp; try with_reducible rfl
      try simp only [Act.put]
      try simp only [List.setIfInBounds_toArray, List.set_cons_zero, List.set_cons_succ]
      refine reg_take 7 ?_ ?_ ?_ (by kernel_rfl) (by kernel_rfl) (by kernel_rfl) (fun _ _ _ h => h) ?_ ?_ (by assumption) ?_
      rotate_left 2
      · simp only [List.getElem?_toArray, List.getElem?_cons_succ, List.getElem?_cons_zero]; exact rfl
      · rfl
      · intro w hSw; (try dsimp only at hSw); go_simp; try with_reducible rfl
      try simp only [Act.put]
      try simp only [List.setIfInBounds_toArray, List.set_cons_zero, List.set_cons_succ]
      refine reg_take 8 ?_ ?_ ?_ (by kernel_rfl) (by kernel_rfl) (by kernel_rfl) (fun _ _ _ h => h) ?_ ?_ (by assumption) ?_
      rotate_left 2
      · simp only [List.getElem?_toArray, List.getElem?_cons_succ, List.getElem?_cons_zero]; exact rfl
      · rfl
      · intro w hSw; (try dsimp only at hSw); go_simp; try with_reducible rfl
      try simp only [Act.put]
      try simp only [List.setIfInBounds_toArray, List.set_cons_zero, List.set_cons_succ]
      refine reg_take 9 ?_ ?_ ?_ (by kernel_rfl) (by kernel_rfl) (by kernel_rfl) (fun _ _ _ h => h) ?_ ?_ (by assumption) ?_
      rotate_left 2
      · simp only [List.getElem?_toArray, List.getElem?_cons_succ, List.getElem?_cons_zero]; exact rfl
      · rfl
      · intro w hSw; (try dsimp only at hSw); go_simp; try with_reducible rfl
      try simp only [Act.put]
      try simp only [List.setIfInBounds_toArray, List.set_cons_zero, List.set_cons_succ]
      refine reg_take 10 ?_ ?_ ?_ (by kernel_rfl) (by kernel_rfl) (by kernel_rfl) (fun _ _ _ h => h) ?_ ?_ (by assumption) ?_
      rotate_left 2
      · simp only [List.getElem?_toArray, List.getElem?_cons_succ, List.getElem?_cons_zero]; exact rfl
      · rfl
      · intro w hSw; (try dsimp only at hSw); go_simp; try with_reducible rfl
      try simp only [Act.put]
      try simp only [List.setIfInBounds_toArray, List.set_cons_zero, List.set_cons_succ]
      refine reg_take 11 ?_ ?_ ?_ (by kernel_rfl) (by kernel_rfl) (by kernel_rfl) (fun _ _ _ h => h) ?_ ?_ (by assumption) ?_
      rotate_left 2
      · simp only [List.getElem?_toArray, List.getElem?_cons_succ, List.getElem?_cons_zero]; exact rfl
      · rfl
      · intro w hSw; (try dsimp only at hSw); go_simp; try with_reducible rfl
      try simp only [Act.put]
      try simp only [List.setIfInBounds_toArray, List.set_cons_zero, List.set_cons_succ]
      refine reg_take 12 ?_ ?_ ?_ (by kernel_rfl) (by kernel_rfl) (by kernel_rfl) (fun _ _ _ h => h) ?_ ?_ (by assumption) ?_
      rotate_left 2
      · simp only [List.getElem?_toArray, List.getElem?_cons_succ, List.getElem?_cons_zero]; exact rfl
      · rfl
      · intro w hSw; (try dsimp only at hSw); go_simp; try with_reducible rfl
      try simp only [Act.put]
      try simp only [List.setIfInBounds_toArray, List.set_cons_zero, List.set_cons_succ]
      refine reg_take 13 ?_ ?_ ?_ (by kernel_rfl) (by kernel_rfl) (by kernel_rfl) (fun _ _ _ h => h) ?_ ?_ (by assumption) ?_
      rotate_left 2
      · simp only [List.getElem?_toArray, List.getElem?_cons_succ, List.getElem?_cons_zero]; exact rfl
      · rfl
      · intro w hSw; (try dsimp only at hSw); go_simp; try with_reducible rfl
      try simp only [Act.put]
      try simp only [List.setIfInBounds_toArray, List.set_cons_zero, List.set_cons_succ]
      refine reg_take 14 ?_ ?_ ?_ (by kernel_rfl) (by kernel_rfl) (by kernel_rfl) (fun _ _ _ h => h) ?_ ?_ (by assumption) ?_
      rotate_left 2
      · simp only [List.getElem?_toArray, List.getElem?_cons_succ, List.getElem?_cons_zero]; exact rfl
      · rfl
      · intro w hSw; (try dsimp only at hSw); go_simp; try with_reducible rfl
      try simp only [Act.put]
      try simp only [List.setIfInBounds_toArray, List.set_cons_zero, List.set_cons_succ]
      refine reg_take 15 ?_ ?_ ?_ (by kernel_rfl) (by kernel_rfl) (by kernel_rfl) (fun _ _ _ h => h) ?_ ?_ (by assumption) ?_
      rotate_left 2
      · simp only [List.getElem?_toArray, List.getElem?_cons_succ, List.getElem?_cons_zero]; exact rfl
      · rfl
      · intro w hSw; (try dsimp only at hSw); go_simp; try with_reducible rfl
      try simp only [Act.put]
      try simp only [List.setIfInBounds_toArray, List.set_cons_zero, List.set_cons_succ]
      refine reg_take 16 ?_ ?_ ?_ (by kernel_rfl) (by kernel_rfl) (by kernel_rfl) (fun _ _ _ h => h) ?_ ?_ (by assumption) ?_
      rotate_left 2
      · simp only [List.getElem?_toArray, List.getElem?_cons_succ, List.getElem?_cons_zero]; exact rfl
      · rfl
      · intro w hSw; (try dsimp only at hSw); go_simp; try with_reducible rfl
      try simp only [Act.put]
      try simp only [List.setIfInBounds_toArray, List.set_cons_zero, List.set_cons_succ]
      refine reg_take 17 ?_ ?_ ?_ (by kernel_rfl) (by kernel_rfl) (by kernel_rfl) (fun _ _ _ h => h) ?_ ?_ (by assumption) ?_
      rotate_left 2
      · simp only [List.getElem?_toArray, List.getElem?_cons_succ, List.getElem?_cons_zero]; exact rfl
      · rfl
      · intro w hSw; (try dsimp only at hSw); go_simp; try with_reducible rfl
      try simp only [Act.put]
      try simp only [List.setIfInBounds_toArray, List.set_cons_zero, List.set_cons_succ]
      refine reg_grab (fun WWx ax hWW hAA => ?_)
      have LEAF : ∀ (g18 g19 g20 : Nat) (Wx : World), Below wr.drew.heap.size wr.drew Wx → wr.drew.heap.size ≤ g18 → wr.drew.heap.size ≤ g19 → wr.drew.heap.size ≤ g20 → g18 ≠ g19 → g18 ≠ g20 → g19 ≠ g20 → Box Wx g18 [.int .i64 0] → Box Wx g19 [.int .i64 0] → Box Wx g20 [.int .i64 0] → WWx 3 #[true, true, true, true, true, true, true, true, true, true, true, true, true, true, true, true, true, true, true, true, true, false, false, false] (((ax.put (some 8) (.pointer (some ⟨g18, 0, none⟩))).put (some 9) (.pointer (some ⟨g19, 0, none⟩))).put (some 10) (.pointer (some ⟨g20, 0, none⟩))) Wx := by
        intro g18 g19 g20 Wx hbx hlg18 hlg19 hlg20 hng18g19 hng18g20 hng19g20 pzg18 pzg19 pzg20
        have hHeld := CD.out _ hbx
        rw [hWW, hAA]
        try simp only [Act.put]
        try simp only [List.setIfInBounds_toArray, List.set_cons_zero, List.set_cons_succ]
        refine reg_call 21 ?_ (by kernel_rfl) ?_ (fun K hK => ?_)
        rotate_left 1
        · simp only [List.getElem?_toArray, List.getElem?_cons_succ, List.getElem?_cons_zero]; exact rfl
        obtain ⟨cz, fz⟩ := pzg18.open1
        go_simp
        obtain ⟨y1, hy1⟩ : ∃ x, Wx.setCell ⟨g18, 0, none⟩ (.int .i64 (a : Int)) = x := ⟨_, rfl⟩
        try rw [hy1]
        have y1g18 : Box y1 g18 [.int .i64 (a : Int)] := by rw [← hy1]; exact pzg18.set 0 _
        have y1g19 := pzg19.far (g' := g18) (fun e => hng18g19 e.symm) 0 (.int .i64 (a : Int))
        rw [hy1] at y1g19
        have y1g20 := pzg20.far (g' := g18) (fun e => hng18g20 e.symm) 0 (.int .i64 (a : Int))
        rw [hy1] at y1g20
        have hby1 : Below wr.drew.heap.size wr.drew y1 := by rw [← hy1]; exact hbx.setCell (p := ⟨g18, 0, none⟩) hlg18 _
        clear cz fz
        refine hK.out _ _ (CD.out _ hby1) (fun hHeld => ?_)
        clear hK K
        try simp only [Act.put]
        try simp only [List.setIfInBounds_toArray, List.set_cons_zero, List.set_cons_succ]
        refine reg_call 22 ?_ (by kernel_rfl) ?_ (fun K hK => ?_)
        rotate_left 1
        · simp only [List.getElem?_toArray, List.getElem?_cons_succ, List.getElem?_cons_zero]; exact rfl
        obtain ⟨cz, fz⟩ := y1g19.open1
        go_simp
        obtain ⟨y2, hy2⟩ : ∃ x, y1.setCell ⟨g19, 0, none⟩ (.int .i64 (b : Int)) = x := ⟨_, rfl⟩
        try rw [hy2]
        have y2g19 : Box y2 g19 [.int .i64 (b : Int)] := by rw [← hy2]; exact y1g19.set 0 _
        have y2g18 := y1g18.far (g' := g19) (hng18g19) 0 (.int .i64 (b : Int))
        rw [hy2] at y2g18
        have y2g20 := y1g20.far (g' := g19) (fun e => hng19g20 e.symm) 0 (.int .i64 (b : Int))
        rw [hy2] at y2g20
        have hby2 : Below wr.drew.heap.size wr.drew y2 := by rw [← hy2]; exact hby1.setCell (p := ⟨g19, 0, none⟩) hlg19 _
        clear cz fz
        refine hK.out _ _ (CD.out _ hby2) (fun hHeld => ?_)
        clear hK K
        try simp only [Act.put]
        try simp only [List.setIfInBounds_toArray, List.set_cons_zero, List.set_cons_succ]
        refine reg_call 23 ?_ (by kernel_rfl) ?_ (fun K hK => ?_)
        rotate_left 1
        · simp only [List.getElem?_toArray, List.getElem?_cons_succ, List.getElem?_cons_zero]; exact rfl
        obtain ⟨cz, fz⟩ := y2g20.open1
        go_simp
        obtain ⟨y3, hy3⟩ : ∃ x, y2.setCell ⟨g20, 0, none⟩ (.int .i64 (c : Int)) = x := ⟨_, rfl⟩
        try rw [hy3]
        have y3g20 : Box y3 g20 [.int .i64 (c : Int)] := by rw [← hy3]; exact y2g20.set 0 _
        have y3g18 := y2g18.far (g' := g20) (hng18g20) 0 (.int .i64 (c : Int))
        rw [hy3] at y3g18
        have y3g19 := y2g19.far (g' := g20) (hng19g20) 0 (.int .i64 (c : Int))
        rw [hy3] at y3g19
        have hby3 : Below wr.drew.heap.size wr.drew y3 := by rw [← hy3]; exact hby2.setCell (p := ⟨g20, 0, none⟩) hlg20 _
        clear cz fz
        refine hK.out _ _ (CD.out _ hby3) (fun hHeld => ?_)
        clear hK K
        try simp only [Act.put]
        try simp only [List.setIfInBounds_toArray, List.set_cons_zero, List.set_cons_succ]
        refine wpAnyH_done (by kernel_rfl) ?_ _
        refine NoPanic.normal ?_
        have hx : Below wr.heap.size wr y3 := ((Below.refl wr.heap.size wr).drew').trans hby3
        have hdr : wr.drew.heap.size = wr.heap.size := rfl
        rw [hdr] at hlg18 hlg19 hlg20
        have HX := Lib.hid hx
        have GA := Lib.hid y3g18; have GB := Lib.hid y3g19; have GC := Lib.hid y3g20
        have BS3 := Lib.hid (BSR.out.below hx); have PRY := Lib.hid (PRR.out.below hx)
        have HB0 := Lib.hid (HBR.out.trans (hx.mono HBR.out.size))
        have HC3 := Lib.hid (show ∀ j u, (ptsCells Q)[j]? = some u → y3.cell? ⟨gb, j, none⟩ = some u from fun j u hj => (hx.cell (p := ⟨gb, j, none⟩) HGL.out).trans (HCR.out j u hj))
        have hzrb : w.heap.size + 1 < wr.heap.size := PRR.out.lt
        have hzsb : sb < wr.heap.size := BSR.out.lt
        have hzgb : gb < wr.heap.size := HGL.out
        have hzy : wr.heap.size ≤ y3.heap.size := hx.size
        have hz18 : g18 < y3.heap.size := y3g18.lt
        have hz19 : g19 < y3.heap.size := y3g19.lt
        have hz20 : g20 < y3.heap.size := y3g20.lt
        clear hx hdr hbx hby1 hby2 hby3 pzg18 pzg19 pzg20 y1g18 y1g19 y1g20 y2g18 y2g19 y2g20 y3g18 y3g19 y3g20 hy1 hy2 hy3 hHeld hWW hAA
        obtain ⟨⟨a0, a1⟩, hpa⟩ : ∃ q, ptA Q a = q := ⟨_, rfl⟩
        obtain ⟨⟨b0, b1⟩, hpb0⟩ : ∃ q, ptA Q b = q := ⟨_, rfl⟩
        obtain ⟨⟨c0, c1⟩, hpc0⟩ : ∃ q, ptA Q c = q := ⟨_, rfl⟩
        have ga : Q[a]? = some (a0, a1) := by have := ptA_at (P := Q) (v := a) (by rw [HQL.out]; exact hal); rw [hpa] at this; exact this
        have gb' : Q[b]? = some (b0, b1) := by have := ptA_at (P := Q) (v := b) (by rw [HQL.out]; exact hbl); rw [hpb0] at this; exact this
        have gc' : Q[c]? = some (c0, c1) := by have := ptA_at (P := Q) (v := c) (by rw [HQL.out]; exact hcl); rw [hpc0] at this; exact this
        have hQP : InPs Q := by
          intro q hq
          rw [← HQ.out] at hq
          obtain ⟨p, -, rfl⟩ := List.mem_map.1 hq
          exact ⟨tame_in _, tame_in _⟩
        have HQP := Lib.hid hQP
        have HKA := Lib.hid (hQP _ (List.mem_of_getElem? ga)); have HKB := Lib.hid (hQP _ (List.mem_of_getElem? gb')); have HKC := Lib.hid (hQP _ (List.mem_of_getElem? gc'))
        have ht : turnM Q (a : Int) (b : Int) (c : Int) = (crs a0 a1 b0 b1 c0 c1).sign := by
          have ea : getP Q (a : Int) = some (a0, a1) := by unfold getP; rw [if_pos (by omega), Int.toNat_natCast]; exact ga
          have eb : getP Q (b : Int) = some (b0, b1) := by unfold getP; rw [if_pos (by omega), Int.toNat_natCast]; exact gb'
          have ec : getP Q (c : Int) = some (c0, c1) := by unfold getP; rw [if_pos (by omega), Int.toNat_natCast]; exact gc'
          unfold turnM
          rw [ea, eb, ec]
        obtain ⟨o, ho⟩ : ∃ o, (crs a0 a1 b0 b1 c0 c1).sign = o := ⟨_, rfl⟩
        have OR := Lib.hid (fun W' => Orient_is a0 a1 b0 b1 c0 c1 HKA.out.1 HKA.out.2 HKB.out.1 HKB.out.2 HKC.out.1 HKC.out.2 ho W')
        obtain ⟨qa0, qa1⟩ := ptsCells_get Q a _ _ ga
        obtain ⟨qb0, qb1⟩ := ptsCells_get Q b _ _ gb'
        obtain ⟨qc0, qc1⟩ := ptsCells_get Q c _ _ gc'
        have CE := Lib.hid (show ∀ w', Below y3.heap.size y3 w' → w'.cell? ⟨sb, 0, none⟩ = some (.slice (some ⟨gb, 0, none⟩) i gc) ∧ w'.cell? ⟨g18, 0, none⟩ = some (.int .i64 (a : Int)) ∧ w'.cell? ⟨g19, 0, none⟩ = some (.int .i64 (b : Int)) ∧ w'.cell? ⟨g20, 0, none⟩ = some (.int .i64 (c : Int)) ∧ w'.cell? ⟨gb, a * 2, none⟩ = some (.int .i64 a0) ∧ w'.cell? ⟨gb, a * 2 + 1, none⟩ = some (.int .i64 a1) ∧ w'.cell? ⟨gb, b * 2, none⟩ = some (.int .i64 b0) ∧ w'.cell? ⟨gb, b * 2 + 1, none⟩ = some (.int .i64 b1) ∧ w'.cell? ⟨gb, c * 2, none⟩ = some (.int .i64 c0) ∧ w'.cell? ⟨gb, c * 2 + 1, none⟩ = some (.int .i64 c1) from fun w' hb => by
          have hcw : ∀ j u, (ptsCells Q)[j]? = some u → w'.cell? ⟨gb, j, none⟩ = some u := fun j u hj => (hb.cell (p := ⟨gb, j, none⟩) (by simp only []; omega)).trans (HC3.out j u hj)
          exact ⟨(BS3.out.below hb).c0, (GA.out.below hb).c0, (GB.out.below hb).c0, (GC.out.below hb).c0, hcw _ _ qa0, hcw _ _ qa1, hcw _ _ qb0, hcw _ _ qb1, hcw _ _ qc0, hcw _ _ qc1⟩)
        have j1 : (0 : Int) ≤ (a : Int) := by omega
        have j2 : (a : Int) < (i : Int) := by omega
        have j3 : (0 : Int) ≤ (b : Int) := by omega
        have j4 : (b : Int) < (i : Int) := by omega
        have j5 : (0 : Int) ≤ (c : Int) := by omega
        have j6 : (c : Int) < (i : Int) := by omega
        have y0' := BS3.out.c0
        have z18 := GA.out.c0; have z19 := GB.out.c0; have z20 := GC.out.c0
        have HPA := Lib.hid hpa; have HPB := Lib.hid hpb0; have HPC := Lib.hid hpc0
        have HGPA := Lib.hid ga; have HGPB := Lib.hid gb'; have HGPC := Lib.hid gc'
        clear hpa hpb0 hpc0 ga gb' gc' hQP qa0 qa1 qb0 qb1 qc0 qc1
        by_cases htn : crs a0 a1 b0 b1 c0 c1 = 0
        · have hN := New_no (some ⟨gb, 0, none⟩) gb i gc Q y3 HQL.out (by omega) (by omega) HQP.out rfl (fun j u hj => by rw [Nat.zero_add]; exact HC3.out j u hj) (a : Int) (b : Int) (c : Int) (by rw [ht, htn]; rfl)
          have hq : o = 0 := by rw [← ho, htn]; rfl
          subst hq
          have HN := Lib.hid hN
          clear ht htn hN
          go_wp2_with fail
          refine HN.out.mono ?_
          rintro e w8 ⟨rfl, hb8⟩
          obtain ⟨mbx, hmbx⟩ : ∃ x, w8.heap.size = x := ⟨_, rfl⟩
          obtain ⟨w9, hw9, pm9, hb9, hs9⟩ := new_box w8 _ rfl [.pointer none] 28
          rw [hmbx] at pm9
          have hb39 : Below y3.heap.size y3 w9 := hb8.trans (hb9.mono hb8.size)
          obtain ⟨y0, y1⟩ := pm9.open1
          obtain ⟨wa, hwa⟩ : ∃ wa, w9.setCell ⟨mbx, 0, none⟩ (.pointer none) = wa := ⟨_, rfl⟩
          have pma : Box wa mbx [.pointer none] := by rw [← hwa]; exact pm9.set 0 _
          have hb3a : Below y3.heap.size y3 wa := by rw [← hwa]; exact hb39.setCell (p := ⟨mbx, 0, none⟩) (by have := hb8.size; simp only []; omega) _
          have PMA := Lib.hid pma
          clear hb8 hb9 hb39 pm9 pma hs9
          go_wp2
          clear y0 y1 y0' z18 z19 z20
          refine wp_region_noPanic ?_
          refine wp_region_held_drew (S := fun w' => w'.cell? ⟨sb, 0, none⟩ = some (.slice (some ⟨gb, 0, none⟩) i gc) ∧ w'.cell? ⟨g18, 0, none⟩ = some (.int .i64 (a : Int)) ∧ w'.cell? ⟨g19, 0, none⟩ = some (.int .i64 (b : Int)) ∧ w'.cell? ⟨g20, 0, none⟩ = some (.int .i64 (c : Int)) ∧ w'.cell? ⟨gb, a * 2, none⟩ = some (.int .i64 a0) ∧ w'.cell? ⟨gb, a * 2 + 1, none⟩ = some (.int .i64 a1) ∧ w'.cell? ⟨gb, b * 2, none⟩ = some (.int .i64 b0) ∧ w'.cell? ⟨gb, b * 2 + 1, none⟩ = some (.int .i64 b1) ∧ w'.cell? ⟨gb, c * 2, none⟩ = some (.int .i64 c0) ∧ w'.cell? ⟨gb, c * 2 + 1, none⟩ = some (.int .i64 c1)) (by kernel_rfl) (CE.out _ hb3a.drew') (fun hHeld => ?_)
          refine reg_take 0 ?_ ?_ ?_ (by kernel_rfl) (by kernel_rfl) (by kernel_rfl) (fun _ _ _ h => h) ?_ ?_ (by assumption) ?_
          rotate_left 2
          · simp only [List.getElem?_toArray, List.getElem?_cons_zero]; exact rfl
          · rfl
          · intro w hSw; (try dsimp only at hSw); go_simp; try with_reducible rfl
          try simp only [Act.put]
          try simp only [List.setIfInBounds_toArray, List.set_cons_zero, List.set_cons_succ]
          refine reg_take 1 ?_ ?_ ?_ (by kernel_rfl) (by kernel_rfl) (by kernel_rfl) (fun _ _ _ h => h) ?_ ?_ (by assumption) ?_
          rotate_left 2
          · simp only [List.getElem?_toArray, List.getElem?_cons_succ, List.getElem?_cons_zero]; exact rfl
          · rfl
          · intro w hSw; (try dsimp only at hSw); go_simp; try with_reducible rfl
          try simp only [Act.put]
          try simp only [List.setIfInBounds_toArray, List.set_cons_zero, List.set_cons_succ]
          refine reg_take 2 ?_ ?_ ?_ (by kernel_rfl) (by kernel_rfl) (by kernel_rfl) (fun _ _ _ h => h) ?_ ?_ (by assumption) ?_
          rotate_left 2
          · simp only [List.getElem?_toArray, List.getElem?_cons_succ, List.getElem?_cons_zero]; exact rfl
          · rfl
          · intro w hSw; (try dsimp only at hSw); go_simp; try with_reducible rfl
          try simp only [Act.put]
          try simp only [List.setIfInBounds_toArray, List.set_cons_zero, List.set_cons_succ]
          refine reg_take 3 ?_ ?_ ?_ (by kernel_rfl) (by kernel_rfl) (by kernel_rfl) (fun _ _ _ h => h) ?_ ?_ (by assumption) ?_
          rotate_left 2
          · simp only [List.getElem?_toArray, List.getElem?_cons_succ, List.getElem?_cons_zero]; exact rfl
          · rfl
          · intro w hSw; (try dsimp only at hSw); go_simp; try with_reducible rfl
          try simp only [Act.put]
          try simp only [List.setIfInBounds_toArray, List.set_cons_zero, List.set_cons_succ]
          refine reg_take 4 ?_ ?_ ?_ (by kernel_rfl) (by kernel_rfl) (by kernel_rfl) (fun _ _ _ h => h) ?_ ?_ (by assumption) ?_
          rotate_left 2
          · simp only [List.getElem?_toArray, List.getElem?_cons_succ, List.getElem?_cons_zero]; exact rfl
          · rfl
          · intro w hSw; (try dsimp only at hSw); go_simp; try with_reducible rfl
          try simp only [Act.put]
          try simp only [List.setIfInBounds_toArray, List.set_cons_zero, List.set_cons_succ]
          refine reg_take 5 ?_ ?_ ?_ (by kernel_rfl) (by kernel_rfl) (by kernel_rfl) (fun _ _ _ h => h) ?_ ?_ (by assumption) ?_
          rotate_left 2
          · simp only [List.getElem?_toArray, List.getElem?_cons_succ, List.getElem?_cons_zero]; exact rfl
          · rfl
          · intro w hSw; (try dsimp only at hSw); go_simp; try with_reducible rfl
          try simp only [Act.put]
          try simp only [List.setIfInBounds_toArray, List.set_cons_zero, List.set_cons_succ]
          refine reg_take 6 ?_ ?_ ?_ (by kernel_rfl) (by kernel_rfl) (by kernel_rfl) (fun _ _ _ h => h) ?_ ?_ (by assumption) ?_
          rotate_left 2
          · simp only [List.getElem?_toArray, List.getElem?_cons_succ, List.getElem?_cons_zero]; exact rfl
          · rfl
          · intro w hSw; (try dsimp only at hSw); go_simp; try with_reducible rfl
          try simp only [Act.put]
          try simp only [List.setIfInBounds_toArray, List.set_cons_zero, List.set_cons_succ]
          refine reg_take 7 ?_ ?_ ?_ (by kernel_rfl) (by kernel_rfl) (by kernel_rfl) (fun _ _ _ h => h) ?_ ?_ (by assumption) ?_
          rotate_left 2
          · simp only [List.getElem?_toArray, List.getElem?_cons_succ, List.getElem?_cons_zero]; exact rfl
          · rfl
          · intro w hSw; (try dsimp only at hSw); go_simp; try with_reducible rfl
          try simp only [Act.put]
          try simp only [List.setIfInBounds_toArray, List.set_cons_zero, List.set_cons_succ]
          refine reg_take 8 ?_ ?_ ?_ (by kernel_rfl) (by kernel_rfl) (by kernel_rfl) (fun _ _ _ h => h) ?_ ?_ (by assumption) ?_
          rotate_left 2
          · simp only [List.getElem?_toArray, List.getElem?_cons_succ, List.getElem?_cons_zero]; exact rfl
          · rfl
          · intro w hSw; (try dsimp only at hSw); go_simp; try with_reducible rfl
          try simp only [Act.put]
          try simp only [List.setIfInBounds_toArray, List.set_cons_zero, List.set_cons_succ]
          refine reg_take 9 ?_ ?_ ?_ (by kernel_rfl) (by kernel_rfl) (by kernel_rfl) (fun _ _ _ h => h) ?_ ?_ (by assumption) ?_
          rotate_left 2
          · simp only [List.getElem?_toArray, List.getElem?_cons_succ, List.getElem?_cons_zero]; exact rfl
          · rfl
          · intro w hSw; (try dsimp only at hSw); go_simp; try with_reducible rfl
          try simp only [Act.put]
          try simp only [List.setIfInBounds_toArray, List.set_cons_zero, List.set_cons_succ]
          refine reg_take 10 ?_ ?_ ?_ (by kernel_rfl) (by kernel_rfl) (by kernel_rfl) (fun _ _ _ h => h) ?_ ?_ (by assumption) ?_
          rotate_left 2
          · simp only [List.getElem?_toArray, List.getElem?_cons_succ, List.getElem?_cons_zero]; exact rfl
          · rfl
          · intro w hSw; (try dsimp only at hSw); go_simp; try with_reducible rfl
          try simp only [Act.put]
          try simp only [List.setIfInBounds_toArray, List.set_cons_zero, List.set_cons_succ]
          refine reg_take 11 ?_ ?_ ?_ (by kernel_rfl) (by kernel_rfl) (by kernel_rfl) (fun _ _ _ h => h) ?_ ?_ (by assumption) ?_
          rotate_left 2
          · simp only [List.getElem?_toArray, List.getElem?_cons_succ, List.getElem?_cons_zero]; exact rfl
          · rfl
          · intro w hSw; (try dsimp only at hSw); go_simp; try with_reducible rfl
          try simp only [Act.put]
          try simp only [List.setIfInBounds_toArray, List.set_cons_zero, List.set_cons_succ]
          refine reg_take 12 ?_ ?_ ?_ (by kernel_rfl) (by kernel_rfl) (by kernel_rfl) (fun _ _ _ h => h) ?_ ?_ (by assumption) ?_
          rotate_left 2
          · simp only [List.getElem?_toArray, List.getElem?_cons_succ, List.getElem?_cons_zero]; exact rfl
          · rfl
          · intro w hSw; (try dsimp only at hSw); go_simp; try with_reducible rfl
          try simp only [Act.put]
          try simp only [List.setIfInBounds_toArray, List.set_cons_zero, List.set_cons_succ]
          refine reg_call 13 ?_ (by kernel_rfl) ?_ (fun K hK => ?_)
          rotate_left 1
          · simp only [List.getElem?_toArray, List.getElem?_cons_succ, List.getElem?_cons_zero]; exact rfl
          go_simp
          refine (OR.out _).mono ?_
          rintro e wo ⟨rfl, hbo⟩
          have hbz := ((Below.refl wa.heap.size wa).drew').trans (hbo.mono (Nat.le_refl _))
          clear hbo
          go_wp2_with fail
          refine hK.out _ _ (CE.out _ (hb3a.trans (hbz.mono hb3a.size))) (fun hHeld => ?_)
          clear hK K
          try simp only [Act.put]
          try simp only [List.setIfInBounds_toArray, List.set_cons_zero, List.set_cons_succ]
          refine reg_take 14 ?_ ?_ ?_ (by kernel_rfl) (by kernel_rfl) (by kernel_rfl) (fun _ _ _ h => h) ?_ ?_ (by assumption) ?_
          rotate_left 2
          · simp only [List.getElem?_toArray, List.getElem?_cons_succ, List.getElem?_cons_zero]; exact rfl
          · rfl
          · intro w hSw; (try dsimp only at hSw); go_simp; try with_reducible rfl
          try simp only [Act.put]
          try simp only [List.setIfInBounds_toArray, List.set_cons_zero, List.set_cons_succ]
          refine reg_take 15 ?_ ?_ ?_ (by kernel_rfl) (by kernel_rfl) (by kernel_rfl) (fun _ _ _ h => h) ?_ ?_ (by assumption) ?_
          rotate_left 2
          · simp only [List.getElem?_toArray, List.getElem?_cons_succ, List.getElem?_cons_zero]; exact rfl
          · rfl
          · intro w hSw; (try dsimp only at hSw); go_simp; try with_reducible rfl
          try simp only [Act.put]
          try simp only [List.setIfInBounds_toArray, List.set_cons_zero, List.set_cons_succ]
          refine wpAnyH_done (by kernel_rfl) ?_ _
          refine NoPanic.normal ?_
          have pmz := PMA.out.below hbz
          have prz := PRY.out.below (hb3a.trans (hbz.mono hb3a.size))
          have m0_ := pmz.c0
          obtain ⟨q0, q1⟩ := prz.open1
          have PZ := Lib.hid (prz.set 0 (.bool true))
          have FIN := Lib.hid ((HB0.out.trans ((hb3a.trans (hbz.mono hb3a.size)).mono HB0.out.size)).setCell (p := ⟨w.heap.size + 1, 0, none⟩) (by simp only []; omega) (.bool true))
          clear pmz prz hb3a hbz
          go_wp2
          clear q0 q1
          have z0 := PZ.out.c0
          refine ⟨.bool true, ?_, rfl, FIN.out⟩
          simp [results, Try.results3, go_sem, z0]
        · have hN : ∃ b' c' : Nat, (b' = b ∧ c' = c ∨ b' = c ∧ c' = b) ∧ 0 < crs (ptA Q a).1 (ptA Q a).2 (ptA Q b').1 (ptA Q b').2 (ptA Q c').1 (ptA Q c').2 ∧ Calls Try.prog 8 #[.slice (some ⟨gb, 0, none⟩) i gc, .int .i64 (a : Int), .int .i64 (b : Int), .int .i64 (c : Int)] y3 fun e w' => ∃ mb pb pc tv, e = .returned (.tuple #[.pointer (some ⟨mb, 0, none⟩), .bool true]) ∧ MeshO 26 37 w' y3.heap.size mb pb pc tv Q (newM (a : Int) (b' : Int) (c' : Int)) ∧ y3.heap.size ≤ pb ∧ Below y3.heap.size y3 w' := by
            rcases Int.lt_trichotomy (crs a0 a1 b0 b1 c0 c1) 0 with h | h | h
            · exact ⟨c, b, .inr ⟨rfl, rfl⟩, by rw [HPA.out, HPB.out, HPC.out]; show 0 < crs a0 a1 c0 c1 b0 b1; rw [crs_back]; omega, New_back (some ⟨gb, 0, none⟩) gb i gc Q y3 HQL.out (by omega) (by omega) HQP.out rfl (fun j u hj => by rw [Nat.zero_add]; exact HC3.out j u hj) a b c (by rw [ht]; exact Int.sign_eq_neg_one_of_neg h)⟩
            · exact absurd h htn
            · exact ⟨b, c, .inl ⟨rfl, rfl⟩, by rw [HPA.out, HPB.out, HPC.out]; exact h, New_yes (some ⟨gb, 0, none⟩) gb i gc Q y3 HQL.out (by omega) (by omega) HQP.out rfl (fun j u hj => by rw [Nat.zero_add]; exact HC3.out j u hj) a b c (by rw [ht]; exact Int.sign_eq_one_of_pos h)⟩
          have hq0 : o ≠ 0 := fun e => htn (Int.sign_eq_zero_iff_zero.1 (ho.trans e))
          have hq : (o == 0) = false := by simpa using hq0
          have hq2 : (o != 0) = true := by simpa using hq0
          clear ht htn hq0
          obtain ⟨b', c', hbc, hD, hN⟩ := hN
          have HN := Lib.hid hN; have HD := Lib.hid hD; have HBC := Lib.hid hbc
          clear hN hD hbc
          go_wp2_with fail
          refine HN.out.mono ?_
          rintro e w8 ⟨mb, pb, pc, tv, rfl, hm, hpb, hb8⟩
          obtain ⟨tb, tc, rfl, hr⟩ := MeshO.sl hm (by show 0 < 4; omega)
          obtain ⟨mbx, hmbx⟩ : ∃ x, w8.heap.size = x := ⟨_, rfl⟩
          obtain ⟨w9, hw9, pm9, hb9, hs9⟩ := new_box w8 _ rfl [.pointer (some ⟨mb, 0, none⟩)] 28
          rw [hmbx] at pm9
          have hb39 : Below y3.heap.size y3 w9 := hb8.trans (hb9.mono hb8.size)
          have HM := Lib.hid hm; have HR := Lib.hid hr; have PM9 := Lib.hid pm9; have HB9 := Lib.hid hb9; have HB8 := Lib.hid hb8
          clear hm hr pm9 hb8 hb9 hs9
          go_wp2
          clear y0' z18 z19 z20
          refine wp_region_noPanic ?_
          refine wp_region_held_drew (S := fun w' => w'.cell? ⟨sb, 0, none⟩ = some (.slice (some ⟨gb, 0, none⟩) i gc) ∧ w'.cell? ⟨g18, 0, none⟩ = some (.int .i64 (a : Int)) ∧ w'.cell? ⟨g19, 0, none⟩ = some (.int .i64 (b : Int)) ∧ w'.cell? ⟨g20, 0, none⟩ = some (.int .i64 (c : Int)) ∧ w'.cell? ⟨gb, a * 2, none⟩ = some (.int .i64 a0) ∧ w'.cell? ⟨gb, a * 2 + 1, none⟩ = some (.int .i64 a1) ∧ w'.cell? ⟨gb, b * 2, none⟩ = some (.int .i64 b0) ∧ w'.cell? ⟨gb, b * 2 + 1, none⟩ = some (.int .i64 b1) ∧ w'.cell? ⟨gb, c * 2, none⟩ = some (.int .i64 c0) ∧ w'.cell? ⟨gb, c * 2 + 1, none⟩ = some (.int .i64 c1)) (by kernel_rfl) (CE.out _ hb39.drew') (fun hHeld => ?_)
          refine reg_take 0 ?_ ?_ ?_ (by kernel_rfl) (by kernel_rfl) (by kernel_rfl) (fun _ _ _ h => h) ?_ ?_ (by assumption) ?_
          rotate_left 2
          · simp only [List.getElem?_toArray, List.getElem?_cons_zero]; exact rfl
          · rfl
          · intro w hSw; (try dsimp only at hSw); go_simp; try with_reducible rfl
          try simp only [Act.put]
          try simp only [List.setIfInBounds_toArray, List.set_cons_zero, List.set_cons_succ]
          refine reg_take 1 ?_ ?_ ?_ (by kernel_rfl) (by kernel_rfl) (by kernel_rfl) (fun _ _ _ h => h) ?_ ?_ (by assumption) ?_
          rotate_left 2
          · simp only [List.getElem?_toArray, List.getElem?_cons_succ, List.getElem?_cons_zero]; exact rfl
          · rfl
          · intro w hSw; (try dsimp only at hSw); go_simp; try with_reducible rfl
          try simp only [Act.put]
          try simp only [List.setIfInBounds_toArray, List.set_cons_zero, List.set_cons_succ]
          refine reg_take 2 ?_ ?_ ?_ (by kernel_rfl) (by kernel_rfl) (by kernel_rfl) (fun _ _ _ h => h) ?_ ?_ (by assumption) ?_
          rotate_left 2
          · simp only [List.getElem?_toArray, List.getElem?_cons_succ, List.getElem?_cons_zero]; exact rfl
          · rfl
          · intro w hSw; (try dsimp only at hSw); go_simp; try with_reducible rfl
          try simp only [Act.put]
          try simp only [List.setIfInBounds_toArray, List.set_cons_zero, List.set_cons_succ]
          refine reg_take 3 ?_ ?_ ?_ (by kernel_rfl) (by kernel_rfl) (by kernel_rfl) (fun _ _ _ h => h) ?_ ?_ (by assumption) ?_
          rotate_left 2
          · simp only [List.getElem?_toArray, List.getElem?_cons_succ, List.getElem?_cons_zero]; exact rfl
          · rfl
          · intro w hSw; (try dsimp only at hSw); go_simp; try with_reducible rfl
          try simp only [Act.put]
          try simp only [List.setIfInBounds_toArray, List.set_cons_zero, List.set_cons_succ]
          refine reg_take 4 ?_ ?_ ?_ (by kernel_rfl) (by kernel_rfl) (by kernel_rfl) (fun _ _ _ h => h) ?_ ?_ (by assumption) ?_
          rotate_left 2
          · simp only [List.getElem?_toArray, List.getElem?_cons_succ, List.getElem?_cons_zero]; exact rfl
          · rfl
          · intro w hSw; (try dsimp only at hSw); go_simp; try with_reducible rfl
          try simp only [Act.put]
          try simp only [List.setIfInBounds_toArray, List.set_cons_zero, List.set_cons_succ]
          refine reg_take 5 ?_ ?_ ?_ (by kernel_rfl) (by kernel_rfl) (by kernel_rfl) (fun _ _ _ h => h) ?_ ?_ (by assumption) ?_
          rotate_left 2
          · simp only [List.getElem?_toArray, List.getElem?_cons_succ, List.getElem?_cons_zero]; exact rfl
          · rfl
          · intro w hSw; (try dsimp only at hSw); go_simp; try with_reducible rfl
          try simp only [Act.put]
          try simp only [List.setIfInBounds_toArray, List.set_cons_zero, List.set_cons_succ]
          refine reg_take 6 ?_ ?_ ?_ (by kernel_rfl) (by kernel_rfl) (by kernel_rfl) (fun _ _ _ h => h) ?_ ?_ (by assumption) ?_
          rotate_left 2
          · simp only [List.getElem?_toArray, List.getElem?_cons_succ, List.getElem?_cons_zero]; exact rfl
          · rfl
          · intro w hSw; (try dsimp only at hSw); go_simp; try with_reducible rfl
          try simp only [Act.put]
          try simp only [List.setIfInBounds_toArray, List.set_cons_zero, List.set_cons_succ]
          refine reg_take 7 ?_ ?_ ?_ (by kernel_rfl) (by kernel_rfl) (by kernel_rfl) (fun _ _ _ h => h) ?_ ?_ (by assumption) ?_
          rotate_left 2
          · simp only [List.getElem?_toArray, List.getElem?_cons_succ, List.getElem?_cons_zero]; exact rfl
          · rfl
          · intro w hSw; (try dsimp only at hSw); go_simp; try with_reducible rfl
          try simp only [Act.put]
          try simp only [List.setIfInBounds_toArray, List.set_cons_zero, List.set_cons_succ]
          refine reg_take 8 ?_ ?_ ?_ (by kernel_rfl) (by kernel_rfl) (by kernel_rfl) (fun _ _ _ h => h) ?_ ?_ (by assumption) ?_
          rotate_left 2
          · simp only [List.getElem?_toArray, List.getElem?_cons_succ, List.getElem?_cons_zero]; exact rfl
          · rfl
          · intro w hSw; (try dsimp only at hSw); go_simp; try with_reducible rfl
          try simp only [Act.put]
          try simp only [List.setIfInBounds_toArray, List.set_cons_zero, List.set_cons_succ]
          refine reg_take 9 ?_ ?_ ?_ (by kernel_rfl) (by kernel_rfl) (by kernel_rfl) (fun _ _ _ h => h) ?_ ?_ (by assumption) ?_
          rotate_left 2
          · simp only [List.getElem?_toArray, List.getElem?_cons_succ, List.getElem?_cons_zero]; exact rfl
          · rfl
          · intro w hSw; (try dsimp only at hSw); go_simp; try with_reducible rfl
          try simp only [Act.put]
          try simp only [List.setIfInBounds_toArray, List.set_cons_zero, List.set_cons_succ]
          refine reg_take 10 ?_ ?_ ?_ (by kernel_rfl) (by kernel_rfl) (by kernel_rfl) (fun _ _ _ h => h) ?_ ?_ (by assumption) ?_
          rotate_left 2
          · simp only [List.getElem?_toArray, List.getElem?_cons_succ, List.getElem?_cons_zero]; exact rfl
          · rfl
          · intro w hSw; (try dsimp only at hSw); go_simp; try with_reducible rfl
          try simp only [Act.put]
          try simp only [List.setIfInBounds_toArray, List.set_cons_zero, List.set_cons_succ]
          refine reg_take 11 ?_ ?_ ?_ (by kernel_rfl) (by kernel_rfl) (by kernel_rfl) (fun _ _ _ h => h) ?_ ?_ (by assumption) ?_
          rotate_left 2
          · simp only [List.getElem?_toArray, List.getElem?_cons_succ, List.getElem?_cons_zero]; exact rfl
          · rfl
          · intro w hSw; (try dsimp only at hSw); go_simp; try with_reducible rfl
          try simp only [Act.put]
          try simp only [List.setIfInBounds_toArray, List.set_cons_zero, List.set_cons_succ]
          refine reg_take 12 ?_ ?_ ?_ (by kernel_rfl) (by kernel_rfl) (by kernel_rfl) (fun _ _ _ h => h) ?_ ?_ (by assumption) ?_
          rotate_left 2
          · simp only [List.getElem?_toArray, List.getElem?_cons_succ, List.getElem?_cons_zero]; exact rfl
          · rfl
          · intro w hSw; (try dsimp only at hSw); go_simp; try with_reducible rfl
          try simp only [Act.put]
          try simp only [List.setIfInBounds_toArray, List.set_cons_zero, List.set_cons_succ]
          refine reg_call 13 ?_ (by kernel_rfl) ?_ (fun K hK => ?_)
          rotate_left 1
          · simp only [List.getElem?_toArray, List.getElem?_cons_succ, List.getElem?_cons_zero]; exact rfl
          go_simp
          refine (OR.out _).mono ?_
          rintro e wo ⟨rfl, hbo⟩
          have hbz := ((Below.refl w9.heap.size w9).drew').trans (hbo.mono (Nat.le_refl _))
          clear hbo
          go_wp2_with fail
          refine hK.out _ _ (CE.out _ (hb39.trans (hbz.mono hb39.size))) (fun hHeld => ?_)
          clear hK K
          try simp only [Act.put]
          try simp only [List.setIfInBounds_toArray, List.set_cons_zero, List.set_cons_succ]
          refine reg_take 14 ?_ ?_ ?_ (by kernel_rfl) (by kernel_rfl) (by kernel_rfl) (fun _ _ _ h => h) ?_ ?_ (by assumption) ?_
          rotate_left 2
          · simp only [List.getElem?_toArray, List.getElem?_cons_succ, List.getElem?_cons_zero]; exact rfl
          · rfl
          · intro w hSw; (try dsimp only at hSw); go_simp; try with_reducible rfl
          try simp only [Act.put]
          try simp only [List.setIfInBounds_toArray, List.set_cons_zero, List.set_cons_succ]
          refine reg_take 15 ?_ ?_ ?_ (by kernel_rfl) (by kernel_rfl) (by kernel_rfl) (fun _ _ _ h => h) ?_ ?_ (by assumption) ?_
          rotate_left 2
          · simp only [List.getElem?_toArray, List.getElem?_cons_succ, List.getElem?_cons_zero]; exact rfl
          · rfl
          · intro w hSw; (try dsimp only at hSw); go_simp; try with_reducible rfl
          try simp only [Act.put]
          try simp only [List.setIfInBounds_toArray, List.set_cons_zero, List.set_cons_succ]
          refine wpAnyH_done (by kernel_rfl) ?_ _
          refine NoPanic.normal ?_
          obtain ⟨kb, hkb⟩ : ∃ x, wo.heap.size = x := ⟨_, rfl⟩
          obtain ⟨w10, hw10, pn10, hb10, hs10⟩ := new_box wo _ rfl [.int .i64 0] 3
          have bx10 : Boxed w10 kb 3 (.int .i64 0) := by rw [← hw10, ← hkb]; exact Boxed.new wo _ _
          rw [hkb] at pn10
          obtain ⟨n0_, n1_⟩ := pn10.open1
          obtain ⟨w11, hw11⟩ : ∃ x, w10.setCell ⟨kb, 0, none⟩ (.int .i64 0) = x := ⟨_, rfl⟩
          have bx11 : Boxed w11 kb 3 (.int .i64 0) := by rw [← hw11]; exact bx10.set _
          have hbo11 : Below wo.heap.size wo w11 := by rw [← hw11]; exact hb10.setCell (p := ⟨kb, 0, none⟩) (by simp only []; omega) _
          have hb911 : Below w9.heap.size w9 w11 := hbz.trans (hbo11.mono hbz.size)
          have hb811 : Below w8.heap.size w8 w11 := HB9.out.trans (hb911.mono HB9.out.size)
          have hkb8 : mbx < kb := by have := PM9.out.lt; have := hbz.size; omega
          have pm11 := PM9.out.below hb911
          have m11 := pm11.c0
          have HAL := Lib.hid (All_any (some ⟨mb, 0, none⟩) w11)
          have BX11 := Lib.hid bx11; have HB811 := Lib.hid hb811; have PM11 := Lib.hid pm11
          have hkl : kb < w11.heap.size := (Array.getElem?_eq_some_iff.1 bx11).1
          clear bx10 pn10 hb10 hs10 bx11 hbo11 hb911 hb811 pm11 hb39 hbz
          go_wp2_with fail
          refine HAL.out.mono ?_
          rintro e w12 ⟨rfl, hw12⟩
          clear n0_ n1_ m11
          go_wp2
          have hsz : w12.heap.size = w11.heap.size + 1 := by rw [← hw12]; simp
          have hb112 : Below w11.heap.size w11 w12 := by rw [← hw12]; exact (Below.refl _ _).alloc (Nat.le_refl _) _
          have bm12 : Boxed w12 w11.heap.size 28 (.pointer (some ⟨mb, 0, none⟩)) := by rw [← hw12]; exact Boxed.new w11 _ _
          have bx12 : Boxed w12 kb 3 (.int .i64 0) := (hb112.block kb hkl).trans BX11.out
          have hb812 := HB811.out.trans (hb112.mono HB811.out.size)
          have hb312 := HB8.out.trans (hb812.mono HB8.out.size)
          have hm12 := HM.out.below hb812
          have hr12 := HR.out.below hb812
          have pm12 := PM11.out.below hb112
          have bs12 := BS3.out.below hb312
          have ga12 := GA.out.below hb312; have gb12 := GB.out.below hb312; have gc12 := GC.out.below hb312
          have pr12 := PRY.out.below hb312
          have hc12 : ∀ j u, (ptsCells Q)[j]? = some u → w12.cell? ⟨gb, j, none⟩ = some u := fun j u hj => (hb312.cell (p := ⟨gb, j, none⟩) (by simp only []; omega)).trans (HC3.out j u hj)
          have hB12 := HB0.out.trans (hb312.mono HB0.out.size)
          have hlow := HM.out.low
          have hlt9 := HM.out.row.lt tb rfl
          have h8s : y3.heap.size ≤ w8.heap.size := HB8.out.size
          have h811s : w8.heap.size ≤ w11.heap.size := HB811.out.size
          obtain ⟨Pb, hPb⟩ : ∃ Pb : Nat → Prop, ∀ b, Pb b ↔ (b ≠ kb ∧ b < w12.heap.size) := ⟨_, fun _ => Iff.rfl⟩
          have hltW : ∀ b, Pb b → b < w12.heap.size := fun b h => ((hPb b).1 h).2
          have hbl : Pb w11.heap.size := (hPb _).2 ⟨by omega, by omega⟩
          have hnk : ¬ Pb kb := fun h => ((hPb _).1 h).1 rfl
          have hin12 : MeshIn Pb mb pb (some ⟨tb, 0, none⟩) := ⟨(hPb _).2 ⟨by omega, by omega⟩, (hPb _).2 ⟨by omega, by omega⟩, fun b hb => by cases hb; exact (hPb _).2 ⟨by omega, by omega⟩⟩
          have hPr : Pb (w.heap.size + 1) := (hPb _).2 ⟨by omega, by omega⟩
          have hPs : Pb sb := (hPb _).2 ⟨by omega, by omega⟩
          have hPg : Pb gb := (hPb _).2 ⟨by omega, by omega⟩
          have hPa : Pb g18 := (hPb _).2 ⟨by omega, by omega⟩
          have hPc : Pb g19 := (hPb _).2 ⟨by omega, by omega⟩
          have hPd : Pb g20 := (hPb _).2 ⟨by omega, by omega⟩
          have hPm : Pb mbx := (hPb _).2 ⟨by omega, by have := pm12.lt; omega⟩
          have hb'l : b' < i ∧ c' < i := by rcases HBC.out with ⟨h1, h2⟩ | ⟨h1, h2⟩ <;> omega
          rw [← wpIn_wide (n := 20)]
          refine range_start9 (fun a0_ ha0 => ?_)
          refine wpIn_rangeFunc_ownH rfl (by omega) (gf := 27) (lb := #[.pointer (some ⟨w11.heap.size, 0, none⟩)]) (by rw [ha0]; rfl) trivial (enters_of Try.func27 (by kernel_rfl) rfl)
            (all_stops 19 (by omega) w11.heap.size Pb w12 hltW hr12 hin12 bm12.cell hbl) (fun h k => KeepB.trans h k) ?kb (Below.refl _ _) (fun _ => rfl)
            (fun (pre : List (RA (newM (a : Int) (b' : Int) (c' : Int)))) W => KeepB Pb w12 W ∧ (Boxed W kb 3 (.int .i64 (pre.length : Int)) ∧ Below w.heap.size w W))
            (fun _ _ _ => False)
            (OwnFrom.and (keepB_own hltW) (OwnFrom.and (Own.from (boxed_own kb 3 (fun pre : List (RA (newM (a : Int) (b' : Int) (c' : Int))) => Value.int .i64 (pre.length : Int))) _) (ownFrom_below (by have := hB12.size; omega) (by have := hB12.size; omega))))
            (fun _ _ _ _ _ h _ _ => h)
            ⟨KeepB.refl _ _, bx12, hB12⟩
            (fun x a' W => ∃ yb, a' = { tmps := (((#[88, 89].zip (encA x)).foldl (fun t (p, v) => t.setIfInBounds p v) a0_.tmps).setIfInBounds 14 (.int .i64 (x.1.1 : Int))).setIfInBounds 15 (.pointer (some ⟨yb, 0, none⟩)), defers := [] } ∧ w12.heap.size ≤ yb ∧ Box W yb x.1.2.cells)
            ?own ?assign ?body ?done ?stop
          case kb =>
            intro W l o o' hl _ _ _ b hb
            exact World.putObj_heap_other (fun e => by have := hltW b hb; omega)
          case own =>
            intro x a' s A B row hs hg hr
            obtain ⟨yb, g1, g2, g3⟩ := hs
            exact ⟨yb, g1, g2, box_own9 _ yb (fun _ : Unit => x.1.2.cells) () A B row g3 hg hr⟩
          case assign =>
            intro l pre x W K hI hK
            rw [ha0] at hK ⊢
            obtain ⟨⟨y, U⟩, hy1, hy2⟩ := x
            obtain ⟨u0, u1, u2, k0, k1, k2, g0, g1, g2⟩ := U
            dsimp only [encA, triV] at hK ⊢
            obtain ⟨W1, hW1, py, hbW, hsW⟩ := new_box W _ rfl [.int .i64 u0, .int .i64 u1, .int .i64 u2, .int .i64 k0, .int .i64 k1, .int .i64 k2, .bool g0, .bool g1, .bool g2] 37
            gi_wp2
            have hW12 : w12.heap.size ≤ W.heap.size := by
              have hx := (hI.1 w11.heap.size hbl).trans bm12
              have := (Array.getElem?_eq_some_iff.1 hx).1
              omega
            refine hK _ _ ((keepsOthers_below9 hbW).from _) (KeepB.of_below hbW (fun b hb => by have := hltW b hb; omega)) ?_ ⟨W.heap.size, by kernel_rfl, hW12, py⟩
            exact ⟨hI.1.trans (KeepB.of_below hbW (fun b hb => by have := hltW b hb; omega)), (hbW.block kb (by omega)).trans hI.2.1, hI.2.2.trans (hbW.mono hI.2.2.size)⟩
          case body =>
            as_aux_lemma =>
              rintro l pre x a' W hWl - ⟨hKB, hbx, hBW⟩ ⟨yb, rfl, hyb, py⟩ hlen
              obtain ⟨⟨y, U⟩, hy1, hy2⟩ := x
              simp only [] at py hy1 hy2
              obtain ⟨rfl, rfl⟩ := one_only9 hy1 hy2
              have hlen4 : pre.length < 4 := hlen
              have hln : ∀ z : RA (newM (a : Int) (b' : Int) (c' : Int)), ((pre ++ [z]).length : Int) = (pre.length : Int) + 1 := fun z => by simp
              have HLN := Lib.hid hln
              obtain ⟨k, hk⟩ : ∃ k, pre.length = k := ⟨_, rfl⟩
              rw [hk] at hbx hlen4 HLN
              have hW12 : w12.heap.size ≤ W.heap.size := by
                have hx := (hKB w11.heap.size hbl).trans bm12
                have := (Array.getElem?_eq_some_iff.1 hx).1
                omega
              have hkW : kb < W.heap.size := by omega
              obtain ⟨W1, hW1⟩ : ∃ x, W.setCell ⟨kb, 0, none⟩ (.int .i64 ((k : Int) + 1)) = x := ⟨_, rfl⟩
              have hKB1 : KeepB Pb w12 W1 := by rw [← hW1]; exact keepB_set9 hKB hnk _
              have hKW1 : KeepB Pb W W1 := by rw [← hW1]; exact keepB_set9 (KeepB.refl _ _) hnk _
              have hbx1 : Boxed W1 kb 3 (.int .i64 ((k : Int) + 1)) := by rw [← hW1]; exact hbx.set _
              have hBW1 : Below w.heap.size w W1 := by rw [← hW1]; exact hBW.setCell (p := ⟨kb, 0, none⟩) (by simp only []; omega) _
              have hzs : W1.heap.size = W.heap.size := by rw [← hW1]; simp [World.setCell]
              have hfar : W1.heap[yb]? = W.heap[yb]? := by rw [← hW1]; exact heap_set_far _ _ _ _ _ (by omega)
              have py1 := py.same hfar
              have hKO1 : KeepsFrom w12.heap.size W W1 := by rw [← hW1]; exact (KeepsOthers.setCell _ _ _).from _
              obtain ⟨⟨p0, p1⟩, hpb'⟩ : ∃ q, ptA Q b' = q := ⟨_, rfl⟩
              obtain ⟨⟨r0, r1⟩, hpc'⟩ : ∃ q, ptA Q c' = q := ⟨_, rfl⟩
              have gpb : Q[b']? = some (p0, p1) := by have := ptA_at (P := Q) (v := b') (by rw [HQL.out]; omega); rw [hpb'] at this; exact this
              have gpc : Q[c']? = some (r0, r1) := by have := ptA_at (P := Q) (v := c') (by rw [HQL.out]; omega); rw [hpc'] at this; exact this
              have hkb' := HQP.out _ (List.mem_of_getElem? gpb); have hkc' := HQP.out _ (List.mem_of_getElem? gpc)
              have hs1 : (crs a0 a1 p0 p1 r0 r1).sign = 1 := by
                have h := HD.out
                rw [HPA.out, hpb', hpc'] at h
                exact Int.sign_eq_one_of_pos h
              have OR2 := Lib.hid (fun W' => Orient_is a0 a1 p0 p1 r0 r1 HKA.out.1 HKA.out.2 hkb'.1 hkb'.2 hkc'.1 hkc'.2 hs1 W')
              obtain ⟨T, hT⟩ : ∃ T : TriM, (⟨(a : Int), (b' : Int), (c' : Int), 1, 2, 3, false, false, false⟩ : TriM) = T := ⟨_, rfl⟩
              obtain ⟨ka, hka⟩ := one_has (a := a) (b := b') (c := c') (v := a) (.inl rfl)
              obtain ⟨kbb, hkbb⟩ := one_has (a := a) (b := b') (c := c') (v := b) (by rcases HBC.out with ⟨h1, h2⟩ | ⟨h1, h2⟩ <;> omega)
              obtain ⟨kcc, hkcc⟩ := one_has (a := a) (b := b') (c := c') (v := c) (by rcases HBC.out with ⟨h1, h2⟩ | ⟨h1, h2⟩ <;> omega)
              have hka0 : ¬ (ka : Int) < 0 := by omega
              have hkb0 : ¬ (kbb : Int) < 0 := by omega
              have hkc0 : ¬ (kcc : Int) < 0 := by omega
              have HA1 := Lib.hid (fun W' => has_any (⟨(a : Int), (b' : Int), (c' : Int), 1, 2, 3, false, false, false⟩ : TriM) (a : Int) W')
              have HA2 := Lib.hid (fun W' => has_any (⟨(a : Int), (b' : Int), (c' : Int), 1, 2, 3, false, false, false⟩ : TriM) (b : Int) W')
              have HA3 := Lib.hid (fun W' => has_any (⟨(a : Int), (b' : Int), (c' : Int), 1, 2, 3, false, false, false⟩ : TriM) (c : Int) W')
              rw [hka] at HA1; rw [hkbb] at HA2; rw [hkcc] at HA3
              unfold triV at HA1 HA2 HA3
              simp only [] at HA1 HA2 HA3
              have hrW := hr12.keep hin12 hKB1
              have HRE := Lib.hid (show ∀ W', Below W1.heap.size W1 W' → Calls Try.prog 11 #[.pointer (some ⟨mb, 0, none⟩), .int .i64 ((0 : Nat) : Int)] W' fun e w'' => e = .returned (.bool true) ∧ Drew W' w'' from fun W' hb => by
                have h := Real_any ((0 : Nat) : Int) W' (hrW.below hb)
                rw [one_real0] at h; exact h)
              obtain ⟨qa0, qa1⟩ := ptsCells_get Q a _ _ HGPA.out
              obtain ⟨qb0, qb1⟩ := ptsCells_get Q b' _ _ gpb
              obtain ⟨qc0, qc1⟩ := ptsCells_get Q c' _ _ gpc
              have CF := Lib.hid (show ∀ w', Below W1.heap.size W1 w' → w'.cell? ⟨mbx, 0, none⟩ = some (.pointer (some ⟨mb, 0, none⟩)) ∧ w'.cell? ⟨sb, 0, none⟩ = some (.slice (some ⟨gb, 0, none⟩) i gc) ∧ w'.cell? ⟨g18, 0, none⟩ = some (.int .i64 (a : Int)) ∧ w'.cell? ⟨g19, 0, none⟩ = some (.int .i64 (b : Int)) ∧ w'.cell? ⟨g20, 0, none⟩ = some (.int .i64 (c : Int)) ∧ w'.cell? ⟨yb, 0, none⟩ = some (.int .i64 (a : Int)) ∧ w'.cell? ⟨yb, 1, none⟩ = some (.int .i64 (b' : Int)) ∧ w'.cell? ⟨yb, 2, none⟩ = some (.int .i64 (c' : Int)) ∧ w'.cell? ⟨yb, 3, none⟩ = some (.int .i64 1) ∧ w'.cell? ⟨yb, 4, none⟩ = some (.int .i64 2) ∧ w'.cell? ⟨yb, 5, none⟩ = some (.int .i64 3) ∧ w'.cell? ⟨yb, 6, none⟩ = some (.bool false) ∧ w'.cell? ⟨yb, 7, none⟩ = some (.bool false) ∧ w'.cell? ⟨yb, 8, none⟩ = some (.bool false) ∧ w'.cell? ⟨gb, a * 2, none⟩ = some (.int .i64 a0) ∧ w'.cell? ⟨gb, a * 2 + 1, none⟩ = some (.int .i64 a1) ∧ w'.cell? ⟨gb, b' * 2, none⟩ = some (.int .i64 p0) ∧ w'.cell? ⟨gb, b' * 2 + 1, none⟩ = some (.int .i64 p1) ∧ w'.cell? ⟨gb, c' * 2, none⟩ = some (.int .i64 r0) ∧ w'.cell? ⟨gb, c' * 2 + 1, none⟩ = some (.int .i64 r1) from fun w' hb => by
                have hkk : KeepB Pb w12 w' := hKB1.trans (KeepB.of_below hb (fun b hb => by have := hltW b hb; omega))
                have pyw := py1.below hb
                have hcw : ∀ j u, (ptsCells Q)[j]? = some u → w'.cell? ⟨gb, j, none⟩ = some u := fun j u hj => (hkk.cell hPg).trans (hc12 j u hj)
                exact ⟨(hkk.cell hPm).trans pm12.c0, (hkk.cell hPs).trans bs12.c0, (hkk.cell hPa).trans ga12.c0, (hkk.cell hPc).trans gb12.c0, (hkk.cell hPd).trans gc12.c0, pyw.c 0 _ rfl, pyw.c 1 _ rfl, pyw.c 2 _ rfl, pyw.c 3 _ rfl, pyw.c 4 _ rfl, pyw.c 5 _ rfl, pyw.c 6 _ rfl, pyw.c 7 _ rfl, pyw.c 8 _ rfl, hcw _ _ qa0, hcw _ _ qa1, hcw _ _ qb0, hcw _ _ qb1, hcw _ _ qc0, hcw _ _ qc1⟩)
              have HKO1 := Lib.hid hKO1; have HKW1 := Lib.hid hKW1; have HKB1 := Lib.hid hKB1; have HBX1 := Lib.hid hbx1; have HBW1 := Lib.hid hBW1
              have i1 : (0 : Int) ≤ (b' : Int) := by omega
              have i2 : (b' : Int) < (i : Int) := by omega
              have i3 : (0 : Int) ≤ (c' : Int) := by omega
              have i4 : (c' : Int) < (i : Int) := by omega
              have cb := hbx.cell; have fb := hbx.frozen
              rw [ha0]
              dsimp only [encA, triV]
              clear hKO1 hKW1 hKB1 hbx1 hBW1 hKB hBW py py1 hrW hpb' hpc' gpb gpc hkb' hkc' hs1 hka hkbb hkcc qa0 qa1 qb0 qb1 qc0 qc1 hbx hfar hT T hln hlen
              gi_wp2
              clear cb fb
              refine rnd_region_held (S := fun w' => w'.cell? ⟨mbx, 0, none⟩ = some (.pointer (some ⟨mb, 0, none⟩)) ∧ w'.cell? ⟨sb, 0, none⟩ = some (.slice (some ⟨gb, 0, none⟩) i gc) ∧ w'.cell? ⟨g18, 0, none⟩ = some (.int .i64 (a : Int)) ∧ w'.cell? ⟨g19, 0, none⟩ = some (.int .i64 (b : Int)) ∧ w'.cell? ⟨g20, 0, none⟩ = some (.int .i64 (c : Int)) ∧ w'.cell? ⟨yb, 0, none⟩ = some (.int .i64 (a : Int)) ∧ w'.cell? ⟨yb, 1, none⟩ = some (.int .i64 (b' : Int)) ∧ w'.cell? ⟨yb, 2, none⟩ = some (.int .i64 (c' : Int)) ∧ w'.cell? ⟨yb, 3, none⟩ = some (.int .i64 1) ∧ w'.cell? ⟨yb, 4, none⟩ = some (.int .i64 2) ∧ w'.cell? ⟨yb, 5, none⟩ = some (.int .i64 3) ∧ w'.cell? ⟨yb, 6, none⟩ = some (.bool false) ∧ w'.cell? ⟨yb, 7, none⟩ = some (.bool false) ∧ w'.cell? ⟨yb, 8, none⟩ = some (.bool false) ∧ w'.cell? ⟨gb, a * 2, none⟩ = some (.int .i64 a0) ∧ w'.cell? ⟨gb, a * 2 + 1, none⟩ = some (.int .i64 a1) ∧ w'.cell? ⟨gb, b' * 2, none⟩ = some (.int .i64 p0) ∧ w'.cell? ⟨gb, b' * 2 + 1, none⟩ = some (.int .i64 p1) ∧ w'.cell? ⟨gb, c' * 2, none⟩ = some (.int .i64 r0) ∧ w'.cell? ⟨gb, c' * 2 + 1, none⟩ = some (.int .i64 r1)) (by kernel_rfl) (by kernel_rfl) (CF.out _ (Below.refl W1.heap.size W1).drew') (fun hHeld => ?_)
              refine reg_take 0 ?_ ?_ ?_ (by kernel_rfl) (by kernel_rfl) (by kernel_rfl) (fun _ _ _ h => h) ?_ ?_ (by assumption) ?_
              rotate_left 2
              · simp only [List.getElem?_toArray, List.getElem?_cons_zero]; exact rfl
              · rfl
              · intro w hSw; (try dsimp only at hSw); go_simp; try with_reducible rfl
              try simp only [Act.put]
              try simp only [List.setIfInBounds_toArray, List.set_cons_zero, List.set_cons_succ]
              refine reg_take 1 ?_ ?_ ?_ (by kernel_rfl) (by kernel_rfl) (by kernel_rfl) (fun _ _ _ h => h) ?_ ?_ (by assumption) ?_
              rotate_left 2
              · simp only [List.getElem?_toArray, List.getElem?_cons_succ, List.getElem?_cons_zero]; exact rfl
              · rfl
              · intro w hSw; (try dsimp only at hSw); go_simp; try with_reducible rfl
              try simp only [Act.put]
              try simp only [List.setIfInBounds_toArray, List.set_cons_zero, List.set_cons_succ]
              refine reg_call 2 ?_ (by kernel_rfl) ?_ (fun K hK => ?_)
              rotate_left 1
              · simp only [List.getElem?_toArray, List.getElem?_cons_succ, List.getElem?_cons_zero]; exact rfl
              have hf0 := (Below.refl W1.heap.size W1).drew'
              go_simp
              refine (HRE.out _ hf0).mono ?_
              rintro e v1 ⟨rfl, hb_v1⟩
              have hb_v1 := hb_v1.below
              have hf1 := hf0.trans (hb_v1.mono hf0.size)
              clear hb_v1
              go_wp2_with fail
              refine hK.out _ _ (CF.out _ hf1) (fun hHeld => ?_)
              clear hK K
              try simp only [Act.put]
              try simp only [List.setIfInBounds_toArray, List.set_cons_zero, List.set_cons_succ]
              refine reg_take 3 ?_ ?_ ?_ (by kernel_rfl) (by kernel_rfl) (by kernel_rfl) (fun _ _ _ h => h) ?_ ?_ (by assumption) ?_
              rotate_left 2
              · simp only [List.getElem?_toArray, List.getElem?_cons_succ, List.getElem?_cons_zero]; exact rfl
              · rfl
              · intro w hSw; (try dsimp only at hSw); go_simp; try with_reducible rfl
              try simp only [Act.put]
              try simp only [List.setIfInBounds_toArray, List.set_cons_zero, List.set_cons_succ]
              refine reg_take 4 ?_ ?_ ?_ (by kernel_rfl) (by kernel_rfl) (by kernel_rfl) (fun _ _ _ h => h) ?_ ?_ (by assumption) ?_
              rotate_left 2
              · simp only [List.getElem?_toArray, List.getElem?_cons_succ, List.getElem?_cons_zero]; exact rfl
              · rfl
              · intro w hSw; (try dsimp only at hSw); go_simp; try with_reducible rfl
              try simp only [Act.put]
              try simp only [List.setIfInBounds_toArray, List.set_cons_zero, List.set_cons_succ]
              refine reg_take 5 ?_ ?_ ?_ (by kernel_rfl) (by kernel_rfl) (by kernel_rfl) (fun _ _ _ h => h) ?_ ?_ (by assumption) ?_
              rotate_left 2
              · simp only [List.getElem?_toArray, List.getElem?_cons_succ, List.getElem?_cons_zero]; exact rfl
              · rfl
              · intro w hSw; (try dsimp only at hSw); go_simp; try with_reducible rfl
              try simp only [Act.put]
              try simp only [List.setIfInBounds_toArray, List.set_cons_zero, List.set_cons_succ]
              refine reg_take 6 ?_ ?_ ?_ (by kernel_rfl) (by kernel_rfl) (by kernel_rfl) (fun _ _ _ h => h) ?_ ?_ (by assumption) ?_
              rotate_left 2
              · simp only [List.getElem?_toArray, List.getElem?_cons_succ, List.getElem?_cons_zero]; exact rfl
              · rfl
              · intro w hSw; (try dsimp only at hSw); go_simp; try with_reducible rfl
              try simp only [Act.put]
              try simp only [List.setIfInBounds_toArray, List.set_cons_zero, List.set_cons_succ]
              refine reg_call 7 ?_ (by kernel_rfl) ?_ (fun K hK => ?_)
              rotate_left 1
              · simp only [List.getElem?_toArray, List.getElem?_cons_succ, List.getElem?_cons_zero]; exact rfl
              go_simp
              refine (HA1.out _).mono ?_
              rintro e v2 ⟨rfl, hb_v2⟩
              have hf2 := hf1.trans (hb_v2.mono hf1.size)
              clear hb_v2
              go_wp2_with fail
              refine hK.out _ _ (CF.out _ hf2) (fun hHeld => ?_)
              clear hK K
              try simp only [Act.put]
              try simp only [List.setIfInBounds_toArray, List.set_cons_zero, List.set_cons_succ]
              refine reg_take 8 ?_ ?_ ?_ (by kernel_rfl) (by kernel_rfl) (by kernel_rfl) (fun _ _ _ h => h) ?_ ?_ (by assumption) ?_
              rotate_left 2
              · simp only [List.getElem?_toArray, List.getElem?_cons_succ, List.getElem?_cons_zero]; exact rfl
              · rfl
              · intro w hSw; (try dsimp only at hSw); go_simp; try with_reducible rfl
              try simp only [Act.put]
              try simp only [List.setIfInBounds_toArray, List.set_cons_zero, List.set_cons_succ]
              refine reg_take 9 ?_ ?_ ?_ (by kernel_rfl) (by kernel_rfl) (by kernel_rfl) (fun _ _ _ h => h) ?_ ?_ (by assumption) ?_
              rotate_left 2
              · simp only [List.getElem?_toArray, List.getElem?_cons_succ, List.getElem?_cons_zero]; exact rfl
              · rfl
              · intro w hSw; (try dsimp only at hSw); go_simp; try with_reducible rfl
              try simp only [Act.put]
              try simp only [List.setIfInBounds_toArray, List.set_cons_zero, List.set_cons_succ]
              refine reg_take 10 ?_ ?_ ?_ (by kernel_rfl) (by kernel_rfl) (by kernel_rfl) (fun _ _ _ h => h) ?_ ?_ (by assumption) ?_
              rotate_left 2
              · simp only [List.getElem?_toArray, List.getElem?_cons_succ, List.getElem?_cons_zero]; exact rfl
              · rfl
              · intro w hSw; (try dsimp only at hSw); go_simp; try with_reducible rfl
              try simp only [Act.put]
              try simp only [List.setIfInBounds_toArray, List.set_cons_zero, List.set_cons_succ]
              refine reg_take 11 ?_ ?_ ?_ (by kernel_rfl) (by kernel_rfl) (by kernel_rfl) (fun _ _ _ h => h) ?_ ?_ (by assumption) ?_
              rotate_left 2
              · simp only [List.getElem?_toArray, List.getElem?_cons_succ, List.getElem?_cons_zero]; exact rfl
              · rfl
              · intro w hSw; (try dsimp only at hSw); go_simp; try with_reducible rfl
              try simp only [Act.put]
              try simp only [List.setIfInBounds_toArray, List.set_cons_zero, List.set_cons_succ]
              refine reg_take 12 ?_ ?_ ?_ (by kernel_rfl) (by kernel_rfl) (by kernel_rfl) (fun _ _ _ h => h) ?_ ?_ (by assumption) ?_
              rotate_left 2
              · simp only [List.getElem?_toArray, List.getElem?_cons_succ, List.getElem?_cons_zero]; exact rfl
              · rfl
              · intro w hSw; (try dsimp only at hSw); go_simp; try with_reducible rfl
              try simp only [Act.put]
              try simp only [List.setIfInBounds_toArray, List.set_cons_zero, List.set_cons_succ]
              refine reg_call 13 ?_ (by kernel_rfl) ?_ (fun K hK => ?_)
              rotate_left 1
              · simp only [List.getElem?_toArray, List.getElem?_cons_succ, List.getElem?_cons_zero]; exact rfl
              go_simp
              refine (HA2.out _).mono ?_
              rintro e v3 ⟨rfl, hb_v3⟩
              have hf3 := hf2.trans (hb_v3.mono hf2.size)
              clear hb_v3
              go_wp2_with fail
              refine hK.out _ _ (CF.out _ hf3) (fun hHeld => ?_)
              clear hK K
              try simp only [Act.put]
              try simp only [List.setIfInBounds_toArray, List.set_cons_zero, List.set_cons_succ]
              refine reg_take 14 ?_ ?_ ?_ (by kernel_rfl) (by kernel_rfl) (by kernel_rfl) (fun _ _ _ h => h) ?_ ?_ (by assumption) ?_
              rotate_left 2
              · simp only [List.getElem?_toArray, List.getElem?_cons_succ, List.getElem?_cons_zero]; exact rfl
              · rfl
              · intro w hSw; (try dsimp only at hSw); go_simp; try with_reducible rfl
              try simp only [Act.put]
              try simp only [List.setIfInBounds_toArray, List.set_cons_zero, List.set_cons_succ]
              refine reg_take 15 ?_ ?_ ?_ (by kernel_rfl) (by kernel_rfl) (by kernel_rfl) (fun _ _ _ h => h) ?_ ?_ (by assumption) ?_
              rotate_left 2
              · simp only [List.getElem?_toArray, List.getElem?_cons_succ, List.getElem?_cons_zero]; exact rfl
              · rfl
              · intro w hSw; (try dsimp only at hSw); go_simp; try with_reducible rfl
              try simp only [Act.put]
              try simp only [List.setIfInBounds_toArray, List.set_cons_zero, List.set_cons_succ]
              refine reg_take 16 ?_ ?_ ?_ (by kernel_rfl) (by kernel_rfl) (by kernel_rfl) (fun _ _ _ h => h) ?_ ?_ (by assumption) ?_
              rotate_left 2
              · simp only [List.getElem?_toArray, List.getElem?_cons_succ, List.getElem?_cons_zero]; exact rfl
              · rfl
              · intro w hSw; (try dsimp only at hSw); go_simp; try with_reducible rfl
              try simp only [Act.put]
              try simp only [List.setIfInBounds_toArray, List.set_cons_zero, List.set_cons_succ]
              refine reg_take 17 ?_ ?_ ?_ (by kernel_rfl) (by kernel_rfl) (by kernel_rfl) (fun _ _ _ h => h) ?_ ?_ (by assumption) ?_
              rotate_left 2
              · simp only [List.getElem?_toArray, List.getElem?_cons_succ, List.getElem?_cons_zero]; exact rfl
              · rfl
              · intro w hSw; (try dsimp only at hSw); go_simp; try with_reducible rfl
              try simp only [Act.put]
              try simp only [List.setIfInBounds_toArray, List.set_cons_zero, List.set_cons_succ]
              refine reg_take 18 ?_ ?_ ?_ (by kernel_rfl) (by kernel_rfl) (by kernel_rfl) (fun _ _ _ h => h) ?_ ?_ (by assumption) ?_
              rotate_left 2
              · simp only [List.getElem?_toArray, List.getElem?_cons_succ, List.getElem?_cons_zero]; exact rfl
              · rfl
              · intro w hSw; (try dsimp only at hSw); go_simp; try with_reducible rfl
              try simp only [Act.put]
              try simp only [List.setIfInBounds_toArray, List.set_cons_zero, List.set_cons_succ]
              refine reg_call 19 ?_ (by kernel_rfl) ?_ (fun K hK => ?_)
              rotate_left 1
              · simp only [List.getElem?_toArray, List.getElem?_cons_succ, List.getElem?_cons_zero]; exact rfl
              go_simp
              refine (HA3.out _).mono ?_
              rintro e v4 ⟨rfl, hb_v4⟩
              have hf4 := hf3.trans (hb_v4.mono hf3.size)
              clear hb_v4
              go_wp2_with fail
              refine hK.out _ _ (CF.out _ hf4) (fun hHeld => ?_)
              clear hK K
              try simp only [Act.put]
              try simp only [List.setIfInBounds_toArray, List.set_cons_zero, List.set_cons_succ]
              refine reg_take 20 ?_ ?_ ?_ (by kernel_rfl) (by kernel_rfl) (by kernel_rfl) (fun _ _ _ h => h) ?_ ?_ (by assumption) ?_
              rotate_left 2
              · simp only [List.getElem?_toArray, List.getElem?_cons_succ, List.getElem?_cons_zero]; exact rfl
              · rfl
              · intro w hSw; (try dsimp only at hSw); go_simp; try with_reducible rfl
              try simp only [Act.put]
              try simp only [List.setIfInBounds_toArray, List.set_cons_zero, List.set_cons_succ]
              refine reg_take 21 ?_ ?_ ?_ (by kernel_rfl) (by kernel_rfl) (by kernel_rfl) (fun _ _ _ h => h) ?_ ?_ (by assumption) ?_
              rotate_left 2
              · simp only [List.getElem?_toArray, List.getElem?_cons_succ, List.getElem?_cons_zero]; exact rfl
              · rfl
              · intro w hSw; (try dsimp only at hSw); go_simp; try with_reducible rfl
              try simp only [Act.put]
              try simp only [List.setIfInBounds_toArray, List.set_cons_zero, List.set_cons_succ]
              refine reg_take 22 ?_ ?_ ?_ (by kernel_rfl) (by kernel_rfl) (by kernel_rfl) (fun _ _ _ h => h) ?_ ?_ (by assumption) ?_
              rotate_left 2
              · simp only [List.getElem?_toArray, List.getElem?_cons_succ, List.getElem?_cons_zero]; exact rfl
              · rfl
              · intro w hSw; (try dsimp only at hSw); go_simp; try with_reducible rfl
              try simp only [Act.put]
              try simp only [List.setIfInBounds_toArray, List.set_cons_zero, List.set_cons_succ]
              refine reg_take 23 ?_ ?_ ?_ (by kernel_rfl) (by kernel_rfl) (by kernel_rfl) (fun _ _ _ h => h) ?_ ?_ (by assumption) ?_
              rotate_left 2
              · simp only [List.getElem?_toArray, List.getElem?_cons_succ, List.getElem?_cons_zero]; exact rfl
              · rfl
              · intro w hSw; (try dsimp only at hSw); go_simp; try with_reducible rfl
              try simp only [Act.put]
              try simp only [List.setIfInBounds_toArray, List.set_cons_zero, List.set_cons_succ]
              refine reg_take 24 ?_ ?_ ?_ (by kernel_rfl) (by kernel_rfl) (by kernel_rfl) (fun _ _ _ h => h) ?_ ?_ (by assumption) ?_
              rotate_left 2
              · simp only [List.getElem?_toArray, List.getElem?_cons_succ, List.getElem?_cons_zero]; exact rfl
              · rfl
              · intro w hSw; (try dsimp only at hSw); go_simp; try with_reducible rfl
              try simp only [Act.put]
              try simp only [List.setIfInBounds_toArray, List.set_cons_zero, List.set_cons_succ]
              refine reg_take 25 ?_ ?_ ?_ (by kernel_rfl) (by kernel_rfl) (by kernel_rfl) (fun _ _ _ h => h) ?_ ?_ (by assumption) ?_
              rotate_left 2
              · simp only [List.getElem?_toArray, List.getElem?_cons_succ, List.getElem?_cons_zero]; exact rfl
              · rfl
              · intro w hSw; (try dsimp only at hSw); go_simp; try with_reducible rfl
              try simp only [Act.put]
              try simp only [List.setIfInBounds_toArray, List.set_cons_zero, List.set_cons_succ]
              refine reg_take 26 ?_ ?_ ?_ (by kernel_rfl) (by kernel_rfl) (by kernel_rfl) (fun _ _ _ h => h) ?_ ?_ (by assumption) ?_
              rotate_left 2
              · simp only [List.getElem?_toArray, List.getElem?_cons_succ, List.getElem?_cons_zero]; exact rfl
              · rfl
              · intro w hSw; (try dsimp only at hSw); go_simp; try with_reducible rfl
              try simp only [Act.put]
              try simp only [List.setIfInBounds_toArray, List.set_cons_zero, List.set_cons_succ]
              refine reg_take 27 ?_ ?_ ?_ (by kernel_rfl) (by kernel_rfl) (by kernel_rfl) (fun _ _ _ h => h) ?_ ?_ (by assumption) ?_
              rotate_left 2
              · simp only [List.getElem?_toArray, List.getElem?_cons_succ, List.getElem?_cons_zero]; exact rfl
              · rfl
              · intro w hSw; (try dsimp only at hSw); go_simp; try with_reducible rfl
              try simp only [Act.put]
              try simp only [List.setIfInBounds_toArray, List.set_cons_zero, List.set_cons_succ]
              refine reg_take 28 ?_ ?_ ?_ (by kernel_rfl) (by kernel_rfl) (by kernel_rfl) (fun _ _ _ h => h) ?_ ?_ (by assumption) ?_
              rotate_left 2
              · simp only [List.getElem?_toArray, List.getElem?_cons_succ, List.getElem?_cons_zero]; exact rfl
              · rfl
              · intro w hSw; (try dsimp only at hSw); go_simp; try with_reducible rfl
              try simp only [Act.put]
              try simp only [List.setIfInBounds_toArray, List.set_cons_zero, List.set_cons_succ]
              refine reg_take 29 ?_ ?_ ?_ (by kernel_rfl) (by kernel_rfl) (by kernel_rfl) (fun _ _ _ h => h) ?_ ?_ (by assumption) ?_
              rotate_left 2
              · simp only [List.getElem?_toArray, List.getElem?_cons_succ, List.getElem?_cons_zero]; exact rfl
              · rfl
              · intro w hSw; (try dsimp only at hSw); go_simp; try with_reducible rfl
              try simp only [Act.put]
              try simp only [List.setIfInBounds_toArray, List.set_cons_zero, List.set_cons_succ]
              refine reg_take 30 ?_ ?_ ?_ (by kernel_rfl) (by kernel_rfl) (by kernel_rfl) (fun _ _ _ h => h) ?_ ?_ (by assumption) ?_
              rotate_left 2
              · simp only [List.getElem?_toArray, List.getElem?_cons_succ, List.getElem?_cons_zero]; exact rfl
              · rfl
              · intro w hSw; (try dsimp only at hSw); go_simp; try with_reducible rfl
              try simp only [Act.put]
              try simp only [List.setIfInBounds_toArray, List.set_cons_zero, List.set_cons_succ]
              refine reg_take 31 ?_ ?_ ?_ (by kernel_rfl) (by kernel_rfl) (by kernel_rfl) (fun _ _ _ h => h) ?_ ?_ (by assumption) ?_
              rotate_left 2
              · simp only [List.getElem?_toArray, List.getElem?_cons_succ, List.getElem?_cons_zero]; exact rfl
              · rfl
              · intro w hSw; (try dsimp only at hSw); go_simp; try with_reducible rfl
              try simp only [Act.put]
              try simp only [List.setIfInBounds_toArray, List.set_cons_zero, List.set_cons_succ]
              refine reg_take 32 ?_ ?_ ?_ (by kernel_rfl) (by kernel_rfl) (by kernel_rfl) (fun _ _ _ h => h) ?_ ?_ (by assumption) ?_
              rotate_left 2
              · simp only [List.getElem?_toArray, List.getElem?_cons_succ, List.getElem?_cons_zero]; exact rfl
              · rfl
              · intro w hSw; (try dsimp only at hSw); go_simp; try with_reducible rfl
              try simp only [Act.put]
              try simp only [List.setIfInBounds_toArray, List.set_cons_zero, List.set_cons_succ]
              refine reg_take 33 ?_ ?_ ?_ (by kernel_rfl) (by kernel_rfl) (by kernel_rfl) (fun _ _ _ h => h) ?_ ?_ (by assumption) ?_
              rotate_left 2
              · simp only [List.getElem?_toArray, List.getElem?_cons_succ, List.getElem?_cons_zero]; exact rfl
              · rfl
              · intro w hSw; (try dsimp only at hSw); go_simp; try with_reducible rfl
              try simp only [Act.put]
              try simp only [List.setIfInBounds_toArray, List.set_cons_zero, List.set_cons_succ]
              refine reg_take 34 ?_ ?_ ?_ (by kernel_rfl) (by kernel_rfl) (by kernel_rfl) (fun _ _ _ h => h) ?_ ?_ (by assumption) ?_
              rotate_left 2
              · simp only [List.getElem?_toArray, List.getElem?_cons_succ, List.getElem?_cons_zero]; exact rfl
              · rfl
              · intro w hSw; (try dsimp only at hSw); go_simp; try with_reducible rfl
              try simp only [Act.put]
              try simp only [List.setIfInBounds_toArray, List.set_cons_zero, List.set_cons_succ]
              refine reg_take 35 ?_ ?_ ?_ (by kernel_rfl) (by kernel_rfl) (by kernel_rfl) (fun _ _ _ h => h) ?_ ?_ (by assumption) ?_
              rotate_left 2
              · simp only [List.getElem?_toArray, List.getElem?_cons_succ, List.getElem?_cons_zero]; exact rfl
              · rfl
              · intro w hSw; (try dsimp only at hSw); go_simp; try with_reducible rfl
              try simp only [Act.put]
              try simp only [List.setIfInBounds_toArray, List.set_cons_zero, List.set_cons_succ]
              refine reg_take 36 ?_ ?_ ?_ (by kernel_rfl) (by kernel_rfl) (by kernel_rfl) (fun _ _ _ h => h) ?_ ?_ (by assumption) ?_
              rotate_left 2
              · simp only [List.getElem?_toArray, List.getElem?_cons_succ, List.getElem?_cons_zero]; exact rfl
              · rfl
              · intro w hSw; (try dsimp only at hSw); go_simp; try with_reducible rfl
              try simp only [Act.put]
              try simp only [List.setIfInBounds_toArray, List.set_cons_zero, List.set_cons_succ]
              refine reg_take 37 ?_ ?_ ?_ (by kernel_rfl) (by kernel_rfl) (by kernel_rfl) (fun _ _ _ h => h) ?_ ?_ (by assumption) ?_
              rotate_left 2
              · simp only [List.getElem?_toArray, List.getElem?_cons_succ, List.getElem?_cons_zero]; exact rfl
              · rfl
              · intro w hSw; (try dsimp only at hSw); go_simp; try with_reducible rfl
              try simp only [Act.put]
              try simp only [List.setIfInBounds_toArray, List.set_cons_zero, List.set_cons_succ]
              refine reg_take 38 ?_ ?_ ?_ (by kernel_rfl) (by kernel_rfl) (by kernel_rfl) (fun _ _ _ h => h) ?_ ?_ (by assumption) ?_
              rotate_left 2
              · simp only [List.getElem?_toArray, List.getElem?_cons_succ, List.getElem?_cons_zero]; exact rfl
              · rfl
              · intro w hSw; (try dsimp only at hSw); go_simp; try with_reducible rfl
              try simp only [Act.put]
              try simp only [List.setIfInBounds_toArray, List.set_cons_zero, List.set_cons_succ]
              refine reg_take 39 ?_ ?_ ?_ (by kernel_rfl) (by kernel_rfl) (by kernel_rfl) (fun _ _ _ h => h) ?_ ?_ (by assumption) ?_
              rotate_left 2
              · simp only [List.getElem?_toArray, List.getElem?_cons_succ, List.getElem?_cons_zero]; exact rfl
              · rfl
              · intro w hSw; (try dsimp only at hSw); go_simp; try with_reducible rfl
              try simp only [Act.put]
              try simp only [List.setIfInBounds_toArray, List.set_cons_zero, List.set_cons_succ]
              refine reg_take 40 ?_ ?_ ?_ (by kernel_rfl) (by kernel_rfl) (by kernel_rfl) (fun _ _ _ h => h) ?_ ?_ (by assumption) ?_
              rotate_left 2
              · simp only [List.getElem?_toArray, List.getElem?_cons_succ, List.getElem?_cons_zero]; exact rfl
              · rfl
              · intro w hSw; (try dsimp only at hSw); go_simp; try with_reducible rfl
              try simp only [Act.put]
              try simp only [List.setIfInBounds_toArray, List.set_cons_zero, List.set_cons_succ]
              refine reg_call 41 ?_ (by kernel_rfl) ?_ (fun K hK => ?_)
              rotate_left 1
              · simp only [List.getElem?_toArray, List.getElem?_cons_succ, List.getElem?_cons_zero]; exact rfl
              go_simp
              refine (OR2.out _).mono ?_
              rintro e v5 ⟨rfl, hb_v5⟩
              have hb_z := hf4.trans (hb_v5.mono hf4.size)
              clear hb_v5
              go_wp2_with fail
              refine hK.out _ _ (CF.out _ hb_z) (fun hHeld => ?_)
              clear hK K
              try simp only [Act.put]
              try simp only [List.setIfInBounds_toArray, List.set_cons_zero, List.set_cons_succ]
              refine reg_take 42 ?_ ?_ ?_ (by kernel_rfl) (by kernel_rfl) (by kernel_rfl) (fun _ _ _ h => h) ?_ ?_ (by assumption) ?_
              rotate_left 2
              · simp only [List.getElem?_toArray, List.getElem?_cons_succ, List.getElem?_cons_zero]; exact rfl
              · rfl
              · intro w hSw; (try dsimp only at hSw); go_simp; try with_reducible rfl
              try simp only [Act.put]
              try simp only [List.setIfInBounds_toArray, List.set_cons_zero, List.set_cons_succ]
              refine reg_take 43 ?_ ?_ ?_ (by kernel_rfl) (by kernel_rfl) (by kernel_rfl) (fun _ _ _ h => h) ?_ ?_ (by assumption) ?_
              rotate_left 2
              · simp only [List.getElem?_toArray, List.getElem?_cons_succ, List.getElem?_cons_zero]; exact rfl
              · rfl
              · intro w hSw; (try dsimp only at hSw); go_simp; try with_reducible rfl
              try simp only [Act.put]
              try simp only [List.setIfInBounds_toArray, List.set_cons_zero, List.set_cons_succ]
              refine wpAnyH_done (by kernel_rfl) ?_ _
              refine OnlyN.normal ?_
              gi_wp2
              refine ⟨HKO1.out.trans ((keepsOthers_below9 hb_z).from _), HKW1.out.trans (KeepB.of_below hb_z (fun b hb => by have := hltW b hb; omega)), HKB1.out.trans (KeepB.of_below hb_z (fun b hb => by have := hltW b hb; omega)), ?_, HBW1.out.trans (hb_z.mono HBW1.out.size)⟩
              rw [HLN.out]
              exact (hb_z.block kb (by omega)).trans HBX1.out
          case done =>
            as_aux_lemma =>
              rintro D xs W hD hS ⟨hKB, hbx, hBW⟩ hK
              have hxl : xs.length = 1 := by
                have h1 := congrArg List.length hS
                rw [List.length_map] at h1
                rw [h1]; exact one_reals
              rw [hxl] at hbx
              have hW12 : w12.heap.size ≤ W.heap.size := by
                have hx := (hKB w11.heap.size hbl).trans bm12
                have := (Array.getElem?_eq_some_iff.1 hx).1
                omega
              have hDl : D < W.heap.size := (Array.getElem?_eq_some_iff.1 hK).1
              have HRW := Lib.hid (hr12.keep hin12 hKB)
              have HMW := Lib.hid (hm12.keepB hKB hin12.m hin12.p (fun k hk => hin12.t k (by simp [Value.ownBlock] at hk; rw [hk])) hW12)
              have PRW := Lib.hid (box_keep9 pr12 hKB hPr); have BSW := Lib.hid (box_keep9 bs12 hKB hPs); have PMW := Lib.hid (box_keep9 pm12 hKB hPm)
              have GAW := Lib.hid (box_keep9 ga12 hKB hPa); have GBW := Lib.hid (box_keep9 gb12 hKB hPc); have GCW := Lib.hid (box_keep9 gc12 hKB hPd)
              have HBX := Lib.hid hbx; have HBW := Lib.hid hBW; have HKD := Lib.hid hK
              have y0 := BSW.out.c0
              rw [ha0]
              clear hbx hBW hK hS hKB
              gi_wp2
              go_wp2
              clear y0
              go_loopw [16, 138] (fun _ iv wq => ∃ v : Nat, v ≤ i ∧ iv = .int .i64 (v : Int) ∧ Below W.heap.size W wq) (fun _ iv _ => i - (intOf iv).toNat)
              case atStart => exact ⟨0, Nat.zero_le _, rfl, Below.refl _ _⟩
              case round =>
                obtain ⟨v, hv, rfl, hbq⟩ := hrel
                by_cases hlt : v < i
                · have CH := Lib.hid (show ∀ w', Below wr.heap.size wr w' → w'.cell? ⟨mbx, 0, none⟩ = some (.pointer (some ⟨mb, 0, none⟩)) ∧ w'.cell? ⟨g18, 0, none⟩ = some (.int .i64 (a : Int)) ∧ w'.cell? ⟨g19, 0, none⟩ = some (.int .i64 (b : Int)) ∧ w'.cell? ⟨g20, 0, none⟩ = some (.int .i64 (c : Int)) from fun w' hb => by
                    have hbb := hbq.trans (hb.mono hbq.size)
                    exact ⟨(PMW.out.below hbb).c0, (GAW.out.below hbb).c0, (GBW.out.below hbb).c0, (GCW.out.below hbb).c0⟩)
                  have HATS := Lib.hid (show ∀ w', Below wr.heap.size wr w' → Calls Try.prog 13 #[.pointer (some ⟨mb, 0, none⟩), .int .i64 (v : Int)] w' fun e w'' => e = .returned (.int .i64 (atM (newM (a : Int) (b' : Int) (c' : Int)) (v : Int))) ∧ w' = w'' from fun w' hb => At_any (v : Int) w' (HRW.out.below (hbq.trans (hb.mono hbq.size))))
                  have HBQ := Lib.hid hbq
                  clear hbq
                  by_cases hva : v = a
                  · have e1 : ((v : Int) == (a : Int)) = true := by simp [hva]
                    have e2 : (v == a) = true := by simp [hva]
                    have HAT := HATS
                    rw [one_at_yes (a := a) (b := b') (c := c') (v := v) (.inl hva)] at HAT
                    clear hva HATS
                    go_wp2
                    refine wp_region_noPanic ?_
                    refine wp_region_held_drew (S := fun w' => w'.cell? ⟨mbx, 0, none⟩ = some (.pointer (some ⟨mb, 0, none⟩)) ∧ w'.cell? ⟨g18, 0, none⟩ = some (.int .i64 (a : Int)) ∧ w'.cell? ⟨g19, 0, none⟩ = some (.int .i64 (b : Int)) ∧ w'.cell? ⟨g20, 0, none⟩ = some (.int .i64 (c : Int))) (by kernel_rfl) (CH.out _ (Below.refl wr.heap.size wr).drew') (fun hHeld => ?_)
                    refine reg_take 0 ?_ ?_ ?_ (by kernel_rfl) (by kernel_rfl) (by kernel_rfl) (fun _ _ _ h => h) ?_ ?_ (by assumption) ?_
                    rotate_left 2
                    · simp only [List.getElem?_toArray, List.getElem?_cons_zero]; exact rfl
                    · rfl
                    · intro w hSw; (try dsimp only at hSw); go_simp; try with_reducible rfl
                    try simp only [Act.put]
                    try simp only [List.setIfInBounds_toArray, List.set_cons_zero, List.set_cons_succ]
                    refine reg_take 1 ?_ ?_ ?_ (by kernel_rfl) (by kernel_rfl) (by kernel_rfl) (fun _ _ _ h => h) ?_ ?_ (by assumption) ?_
                    rotate_left 2
                    · simp only [List.getElem?_toArray, List.getElem?_cons_succ, List.getElem?_cons_zero]; exact rfl
                    · rfl
                    · intro w hSw; (try dsimp only at hSw); go_simp; try with_reducible rfl
                    try simp only [Act.put]
                    try simp only [List.setIfInBounds_toArray, List.set_cons_zero, List.set_cons_succ]
                    refine reg_take 4 ?_ ?_ ?_ (by kernel_rfl) (by kernel_rfl) (by kernel_rfl) (fun _ _ _ h => h) ?_ ?_ (by assumption) ?_
                    rotate_left 2
                    · simp only [List.getElem?_toArray, List.getElem?_cons_succ, List.getElem?_cons_zero]; exact rfl
                    · rfl
                    · intro w hSw; (try dsimp only at hSw); go_simp; try with_reducible rfl
                    try simp only [Act.put]
                    try simp only [List.setIfInBounds_toArray, List.set_cons_zero, List.set_cons_succ]
                    refine reg_take 5 ?_ ?_ ?_ (by kernel_rfl) (by kernel_rfl) (by kernel_rfl) (fun _ _ _ h => h) ?_ ?_ (by assumption) ?_
                    rotate_left 2
                    · simp only [List.getElem?_toArray, List.getElem?_cons_succ, List.getElem?_cons_zero]; exact rfl
                    · rfl
                    · intro w hSw; (try dsimp only at hSw); go_simp; try with_reducible rfl
                    try simp only [Act.put]
                    try simp only [List.setIfInBounds_toArray, List.set_cons_zero, List.set_cons_succ]
                    refine reg_take 6 ?_ ?_ ?_ (by kernel_rfl) (by kernel_rfl) (by kernel_rfl) (fun _ _ _ h => h) ?_ ?_ (by assumption) ?_
                    rotate_left 2
                    · simp only [List.getElem?_toArray, List.getElem?_cons_succ, List.getElem?_cons_zero]; exact rfl
                    · rfl
                    · intro w hSw; (try dsimp only at hSw); go_simp; try with_reducible rfl
                    try simp only [Act.put]
                    try simp only [List.setIfInBounds_toArray, List.set_cons_zero, List.set_cons_succ]
                    refine reg_call 2 ?_ (by kernel_rfl) ?_ (fun K hK => ?_)
                    rotate_left 1
                    · simp only [List.getElem?_toArray, List.getElem?_cons_succ, List.getElem?_cons_zero]; exact rfl
                    have hh := (Below.refl wr.heap.size wr).drew'
                    go_simp
                    refine (HAT.out _ hh).mono ?_
                    rintro e wz ⟨rfl, rfl⟩
                    go_wp2_with fail
                    refine hK.out _ _ (CH.out _ hh) (fun hHeld => ?_)
                    clear hK K
                    try simp only [Act.put]
                    try simp only [List.setIfInBounds_toArray, List.set_cons_zero, List.set_cons_succ]
                    refine reg_take 3 ?_ ?_ ?_ (by kernel_rfl) (by kernel_rfl) (by kernel_rfl) (fun _ _ _ h => h) ?_ ?_ (by assumption) ?_
                    rotate_left 2
                    · simp only [List.getElem?_toArray, List.getElem?_cons_succ, List.getElem?_cons_zero]; exact rfl
                    · rfl
                    · intro w hSw; (try dsimp only at hSw); go_simp; try with_reducible rfl
                    try simp only [Act.put]
                    try simp only [List.setIfInBounds_toArray, List.set_cons_zero, List.set_cons_succ]
                    refine reg_take 7 ?_ ?_ ?_ (by kernel_rfl) (by kernel_rfl) (by kernel_rfl) (fun _ _ _ h => h) ?_ ?_ (by assumption) ?_
                    rotate_left 2
                    · simp only [List.getElem?_toArray, List.getElem?_cons_succ, List.getElem?_cons_zero]; exact rfl
                    · rfl
                    · intro w hSw; (try dsimp only at hSw); go_simp; try with_reducible rfl
                    try simp only [Act.put]
                    try simp only [List.setIfInBounds_toArray, List.set_cons_zero, List.set_cons_succ]
                    refine reg_skip 8 ?_ ?_ (by kernel_rfl) (by kernel_rfl) (by kernel_rfl) (fun _ _ _ h => h) ?_ (by assumption) ?_
                    rotate_left 1
                    · simp only [List.getElem?_toArray, List.getElem?_cons_succ, List.getElem?_cons_zero]; exact rfl
                    · rfl
                    try simp only [Act.put]
                    try simp only [List.setIfInBounds_toArray, List.set_cons_zero, List.set_cons_succ]
                    refine reg_skip 9 ?_ ?_ (by kernel_rfl) (by kernel_rfl) (by kernel_rfl) (fun _ _ _ h => h) ?_ (by assumption) ?_
                    rotate_left 1
                    · simp only [List.getElem?_toArray, List.getElem?_cons_succ, List.getElem?_cons_zero]; exact rfl
                    · rfl
                    try simp only [Act.put]
                    try simp only [List.setIfInBounds_toArray, List.set_cons_zero, List.set_cons_succ]
                    refine reg_skip 10 ?_ ?_ (by kernel_rfl) (by kernel_rfl) (by kernel_rfl) (fun _ _ _ h => h) ?_ (by assumption) ?_
                    rotate_left 1
                    · simp only [List.getElem?_toArray, List.getElem?_cons_succ, List.getElem?_cons_zero]; exact rfl
                    · rfl
                    try simp only [Act.put]
                    try simp only [List.setIfInBounds_toArray, List.set_cons_zero, List.set_cons_succ]
                    refine reg_take 11 ?_ ?_ ?_ (by kernel_rfl) (by kernel_rfl) (by kernel_rfl) (fun _ _ _ h => h) ?_ ?_ (by assumption) ?_
                    rotate_left 2
                    · simp only [List.getElem?_toArray, List.getElem?_cons_succ, List.getElem?_cons_zero]; exact rfl
                    · rfl
                    · intro w hSw; (try dsimp only at hSw); go_simp; try with_reducible rfl
                    try simp only [Act.put]
                    try simp only [List.setIfInBounds_toArray, List.set_cons_zero, List.set_cons_succ]
                    refine reg_take 12 ?_ ?_ ?_ (by kernel_rfl) (by kernel_rfl) (by kernel_rfl) (fun _ _ _ h => h) ?_ ?_ (by assumption) ?_
                    rotate_left 2
                    · simp only [List.getElem?_toArray, List.getElem?_cons_succ, List.getElem?_cons_zero]; exact rfl
                    · rfl
                    · intro w hSw; (try dsimp only at hSw); go_simp; try with_reducible rfl
                    try simp only [Act.put]
                    try simp only [List.setIfInBounds_toArray, List.set_cons_zero, List.set_cons_succ]
                    refine reg_skip 13 ?_ ?_ (by kernel_rfl) (by kernel_rfl) (by kernel_rfl) (fun _ _ _ h => h) ?_ (by assumption) ?_
                    rotate_left 1
                    · simp only [List.getElem?_toArray, List.getElem?_cons_succ, List.getElem?_cons_zero]; exact rfl
                    · rfl
                    try simp only [Act.put]
                    try simp only [List.setIfInBounds_toArray, List.set_cons_zero, List.set_cons_succ]
                    refine reg_skip 14 ?_ ?_ (by kernel_rfl) (by kernel_rfl) (by kernel_rfl) (fun _ _ _ h => h) ?_ (by assumption) ?_
                    rotate_left 1
                    · simp only [List.getElem?_toArray, List.getElem?_cons_succ, List.getElem?_cons_zero]; exact rfl
                    · rfl
                    try simp only [Act.put]
                    try simp only [List.setIfInBounds_toArray, List.set_cons_zero, List.set_cons_succ]
                    refine reg_skip 15 ?_ ?_ (by kernel_rfl) (by kernel_rfl) (by kernel_rfl) (fun _ _ _ h => h) ?_ (by assumption) ?_
                    rotate_left 1
                    · simp only [List.getElem?_toArray, List.getElem?_cons_succ, List.getElem?_cons_zero]; exact rfl
                    · rfl
                    try simp only [Act.put]
                    try simp only [List.setIfInBounds_toArray, List.set_cons_zero, List.set_cons_succ]
                    refine reg_take 16 ?_ ?_ ?_ (by kernel_rfl) (by kernel_rfl) (by kernel_rfl) (fun _ _ _ h => h) ?_ ?_ (by assumption) ?_
                    rotate_left 2
                    · simp only [List.getElem?_toArray, List.getElem?_cons_succ, List.getElem?_cons_zero]; exact rfl
                    · rfl
                    · intro w hSw; (try dsimp only at hSw); go_simp; try with_reducible rfl
                    try simp only [Act.put]
                    try simp only [List.setIfInBounds_toArray, List.set_cons_zero, List.set_cons_succ]
                    refine reg_take 17 ?_ ?_ ?_ (by kernel_rfl) (by kernel_rfl) (by kernel_rfl) (fun _ _ _ h => h) ?_ ?_ (by assumption) ?_
                    rotate_left 2
                    · simp only [List.getElem?_toArray, List.getElem?_cons_succ, List.getElem?_cons_zero]; exact rfl
                    · rfl
                    · intro w hSw; (try dsimp only at hSw); go_simp; try with_reducible rfl
                    try simp only [Act.put]
                    try simp only [List.setIfInBounds_toArray, List.set_cons_zero, List.set_cons_succ]
                    refine wpAnyH_done (by kernel_rfl) ?_ _
                    refine NoPanic.normal ?_
                    go_wp2
                    exact ⟨⟨v + 1, by omega, by go_num, HBQ.out.trans (hh.mono HBQ.out.size)⟩, by simp [intOf]; omega⟩
                  · have e1 : ((v : Int) == (a : Int)) = false := by simp; omega
                    have e2 : (v == a) = false := by simpa using hva
                    by_cases hvb : v = b
                    · have e3 : ((v : Int) == (b : Int)) = true := by simp [hvb]
                      have e4 : (v == b) = true := by simp [hvb]
                      have HAT := HATS
                      rw [one_at_yes (a := a) (b := b') (c := c') (v := v) (by rcases HBC.out with ⟨h1, h2⟩ | ⟨h1, h2⟩ <;> omega)] at HAT
                      clear hva hvb HATS
                      go_wp2
                      refine wp_region_noPanic ?_
                      refine wp_region_held_drew (S := fun w' => w'.cell? ⟨mbx, 0, none⟩ = some (.pointer (some ⟨mb, 0, none⟩)) ∧ w'.cell? ⟨g18, 0, none⟩ = some (.int .i64 (a : Int)) ∧ w'.cell? ⟨g19, 0, none⟩ = some (.int .i64 (b : Int)) ∧ w'.cell? ⟨g20, 0, none⟩ = some (.int .i64 (c : Int))) (by kernel_rfl) (CH.out _ (Below.refl wr.heap.size wr).drew') (fun hHeld => ?_)
                      refine reg_take 0 ?_ ?_ ?_ (by kernel_rfl) (by kernel_rfl) (by kernel_rfl) (fun _ _ _ h => h) ?_ ?_ (by assumption) ?_
                      rotate_left 2
                      · simp only [List.getElem?_toArray, List.getElem?_cons_zero]; exact rfl
                      · rfl
                      · intro w hSw; (try dsimp only at hSw); go_simp; try with_reducible rfl
                      try simp only [Act.put]
                      try simp only [List.setIfInBounds_toArray, List.set_cons_zero, List.set_cons_succ]
                      refine reg_take 1 ?_ ?_ ?_ (by kernel_rfl) (by kernel_rfl) (by kernel_rfl) (fun _ _ _ h => h) ?_ ?_ (by assumption) ?_
                      rotate_left 2
                      · simp only [List.getElem?_toArray, List.getElem?_cons_succ, List.getElem?_cons_zero]; exact rfl
                      · rfl
                      · intro w hSw; (try dsimp only at hSw); go_simp; try with_reducible rfl
                      try simp only [Act.put]
                      try simp only [List.setIfInBounds_toArray, List.set_cons_zero, List.set_cons_succ]
                      refine reg_take 4 ?_ ?_ ?_ (by kernel_rfl) (by kernel_rfl) (by kernel_rfl) (fun _ _ _ h => h) ?_ ?_ (by assumption) ?_
                      rotate_left 2
                      · simp only [List.getElem?_toArray, List.getElem?_cons_succ, List.getElem?_cons_zero]; exact rfl
                      · rfl
                      · intro w hSw; (try dsimp only at hSw); go_simp; try with_reducible rfl
                      try simp only [Act.put]
                      try simp only [List.setIfInBounds_toArray, List.set_cons_zero, List.set_cons_succ]
                      refine reg_take 5 ?_ ?_ ?_ (by kernel_rfl) (by kernel_rfl) (by kernel_rfl) (fun _ _ _ h => h) ?_ ?_ (by assumption) ?_
                      rotate_left 2
                      · simp only [List.getElem?_toArray, List.getElem?_cons_succ, List.getElem?_cons_zero]; exact rfl
                      · rfl
                      · intro w hSw; (try dsimp only at hSw); go_simp; try with_reducible rfl
                      try simp only [Act.put]
                      try simp only [List.setIfInBounds_toArray, List.set_cons_zero, List.set_cons_succ]
                      refine reg_take 6 ?_ ?_ ?_ (by kernel_rfl) (by kernel_rfl) (by kernel_rfl) (fun _ _ _ h => h) ?_ ?_ (by assumption) ?_
                      rotate_left 2
                      · simp only [List.getElem?_toArray, List.getElem?_cons_succ, List.getElem?_cons_zero]; exact rfl
                      · rfl
                      · intro w hSw; (try dsimp only at hSw); go_simp; try with_reducible rfl
                      try simp only [Act.put]
                      try simp only [List.setIfInBounds_toArray, List.set_cons_zero, List.set_cons_succ]
                      refine reg_call 2 ?_ (by kernel_rfl) ?_ (fun K hK => ?_)
                      rotate_left 1
                      · simp only [List.getElem?_toArray, List.getElem?_cons_succ, List.getElem?_cons_zero]; exact rfl
                      have hh := (Below.refl wr.heap.size wr).drew'
                      go_simp
                      refine (HAT.out _ hh).mono ?_
                      rintro e wz ⟨rfl, rfl⟩
                      go_wp2_with fail
                      refine hK.out _ _ (CH.out _ hh) (fun hHeld => ?_)
                      clear hK K
                      try simp only [Act.put]
                      try simp only [List.setIfInBounds_toArray, List.set_cons_zero, List.set_cons_succ]
                      refine reg_take 3 ?_ ?_ ?_ (by kernel_rfl) (by kernel_rfl) (by kernel_rfl) (fun _ _ _ h => h) ?_ ?_ (by assumption) ?_
                      rotate_left 2
                      · simp only [List.getElem?_toArray, List.getElem?_cons_succ, List.getElem?_cons_zero]; exact rfl
                      · rfl
                      · intro w hSw; (try dsimp only at hSw); go_simp; try with_reducible rfl
                      try simp only [Act.put]
                      try simp only [List.setIfInBounds_toArray, List.set_cons_zero, List.set_cons_succ]
                      refine reg_take 7 ?_ ?_ ?_ (by kernel_rfl) (by kernel_rfl) (by kernel_rfl) (fun _ _ _ h => h) ?_ ?_ (by assumption) ?_
                      rotate_left 2
                      · simp only [List.getElem?_toArray, List.getElem?_cons_succ, List.getElem?_cons_zero]; exact rfl
                      · rfl
                      · intro w hSw; (try dsimp only at hSw); go_simp; try with_reducible rfl
                      try simp only [Act.put]
                      try simp only [List.setIfInBounds_toArray, List.set_cons_zero, List.set_cons_succ]
                      refine reg_take 8 ?_ ?_ ?_ (by kernel_rfl) (by kernel_rfl) (by kernel_rfl) (fun _ _ _ h => h) ?_ ?_ (by assumption) ?_
                      rotate_left 2
                      · simp only [List.getElem?_toArray, List.getElem?_cons_succ, List.getElem?_cons_zero]; exact rfl
                      · rfl
                      · intro w hSw; (try dsimp only at hSw); go_simp; try with_reducible rfl
                      try simp only [Act.put]
                      try simp only [List.setIfInBounds_toArray, List.set_cons_zero, List.set_cons_succ]
                      refine reg_take 9 ?_ ?_ ?_ (by kernel_rfl) (by kernel_rfl) (by kernel_rfl) (fun _ _ _ h => h) ?_ ?_ (by assumption) ?_
                      rotate_left 2
                      · simp only [List.getElem?_toArray, List.getElem?_cons_succ, List.getElem?_cons_zero]; exact rfl
                      · rfl
                      · intro w hSw; (try dsimp only at hSw); go_simp; try with_reducible rfl
                      try simp only [Act.put]
                      try simp only [List.setIfInBounds_toArray, List.set_cons_zero, List.set_cons_succ]
                      refine reg_take 10 ?_ ?_ ?_ (by kernel_rfl) (by kernel_rfl) (by kernel_rfl) (fun _ _ _ h => h) ?_ ?_ (by assumption) ?_
                      rotate_left 2
                      · simp only [List.getElem?_toArray, List.getElem?_cons_succ, List.getElem?_cons_zero]; exact rfl
                      · rfl
                      · intro w hSw; (try dsimp only at hSw); go_simp; try with_reducible rfl
                      try simp only [Act.put]
                      try simp only [List.setIfInBounds_toArray, List.set_cons_zero, List.set_cons_succ]
                      refine reg_take 11 ?_ ?_ ?_ (by kernel_rfl) (by kernel_rfl) (by kernel_rfl) (fun _ _ _ h => h) ?_ ?_ (by assumption) ?_
                      rotate_left 2
                      · simp only [List.getElem?_toArray, List.getElem?_cons_succ, List.getElem?_cons_zero]; exact rfl
                      · rfl
                      · intro w hSw; (try dsimp only at hSw); go_simp; try with_reducible rfl
                      try simp only [Act.put]
                      try simp only [List.setIfInBounds_toArray, List.set_cons_zero, List.set_cons_succ]
                      refine reg_take 12 ?_ ?_ ?_ (by kernel_rfl) (by kernel_rfl) (by kernel_rfl) (fun _ _ _ h => h) ?_ ?_ (by assumption) ?_
                      rotate_left 2
                      · simp only [List.getElem?_toArray, List.getElem?_cons_succ, List.getElem?_cons_zero]; exact rfl
                      · rfl
                      · intro w hSw; (try dsimp only at hSw); go_simp; try with_reducible rfl
                      try simp only [Act.put]
                      try simp only [List.setIfInBounds_toArray, List.set_cons_zero, List.set_cons_succ]
                      refine reg_skip 13 ?_ ?_ (by kernel_rfl) (by kernel_rfl) (by kernel_rfl) (fun _ _ _ h => h) ?_ (by assumption) ?_
                      rotate_left 1
                      · simp only [List.getElem?_toArray, List.getElem?_cons_succ, List.getElem?_cons_zero]; exact rfl
                      · rfl
                      try simp only [Act.put]
                      try simp only [List.setIfInBounds_toArray, List.set_cons_zero, List.set_cons_succ]
                      refine reg_skip 14 ?_ ?_ (by kernel_rfl) (by kernel_rfl) (by kernel_rfl) (fun _ _ _ h => h) ?_ (by assumption) ?_
                      rotate_left 1
                      · simp only [List.getElem?_toArray, List.getElem?_cons_succ, List.getElem?_cons_zero]; exact rfl
                      · rfl
                      try simp only [Act.put]
                      try simp only [List.setIfInBounds_toArray, List.set_cons_zero, List.set_cons_succ]
                      refine reg_skip 15 ?_ ?_ (by kernel_rfl) (by kernel_rfl) (by kernel_rfl) (fun _ _ _ h => h) ?_ (by assumption) ?_
                      rotate_left 1
                      · simp only [List.getElem?_toArray, List.getElem?_cons_succ, List.getElem?_cons_zero]; exact rfl
                      · rfl
                      try simp only [Act.put]
                      try simp only [List.setIfInBounds_toArray, List.set_cons_zero, List.set_cons_succ]
                      refine reg_take 16 ?_ ?_ ?_ (by kernel_rfl) (by kernel_rfl) (by kernel_rfl) (fun _ _ _ h => h) ?_ ?_ (by assumption) ?_
                      rotate_left 2
                      · simp only [List.getElem?_toArray, List.getElem?_cons_succ, List.getElem?_cons_zero]; exact rfl
                      · rfl
                      · intro w hSw; (try dsimp only at hSw); go_simp; try with_reducible rfl
                      try simp only [Act.put]
                      try simp only [List.setIfInBounds_toArray, List.set_cons_zero, List.set_cons_succ]
                      refine reg_take 17 ?_ ?_ ?_ (by kernel_rfl) (by kernel_rfl) (by kernel_rfl) (fun _ _ _ h => h) ?_ ?_ (by assumption) ?_
                      rotate_left 2
                      · simp only [List.getElem?_toArray, List.getElem?_cons_succ, List.getElem?_cons_zero]; exact rfl
                      · rfl
                      · intro w hSw; (try dsimp only at hSw); go_simp; try with_reducible rfl
                      try simp only [Act.put]
                      try simp only [List.setIfInBounds_toArray, List.set_cons_zero, List.set_cons_succ]
                      refine wpAnyH_done (by kernel_rfl) ?_ _
                      refine NoPanic.normal ?_
                      go_wp2
                      exact ⟨⟨v + 1, by omega, by go_num, HBQ.out.trans (hh.mono HBQ.out.size)⟩, by simp [intOf]; omega⟩
                    · have e3 : ((v : Int) == (b : Int)) = false := by simp; omega
                      have e4 : (v == b) = false := by simpa using hvb
                      by_cases hvc : v = c
                      · have e5 : ((v : Int) == (c : Int)) = true := by simp [hvc]
                        have e6 : (v == c) = true := by simp [hvc]
                        have HAT := HATS
                        rw [one_at_yes (a := a) (b := b') (c := c') (v := v) (by rcases HBC.out with ⟨h1, h2⟩ | ⟨h1, h2⟩ <;> omega)] at HAT
                        clear hva hvb hvc HATS
                        go_wp2
                        refine wp_region_noPanic ?_
                        refine wp_region_held_drew (S := fun w' => w'.cell? ⟨mbx, 0, none⟩ = some (.pointer (some ⟨mb, 0, none⟩)) ∧ w'.cell? ⟨g18, 0, none⟩ = some (.int .i64 (a : Int)) ∧ w'.cell? ⟨g19, 0, none⟩ = some (.int .i64 (b : Int)) ∧ w'.cell? ⟨g20, 0, none⟩ = some (.int .i64 (c : Int))) (by kernel_rfl) (CH.out _ (Below.refl wr.heap.size wr).drew') (fun hHeld => ?_)
                        refine reg_take 0 ?_ ?_ ?_ (by kernel_rfl) (by kernel_rfl) (by kernel_rfl) (fun _ _ _ h => h) ?_ ?_ (by assumption) ?_
                        rotate_left 2
                        · simp only [List.getElem?_toArray, List.getElem?_cons_zero]; exact rfl
                        · rfl
                        · intro w hSw; (try dsimp only at hSw); go_simp; try with_reducible rfl
                        try simp only [Act.put]
                        try simp only [List.setIfInBounds_toArray, List.set_cons_zero, List.set_cons_succ]
                        refine reg_take 1 ?_ ?_ ?_ (by kernel_rfl) (by kernel_rfl) (by kernel_rfl) (fun _ _ _ h => h) ?_ ?_ (by assumption) ?_
                        rotate_left 2
                        · simp only [List.getElem?_toArray, List.getElem?_cons_succ, List.getElem?_cons_zero]; exact rfl
                        · rfl
                        · intro w hSw; (try dsimp only at hSw); go_simp; try with_reducible rfl
                        try simp only [Act.put]
                        try simp only [List.setIfInBounds_toArray, List.set_cons_zero, List.set_cons_succ]
                        refine reg_take 4 ?_ ?_ ?_ (by kernel_rfl) (by kernel_rfl) (by kernel_rfl) (fun _ _ _ h => h) ?_ ?_ (by assumption) ?_
                        rotate_left 2
                        · simp only [List.getElem?_toArray, List.getElem?_cons_succ, List.getElem?_cons_zero]; exact rfl
                        · rfl
                        · intro w hSw; (try dsimp only at hSw); go_simp; try with_reducible rfl
                        try simp only [Act.put]
                        try simp only [List.setIfInBounds_toArray, List.set_cons_zero, List.set_cons_succ]
                        refine reg_take 5 ?_ ?_ ?_ (by kernel_rfl) (by kernel_rfl) (by kernel_rfl) (fun _ _ _ h => h) ?_ ?_ (by assumption) ?_
                        rotate_left 2
                        · simp only [List.getElem?_toArray, List.getElem?_cons_succ, List.getElem?_cons_zero]; exact rfl
                        · rfl
                        · intro w hSw; (try dsimp only at hSw); go_simp; try with_reducible rfl
                        try simp only [Act.put]
                        try simp only [List.setIfInBounds_toArray, List.set_cons_zero, List.set_cons_succ]
                        refine reg_take 6 ?_ ?_ ?_ (by kernel_rfl) (by kernel_rfl) (by kernel_rfl) (fun _ _ _ h => h) ?_ ?_ (by assumption) ?_
                        rotate_left 2
                        · simp only [List.getElem?_toArray, List.getElem?_cons_succ, List.getElem?_cons_zero]; exact rfl
                        · rfl
                        · intro w hSw; (try dsimp only at hSw); go_simp; try with_reducible rfl
                        try simp only [Act.put]
                        try simp only [List.setIfInBounds_toArray, List.set_cons_zero, List.set_cons_succ]
                        refine reg_call 2 ?_ (by kernel_rfl) ?_ (fun K hK => ?_)
                        rotate_left 1
                        · simp only [List.getElem?_toArray, List.getElem?_cons_succ, List.getElem?_cons_zero]; exact rfl
                        have hh := (Below.refl wr.heap.size wr).drew'
                        go_simp
                        refine (HAT.out _ hh).mono ?_
                        rintro e wz ⟨rfl, rfl⟩
                        go_wp2_with fail
                        refine hK.out _ _ (CH.out _ hh) (fun hHeld => ?_)
                        clear hK K
                        try simp only [Act.put]
                        try simp only [List.setIfInBounds_toArray, List.set_cons_zero, List.set_cons_succ]
                        refine reg_take 3 ?_ ?_ ?_ (by kernel_rfl) (by kernel_rfl) (by kernel_rfl) (fun _ _ _ h => h) ?_ ?_ (by assumption) ?_
                        rotate_left 2
                        · simp only [List.getElem?_toArray, List.getElem?_cons_succ, List.getElem?_cons_zero]; exact rfl
                        · rfl
                        · intro w hSw; (try dsimp only at hSw); go_simp; try with_reducible rfl
                        try simp only [Act.put]
                        try simp only [List.setIfInBounds_toArray, List.set_cons_zero, List.set_cons_succ]
                        refine reg_take 7 ?_ ?_ ?_ (by kernel_rfl) (by kernel_rfl) (by kernel_rfl) (fun _ _ _ h => h) ?_ ?_ (by assumption) ?_
                        rotate_left 2
                        · simp only [List.getElem?_toArray, List.getElem?_cons_succ, List.getElem?_cons_zero]; exact rfl
                        · rfl
                        · intro w hSw; (try dsimp only at hSw); go_simp; try with_reducible rfl
                        try simp only [Act.put]
                        try simp only [List.setIfInBounds_toArray, List.set_cons_zero, List.set_cons_succ]
                        refine reg_take 8 ?_ ?_ ?_ (by kernel_rfl) (by kernel_rfl) (by kernel_rfl) (fun _ _ _ h => h) ?_ ?_ (by assumption) ?_
                        rotate_left 2
                        · simp only [List.getElem?_toArray, List.getElem?_cons_succ, List.getElem?_cons_zero]; exact rfl
                        · rfl
                        · intro w hSw; (try dsimp only at hSw); go_simp; try with_reducible rfl
                        try simp only [Act.put]
                        try simp only [List.setIfInBounds_toArray, List.set_cons_zero, List.set_cons_succ]
                        refine reg_take 9 ?_ ?_ ?_ (by kernel_rfl) (by kernel_rfl) (by kernel_rfl) (fun _ _ _ h => h) ?_ ?_ (by assumption) ?_
                        rotate_left 2
                        · simp only [List.getElem?_toArray, List.getElem?_cons_succ, List.getElem?_cons_zero]; exact rfl
                        · rfl
                        · intro w hSw; (try dsimp only at hSw); go_simp; try with_reducible rfl
                        try simp only [Act.put]
                        try simp only [List.setIfInBounds_toArray, List.set_cons_zero, List.set_cons_succ]
                        refine reg_take 10 ?_ ?_ ?_ (by kernel_rfl) (by kernel_rfl) (by kernel_rfl) (fun _ _ _ h => h) ?_ ?_ (by assumption) ?_
                        rotate_left 2
                        · simp only [List.getElem?_toArray, List.getElem?_cons_succ, List.getElem?_cons_zero]; exact rfl
                        · rfl
                        · intro w hSw; (try dsimp only at hSw); go_simp; try with_reducible rfl
                        try simp only [Act.put]
                        try simp only [List.setIfInBounds_toArray, List.set_cons_zero, List.set_cons_succ]
                        refine reg_take 11 ?_ ?_ ?_ (by kernel_rfl) (by kernel_rfl) (by kernel_rfl) (fun _ _ _ h => h) ?_ ?_ (by assumption) ?_
                        rotate_left 2
                        · simp only [List.getElem?_toArray, List.getElem?_cons_succ, List.getElem?_cons_zero]; exact rfl
                        · rfl
                        · intro w hSw; (try dsimp only at hSw); go_simp; try with_reducible rfl
                        try simp only [Act.put]
                        try simp only [List.setIfInBounds_toArray, List.set_cons_zero, List.set_cons_succ]
                        refine reg_take 12 ?_ ?_ ?_ (by kernel_rfl) (by kernel_rfl) (by kernel_rfl) (fun _ _ _ h => h) ?_ ?_ (by assumption) ?_
                        rotate_left 2
                        · simp only [List.getElem?_toArray, List.getElem?_cons_succ, List.getElem?_cons_zero]; exact rfl
                        · rfl
                        · intro w hSw; (try dsimp only at hSw); go_simp; try with_reducible rfl
                        try simp only [Act.put]
                        try simp only [List.setIfInBounds_toArray, List.set_cons_zero, List.set_cons_succ]
                        refine reg_take 13 ?_ ?_ ?_ (by kernel_rfl) (by kernel_rfl) (by kernel_rfl) (fun _ _ _ h => h) ?_ ?_ (by assumption) ?_
                        rotate_left 2
                        · simp only [List.getElem?_toArray, List.getElem?_cons_succ, List.getElem?_cons_zero]; exact rfl
                        · rfl
                        · intro w hSw; (try dsimp only at hSw); go_simp; try with_reducible rfl
                        try simp only [Act.put]
                        try simp only [List.setIfInBounds_toArray, List.set_cons_zero, List.set_cons_succ]
                        refine reg_take 14 ?_ ?_ ?_ (by kernel_rfl) (by kernel_rfl) (by kernel_rfl) (fun _ _ _ h => h) ?_ ?_ (by assumption) ?_
                        rotate_left 2
                        · simp only [List.getElem?_toArray, List.getElem?_cons_succ, List.getElem?_cons_zero]; exact rfl
                        · rfl
                        · intro w hSw; (try dsimp only at hSw); go_simp; try with_reducible rfl
                        try simp only [Act.put]
                        try simp only [List.setIfInBounds_toArray, List.set_cons_zero, List.set_cons_succ]
                        refine reg_take 15 ?_ ?_ ?_ (by kernel_rfl) (by kernel_rfl) (by kernel_rfl) (fun _ _ _ h => h) ?_ ?_ (by assumption) ?_
                        rotate_left 2
                        · simp only [List.getElem?_toArray, List.getElem?_cons_succ, List.getElem?_cons_zero]; exact rfl
                        · rfl
                        · intro w hSw; (try dsimp only at hSw); go_simp; try with_reducible rfl
                        try simp only [Act.put]
                        try simp only [List.setIfInBounds_toArray, List.set_cons_zero, List.set_cons_succ]
                        refine reg_take 16 ?_ ?_ ?_ (by kernel_rfl) (by kernel_rfl) (by kernel_rfl) (fun _ _ _ h => h) ?_ ?_ (by assumption) ?_
                        rotate_left 2
                        · simp only [List.getElem?_toArray, List.getElem?_cons_succ, List.getElem?_cons_zero]; exact rfl
                        · rfl
                        · intro w hSw; (try dsimp only at hSw); go_simp; try with_reducible rfl
                        try simp only [Act.put]
                        try simp only [List.setIfInBounds_toArray, List.set_cons_zero, List.set_cons_succ]
                        refine reg_take 17 ?_ ?_ ?_ (by kernel_rfl) (by kernel_rfl) (by kernel_rfl) (fun _ _ _ h => h) ?_ ?_ (by assumption) ?_
                        rotate_left 2
                        · simp only [List.getElem?_toArray, List.getElem?_cons_succ, List.getElem?_cons_zero]; exact rfl
                        · rfl
                        · intro w hSw; (try dsimp only at hSw); go_simp; try with_reducible rfl
                        try simp only [Act.put]
                        try simp only [List.setIfInBounds_toArray, List.set_cons_zero, List.set_cons_succ]
                        refine wpAnyH_done (by kernel_rfl) ?_ _
                        refine NoPanic.normal ?_
                        go_wp2
                        exact ⟨⟨v + 1, by omega, by go_num, HBQ.out.trans (hh.mono HBQ.out.size)⟩, by simp [intOf]; omega⟩
                      · have e5 : ((v : Int) == (c : Int)) = false := by simp; omega
                        have e6 : (v == c) = false := by simpa using hvc
                        have HAT := HATS
                        rw [one_at_no (a := a) (b := b') (c := c') (v := v) (by rcases HBC.out with ⟨h1, h2⟩ | ⟨h1, h2⟩ <;> omega)] at HAT
                        clear hva hvb hvc HATS
                        go_wp2
                        refine wp_region_noPanic ?_
                        refine wp_region_held_drew (S := fun w' => w'.cell? ⟨mbx, 0, none⟩ = some (.pointer (some ⟨mb, 0, none⟩)) ∧ w'.cell? ⟨g18, 0, none⟩ = some (.int .i64 (a : Int)) ∧ w'.cell? ⟨g19, 0, none⟩ = some (.int .i64 (b : Int)) ∧ w'.cell? ⟨g20, 0, none⟩ = some (.int .i64 (c : Int))) (by kernel_rfl) (CH.out _ (Below.refl wr.heap.size wr).drew') (fun hHeld => ?_)
                        refine reg_take 0 ?_ ?_ ?_ (by kernel_rfl) (by kernel_rfl) (by kernel_rfl) (fun _ _ _ h => h) ?_ ?_ (by assumption) ?_
                        rotate_left 2
                        · simp only [List.getElem?_toArray, List.getElem?_cons_zero]; exact rfl
                        · rfl
                        · intro w hSw; (try dsimp only at hSw); go_simp; try with_reducible rfl
                        try simp only [Act.put]
                        try simp only [List.setIfInBounds_toArray, List.set_cons_zero, List.set_cons_succ]
                        refine reg_take 1 ?_ ?_ ?_ (by kernel_rfl) (by kernel_rfl) (by kernel_rfl) (fun _ _ _ h => h) ?_ ?_ (by assumption) ?_
                        rotate_left 2
                        · simp only [List.getElem?_toArray, List.getElem?_cons_succ, List.getElem?_cons_zero]; exact rfl
                        · rfl
                        · intro w hSw; (try dsimp only at hSw); go_simp; try with_reducible rfl
                        try simp only [Act.put]
                        try simp only [List.setIfInBounds_toArray, List.set_cons_zero, List.set_cons_succ]
                        refine reg_take 4 ?_ ?_ ?_ (by kernel_rfl) (by kernel_rfl) (by kernel_rfl) (fun _ _ _ h => h) ?_ ?_ (by assumption) ?_
                        rotate_left 2
                        · simp only [List.getElem?_toArray, List.getElem?_cons_succ, List.getElem?_cons_zero]; exact rfl
                        · rfl
                        · intro w hSw; (try dsimp only at hSw); go_simp; try with_reducible rfl
                        try simp only [Act.put]
                        try simp only [List.setIfInBounds_toArray, List.set_cons_zero, List.set_cons_succ]
                        refine reg_take 5 ?_ ?_ ?_ (by kernel_rfl) (by kernel_rfl) (by kernel_rfl) (fun _ _ _ h => h) ?_ ?_ (by assumption) ?_
                        rotate_left 2
                        · simp only [List.getElem?_toArray, List.getElem?_cons_succ, List.getElem?_cons_zero]; exact rfl
                        · rfl
                        · intro w hSw; (try dsimp only at hSw); go_simp; try with_reducible rfl
                        try simp only [Act.put]
                        try simp only [List.setIfInBounds_toArray, List.set_cons_zero, List.set_cons_succ]
                        refine reg_take 6 ?_ ?_ ?_ (by kernel_rfl) (by kernel_rfl) (by kernel_rfl) (fun _ _ _ h => h) ?_ ?_ (by assumption) ?_
                        rotate_left 2
                        · simp only [List.getElem?_toArray, List.getElem?_cons_succ, List.getElem?_cons_zero]; exact rfl
                        · rfl
                        · intro w hSw; (try dsimp only at hSw); go_simp; try with_reducible rfl
                        try simp only [Act.put]
                        try simp only [List.setIfInBounds_toArray, List.set_cons_zero, List.set_cons_succ]
                        refine reg_call 2 ?_ (by kernel_rfl) ?_ (fun K hK => ?_)
                        rotate_left 1
                        · simp only [List.getElem?_toArray, List.getElem?_cons_succ, List.getElem?_cons_zero]; exact rfl
                        have hh := (Below.refl wr.heap.size wr).drew'
                        go_simp
                        refine (HAT.out _ hh).mono ?_
                        rintro e wz ⟨rfl, rfl⟩
                        go_wp2_with fail
                        refine hK.out _ _ (CH.out _ hh) (fun hHeld => ?_)
                        clear hK K
                        try simp only [Act.put]
                        try simp only [List.setIfInBounds_toArray, List.set_cons_zero, List.set_cons_succ]
                        refine reg_take 3 ?_ ?_ ?_ (by kernel_rfl) (by kernel_rfl) (by kernel_rfl) (fun _ _ _ h => h) ?_ ?_ (by assumption) ?_
                        rotate_left 2
                        · simp only [List.getElem?_toArray, List.getElem?_cons_succ, List.getElem?_cons_zero]; exact rfl
                        · rfl
                        · intro w hSw; (try dsimp only at hSw); go_simp; try with_reducible rfl
                        try simp only [Act.put]
                        try simp only [List.setIfInBounds_toArray, List.set_cons_zero, List.set_cons_succ]
                        refine reg_take 7 ?_ ?_ ?_ (by kernel_rfl) (by kernel_rfl) (by kernel_rfl) (fun _ _ _ h => h) ?_ ?_ (by assumption) ?_
                        rotate_left 2
                        · simp only [List.getElem?_toArray, List.getElem?_cons_succ, List.getElem?_cons_zero]; exact rfl
                        · rfl
                        · intro w hSw; (try dsimp only at hSw); go_simp; try with_reducible rfl
                        try simp only [Act.put]
                        try simp only [List.setIfInBounds_toArray, List.set_cons_zero, List.set_cons_succ]
                        refine reg_take 8 ?_ ?_ ?_ (by kernel_rfl) (by kernel_rfl) (by kernel_rfl) (fun _ _ _ h => h) ?_ ?_ (by assumption) ?_
                        rotate_left 2
                        · simp only [List.getElem?_toArray, List.getElem?_cons_succ, List.getElem?_cons_zero]; exact rfl
                        · rfl
                        · intro w hSw; (try dsimp only at hSw); go_simp; try with_reducible rfl
                        try simp only [Act.put]
                        try simp only [List.setIfInBounds_toArray, List.set_cons_zero, List.set_cons_succ]
                        refine reg_take 9 ?_ ?_ ?_ (by kernel_rfl) (by kernel_rfl) (by kernel_rfl) (fun _ _ _ h => h) ?_ ?_ (by assumption) ?_
                        rotate_left 2
                        · simp only [List.getElem?_toArray, List.getElem?_cons_succ, List.getElem?_cons_zero]; exact rfl
                        · rfl
                        · intro w hSw; (try dsimp only at hSw); go_simp; try with_reducible rfl
                        try simp only [Act.put]
                        try simp only [List.setIfInBounds_toArray, List.set_cons_zero, List.set_cons_succ]
                        refine reg_take 10 ?_ ?_ ?_ (by kernel_rfl) (by kernel_rfl) (by kernel_rfl) (fun _ _ _ h => h) ?_ ?_ (by assumption) ?_
                        rotate_left 2
                        · simp only [List.getElem?_toArray, List.getElem?_cons_succ, List.getElem?_cons_zero]; exact rfl
                        · rfl
                        · intro w hSw; (try dsimp only at hSw); go_simp; try with_reducible rfl
                        try simp only [Act.put]
                        try simp only [List.setIfInBounds_toArray, List.set_cons_zero, List.set_cons_succ]
                        refine reg_take 11 ?_ ?_ ?_ (by kernel_rfl) (by kernel_rfl) (by kernel_rfl) (fun _ _ _ h => h) ?_ ?_ (by assumption) ?_
                        rotate_left 2
                        · simp only [List.getElem?_toArray, List.getElem?_cons_succ, List.getElem?_cons_zero]; exact rfl
                        · rfl
                        · intro w hSw; (try dsimp only at hSw); go_simp; try with_reducible rfl
                        try simp only [Act.put]
                        try simp only [List.setIfInBounds_toArray, List.set_cons_zero, List.set_cons_succ]
                        refine reg_take 12 ?_ ?_ ?_ (by kernel_rfl) (by kernel_rfl) (by kernel_rfl) (fun _ _ _ h => h) ?_ ?_ (by assumption) ?_
                        rotate_left 2
                        · simp only [List.getElem?_toArray, List.getElem?_cons_succ, List.getElem?_cons_zero]; exact rfl
                        · rfl
                        · intro w hSw; (try dsimp only at hSw); go_simp; try with_reducible rfl
                        try simp only [Act.put]
                        try simp only [List.setIfInBounds_toArray, List.set_cons_zero, List.set_cons_succ]
                        refine reg_take 13 ?_ ?_ ?_ (by kernel_rfl) (by kernel_rfl) (by kernel_rfl) (fun _ _ _ h => h) ?_ ?_ (by assumption) ?_
                        rotate_left 2
                        · simp only [List.getElem?_toArray, List.getElem?_cons_succ, List.getElem?_cons_zero]; exact rfl
                        · rfl
                        · intro w hSw; (try dsimp only at hSw); go_simp; try with_reducible rfl
                        try simp only [Act.put]
                        try simp only [List.setIfInBounds_toArray, List.set_cons_zero, List.set_cons_succ]
                        refine reg_take 14 ?_ ?_ ?_ (by kernel_rfl) (by kernel_rfl) (by kernel_rfl) (fun _ _ _ h => h) ?_ ?_ (by assumption) ?_
                        rotate_left 2
                        · simp only [List.getElem?_toArray, List.getElem?_cons_succ, List.getElem?_cons_zero]; exact rfl
                        · rfl
                        · intro w hSw; (try dsimp only at hSw); go_simp; try with_reducible rfl
                        try simp only [Act.put]
                        try simp only [List.setIfInBounds_toArray, List.set_cons_zero, List.set_cons_succ]
                        refine reg_take 15 ?_ ?_ ?_ (by kernel_rfl) (by kernel_rfl) (by kernel_rfl) (fun _ _ _ h => h) ?_ ?_ (by assumption) ?_
                        rotate_left 2
                        · simp only [List.getElem?_toArray, List.getElem?_cons_succ, List.getElem?_cons_zero]; exact rfl
                        · rfl
                        · intro w hSw; (try dsimp only at hSw); go_simp; try with_reducible rfl
                        try simp only [Act.put]
                        try simp only [List.setIfInBounds_toArray, List.set_cons_zero, List.set_cons_succ]
                        refine reg_take 16 ?_ ?_ ?_ (by kernel_rfl) (by kernel_rfl) (by kernel_rfl) (fun _ _ _ h => h) ?_ ?_ (by assumption) ?_
                        rotate_left 2
                        · simp only [List.getElem?_toArray, List.getElem?_cons_succ, List.getElem?_cons_zero]; exact rfl
                        · rfl
                        · intro w hSw; (try dsimp only at hSw); go_simp; try with_reducible rfl
                        try simp only [Act.put]
                        try simp only [List.setIfInBounds_toArray, List.set_cons_zero, List.set_cons_succ]
                        refine reg_take 17 ?_ ?_ ?_ (by kernel_rfl) (by kernel_rfl) (by kernel_rfl) (fun _ _ _ h => h) ?_ ?_ (by assumption) ?_
                        rotate_left 2
                        · simp only [List.getElem?_toArray, List.getElem?_cons_succ, List.getElem?_cons_zero]; exact rfl
                        · rfl
                        · intro w hSw; (try dsimp only at hSw); go_simp; try with_reducible rfl
                        try simp only [Act.put]
                        try simp only [List.setIfInBounds_toArray, List.set_cons_zero, List.set_cons_succ]
                        refine wpAnyH_done (by kernel_rfl) ?_ _
                        refine NoPanic.normal ?_
                        go_wp2
                        exact ⟨⟨v + 1, by omega, by go_num, HBQ.out.trans (hh.mono HBQ.out.size)⟩, by simp [intOf]; omega⟩
                · have hvi : v = i := by omega
                  subst hvi
                  have hadd := mAdd_any 0 0 wr (HMW.out.below hbq) (by rw [HQL.out]; omega)
                  rw [HQL.out] at hadd
                  have HADD := Lib.hid hadd
                  have pmq := PMW.out.below hbq
                  have m0_ := pmq.c0
                  have hkb1 : kb < W.heap.size := (Array.getElem?_eq_some_iff.1 HBX.out).1
                  have hqs : W.heap.size ≤ wr.heap.size := hbq.size
                  have HBQ := Lib.hid hbq
                  have hQ0 : (0 : Int) = 0 := rfl
                  clear hadd pmq hbq
                  go_wp2_with fail
                  refine HADD.out.mono ?_
                  rintro e wa ⟨pb', pc', rfl, hma, hpb', hmut⟩
                  have keep : ∀ g, g < wr.heap.size → g ≠ mb → g ≠ pb → wa.heap[g]? = wr.heap[g]? := fun g h1 h2 h3 => (hmut.keep g h1 h2 (fun e => h3 (by simpa [Value.ownBlock] using e.symm))).1
                  have hmbl := hlow.2.1; have hpbl := hlow.2.2.1; have hy8 : y3.heap.size ≤ mb := hlow.1
                  have was : wr.heap.size ≤ wa.heap.size := hmut.size
                  have kbox : ∀ (g : Nat) (vs : List Value), Box wr g vs → g < wr.heap.size → g ≠ mb → g ≠ pb → Box wa g vs := fun g vs h h1 h2 h3 => h.same (keep g h1 h2 h3)
                  have PMA := Lib.hid (kbox _ _ (PMW.out.below HBQ.out) (by have := PMW.out.lt; omega) (by omega) (by omega))
                  have GAA := Lib.hid (kbox _ _ (GAW.out.below HBQ.out) (by have := GAW.out.lt; omega) (by omega) (by omega))
                  have GBA := Lib.hid (kbox _ _ (GBW.out.below HBQ.out) (by have := GBW.out.lt; omega) (by omega) (by omega))
                  have GCA := Lib.hid (kbox _ _ (GCW.out.below HBQ.out) (by have := GCW.out.lt; omega) (by omega) (by omega))
                  have PRA := Lib.hid (kbox _ _ (PRW.out.below HBQ.out) (by have := PRW.out.lt; omega) (by omega) (by omega))
                  have BXA := Lib.hid (show Boxed wa kb 3 (.int .i64 ((1 : Nat) : Int)) from (keep kb (by omega) (by omega) (by omega)).trans ((HBQ.out.block kb hkb1).trans HBX.out))
                  have KDA := Lib.hid (show wa.heap[D]? = some (.deferred (some [])) from (keep D (by omega) (by omega) (by omega)).trans ((HBQ.out.block D hDl).trans HKD.out))
                  have HBA := Lib.hid (show Below w.heap.size w wa from (HBW.out.trans (HBQ.out.mono HBW.out.size)).trans (hmut.below (by have := HBW.out.size; omega) (by omega) (fun k hk => by have : k = pb := (by simpa [Value.ownBlock] using hk.symm); omega)))
                  obtain ⟨tb2, tc2, htv, hra⟩ := MeshO.sl hma (by show 0 < 4; omega)
                  simp only [Value.slice.injEq, Option.some.injEq, Addr.mk.injEq, and_true] at htv
                  obtain ⟨rfl, -, rfl⟩ := htv
                  have HRA := Lib.hid hra
                  have hP' : InPs (Q ++ [(0, 0)]) := by
                    intro q hq
                    rcases List.mem_append.1 hq with h | h
                    · exact HQP.out q h
                    · simp only [List.mem_singleton] at h; subst h; unfold InP; simp only []; omega
                  have hpt : ∀ u : Nat, u < v → ptA (Q ++ [(0, 0)]) u = ptA Q u := fun u hu => by unfold ptA; rw [List.getElem?_append_left (by rw [HQL.out]; exact hu)]
                  have hsn := newM_sound (P := Q ++ [(0, 0)]) (a := a) (b := b') (c := c') (by rw [List.length_append, HQL.out]; omega) (by rw [List.length_append, HQL.out]; omega) (by rw [List.length_append, HQL.out]; omega) (by rw [hpt a hal, hpt b' hb'l.1, hpt c' hb'l.2]; exact HD.out)
                  have HSO := Lib.hid (show ∀ w', Below wa.heap.size wa w' → Calls Try.prog 15 #[.pointer (some ⟨mb, 0, none⟩)] w' fun e w'' => e = .returned (.bool true) ∧ Below w'.heap.size w' w'' from fun w' hb => Sound_any true w' (HRA.out.below hb) hP' (by simp) hsn)
                  obtain ⟨m, hm⟩ : ∃ m, minZ [(a : Int), (b' : Int), (c' : Int)] 3 = m := ⟨_, rfl⟩
                  have hmm : m = min (a : Int) (min (b : Int) (c : Int)) := by
                    rw [← hm]
                    simp only [minZ, List.headD, List.getD, List.getElem?_cons_zero, List.getElem?_cons_succ, Option.getD]
                    rcases HBC.out with ⟨rfl, rfl⟩ | ⟨rfl, rfl⟩ <;> omega
                  have HHU := Lib.hid (show ∀ w', Below wa.heap.size wa w' → Calls Try.prog 16 #[.pointer (some ⟨mb, 0, none⟩)] w' fun e w'' => ∃ g c, e = .returned (.slice (some ⟨g, 0, none⟩) 3 c) ∧ w''.cell? ⟨g, 0, none⟩ = some (.int .i64 m) ∧ Below w'.heap.size w' w'' from fun w' hb => by
                    have hbm : borderM (newM (a : Int) (b' : Int) (c' : Int)) = [(a : Int), (b' : Int), (c' : Int)] := newM_border
                    have h := Hull_any w' (HRA.out.below hb) (by simp) (by rw [hbm]; simp)
                    rw [hbm] at h
                    refine h.mono ?_
                    rintro e w'' ⟨g, c, rfl, hx, -, -, hb2⟩
                    exact ⟨g, c, rfl, hx.c 0 _ (intCells_get (by have := hullL_head (l := [(a : Int), (b' : Int), (c' : Int)]) (by simp); rw [← hm]; exact this)), hb2⟩)
                  have HAN := Lib.hid (show ∀ w', Below wa.heap.size wa w' → Calls Try.prog 13 #[.pointer (some ⟨mb, 0, none⟩), .int .i64 (v : Int)] w' fun e w'' => e = .returned (.int .i64 (-1)) ∧ w' = w'' from fun w' hb => by
                    have h := At_any (v : Int) w' (HRA.out.below hb)
                    rw [one_at_no (a := a) (b := b') (c := c') (v := v) (by omega)] at h
                    exact h)
                  have CG := Lib.hid (show ∀ w', Below wa.heap.size wa w' → w'.cell? ⟨kb, 0, none⟩ = some (.int .i64 ((1 : Nat) : Int)) ∧ w'.cell? ⟨mbx, 0, none⟩ = some (.pointer (some ⟨mb, 0, none⟩)) ∧ w'.cell? ⟨mb, 1, none⟩ = some (.slice (some ⟨tb, 0, none⟩) 4 tc) ∧ w'.cell? ⟨g18, 0, none⟩ = some (.int .i64 (a : Int)) ∧ w'.cell? ⟨g19, 0, none⟩ = some (.int .i64 (b : Int)) ∧ w'.cell? ⟨g20, 0, none⟩ = some (.int .i64 (c : Int)) from fun w' hb => by
                    refine ⟨?_, (PMA.out.below hb).c0, ?_, (GAA.out.below hb).c0, (GBA.out.below hb).c0, (GCA.out.below hb).c0⟩
                    · exact (Boxed.cell (show Boxed w' kb 3 (.int .i64 ((1 : Nat) : Int)) from (hb.block kb (by omega)).trans BXA.out))
                    · exact (HRA.out.below hb).box.c1)
                  clear hmut hma hra hP' hpt hsn keep kbox m0_ hm hQ0
                  have hmn := fun ats ty w' => min3_run Try.prog (a : Int) (b : Int) (c : Int) m hmm ats ty w'
                  clear hmm
                  go_wp2
                  refine wp_region_noPanic ?_
                  refine wp_region_held_drew (S := fun w' => w'.cell? ⟨kb, 0, none⟩ = some (.int .i64 ((1 : Nat) : Int)) ∧ w'.cell? ⟨mbx, 0, none⟩ = some (.pointer (some ⟨mb, 0, none⟩)) ∧ w'.cell? ⟨mb, 1, none⟩ = some (.slice (some ⟨tb, 0, none⟩) 4 tc) ∧ w'.cell? ⟨g18, 0, none⟩ = some (.int .i64 (a : Int)) ∧ w'.cell? ⟨g19, 0, none⟩ = some (.int .i64 (b : Int)) ∧ w'.cell? ⟨g20, 0, none⟩ = some (.int .i64 (c : Int))) (by kernel_rfl) (CG.out _ (Below.refl wa.heap.size wa).drew') (fun hHeld => ?_)
                  refine reg_take 0 ?_ ?_ ?_ (by kernel_rfl) (by kernel_rfl) (by kernel_rfl) (fun _ _ _ h => h) ?_ ?_ (by assumption) ?_
                  rotate_left 2
                  · simp only [List.getElem?_toArray, List.getElem?_cons_zero]; exact rfl
                  · rfl
                  · intro w hSw; (try dsimp only at hSw); go_simp; try with_reducible rfl
                  try simp only [Act.put]
                  try simp only [List.setIfInBounds_toArray, List.set_cons_zero, List.set_cons_succ]
                  refine reg_take 1 ?_ ?_ ?_ (by kernel_rfl) (by kernel_rfl) (by kernel_rfl) (fun _ _ _ h => h) ?_ ?_ (by assumption) ?_
                  rotate_left 2
                  · simp only [List.getElem?_toArray, List.getElem?_cons_succ, List.getElem?_cons_zero]; exact rfl
                  · rfl
                  · intro w hSw; (try dsimp only at hSw); go_simp; try with_reducible rfl
                  try simp only [Act.put]
                  try simp only [List.setIfInBounds_toArray, List.set_cons_zero, List.set_cons_succ]
                  refine reg_take 2 ?_ ?_ ?_ (by kernel_rfl) (by kernel_rfl) (by kernel_rfl) (fun _ _ _ h => h) ?_ ?_ (by assumption) ?_
                  rotate_left 2
                  · simp only [List.getElem?_toArray, List.getElem?_cons_succ, List.getElem?_cons_zero]; exact rfl
                  · rfl
                  · intro w hSw; (try dsimp only at hSw); go_simp; try with_reducible rfl
                  try simp only [Act.put]
                  try simp only [List.setIfInBounds_toArray, List.set_cons_zero, List.set_cons_succ]
                  refine reg_take 3 ?_ ?_ ?_ (by kernel_rfl) (by kernel_rfl) (by kernel_rfl) (fun _ _ _ h => h) ?_ ?_ (by assumption) ?_
                  rotate_left 2
                  · simp only [List.getElem?_toArray, List.getElem?_cons_succ, List.getElem?_cons_zero]; exact rfl
                  · rfl
                  · intro w hSw; (try dsimp only at hSw); go_simp; try with_reducible rfl
                  try simp only [Act.put]
                  try simp only [List.setIfInBounds_toArray, List.set_cons_zero, List.set_cons_succ]
                  refine reg_take 4 ?_ ?_ ?_ (by kernel_rfl) (by kernel_rfl) (by kernel_rfl) (fun _ _ _ h => h) ?_ ?_ (by assumption) ?_
                  rotate_left 2
                  · simp only [List.getElem?_toArray, List.getElem?_cons_succ, List.getElem?_cons_zero]; exact rfl
                  · rfl
                  · intro w hSw; (try dsimp only at hSw); go_simp; try with_reducible rfl
                  try simp only [Act.put]
                  try simp only [List.setIfInBounds_toArray, List.set_cons_zero, List.set_cons_succ]
                  refine reg_take 5 ?_ ?_ ?_ (by kernel_rfl) (by kernel_rfl) (by kernel_rfl) (fun _ _ _ h => h) ?_ ?_ (by assumption) ?_
                  rotate_left 2
                  · simp only [List.getElem?_toArray, List.getElem?_cons_succ, List.getElem?_cons_zero]; exact rfl
                  · rfl
                  · intro w hSw; (try dsimp only at hSw); go_simp; try with_reducible rfl
                  try simp only [Act.put]
                  try simp only [List.setIfInBounds_toArray, List.set_cons_zero, List.set_cons_succ]
                  refine reg_take 6 ?_ ?_ ?_ (by kernel_rfl) (by kernel_rfl) (by kernel_rfl) (fun _ _ _ h => h) ?_ ?_ (by assumption) ?_
                  rotate_left 2
                  · simp only [List.getElem?_toArray, List.getElem?_cons_succ, List.getElem?_cons_zero]; exact rfl
                  · rfl
                  · intro w hSw; (try dsimp only at hSw); go_simp; try with_reducible rfl
                  try simp only [Act.put]
                  try simp only [List.setIfInBounds_toArray, List.set_cons_zero, List.set_cons_succ]
                  refine reg_take 7 ?_ ?_ ?_ (by kernel_rfl) (by kernel_rfl) (by kernel_rfl) (fun _ _ _ h => h) ?_ ?_ (by assumption) ?_
                  rotate_left 2
                  · simp only [List.getElem?_toArray, List.getElem?_cons_succ, List.getElem?_cons_zero]; exact rfl
                  · rfl
                  · intro w hSw; (try dsimp only at hSw); go_simp; try with_reducible rfl
                  try simp only [Act.put]
                  try simp only [List.setIfInBounds_toArray, List.set_cons_zero, List.set_cons_succ]
                  refine reg_take 8 ?_ ?_ ?_ (by kernel_rfl) (by kernel_rfl) (by kernel_rfl) (fun _ _ _ h => h) ?_ ?_ (by assumption) ?_
                  rotate_left 2
                  · simp only [List.getElem?_toArray, List.getElem?_cons_succ, List.getElem?_cons_zero]; exact rfl
                  · rfl
                  · intro w hSw; (try dsimp only at hSw); go_simp; try with_reducible rfl
                  try simp only [Act.put]
                  try simp only [List.setIfInBounds_toArray, List.set_cons_zero, List.set_cons_succ]
                  refine reg_take 9 ?_ ?_ ?_ (by kernel_rfl) (by kernel_rfl) (by kernel_rfl) (fun _ _ _ h => h) ?_ ?_ (by assumption) ?_
                  rotate_left 2
                  · simp only [List.getElem?_toArray, List.getElem?_cons_succ, List.getElem?_cons_zero]; exact rfl
                  · rfl
                  · intro w hSw; (try dsimp only at hSw); go_simp; try with_reducible rfl
                  try simp only [Act.put]
                  try simp only [List.setIfInBounds_toArray, List.set_cons_zero, List.set_cons_succ]
                  refine reg_take 10 ?_ ?_ ?_ (by kernel_rfl) (by kernel_rfl) (by kernel_rfl) (fun _ _ _ h => h) ?_ ?_ (by assumption) ?_
                  rotate_left 2
                  · simp only [List.getElem?_toArray, List.getElem?_cons_succ, List.getElem?_cons_zero]; exact rfl
                  · rfl
                  · intro w hSw; (try dsimp only at hSw); go_simp; try with_reducible rfl
                  try simp only [Act.put]
                  try simp only [List.setIfInBounds_toArray, List.set_cons_zero, List.set_cons_succ]
                  refine reg_take 11 ?_ ?_ ?_ (by kernel_rfl) (by kernel_rfl) (by kernel_rfl) (fun _ _ _ h => h) ?_ ?_ (by assumption) ?_
                  rotate_left 2
                  · simp only [List.getElem?_toArray, List.getElem?_cons_succ, List.getElem?_cons_zero]; exact rfl
                  · rfl
                  · intro w hSw; (try dsimp only at hSw); go_simp; try with_reducible rfl
                  try simp only [Act.put]
                  try simp only [List.setIfInBounds_toArray, List.set_cons_zero, List.set_cons_succ]
                  refine reg_call 12 ?_ (by kernel_rfl) ?_ (fun K hK => ?_)
                  rotate_left 1
                  · simp only [List.getElem?_toArray, List.getElem?_cons_succ, List.getElem?_cons_zero]; exact rfl
                  have hg0 := (Below.refl wa.heap.size wa).drew'
                  go_simp
                  refine (HSO.out _ hg0).mono ?_
                  rintro e wg1 ⟨rfl, hbb⟩
                  have hg1 := hg0.trans (hbb.mono hg0.size)
                  clear hbb
                  go_wp2_with fail
                  refine hK.out _ _ (CG.out _ hg1) (fun hHeld => ?_)
                  clear hK K
                  try simp only [Act.put]
                  try simp only [List.setIfInBounds_toArray, List.set_cons_zero, List.set_cons_succ]
                  refine reg_take 13 ?_ ?_ ?_ (by kernel_rfl) (by kernel_rfl) (by kernel_rfl) (fun _ _ _ h => h) ?_ ?_ (by assumption) ?_
                  rotate_left 2
                  · simp only [List.getElem?_toArray, List.getElem?_cons_succ, List.getElem?_cons_zero]; exact rfl
                  · rfl
                  · intro w hSw; (try dsimp only at hSw); go_simp; try with_reducible rfl
                  try simp only [Act.put]
                  try simp only [List.setIfInBounds_toArray, List.set_cons_zero, List.set_cons_succ]
                  refine reg_take 14 ?_ ?_ ?_ (by kernel_rfl) (by kernel_rfl) (by kernel_rfl) (fun _ _ _ h => h) ?_ ?_ (by assumption) ?_
                  rotate_left 2
                  · simp only [List.getElem?_toArray, List.getElem?_cons_succ, List.getElem?_cons_zero]; exact rfl
                  · rfl
                  · intro w hSw; (try dsimp only at hSw); go_simp; try with_reducible rfl
                  try simp only [Act.put]
                  try simp only [List.setIfInBounds_toArray, List.set_cons_zero, List.set_cons_succ]
                  refine reg_take 15 ?_ ?_ ?_ (by kernel_rfl) (by kernel_rfl) (by kernel_rfl) (fun _ _ _ h => h) ?_ ?_ (by assumption) ?_
                  rotate_left 2
                  · simp only [List.getElem?_toArray, List.getElem?_cons_succ, List.getElem?_cons_zero]; exact rfl
                  · rfl
                  · intro w hSw; (try dsimp only at hSw); go_simp; try with_reducible rfl
                  try simp only [Act.put]
                  try simp only [List.setIfInBounds_toArray, List.set_cons_zero, List.set_cons_succ]
                  refine reg_call 16 ?_ (by kernel_rfl) ?_ (fun K hK => ?_)
                  rotate_left 1
                  · simp only [List.getElem?_toArray, List.getElem?_cons_succ, List.getElem?_cons_zero]; exact rfl
                  go_simp
                  refine (HHU.out _ hg1).mono ?_
                  rintro e wg2 ⟨gh, ch, rfl, -, hbb⟩
                  have hg2 := hg1.trans (hbb.mono hg1.size)
                  clear hbb
                  go_wp2_with fail
                  refine hK.out _ _ (CG.out _ hg2) (fun hHeld => ?_)
                  clear hK K
                  try simp only [Act.put]
                  try simp only [List.setIfInBounds_toArray, List.set_cons_zero, List.set_cons_succ]
                  refine reg_take 17 ?_ ?_ ?_ (by kernel_rfl) (by kernel_rfl) (by kernel_rfl) (fun _ _ _ h => h) ?_ ?_ (by assumption) ?_
                  rotate_left 2
                  · simp only [List.getElem?_toArray, List.getElem?_cons_succ, List.getElem?_cons_zero]; exact rfl
                  · rfl
                  · intro w hSw; (try dsimp only at hSw); go_simp; try with_reducible rfl
                  try simp only [Act.put]
                  try simp only [List.setIfInBounds_toArray, List.set_cons_zero, List.set_cons_succ]
                  refine reg_take 18 ?_ ?_ ?_ (by kernel_rfl) (by kernel_rfl) (by kernel_rfl) (fun _ _ _ h => h) ?_ ?_ (by assumption) ?_
                  rotate_left 2
                  · simp only [List.getElem?_toArray, List.getElem?_cons_succ, List.getElem?_cons_zero]; exact rfl
                  · rfl
                  · intro w hSw; (try dsimp only at hSw); go_simp; try with_reducible rfl
                  try simp only [Act.put]
                  try simp only [List.setIfInBounds_toArray, List.set_cons_zero, List.set_cons_succ]
                  refine reg_take 19 ?_ ?_ ?_ (by kernel_rfl) (by kernel_rfl) (by kernel_rfl) (fun _ _ _ h => h) ?_ ?_ (by assumption) ?_
                  rotate_left 2
                  · simp only [List.getElem?_toArray, List.getElem?_cons_succ, List.getElem?_cons_zero]; exact rfl
                  · rfl
                  · intro w hSw; (try dsimp only at hSw); go_simp; try with_reducible rfl
                  try simp only [Act.put]
                  try simp only [List.setIfInBounds_toArray, List.set_cons_zero, List.set_cons_succ]
                  refine reg_take 20 ?_ ?_ ?_ (by kernel_rfl) (by kernel_rfl) (by kernel_rfl) (fun _ _ _ h => h) ?_ ?_ (by assumption) ?_
                  rotate_left 2
                  · simp only [List.getElem?_toArray, List.getElem?_cons_succ, List.getElem?_cons_zero]; exact rfl
                  · rfl
                  · intro w hSw; (try dsimp only at hSw); go_simp; try with_reducible rfl
                  try simp only [Act.put]
                  try simp only [List.setIfInBounds_toArray, List.set_cons_zero, List.set_cons_succ]
                  refine reg_take 21 ?_ ?_ ?_ (by kernel_rfl) (by kernel_rfl) (by kernel_rfl) (fun _ _ _ h => h) ?_ ?_ (by assumption) ?_
                  rotate_left 2
                  · simp only [List.getElem?_toArray, List.getElem?_cons_succ, List.getElem?_cons_zero]; exact rfl
                  · rfl
                  · intro w hSw; (try dsimp only at hSw); go_simp; try with_reducible rfl
                  try simp only [Act.put]
                  try simp only [List.setIfInBounds_toArray, List.set_cons_zero, List.set_cons_succ]
                  refine reg_take 25 ?_ ?_ ?_ (by kernel_rfl) (by kernel_rfl) (by kernel_rfl) (fun _ _ _ h => h) ?_ ?_ (by assumption) ?_
                  rotate_left 2
                  · simp only [List.getElem?_toArray, List.getElem?_cons_succ, List.getElem?_cons_zero]; exact rfl
                  · rfl
                  · intro w hSw; (try dsimp only at hSw); go_simp; try with_reducible rfl
                  try simp only [Act.put]
                  try simp only [List.setIfInBounds_toArray, List.set_cons_zero, List.set_cons_succ]
                  refine reg_take 26 ?_ ?_ ?_ (by kernel_rfl) (by kernel_rfl) (by kernel_rfl) (fun _ _ _ h => h) ?_ ?_ (by assumption) ?_
                  rotate_left 2
                  · simp only [List.getElem?_toArray, List.getElem?_cons_succ, List.getElem?_cons_zero]; exact rfl
                  · rfl
                  · intro w hSw; (try dsimp only at hSw); go_simp; try with_reducible rfl
                  try simp only [Act.put]
                  try simp only [List.setIfInBounds_toArray, List.set_cons_zero, List.set_cons_succ]
                  refine reg_take 27 ?_ ?_ ?_ (by kernel_rfl) (by kernel_rfl) (by kernel_rfl) (fun _ _ _ h => h) ?_ ?_ (by assumption) ?_
                  rotate_left 2
                  · simp only [List.getElem?_toArray, List.getElem?_cons_succ, List.getElem?_cons_zero]; exact rfl
                  · rfl
                  · intro w hSw; (try dsimp only at hSw); go_simp; try with_reducible rfl
                  try simp only [Act.put]
                  try simp only [List.setIfInBounds_toArray, List.set_cons_zero, List.set_cons_succ]
                  refine reg_take 28 ?_ ?_ ?_ (by kernel_rfl) (by kernel_rfl) (by kernel_rfl) (fun _ _ _ h => h) ?_ ?_ (by assumption) ?_
                  rotate_left 2
                  · simp only [List.getElem?_toArray, List.getElem?_cons_succ, List.getElem?_cons_zero]; exact rfl
                  · rfl
                  · intro w hSw; (try dsimp only at hSw); go_simp; try with_reducible rfl
                  try simp only [Act.put]
                  try simp only [List.setIfInBounds_toArray, List.set_cons_zero, List.set_cons_succ]
                  refine reg_call 22 ?_ (by kernel_rfl) ?_ (fun K hK => ?_)
                  rotate_left 1
                  · simp only [List.getElem?_toArray, List.getElem?_cons_succ, List.getElem?_cons_zero]; exact rfl
                  go_simp
                  refine (HHU.out _ hg2).mono ?_
                  rintro e wg4 ⟨gz, cz, rfl, hcz, hbb⟩
                  have hg4 := hg2.trans (hbb.mono hg2.size)
                  clear hbb
                  go_wp2_with fail
                  refine hK.out _ _ (CG.out _ hg4) (fun hHeld => ?_)
                  clear hK K
                  try simp only [Act.put]
                  try simp only [List.setIfInBounds_toArray, List.set_cons_zero, List.set_cons_succ]
                  refine reg_take 23 ?_ ?_ ?_ (by kernel_rfl) (by kernel_rfl) (by kernel_rfl) (fun _ _ _ h => h) ?_ ?_ (by assumption) ?_
                  rotate_left 2
                  · simp only [List.getElem?_toArray, List.getElem?_cons_succ, List.getElem?_cons_zero]; exact rfl
                  · rfl
                  · intro w hSw; (try dsimp only at hSw); go_simp; try with_reducible rfl
                  try simp only [Act.put]
                  try simp only [List.setIfInBounds_toArray, List.set_cons_zero, List.set_cons_succ]
                  refine reg_call 24 ?_ (by kernel_rfl) ?_ (fun K hK => ?_)
                  rotate_left 1
                  · simp only [List.getElem?_toArray, List.getElem?_cons_succ, List.getElem?_cons_zero]; exact rfl
                  go_simp
                  refine hK.out _ _ (CG.out _ hg4) (fun hHeld => ?_)
                  clear hK K
                  try simp only [Act.put]
                  try simp only [List.setIfInBounds_toArray, List.set_cons_zero, List.set_cons_succ]
                  refine reg_take 29 ?_ ?_ ?_ (by kernel_rfl) (by kernel_rfl) (by kernel_rfl) (fun _ _ _ h => h) ?_ ?_ (by assumption) ?_
                  rotate_left 2
                  · simp only [List.getElem?_toArray, List.getElem?_cons_succ, List.getElem?_cons_zero]; exact rfl
                  · rfl
                  · intro w hSw; (try dsimp only at hSw); go_simp; try with_reducible rfl
                  try simp only [Act.put]
                  try simp only [List.setIfInBounds_toArray, List.set_cons_zero, List.set_cons_succ]
                  refine reg_take 30 ?_ ?_ ?_ (by kernel_rfl) (by kernel_rfl) (by kernel_rfl) (fun _ _ _ h => h) ?_ ?_ (by assumption) ?_
                  rotate_left 2
                  · simp only [List.getElem?_toArray, List.getElem?_cons_succ, List.getElem?_cons_zero]; exact rfl
                  · rfl
                  · intro w hSw; (try dsimp only at hSw); go_simp; try with_reducible rfl
                  try simp only [Act.put]
                  try simp only [List.setIfInBounds_toArray, List.set_cons_zero, List.set_cons_succ]
                  refine reg_take 31 ?_ ?_ ?_ (by kernel_rfl) (by kernel_rfl) (by kernel_rfl) (fun _ _ _ h => h) ?_ ?_ (by assumption) ?_
                  rotate_left 2
                  · simp only [List.getElem?_toArray, List.getElem?_cons_succ, List.getElem?_cons_zero]; exact rfl
                  · rfl
                  · intro w hSw; (try dsimp only at hSw); go_simp; try with_reducible rfl
                  try simp only [Act.put]
                  try simp only [List.setIfInBounds_toArray, List.set_cons_zero, List.set_cons_succ]
                  refine reg_take 32 ?_ ?_ ?_ (by kernel_rfl) (by kernel_rfl) (by kernel_rfl) (fun _ _ _ h => h) ?_ ?_ (by assumption) ?_
                  rotate_left 2
                  · simp only [List.getElem?_toArray, List.getElem?_cons_succ, List.getElem?_cons_zero]; exact rfl
                  · rfl
                  · intro w hSw; (try dsimp only at hSw); go_simp; try with_reducible rfl
                  try simp only [Act.put]
                  try simp only [List.setIfInBounds_toArray, List.set_cons_zero, List.set_cons_succ]
                  refine reg_take 33 ?_ ?_ ?_ (by kernel_rfl) (by kernel_rfl) (by kernel_rfl) (fun _ _ _ h => h) ?_ ?_ (by assumption) ?_
                  rotate_left 2
                  · simp only [List.getElem?_toArray, List.getElem?_cons_succ, List.getElem?_cons_zero]; exact rfl
                  · rfl
                  · intro w hSw; (try dsimp only at hSw); go_simp; try with_reducible rfl
                  try simp only [Act.put]
                  try simp only [List.setIfInBounds_toArray, List.set_cons_zero, List.set_cons_succ]
                  refine reg_take 34 ?_ ?_ ?_ (by kernel_rfl) (by kernel_rfl) (by kernel_rfl) (fun _ _ _ h => h) ?_ ?_ (by assumption) ?_
                  rotate_left 2
                  · simp only [List.getElem?_toArray, List.getElem?_cons_succ, List.getElem?_cons_zero]; exact rfl
                  · rfl
                  · intro w hSw; (try dsimp only at hSw); go_simp; try with_reducible rfl
                  try simp only [Act.put]
                  try simp only [List.setIfInBounds_toArray, List.set_cons_zero, List.set_cons_succ]
                  refine reg_take 35 ?_ ?_ ?_ (by kernel_rfl) (by kernel_rfl) (by kernel_rfl) (fun _ _ _ h => h) ?_ ?_ (by assumption) ?_
                  rotate_left 2
                  · simp only [List.getElem?_toArray, List.getElem?_cons_succ, List.getElem?_cons_zero]; exact rfl
                  · rfl
                  · intro w hSw; (try dsimp only at hSw); go_simp; try with_reducible rfl
                  try simp only [Act.put]
                  try simp only [List.setIfInBounds_toArray, List.set_cons_zero, List.set_cons_succ]
                  refine reg_take 36 ?_ ?_ ?_ (by kernel_rfl) (by kernel_rfl) (by kernel_rfl) (fun _ _ _ h => h) ?_ ?_ (by assumption) ?_
                  rotate_left 2
                  · simp only [List.getElem?_toArray, List.getElem?_cons_succ, List.getElem?_cons_zero]; exact rfl
                  · rfl
                  · intro w hSw; (try dsimp only at hSw); go_simp; try with_reducible rfl
                  try simp only [Act.put]
                  try simp only [List.setIfInBounds_toArray, List.set_cons_zero, List.set_cons_succ]
                  refine reg_take 37 ?_ ?_ ?_ (by kernel_rfl) (by kernel_rfl) (by kernel_rfl) (fun _ _ _ h => h) ?_ ?_ (by assumption) ?_
                  rotate_left 2
                  · simp only [List.getElem?_toArray, List.getElem?_cons_succ, List.getElem?_cons_zero]; exact rfl
                  · rfl
                  · intro w hSw; (try dsimp only at hSw); go_simp; try with_reducible rfl
                  try simp only [Act.put]
                  try simp only [List.setIfInBounds_toArray, List.set_cons_zero, List.set_cons_succ]
                  refine reg_take 38 ?_ ?_ ?_ (by kernel_rfl) (by kernel_rfl) (by kernel_rfl) (fun _ _ _ h => h) ?_ ?_ (by assumption) ?_
                  rotate_left 2
                  · simp only [List.getElem?_toArray, List.getElem?_cons_succ, List.getElem?_cons_zero]; exact rfl
                  · rfl
                  · intro w hSw; (try dsimp only at hSw); go_simp; try with_reducible rfl
                  try simp only [Act.put]
                  try simp only [List.setIfInBounds_toArray, List.set_cons_zero, List.set_cons_succ]
                  refine reg_take 39 ?_ ?_ ?_ (by kernel_rfl) (by kernel_rfl) (by kernel_rfl) (fun _ _ _ h => h) ?_ ?_ (by assumption) ?_
                  rotate_left 2
                  · simp only [List.getElem?_toArray, List.getElem?_cons_succ, List.getElem?_cons_zero]; exact rfl
                  · rfl
                  · intro w hSw; (try dsimp only at hSw); go_simp; try with_reducible rfl
                  try simp only [Act.put]
                  try simp only [List.setIfInBounds_toArray, List.set_cons_zero, List.set_cons_succ]
                  refine reg_call 40 ?_ (by kernel_rfl) ?_ (fun K hK => ?_)
                  rotate_left 1
                  · simp only [List.getElem?_toArray, List.getElem?_cons_succ, List.getElem?_cons_zero]; exact rfl
                  go_simp
                  refine (HAN.out _ hg4).mono ?_
                  rintro e wz ⟨rfl, rfl⟩
                  go_wp2_with fail
                  refine hK.out _ _ (CG.out _ hg4) (fun hHeld => ?_)
                  clear hK K
                  try simp only [Act.put]
                  try simp only [List.setIfInBounds_toArray, List.set_cons_zero, List.set_cons_succ]
                  refine reg_take 41 ?_ ?_ ?_ (by kernel_rfl) (by kernel_rfl) (by kernel_rfl) (fun _ _ _ h => h) ?_ ?_ (by assumption) ?_
                  rotate_left 2
                  · simp only [List.getElem?_toArray, List.getElem?_cons_succ, List.getElem?_cons_zero]; exact rfl
                  · rfl
                  · intro w hSw; (try dsimp only at hSw); go_simp; try with_reducible rfl
                  try simp only [Act.put]
                  try simp only [List.setIfInBounds_toArray, List.set_cons_zero, List.set_cons_succ]
                  refine reg_take 42 ?_ ?_ ?_ (by kernel_rfl) (by kernel_rfl) (by kernel_rfl) (fun _ _ _ h => h) ?_ ?_ (by assumption) ?_
                  rotate_left 2
                  · simp only [List.getElem?_toArray, List.getElem?_cons_succ, List.getElem?_cons_zero]; exact rfl
                  · rfl
                  · intro w hSw; (try dsimp only at hSw); go_simp; try with_reducible rfl
                  try simp only [Act.put]
                  try simp only [List.setIfInBounds_toArray, List.set_cons_zero, List.set_cons_succ]
                  refine reg_call 43 ?_ (by kernel_rfl) ?_ (fun K hK => ?_)
                  rotate_left 1
                  · simp only [List.getElem?_toArray, List.getElem?_cons_succ, List.getElem?_cons_zero]; exact rfl
                  obtain ⟨q0, q1⟩ := (PRA.out.below hg4).open1
                  have PRZ := Lib.hid ((PRA.out.below hg4).set 0 (.bool true))
                  go_simp
                  refine hK.out _ _ ⟨(heap_cell_far _ (by omega) _).trans (CG.out _ hg4).1, (heap_cell_far _ (by omega) _).trans (CG.out _ hg4).2.1, (heap_cell_far _ (by omega) _).trans (CG.out _ hg4).2.2.1, (heap_cell_far _ (by omega) _).trans (CG.out _ hg4).2.2.2.1, (heap_cell_far _ (by omega) _).trans (CG.out _ hg4).2.2.2.2.1, (heap_cell_far _ (by omega) _).trans (CG.out _ hg4).2.2.2.2.2⟩ (fun hHeld => ?_)
                  clear hK K
                  try simp only [Act.put]
                  try simp only [List.setIfInBounds_toArray, List.set_cons_zero, List.set_cons_succ]
                  refine wpAnyH_done (by kernel_rfl) ?_ _
                  refine NoPanic.normal ?_
                  have hh := hg4
                  have prz := PRA.out.below hh
                  have pz2 := PRZ.out.c0
                  have h1 := (hh.block D (by omega)).trans KDA.out
                  have hDn : D ≠ w.heap.size + 1 := by omega
                  have h2 : (wg4.setCell ⟨w.heap.size + 1, 0, none⟩ (.bool true)).heap[D]? = some (.deferred (some [])) := (heap_set_far _ _ _ _ _ hDn).trans h1
                  have h4 : Below w.heap.size w (wg4.setCell ⟨w.heap.size + 1, 0, none⟩ (.bool true)) := (HBA.out.trans (hh.mono HBA.out.size)).setCell (p := ⟨w.heap.size + 1, 0, none⟩) (by simp only []; omega) _
                  go_wp2
                  refine ⟨by simp, .inl ⟨_, _, rfl, run_takeDeferred h2, ?_⟩⟩
                  have hc5 := cell_kept pz2 (grownBy_putObj' _ D (.deferred none)) (fun r e => by cases e; exact ⟨_, h2, rfl⟩)
                  refine ⟨.bool true, ?_, rfl, h4.trans (belowK_b (w := w) (Nat.le_refl _) _ D _ _ (by omega) h2 rfl rfl)⟩
                  simp [results, Try.results3, go_sem, hc5]
          case stop =>
            rintro D c pre W _ _ h _
            exact h.elim
      rw [hWW, hAA]
      try simp only [Act.put]
      try simp only [List.setIfInBounds_toArray, List.set_cons_zero, List.set_cons_succ]
      refine reg_all3 18 19 20 _ _ _ (by kernel_rfl) rfl rfl rfl (fun K hK => ?_) (fun K hK => ?_) (fun K hK => ?_) 
      · obtain ⟨wzq18, hwwzq18, pzwzq18, hbwzq18, hswzq18⟩ := new_box wr.drew _ rfl [.int .i64 0] 3
        go_simp
        try rw [hwwzq18]
        refine hK.out _ _ (CD.out _ hbwzq18) (fun hHeld => ?_)
        clear hK K
        try simp only [Act.put]
        try simp only [List.setIfInBounds_toArray, List.set_cons_zero, List.set_cons_succ]
        refine reg_all2 19 20 _ _ (by kernel_rfl) rfl rfl (fun K hK => ?_) (fun K hK => ?_) 
        · obtain ⟨wz18q19, hwwz18q19, pzwz18q19, hbwz18q19, hswz18q19⟩ := new_box wzq18 _ hswzq18 [.int .i64 0] 3
          go_simp
          try rw [hwwz18q19]
          refine hK.out _ _ (CD.out _ (hbwzq18.trans (hbwz18q19.mono (by omega)))) (fun hHeld => ?_)
          clear hK K
          try simp only [Act.put]
          try simp only [List.setIfInBounds_toArray, List.set_cons_zero, List.set_cons_succ]
          refine reg_all1 20 _ (by kernel_rfl) rfl (fun K hK => ?_) 
          · obtain ⟨wz1819q20, hwwz1819q20, pzwz1819q20, hbwz1819q20, hswz1819q20⟩ := new_box wz18q19 _ hswz18q19 [.int .i64 0] 3
            go_simp
            try rw [hwwz1819q20]
            refine hK.out _ _ (CD.out _ ((hbwzq18.trans (hbwz18q19.mono (by omega))).trans (hbwz1819q20.mono (by omega)))) (fun hHeld => ?_)
            clear hK K
            try simp only [Act.put]
            try simp only [List.setIfInBounds_toArray, List.set_cons_zero, List.set_cons_succ]
            have hL := LEAF (wr.drew.heap.size) (wr.drew.heap.size + 1) (wr.drew.heap.size + 1 + 1) _ ((hbwzq18.trans (hbwz18q19.mono (by omega))).trans (hbwz1819q20.mono (by omega))) (by omega) (by omega) (by omega) (by omega) (by omega) (by omega) ((pzwzq18.below (hbwz18q19.mono (by omega))).below (hbwz1819q20.mono (by omega))) (pzwz18q19.below (hbwz1819q20.mono (by omega))) pzwz1819q20
            rw [hWW, hAA] at hL
            try simp only [Act.put] at hL
            try simp only [List.setIfInBounds_toArray, List.set_cons_zero, List.set_cons_succ] at hL
            exact hL
        · obtain ⟨wz18q20, hwwz18q20, pzwz18q20, hbwz18q20, hswz18q20⟩ := new_box wzq18 _ hswzq18 [.int .i64 0] 3
          go_simp
          try rw [hwwz18q20]
          refine hK.out _ _ (CD.out _ (hbwzq18.trans (hbwz18q20.mono (by omega)))) (fun hHeld => ?_)
          clear hK K
          try simp only [Act.put]
          try simp only [List.setIfInBounds_toArray, List.set_cons_zero, List.set_cons_succ]
          refine reg_all1 19 _ (by kernel_rfl) rfl (fun K hK => ?_) 
          · obtain ⟨wz1820q19, hwwz1820q19, pzwz1820q19, hbwz1820q19, hswz1820q19⟩ := new_box wz18q20 _ hswz18q20 [.int .i64 0] 3
            go_simp
            try rw [hwwz1820q19]
            refine hK.out _ _ (CD.out _ ((hbwzq18.trans (hbwz18q20.mono (by omega))).trans (hbwz1820q19.mono (by omega)))) (fun hHeld => ?_)
            clear hK K
            try simp only [Act.put]
            try simp only [List.setIfInBounds_toArray, List.set_cons_zero, List.set_cons_succ]
            have hL := LEAF (wr.drew.heap.size) (wr.drew.heap.size + 1 + 1) (wr.drew.heap.size + 1) _ ((hbwzq18.trans (hbwz18q20.mono (by omega))).trans (hbwz1820q19.mono (by omega))) (by omega) (by omega) (by omega) (by omega) (by omega) (by omega) ((pzwzq18.below (hbwz18q20.mono (by omega))).below (hbwz1820q19.mono (by omega))) pzwz1820q19 (pzwz18q20.below (hbwz1820q19.mono (by omega)))
            rw [hWW, hAA] at hL
            try simp only [Act.put] at hL
            try simp only [List.setIfInBounds_toArray, List.set_cons_zero, List.set_cons_succ] at hL
            exact hL
      · obtain ⟨wzq19, hwwzq19, pzwzq19, hbwzq19, hswzq19⟩ := new_box wr.drew _ rfl [.int .i64 0] 3
        go_simp
        try rw [hwwzq19]
        refine hK.out _ _ (CD.out _ hbwzq19) (fun hHeld => ?_)
        clear hK K
        try simp only [Act.put]
        try simp only [List.setIfInBounds_toArray, List.set_cons_zero, List.set_cons_succ]
        refine reg_all2 18 20 _ _ (by kernel_rfl) rfl rfl (fun K hK => ?_) (fun K hK => ?_) 
        · obtain ⟨wz19q18, hwwz19q18, pzwz19q18, hbwz19q18, hswz19q18⟩ := new_box wzq19 _ hswzq19 [.int .i64 0] 3
          go_simp
          try rw [hwwz19q18]
          refine hK.out _ _ (CD.out _ (hbwzq19.trans (hbwz19q18.mono (by omega)))) (fun hHeld => ?_)
          clear hK K
          try simp only [Act.put]
          try simp only [List.setIfInBounds_toArray, List.set_cons_zero, List.set_cons_succ]
          refine reg_all1 20 _ (by kernel_rfl) rfl (fun K hK => ?_) 
          · obtain ⟨wz1918q20, hwwz1918q20, pzwz1918q20, hbwz1918q20, hswz1918q20⟩ := new_box wz19q18 _ hswz19q18 [.int .i64 0] 3
            go_simp
            try rw [hwwz1918q20]
            refine hK.out _ _ (CD.out _ ((hbwzq19.trans (hbwz19q18.mono (by omega))).trans (hbwz1918q20.mono (by omega)))) (fun hHeld => ?_)
            clear hK K
            try simp only [Act.put]
            try simp only [List.setIfInBounds_toArray, List.set_cons_zero, List.set_cons_succ]
            have hL := LEAF (wr.drew.heap.size + 1) (wr.drew.heap.size) (wr.drew.heap.size + 1 + 1) _ ((hbwzq19.trans (hbwz19q18.mono (by omega))).trans (hbwz1918q20.mono (by omega))) (by omega) (by omega) (by omega) (by omega) (by omega) (by omega) (pzwz19q18.below (hbwz1918q20.mono (by omega))) ((pzwzq19.below (hbwz19q18.mono (by omega))).below (hbwz1918q20.mono (by omega))) pzwz1918q20
            rw [hWW, hAA] at hL
            try simp only [Act.put] at hL
            try simp only [List.setIfInBounds_toArray, List.set_cons_zero, List.set_cons_succ] at hL
            exact hL
        · obtain ⟨wz19q20, hwwz19q20, pzwz19q20, hbwz19q20, hswz19q20⟩ := new_box wzq19 _ hswzq19 [.int .i64 0] 3
          go_simp
          try rw [hwwz19q20]
          refine hK.out _ _ (CD.out _ (hbwzq19.trans (hbwz19q20.mono (by omega)))) (fun hHeld => ?_)
          clear hK K
          try simp only [Act.put]
          try simp only [List.setIfInBounds_toArray, List.set_cons_zero, List.set_cons_succ]
          refine reg_all1 18 _ (by kernel_rfl) rfl (fun K hK => ?_) 
          · obtain ⟨wz1920q18, hwwz1920q18, pzwz1920q18, hbwz1920q18, hswz1920q18⟩ := new_box wz19q20 _ hswz19q20 [.int .i64 0] 3
            go_simp
            try rw [hwwz1920q18]
            refine hK.out _ _ (CD.out _ ((hbwzq19.trans (hbwz19q20.mono (by omega))).trans (hbwz1920q18.mono (by omega)))) (fun hHeld => ?_)
            clear hK K
            try simp only [Act.put]
            try simp only [List.setIfInBounds_toArray, List.set_cons_zero, List.set_cons_succ]
            have hL := LEAF (wr.drew.heap.size + 1 + 1) (wr.drew.heap.size) (wr.drew.heap.size + 1) _ ((hbwzq19.trans (hbwz19q20.mono (by omega))).trans (hbwz1920q18.mono (by omega))) (by omega) (by omega) (by omega) (by omega) (by omega) (by omega) pzwz1920q18 ((pzwzq19.below (hbwz19q20.mono (by omega))).below (hbwz1920q18.mono (by omega))) (pzwz19q20.below (hbwz1920q18.mono (by omega)))
            rw [hWW, hAA] at hL
            try simp only [Act.put] at hL
            try simp only [List.setIfInBounds_toArray, List.set_cons_zero, List.set_cons_succ] at hL
            exact hL
      · obtain ⟨wzq20, hwwzq20, pzwzq20, hbwzq20, hswzq20⟩ := new_box wr.drew _ rfl [.int .i64 0] 3
        go_simp
        try rw [hwwzq20]
        refine hK.out _ _ (CD.out _ hbwzq20) (fun hHeld => ?_)
        clear hK K
        try simp only [Act.put]
        try simp only [List.setIfInBounds_toArray, List.set_cons_zero, List.set_cons_succ]
        refine reg_all2 18 19 _ _ (by kernel_rfl) rfl rfl (fun K hK => ?_) (fun K hK => ?_) 
        · obtain ⟨wz20q18, hwwz20q18, pzwz20q18, hbwz20q18, hswz20q18⟩ := new_box wzq20 _ hswzq20 [.int .i64 0] 3
          go_simp
          try rw [hwwz20q18]
          refine hK.out _ _ (CD.out _ (hbwzq20.trans (hbwz20q18.mono (by omega)))) (fun hHeld => ?_)
          clear hK K
          try simp only [Act.put]
          try simp only [List.setIfInBounds_toArray, List.set_cons_zero, List.set_cons_succ]
          refine reg_all1 19 _ (by kernel_rfl) rfl (fun K hK => ?_) 
          · obtain ⟨wz2018q19, hwwz2018q19, pzwz2018q19, hbwz2018q19, hswz2018q19⟩ := new_box wz20q18 _ hswz20q18 [.int .i64 0] 3
            go_simp
            try rw [hwwz2018q19]
            refine hK.out _ _ (CD.out _ ((hbwzq20.trans (hbwz20q18.mono (by omega))).trans (hbwz2018q19.mono (by omega)))) (fun hHeld => ?_)
            clear hK K
            try simp only [Act.put]
            try simp only [List.setIfInBounds_toArray, List.set_cons_zero, List.set_cons_succ]
            have hL := LEAF (wr.drew.heap.size + 1) (wr.drew.heap.size + 1 + 1) (wr.drew.heap.size) _ ((hbwzq20.trans (hbwz20q18.mono (by omega))).trans (hbwz2018q19.mono (by omega))) (by omega) (by omega) (by omega) (by omega) (by omega) (by omega) (pzwz20q18.below (hbwz2018q19.mono (by omega))) pzwz2018q19 ((pzwzq20.below (hbwz20q18.mono (by omega))).below (hbwz2018q19.mono (by omega)))
            rw [hWW, hAA] at hL
            try simp only [Act.put] at hL
            try simp only [List.setIfInBounds_toArray, List.set_cons_zero, List.set_cons_succ] at hL
            exact hL
        · obtain ⟨wz20q19, hwwz20q19, pzwz20q19, hbwz20q19, hswz20q19⟩ := new_box wzq20 _ hswzq20 [.int .i64 0] 3
          go_simp
          try rw [hwwz20q19]
          refine hK.out _ _ (CD.out _ (hbwzq20.trans (hbwz20q19.mono (by omega)))) (fun hHeld => ?_)
          clear hK K
          try simp only [Act.put]
          try simp only [List.setIfInBounds_toArray, List.set_cons_zero, List.set_cons_succ]
          refine reg_all1 18 _ (by kernel_rfl) rfl (fun K hK => ?_) 
          · obtain ⟨wz2019q18, hwwz2019q18, pzwz2019q18, hbwz2019q18, hswz2019q18⟩ := new_box wz20q19 _ hswz20q19 [.int .i64 0] 3
            go_simp
            try rw [hwwz2019q18]
            refine hK.out _ _ (CD.out _ ((hbwzq20.trans (hbwz20q19.mono (by omega))).trans (hbwz2019q18.mono (by omega)))) (fun hHeld => ?_)
            clear hK K
            try simp only [Act.put]
            try simp only [List.setIfInBounds_toArray, List.set_cons_zero, List.set_cons_succ]
            have hL := LEAF (wr.drew.heap.size + 1 + 1) (wr.drew.heap.size + 1) (wr.drew.heap.size) _ ((hbwzq20.trans (hbwz20q19.mono (by omega))).trans (hbwz2019q18.mono (by omega))) (by omega) (by omega) (by omega) (by omega) (by omega) (by omega) pzwz2019q18 (pzwz20q19.below (hbwz2019q18.mono (by omega))) ((pzwzq20.below (hbwz20q19.mono (by omega))).below (hbwz2019q18.mono (by omega)))
            rw [hWW, hAA] at hL
            try simp only [Act.put] at hL
            try simp only [List.setIfInBounds_toArray, List.set_cons_zero, List.set_cons_succ] at hL
            exact hL
end Go.Proofs.Ytnabdopnlinklaa
