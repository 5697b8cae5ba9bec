/- GrowBases. Written by tools/grow7.py. -/
import Derived.Test.YtecnnpkpgbbfkaaGreatParth
import Derived.Test.YtecnnpkpgbbfkaaGreatPartp
import Derived.Test.YtecnnpkpgbbfkaaGreatPartt
import Derived.Test.YtecnnpkpgbbfkaaGreatPartu
import Derived.Test.YtecnnpkpgbbfkaaGreatPredG
import Derived.Test.YtecnnpkpgbbfkaaGreatPartk
namespace Go.Proofs.YtecnnpkpgbbfkaaGreat
open Go.RowKit Go.MagM
theorem infoPt12 : (Tryz.prog.info? 33).map (fun i => (i.zero, i.size, i.bytes)) = some (some (.agg #[.int .i64 0, .int .i64 0]), 2, 16) := by kernel_rfl
def tamePt (p : Int × Int) : Int × Int := (tame p.1, tame p.2)
theorem neqPt_run (w : World) (a b x y : Int) : Sem.run Tryz.prog (binOp BinOp.neq 33 (Value.agg #[.int .i64 a, .int .i64 b]) (Value.agg #[.int .i64 x, .int .i64 y])) w = Result.ok (Value.bool (!decide (a = x ∧ b = y))) w := by
 rw [run_neq_struct, show (10000 : Nat) = 9998 + 2 from rfl, run_equalIn_pair w 9998 33 3 .i64 _ _ Tryz.underlying33 (by kernel_rfl) Tryz.underlying3 (fun w => by kernel_rfl) (by decide) (by decide) rfl rfl rfl rfl]
 rfl
set_option maxHeartbeats 4000000 in
theorem flatNil_any (w : World) : Calls Tryz.prog 15 #[.slice none 0 0] w fun e w' => e = .returned (.bool true) ∧ w = w' := by
 go_enter Tryz.func15, Tryz.ntmps15
 go_wp2
 go_loopw [3, 4, 5, 8] (fun _ _ _ iv wr => iv = .int .i64 0 ∧ wr = w) (fun _ _ _ _ _ => 0)
 case atStart => exact ⟨rfl, rfl⟩
 case round =>
  obtain ⟨rfl, rfl⟩ := hrel
  go_wp2
  go_ret
  exact ⟨rfl, rfl⟩
set_option maxRecDepth 100000 in
set_option maxHeartbeats 4000000 in
theorem baseNil_any (w : World) : Calls Tryz.prog 34 #[.slice none 0 0] w fun e w' => e = .returned (.tuple #[.agg #[.int .i64 0, .int .i64 0, .int .i64 0], .bool false]) ∧ Below w.heap.size w w' := by
 obtain ⟨w1, hw1, pr, hb1, hs1⟩ := new_box w _ rfl [.int .i64 0, .int .i64 0, .int .i64 0] 38
 have PR := Lib.hid pr; have HB1 := Lib.hid hb1
 clear pr hb1 hs1
 go_enter Tryz.func34, Tryz.ntmps34
 go_wp2
 go_loopw [4] (fun kv wr => kv = .int .i64 1 ∧ wr = w1) (fun _ _ => 0)
 case atStart => exact ⟨rfl, rfl⟩
 case round =>
  obtain ⟨rfl, rfl⟩ := hrel
  go_wp2_with fail
  refine wp_region_noPanic ?_
  refine wp_region_held_drew (S := fun w' => True) (by kernel_rfl) (trivial) (fun hHeld => ?_)
  refine rU 0 _ _ ?_
  (try simp only [Act.put]);try simp only [sA,sZ,sS]
  refine rU 1 _ _ ?_
  (try simp only [Act.put]);try simp only [sA,sZ,sS]
  refine rU 2 _ _ ?_
  (try simp only [Act.put]);try simp only [sA,sZ,sS]
  refine rU 3 _ _ ?_
  (try simp only [Act.put]);try simp only [sA,sZ,sS]
  refine rU 4 _ _ ?_
  (try simp only [Act.put]);try simp only [sA,sZ,sS]
  refine rS 5 ?_ ?_ ?_ ?_;rotate_left 1
  ·simp only [gA,gS,gZ]; exact rfl
  ·rfl
  (try simp only [Act.put]);try simp only [sA,sZ,sS]
  refine rS 6 ?_ ?_ ?_ ?_;rotate_left 1
  ·simp only [gA,gS,gZ]; exact rfl
  ·rfl
  (try simp only [Act.put]);try simp only [sA,sZ,sS]
  refine rS 7 ?_ ?_ ?_ ?_;rotate_left 1
  ·simp only [gA,gS,gZ]; exact rfl
  ·rfl
  (try simp only [Act.put]);try simp only [sA,sZ,sS]
  refine rS 8 ?_ ?_ ?_ ?_;rotate_left 1
  ·simp only [gA,gS,gZ]; exact rfl
  ·rfl
  (try simp only [Act.put]);try simp only [sA,sZ,sS]
  refine rS 9 ?_ ?_ ?_ ?_;rotate_left 1
  ·simp only [gA,gS,gZ]; exact rfl
  ·rfl
  (try simp only [Act.put]);try simp only [sA,sZ,sS]
  refine rS 10 ?_ ?_ ?_ ?_;rotate_left 1
  ·simp only [gA,gS,gZ]; exact rfl
  ·rfl
  (try simp only [Act.put]);try simp only [sA,sZ,sS]
  refine rS 11 ?_ ?_ ?_ ?_;rotate_left 1
  ·simp only [gA,gS,gZ]; exact rfl
  ·rfl
  (try simp only [Act.put]);try simp only [sA,sZ,sS]
  refine rS 12 ?_ ?_ ?_ ?_;rotate_left 1
  ·simp only [gA,gS,gZ]; exact rfl
  ·rfl
  (try simp only [Act.put]);try simp only [sA,sZ,sS]
  refine rU 13 _ _ ?_
  (try simp only [Act.put]);try simp only [sA,sZ,sS]
  refine wpAnyH_done (by kernel_rfl) ?_ _
  refine NoPanic.normal ?_
  go_wp2
  have HD := Lib.hid ((Below.refl wr.heap.size wr).drew')
  obtain ⟨wo, rfl⟩ : ∃ x, x = wr := ⟨_, rfl⟩
  go_loopw [5] (fun kv wr => kv = .int .i64 2 ∧ Below wo.heap.size wo wr) (fun _ _ => 0)
  case atStart => exact ⟨rfl, HD.out⟩
  case round =>
   obtain ⟨rfl, hbw⟩ := hrel
   have HBW := Lib.hid (HB1.out.trans (hbw.mono HB1.out.size))
   have pz := PR.out.below hbw
   clear hbw
   have o0 := pz.c 0 _ rfl; have o1 := pz.c 1 _ rfl; have o2 := pz.c 2 _ rfl
   have g0 := pz.f 0 _ rfl; have g1 := pz.f 1 _ rfl; have g2 := pz.f 2 _ rfl
   obtain ⟨wy, hwy⟩ : ∃ wy, setAll wr w.heap.size 0 [.int .i64 0, .int .i64 0, .int .i64 0] = wy := ⟨_, rfl⟩
   have pz2 : Box wy w.heap.size [.int .i64 0, .int .i64 0, .int .i64 0] := by rw [← hwy]; exact pz.setAll [.int .i64 0, .int .i64 0, .int .i64 0] rfl
   have hbz : Below w.heap.size w wy := by rw [← hwy]; exact below_setAll HBW.out (Nat.le_refl _) _
   have Z0 := Lib.hid (pz2.c 0 _ rfl); have Z1 := Lib.hid (pz2.c 1 _ rfl); have Z2 := Lib.hid (pz2.c 2 _ rfl); have HWZ := Lib.hid hwy; have HBZ := Lib.hid hbz
   clear pz pz2 hbz hwy
   go_wp2
   have z0_ := Z0.out; have z1_ := Z1.out; have z2_ := Z2.out
   have hwy := HWZ.out
   simp only [setAll] at hwy
   rw [hwy]
   (try simp only [Exit.inBlock, Exit.then])
   refine bodyPost_ret (v := .tuple #[.agg #[.int .i64 0, .int .i64 0, .int .i64 0], .bool false]) ?_ rfl ?_
   ·simp [results, Tryz.results34, go_sem, z0_, z1_, z2_]
   ·exact ⟨rfl, HBZ.out⟩
set_option maxRecDepth 100000 in
set_option maxHeartbeats 16000000 in
theorem GrowBases_walk (ao : Option Addr) (n lc : Nat) (l : List (Int × Int)) (w : World) (hl : l.length = n) (hraw : PtsAt w ao l) :
  Calls Tryz.prog 7 #[.slice ao n lc] w fun e w' => e = .returned (.bool true) ∧ Below w.heap.size w w' := by
 obtain ⟨i0, hi, hz0, hz1, hz2⟩ := info_parts infoPt12
 have HI := Lib.hid hi; have HZ0 := Lib.hid hz0; have HZ1 := Lib.hid hz1; have HZ2 := Lib.hid hz2
 clear hi hz0 hz1 hz2
 have HF := Lib.hid (fit12_any w); have HL := Lib.hid hl; have HRAW := Lib.hid hraw
 clear hl hraw
 go_enter Tryz.func7, Tryz.ntmps7
 go_wp2_with fail
 refine HF.out.mono ?_
 rintro e w1 ⟨rfl, hb1⟩
 have RAW1 := Lib.hid (HRAW.out.below hb1); have HB1 := Lib.hid hb1
 clear hb1
 by_cases hn : 12 < n
 ·have e1 : (12 : Int) < (n : Int) := by omega
  clear hn
  go_wp2
  go_ret
  exact ⟨rfl, HB1.out⟩
 have e1 : ¬ (12 : Int) < (n : Int) := by omega
 have hn12 : n ≤ 12 := by omega
 clear hn
 obtain ⟨B, hB⟩ : ∃ B, w1.heap.size = B := ⟨_, rfl⟩
 have HBB := Lib.hid hB
 obtain ⟨Q, hQ⟩ : ∃ Q : List (Int × Int), l.map tamePt = Q := ⟨_, rfl⟩
 have HQ := Lib.hid hQ
 have HQL := Lib.hid (show Q.length = n by rw [← hQ, List.length_map]; exact HL.out)
 have HQP : Hid (InPs Q) := Lib.hid (by
  intro p hp
  rw [← hQ, List.mem_map] at hp
  obtain ⟨q, -, rfl⟩ := hp
  exact ⟨tame_in _, tame_in _⟩)
 clear hQ hB
 go_wp2
 go_loopw [3, 5, 17] (fun pv _ iv wr => ∃ (i : Nat) (vv : Value), i ≤ n ∧ iv = .int .i64 (i : Int) ∧ pv = vv ∧ RowN wr B 33 2 vv i (ptsCells (Q.take i)) ∧ Below w1.heap.size w1 wr ∧ (i = 0 → vv = .slice none 0 0)) (fun _ _ iv _ => n - (intOf iv).toNat)
 case atStart => exact ⟨0, _, Nat.zero_le _, rfl, rfl, RowN.nil _ _ _ _, Below.refl _ _, fun _ => rfl⟩
 case round =>
  obtain ⟨i, vv, hi, rfl, hpv, hrow, hbw, hnil⟩ := hrel
  rw [hpv]
  clear hpv
  by_cases hlt : i < n
  ·have hyd : decide ((i : Int) < (n : Int)) = true := decide_eq_true (by omega)
   obtain ⟨⟨xi, yi⟩, hxy⟩ : ∃ q, l[i]? = some q := ⟨_, List.getElem?_eq_getElem (by have := HL.out; omega)⟩
   obtain ⟨tx, htx⟩ : ∃ q, tame xi = q := ⟨_, rfl⟩
   obtain ⟨ty, hty⟩ : ∃ q, tame yi = q := ⟨_, rfl⟩
   have hqi : Q[i]? = some (tx, ty) := by rw [← HQ.out, List.getElem?_map, hxy]; simp [tamePt, htx, hty]
   obtain ⟨lb, lo, hao, r0, r1⟩ := RAW1.out.below hbw i xi yi hxy
   subst hao
   obtain ⟨w6, hw6, py6, hb6, hs6⟩ := new_box wr _ rfl [.int .i64 xi, .int .i64 yi] 33
   have q0 := py6.c 0 _ rfl; have q1 := py6.c 1 _ rfl
   have HTA := Lib.hid (Tame_any xi yi w6)
   rw [htx, hty] at HTA
   have row_6 := hrow.below hb6
   have hB_6 := hbw.trans (hb6.mono hbw.size)
   have j1 : (0 : Int) ≤ (i : Int) := by omega
   have j2 : (i : Int) < (n : Int) := by omega
   have ROW6 := Lib.hid row_6; have HB6 := Lib.hid hB_6; have HQI := Lib.hid hqi
   clear hrow hbw hnil hxy htx hty hqi py6 hb6 hs6 row_6 hB_6
   go_wp2_with fail
   refine HTA.out.mono ?_
   rintro e w8 ⟨rfl, hb8⟩
   obtain ⟨w9, hw9, pq, hb9, hs9⟩ := new_box w8 _ rfl [.int .i64 tx, .int .i64 ty] 33
   have row_9 := (ROW6.out.below hb8).below hb9
   have hB_8 := HB6.out.trans (hb8.mono HB6.out.size)
   have hB_9 := hB_8.trans (hb9.mono hB_8.size)
   have hbz := HBB.out
   obtain ⟨v', w10, hrun, rown, hgrow, hkept⟩ := run_append_row (P := Tryz.prog) w9 B 22 22 33 i0 (.agg #[.int .i64 0, .int .i64 0]) 2 16 (by kernel_rfl) HI.out HZ0.out HZ1.out HZ2.out rfl (noWordI2 _ _) _ i _ row_9 ⟨w8.heap.size, 0, none⟩ 1 1 [.int .i64 tx, .int .i64 ty] (by omega) rfl pq.news (by intro u hu; simp at hu; rcases hu with rfl | rfl <;> rfl) (noWordI2 _ _) (by unfold maxLen; omega) (by omega) (by have := hB_9.size; omega)
   have hob : ∀ k, vv.ownBlock = some k → B ≤ k := fun k hk => (row_9.lt k hk).1
   have hB_10 : Below w1.heap.size w1 w10 := hB_9.grown hgrow (by have := hB_9.size; omega) (fun k hk => by have := hob k hk; omega)
   have htk : ptsCells (Q.take i) ++ [.int .i64 tx, .int .i64 ty] = ptsCells (Q.take (i + 1)) := by
    rw [List.take_add_one, HQI.out, ptsCells_app]; rfl
   rw [htk] at rown
   have FIN := Lib.hid (And.intro rown hB_10)
   clear hb8 pq hb9 hs9 row_9 hB_8 hB_9 hbz rown hgrow hkept hob hB_10 htk
   go_wp2_with (refine wpList_append_row rfl _ _ 22 rfl rfl rfl hrun ?_)
   exact ⟨⟨i + 1, _, by omega, by go_num, rfl, FIN.out.1, FIN.out.2, fun h => by omega⟩, by simp [intOf]; omega⟩
  ·obtain rfl : i = n := by omega
   have htq : Q.take i = Q := by rw [← HQL.out]; exact List.take_length
   rw [htq] at hrow
   obtain ⟨w2, rfl⟩ : ∃ x, x = wr := ⟨_, rfl⟩
   have HB2 := Lib.hid (HB1.out.trans (hbw.mono HB1.out.size))
   clear htq hbw
   rcases Nat.eq_zero_or_pos i with h0 | h0
   ·subst h0
    obtain rfl := hnil rfl
    have HBA := Lib.hid (baseNil_any w2)
    clear hrow hnil
    go_wp2_with fail
    refine HBA.out.mono ?_
    rintro e w3 ⟨rfl, hb3⟩
    obtain ⟨w4, hw4, pb, hb4, hs4⟩ := new_box w3 _ rfl [.int .i64 0, .int .i64 0, .int .i64 0] 38
    have z0 := pb.c 0 _ rfl; have z1 := pb.c 1 _ rfl; have z2 := pb.c 2 _ rfl
    have g0 := pb.f 0 _ rfl; have g1 := pb.f 1 _ rfl; have g2 := pb.f 2 _ rfl
    obtain ⟨w5, hw5⟩ : ∃ w5, setAll w4 w3.heap.size 0 [.int .i64 0, .int .i64 0, .int .i64 0] = w5 := ⟨_, rfl⟩
    have pb5 : Box w5 w3.heap.size [.int .i64 0, .int .i64 0, .int .i64 0] := by rw [← hw5]; exact pb.setAll [.int .i64 0, .int .i64 0, .int .i64 0] rfl
    have hB4 := HB2.out.trans ((hb3.trans (hb4.mono hb3.size)).mono HB2.out.size)
    have HB5 := Lib.hid (show Below w.heap.size w w5 by rw [← hw5]; exact below_setAll hB4 (by have := HB2.out.size; have := hb3.size; omega) _)
    have HFL := Lib.hid (flatNil_any w5)
    have PB5 := Lib.hid pb5; have HW5 := Lib.hid hw5
    have heq : ∀ W : World, Sem.run Tryz.prog (binOp BinOp.eql 38 (Value.agg #[.int .i64 0, .int .i64 0, .int .i64 0]) (Value.agg #[.int .i64 0, .int .i64 0, .int .i64 0])) W = Result.ok (Value.bool true) W := fun W => by rw [eq3_run]; rfl
    clear hb3 pb hb4 hs4 pb5 hw5 hB4
    go_wp2_with fail
    have hw5 := HW5.out
    simp only [setAll] at hw5
    rw [hw5]
    clear z0 z1 z2 g0 g1 g2 hw5 hw4
    refine HFL.out.mono ?_
    rintro e w6 ⟨rfl, rfl⟩
    have y0 := PB5.out.c 0 _ rfl; have y1 := PB5.out.c 1 _ rfl; have y2 := PB5.out.c 2 _ rfl
    go_wp2
    go_ret
    exact ⟨rfl, HB5.out⟩
   obtain ⟨g, c, rfl⟩ : ∃ g c, vv = .slice (some ⟨g, 0, none⟩) i c := by
    rcases hrow.2 with ⟨-, h⟩ | ⟨g, cap, cur, h, -⟩
    ·omega
    ·exact ⟨g, cap, h⟩
   have hpt : PtsIn w2 g Q := fun k x y hk => by
    obtain ⟨g1, g2⟩ := ptsCells_get Q k x y hk
    exact ⟨hrow.cells (g := g) rfl _ _ g1, hrow.cells (g := g) rfl _ _ g2⟩
   have HBA := Lib.hid (Base_any g i c Q w2 HQL.out h0 (by omega) HQP.out hpt)
   have HPT := Lib.hid hpt
   clear hrow hnil hpt
   go_wp2_with fail
   refine HBA.out.mono ?_
   rintro e w3 ⟨ok, s, t, rfl, hba, hb3⟩
   obtain ⟨bb, hbb⟩ : ∃ x, w3.heap.size = x := ⟨_, rfl⟩
   obtain ⟨w4, hw4, pb, hb4, hs4⟩ := new_box w3 _ rfl [.int .i64 0, .int .i64 (s : Int), .int .i64 (t : Int)] 38
   rw [hbb] at pb
   have hb24 := hb3.trans (hb4.mono hb3.size)
   have hpt4 := HPT.out.below hb24
   have z0 := pb.c 0 _ rfl; have z1 := pb.c 1 _ rfl; have z2 := pb.c 2 _ rfl
   have HB4 := Lib.hid (HB2.out.trans (hb24.mono HB2.out.size))
   have HFL := Lib.hid (Flat_any g i c Q w4 HQL.out (by omega) HQP.out hpt4)
   have HPB := Lib.hid pb; have HBS := Lib.hid hba; have HP4 := Lib.hid hpt4
   clear hb3 pb hb4 hs4 hb24 hpt4 hba
   go_wp2_with fail
   clear hbb hw4
   refine HFL.out.mono ?_
   rintro e w5 ⟨fl, rfl, hfl, hb5⟩
   have HB5 := Lib.hid (HB4.out.trans (hb5.mono HB4.out.size))
   have hpb5 := HPB.out.below hb5
   have HP5 := Lib.hid (HP4.out.below hb5)
   have HPB5 := Lib.hid hpb5
   clear z0 z1 z2 hb5
   have y0 := hpb5.c 0 _ rfl; have y1 := hpb5.c 1 _ rfl; have y2 := hpb5.c 2 _ rfl
   clear hpb5
   cases ok with
   | false =>
    obtain rfl : fl = true := hfl.2 (base_flat HBS.out)
    obtain ⟨rfl, rfl⟩ : s = 0 ∧ t = 0 := by
     rcases HBS.out with ⟨h, -⟩ | ⟨-, h1, h2, -⟩
     ·cases h
     ·exact ⟨h1, h2⟩
    have heq : ∀ W : World, Sem.run Tryz.prog (binOp BinOp.eql 38 (Value.agg #[.int .i64 0, .int .i64 0, .int .i64 0]) (Value.agg #[.int .i64 0, .int .i64 0, .int .i64 0])) W = Result.ok (Value.bool true) W := fun W => by rw [eq3_run]; rfl
    have x1 : w5.cell? ⟨bb, 1, none⟩ = some (.int .i64 0) := y1
    have x2 : w5.cell? ⟨bb, 2, none⟩ = some (.int .i64 0) := y2
    clear hfl y1 y2
    go_wp2
    go_ret
    exact ⟨rfl, HB5.out⟩
   | true =>
    obtain rfl : fl = false := by
     cases fl with
     | false => rfl
     | true => exact absurd (hfl.1 rfl) (base_not_flat HBS.out)
    have hall := base_all HBS.out
    obtain ⟨hs1, hst, htn, hsm, hsz, hcz⟩ : 1 ≤ s ∧ s < t ∧ t < i ∧ (∀ k, k < s → ptA Q k = ptA Q 0) ∧ ptA Q s ≠ ptA Q 0 ∧ crsP (ptA Q 0) (ptA Q s) (ptA Q t) ≠ 0 := by
     rcases HBS.out with ⟨-, h1, h2, h3, h4, h5, -, h6⟩ | ⟨h, -⟩
     ·exact ⟨h1, h2, by have := HQL.out; omega, h4, h5, h6⟩
     ·cases h
    obtain ⟨⟨z0, z1⟩, hZ⟩ : ∃ p, Q[0]? = some p := ⟨_, List.getElem?_eq_getElem (by rw [HQL.out]; omega)⟩
    obtain ⟨⟨s0, s1⟩, hS⟩ : ∃ p, Q[s]? = some p := ⟨_, List.getElem?_eq_getElem (by rw [HQL.out]; omega)⟩
    obtain ⟨⟨t0, t1⟩, hT⟩ : ∃ p, Q[t]? = some p := ⟨_, List.getElem?_eq_getElem (by rw [HQL.out]; exact htn)⟩
    have iz := HQP.out _ (List.mem_of_getElem? hZ); have is := HQP.out _ (List.mem_of_getElem? hS); have it := HQP.out _ (List.mem_of_getElem? hT)
    rw [ptA_get hZ] at hall hsm hsz hcz
    rw [ptA_get hS] at hall hsz hcz
    rw [ptA_get hT] at hcz
    have HIZ := Lib.hid (And.intro iz (And.intro is it)); have HZ := Lib.hid hZ; have HS := Lib.hid hS; have HT := Lib.hid hT; have HALL := Lib.hid hall; have HSM := Lib.hid hsm; have HSZ := Lib.hid hsz; have HCZ := Lib.hid hcz
    have HST := Lib.hid (And.intro hs1 (And.intro hst htn))
    clear hfl iz is it hZ hS hT hall hsm hsz hcz
    go_wp2
    clear y0 y1 y2
    go_loopw [8, 43] (fun _ iv wr => ∃ k : Nat, k ≤ s ∧ iv = .int .i64 (k : Int) ∧ Below w5.heap.size w5 wr) (fun _ iv _ => s - (intOf iv).toNat)
    case atStart => exact ⟨0, Nat.zero_le _, rfl, Below.refl _ _⟩
    case round =>
     obtain ⟨k, hk, rfl, hbw⟩ := hrel
     by_cases hlt : k < s
     ·have hye : decide ((k : Int) < (s : Int)) = true := decide_eq_true (by omega)
      obtain ⟨⟨a0, a1⟩, hA⟩ : ∃ p, Q[k]? = some p := ⟨_, List.getElem?_eq_getElem (by rw [HQL.out]; omega)⟩
      have hsame := HSM.out k hlt
      rw [ptA_get hA] at hsame
      have e1 : a0 = z0 := congrArg Prod.fst hsame
      have e2 : a1 = z1 := congrArg Prod.snd hsame
      have heq : ∀ W : World, Sem.run Tryz.prog (binOp BinOp.neq 33 (Value.agg #[.int .i64 a0, .int .i64 a1]) (Value.agg #[.int .i64 z0, .int .i64 z1])) W = Result.ok (Value.bool false) W := fun W => by rw [neqPt_run, decide_eq_true ⟨e1, e2⟩]; rfl
      have CA := Lib.hid (show ∀ w', Below w5.heap.size w5 w' → w'.cell? ⟨g, k * 2, none⟩ = some (.int .i64 a0) ∧ w'.cell? ⟨g, k * 2 + 1, none⟩ = some (.int .i64 a1) ∧ w'.cell? ⟨g, 0, none⟩ = some (.int .i64 z0) ∧ w'.cell? ⟨g, 1, none⟩ = some (.int .i64 z1) from fun w' hb => by
       have h := HP5.out.below hb
       have h1 := h k a0 a1 hA; have h2 := h 0 z0 z1 HZ.out
       rw [Nat.zero_mul] at h2
       exact ⟨h1.1, h1.2, h2.1, h2.2⟩)
      have j1 : (0 : Int) ≤ (k : Int) := by omega
      have j2 : (k : Int) < (i : Int) := by omega
      have j3 : (0 : Int) < (i : Int) := by omega
      have hB_0 := hbw.drew'
      clear hsame e1 e2 hA hbw
      go_wp2_with fail
      refine wp_region_noPanic ?_
      refine wp_region_held_drew (S := fun w' => w'.cell? ⟨g, k * 2, none⟩ = some (.int .i64 a0) ∧ w'.cell? ⟨g, k * 2 + 1, none⟩ = some (.int .i64 a1) ∧ w'.cell? ⟨g, 0, none⟩ = some (.int .i64 z0) ∧ w'.cell? ⟨g, 1, none⟩ = some (.int .i64 z1)) (by kernel_rfl) (CA.out _ hB_0) (fun hHeld => ?_)
      refine rU 0 _ _ ?_
      (try simp only [Act.put]);try simp only [sA,sZ,sS]
      refine rU 1 _ _ ?_
      (try simp only [Act.put]);try simp only [sA,sZ,sS]
      refine rU 2 _ _ ?_
      (try simp only [Act.put]);try simp only [sA,sZ,sS]
      refine rU 3 _ _ ?_
      (try simp only [Act.put]);try simp only [sA,sZ,sS]
      refine rU 4 _ _ ?_
      (try simp only [Act.put]);try simp only [sA,sZ,sS]
      refine rU 5 _ _ ?_
      (try simp only [Act.put]);try simp only [sA,sZ,sS]
      refine rU 6 _ _ ?_
      (try simp only [Act.put]);try simp only [sA,sZ,sS]
      refine rU 7 _ _ ?_
      (try simp only [Act.put]);try simp only [sA,sZ,sS]
      refine wpAnyH_done (by kernel_rfl) ?_ _
      refine NoPanic.normal ?_
      have HB0 := Lib.hid hB_0
      clear hB_0 heq
      go_wp2
      exact ⟨⟨k + 1, by omega, by go_num, HB0.out⟩, by simp [intOf]; omega⟩
     ·obtain rfl : k = s := by omega
      have hpb6 := HPB5.out.below hbw
      have y2 := hpb6.c 2 _ rfl
      have HB6 := Lib.hid hbw
      clear hbw hpb6
      go_wp2
      clear y2
      go_loopw [9, 57] (fun _ iv wr => ∃ m : Nat, m ≤ t ∧ iv = .int .i64 (m : Int) ∧ Below w5.heap.size w5 wr) (fun _ iv _ => t - (intOf iv).toNat)
      case atStart => exact ⟨0, Nat.zero_le _, rfl, HB6.out⟩
      case round =>
       obtain ⟨m, hm, rfl, hbw⟩ := hrel
       by_cases hltm : m < t
       ·have hye : decide ((m : Int) < (t : Int)) = true := decide_eq_true (by omega)
        obtain ⟨⟨a0, a1⟩, hA⟩ : ∃ p, Q[m]? = some p := ⟨_, List.getElem?_eq_getElem (by rw [HQL.out]; omega)⟩
        have ia := HQP.out _ (List.mem_of_getElem? hA)
        have hc0 := HALL.out m hltm
        rw [ptA_get hA] at hc0
        have HOR := Lib.hid (fun W => Orient_is z0 z1 s0 s1 a0 a1 HIZ.out.1.1 HIZ.out.1.2 HIZ.out.2.1.1 HIZ.out.2.1.2 ia.1 ia.2 (s := 0) (by rw [show crs z0 z1 s0 s1 a0 a1 = 0 from hc0]; rfl) W)
        have CA := Lib.hid (show ∀ w', Below w5.heap.size w5 w' → w'.cell? ⟨g, 0, none⟩ = some (.int .i64 z0) ∧ w'.cell? ⟨g, 1, none⟩ = some (.int .i64 z1) ∧ w'.cell? ⟨bb, 1, none⟩ = some (.int .i64 (k : Int)) ∧ w'.cell? ⟨g, k * 2, none⟩ = some (.int .i64 s0) ∧ w'.cell? ⟨g, k * 2 + 1, none⟩ = some (.int .i64 s1) ∧ w'.cell? ⟨g, m * 2, none⟩ = some (.int .i64 a0) ∧ w'.cell? ⟨g, m * 2 + 1, none⟩ = some (.int .i64 a1) from fun w' hb => by
         have h := HP5.out.below hb
         have h1 := h m a0 a1 hA; have h2 := h 0 z0 z1 HZ.out; have h3 := h k s0 s1 HS.out
         rw [Nat.zero_mul] at h2
         exact ⟨h2.1, h2.2, (HPB5.out.below hb).c 1 _ rfl, h3.1, h3.2, h1.1, h1.2⟩)
        have j1 : (0 : Int) ≤ (m : Int) := by omega
        have j2 : (m : Int) < (i : Int) := by omega
        have j3 : (0 : Int) < (i : Int) := by omega
        have j4 : (0 : Int) ≤ (k : Int) := by omega
        have j5 : (k : Int) < (i : Int) := by omega
        have hB_0 := hbw.drew'
        clear hc0 hA ia hbw
        go_wp2_with fail
        refine wp_region_noPanic ?_
        refine wp_region_held_drew (S := fun w' => w'.cell? ⟨g, 0, none⟩ = some (.int .i64 z0) ∧ w'.cell? ⟨g, 1, none⟩ = some (.int .i64 z1) ∧ w'.cell? ⟨bb, 1, none⟩ = some (.int .i64 (k : Int)) ∧ w'.cell? ⟨g, k * 2, none⟩ = some (.int .i64 s0) ∧ w'.cell? ⟨g, k * 2 + 1, none⟩ = some (.int .i64 s1) ∧ w'.cell? ⟨g, m * 2, none⟩ = some (.int .i64 a0) ∧ w'.cell? ⟨g, m * 2 + 1, none⟩ = some (.int .i64 a1)) (by kernel_rfl) (CA.out _ hB_0) (fun hHeld => ?_)
        refine rU 0 _ _ ?_
        (try simp only [Act.put]);try simp only [sA,sZ,sS]
        refine rU 1 _ _ ?_
        (try simp only [Act.put]);try simp only [sA,sZ,sS]
        refine rU 2 _ _ ?_
        (try simp only [Act.put]);try simp only [sA,sZ,sS]
        refine rU 3 _ _ ?_
        (try simp only [Act.put]);try simp only [sA,sZ,sS]
        refine rU 4 _ _ ?_
        (try simp only [Act.put]);try simp only [sA,sZ,sS]
        refine rU 5 _ _ ?_
        (try simp only [Act.put]);try simp only [sA,sZ,sS]
        refine rU 6 _ _ ?_
        (try simp only [Act.put]);try simp only [sA,sZ,sS]
        refine rU 7 _ _ ?_
        (try simp only [Act.put]);try simp only [sA,sZ,sS]
        refine rU 8 _ _ ?_
        (try simp only [Act.put]);try simp only [sA,sZ,sS]
        refine rU 9 _ _ ?_
        (try simp only [Act.put]);try simp only [sA,sZ,sS]
        refine rU 10 _ _ ?_
        (try simp only [Act.put]);try simp only [sA,sZ,sS]
        refine rU 11 _ _ ?_
        (try simp only [Act.put]);try simp only [sA,sZ,sS]
        refine reg_call 12 ?_ (by kernel_rfl) ?_ (fun K hK => ?_);rotate_left 1
        ·simp only [gA,gS,gZ]; exact rfl
        go_simp
        refine (HOR.out _).mono ?_
        rintro e wz ⟨rfl, hbz⟩
        have hB_1 := hB_0.trans (hbz.mono hB_0.size)
        clear hbz
        go_wp2_with fail
        refine hK.out _ _ (CA.out _ hB_1) (fun hHeld => ?_)
        clear hK K
        (try simp only [Act.put]);try simp only [sA,sZ,sS]
        refine rU 13 _ _ ?_
        (try simp only [Act.put]);try simp only [sA,sZ,sS]
        refine wpAnyH_done (by kernel_rfl) ?_ _
        refine NoPanic.normal ?_
        have HB1 := Lib.hid hB_1
        clear hB_0 hB_1
        go_wp2
        exact ⟨⟨m + 1, by omega, by go_num, HB1.out⟩, by simp [intOf]; omega⟩
       ·obtain rfl : m = t := by omega
        obtain ⟨sg, hsg⟩ : ∃ x, (crs z0 z1 s0 s1 t0 t1).sign = x := ⟨_, rfl⟩
        have hsg0 : sg ≠ 0 := by rw [← hsg]; exact signZ_ne.2 HCZ.out
        have HOR := Lib.hid (fun W => Orient_is z0 z1 s0 s1 t0 t1 HIZ.out.1.1 HIZ.out.1.2 HIZ.out.2.1.1 HIZ.out.2.1.2 HIZ.out.2.2.1 HIZ.out.2.2.2 hsg W)
        have q1 : (sg != 0) = true := by simpa using hsg0
        have q2 : (sg == 0) = false := by simpa using hsg0
        have heq : ∀ W : World, Sem.run Tryz.prog (binOp BinOp.neq 33 (Value.agg #[.int .i64 s0, .int .i64 s1]) (Value.agg #[.int .i64 z0, .int .i64 z1])) W = Result.ok (Value.bool true) W := fun W => by
         rw [neqPt_run, decide_eq_false (fun h => HSZ.out (by rw [h.1, h.2]))]; rfl
        have CA := Lib.hid (show ∀ w', Below w5.heap.size w5 w' → w'.cell? ⟨bb, 0, none⟩ = some (.int .i64 0) ∧ w'.cell? ⟨bb, 1, none⟩ = some (.int .i64 (k : Int)) ∧ w'.cell? ⟨bb, 2, none⟩ = some (.int .i64 (m : Int)) ∧ w'.cell? ⟨g, 0, none⟩ = some (.int .i64 z0) ∧ w'.cell? ⟨g, 1, none⟩ = some (.int .i64 z1) ∧ w'.cell? ⟨g, k * 2, none⟩ = some (.int .i64 s0) ∧ w'.cell? ⟨g, k * 2 + 1, none⟩ = some (.int .i64 s1) ∧ w'.cell? ⟨g, m * 2, none⟩ = some (.int .i64 t0) ∧ w'.cell? ⟨g, m * 2 + 1, none⟩ = some (.int .i64 t1) from fun w' hb => by
         have h := HP5.out.below hb
         have h1 := h m t0 t1 HT.out; have h2 := h 0 z0 z1 HZ.out; have h3 := h k s0 s1 HS.out
         have hp := HPB5.out.below hb
         rw [Nat.zero_mul] at h2
         exact ⟨hp.c 0 _ rfl, hp.c 1 _ rfl, hp.c 2 _ rfl, h2.1, h2.2, h3.1, h3.2, h1.1, h1.2⟩)
        have j1 : (0 : Int) ≤ (m : Int) := by omega
        have j2 : (m : Int) < (i : Int) := by omega
        have j3 : (0 : Int) < (i : Int) := by omega
        have j4 : (0 : Int) ≤ (k : Int) := by omega
        have j5 : (k : Int) < (i : Int) := by omega
        have hB_0 := hbw.drew'
        clear hsg hsg0 hbw
        go_wp2_with fail
        refine wp_region_noPanic ?_
        refine wp_region_held_drew (S := fun w' => w'.cell? ⟨bb, 0, none⟩ = some (.int .i64 0) ∧ w'.cell? ⟨bb, 1, none⟩ = some (.int .i64 (k : Int)) ∧ w'.cell? ⟨bb, 2, none⟩ = some (.int .i64 (m : Int)) ∧ w'.cell? ⟨g, 0, none⟩ = some (.int .i64 z0) ∧ w'.cell? ⟨g, 1, none⟩ = some (.int .i64 z1) ∧ w'.cell? ⟨g, k * 2, none⟩ = some (.int .i64 s0) ∧ w'.cell? ⟨g, k * 2 + 1, none⟩ = some (.int .i64 s1) ∧ w'.cell? ⟨g, m * 2, none⟩ = some (.int .i64 t0) ∧ w'.cell? ⟨g, m * 2 + 1, none⟩ = some (.int .i64 t1)) (by kernel_rfl) (CA.out _ hB_0) (fun hHeld => ?_)
        refine rU 0 _ _ ?_
        (try simp only [Act.put]);try simp only [sA,sZ,sS]
        refine rU 1 _ _ ?_
        (try simp only [Act.put]);try simp only [sA,sZ,sS]
        refine rU 2 _ _ ?_
        (try simp only [Act.put]);try simp only [sA,sZ,sS]
        refine rU 3 _ _ ?_
        (try simp only [Act.put]);try simp only [sA,sZ,sS]
        refine rU 4 _ _ ?_
        (try simp only [Act.put]);try simp only [sA,sZ,sS]
        refine rU 5 _ _ ?_
        (try simp only [Act.put]);try simp only [sA,sZ,sS]
        refine rU 6 _ _ ?_
        (try simp only [Act.put]);try simp only [sA,sZ,sS]
        refine rU 7 _ _ ?_
        (try simp only [Act.put]);try simp only [sA,sZ,sS]
        refine rU 8 _ _ ?_
        (try simp only [Act.put]);try simp only [sA,sZ,sS]
        refine rU 9 _ _ ?_
        (try simp only [Act.put]);try simp only [sA,sZ,sS]
        refine rU 10 _ _ ?_
        (try simp only [Act.put]);try simp only [sA,sZ,sS]
        refine rU 11 _ _ ?_
        (try simp only [Act.put]);try simp only [sA,sZ,sS]
        refine rU 12 _ _ ?_
        (try simp only [Act.put]);try simp only [sA,sZ,sS]
        refine rU 13 _ _ ?_
        (try simp only [Act.put]);try simp only [sA,sZ,sS]
        refine rU 14 _ _ ?_
        (try simp only [Act.put]);try simp only [sA,sZ,sS]
        refine rU 15 _ _ ?_
        (try simp only [Act.put]);try simp only [sA,sZ,sS]
        refine rU 16 _ _ ?_
        (try simp only [Act.put]);try simp only [sA,sZ,sS]
        refine rU 17 _ _ ?_
        (try simp only [Act.put]);try simp only [sA,sZ,sS]
        refine rU 18 _ _ ?_
        (try simp only [Act.put]);try simp only [sA,sZ,sS]
        refine rU 19 _ _ ?_
        (try simp only [Act.put]);try simp only [sA,sZ,sS]
        refine rU 20 _ _ ?_
        (try simp only [Act.put]);try simp only [sA,sZ,sS]
        refine rU 21 _ _ ?_
        (try simp only [Act.put]);try simp only [sA,sZ,sS]
        refine rU 22 _ _ ?_
        (try simp only [Act.put]);try simp only [sA,sZ,sS]
        refine rU 23 _ _ ?_
        (try simp only [Act.put]);try simp only [sA,sZ,sS]
        refine rU 24 _ _ ?_
        (try simp only [Act.put]);try simp only [sA,sZ,sS]
        refine rU 25 _ _ ?_
        (try simp only [Act.put]);try simp only [sA,sZ,sS]
        refine rU 26 _ _ ?_
        (try simp only [Act.put]);try simp only [sA,sZ,sS]
        refine rU 27 _ _ ?_
        (try simp only [Act.put]);try simp only [sA,sZ,sS]
        refine reg_call 28 ?_ (by kernel_rfl) ?_ (fun K hK => ?_);rotate_left 1
        ·simp only [gA,gS,gZ]; exact rfl
        go_simp
        refine (HOR.out _).mono ?_
        rintro e wz ⟨rfl, hbz⟩
        have hB_1 := hB_0.trans (hbz.mono hB_0.size)
        clear hbz
        go_wp2_with fail
        refine hK.out _ _ (CA.out _ hB_1) (fun hHeld => ?_)
        clear hK K
        (try simp only [Act.put]);try simp only [sA,sZ,sS]
        refine rU 29 _ _ ?_
        (try simp only [Act.put]);try simp only [sA,sZ,sS]
        refine rU 30 _ _ ?_
        (try simp only [Act.put]);try simp only [sA,sZ,sS]
        refine rU 31 _ _ ?_
        (try simp only [Act.put]);try simp only [sA,sZ,sS]
        refine wpAnyH_done (by kernel_rfl) ?_ _
        refine NoPanic.normal ?_
        have FIN := Lib.hid (HB5.out.trans (hB_1.mono HB5.out.size))
        clear hB_0 hB_1
        go_wp2
        go_ret
        exact ⟨rfl, FIN.out⟩
end Go.Proofs.YtecnnpkpgbbfkaaGreat
