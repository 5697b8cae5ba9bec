/- mesh's edges: the walk. Written by tools/mesh21.py. -/
import Derived.Test.YtecnnpkpgbbfkaaPartf
import Derived.Test.YtecnnpkpgbbfkaaPartp
import Derived.RangeFuncNested
import Derived.RangeFuncBound
import Derived.RangeFuncCalls
import Derived.RangeFuncLeaves
import Derived.Test.YtecnnpkpgbbfkaaPartj
import Derived.Test.YtecnnpkpgbbfkaaPartn
namespace Go.Proofs.Ytecnnpkpgbbfkaa
open Go.RowKit Go.MagM Go.Shelf
attribute [local go_sem] Oper.semAt_some
theorem infoE : (Try.prog.info? 37).map (fun i => (i.zero, i.size, i.bytes)) = some (some (.agg #[.int .i64 0, .int .i64 0, .bool false, .bool false]), 4, 24) := by kernel_rfl
set_option maxRecDepth 100000 in
set_option maxHeartbeats 16000000 in
theorem edges_any {mb pb pc : Nat} {ta : Option Addr} {tc : Nat} {P : List (Int × Int)} {S : List TriM} (w : World) (h : MeshR w mb pb pc ta tc P S) (hin : MeshIn (fun b => b < w.heap.size) mb pb ta) (hne : rawE S (realsK S S.length) ≠ []) (hsh : S.length ≤ 200000) :
  Calls Try.prog 27 #[.pointer (some ⟨mb, 0, none⟩)] w fun e w' => ∃ g c E, e = .returned (.slice (some ⟨g, 0, none⟩) E.length c) ∧ E.length ≤ c ∧ EdgesAre S E ∧ Box w' g (edgeCells E) ∧ w.heap.size ≤ g ∧ g < w'.heap.size ∧ Below w.heap.size w w' := by
 obtain ⟨i0, hi, hz0, hz1, hz2⟩ := info_parts infoE
 have HI := Lib.hid hi; have HZ0 := Lib.hid hz0; have HZ1 := Lib.hid hz1; have HZ2 := Lib.hid hz2
 clear hi hz0 hz1 hz2
 obtain ⟨mbx, hmbx⟩ : ∃ x, w.heap.size = x := ⟨_, rfl⟩
 obtain ⟨w1, hw1, pm, hb1, hs1⟩ := new_box w _ rfl [.pointer (some ⟨mb, 0, none⟩)] 25
 obtain ⟨ob, hob⟩ : ∃ x, w1.heap.size = x := ⟨_, rfl⟩
 obtain ⟨w2, hw2, po, hb2, hs2⟩ := new_box w1 _ rfl [.slice none 0 0] 32
 have bm1 : Boxed w1 mbx 25 (.pointer (some ⟨mb, 0, none⟩)) := by rw [← hw1, ← hmbx]; exact Boxed.new w _ _
 have bo2 : Boxed w2 ob 32 (.slice none 0 0) := by rw [← hw2, ← hob]; exact Boxed.new w1 _ _
 have hB2 : Below w.heap.size w w2 := hb1.trans (hb2.mono hb1.size)
 have bm2 : Boxed w2 mbx 25 (.pointer (some ⟨mb, 0, none⟩)) := (hb2.block mbx (by omega)).trans bm1
 have hm2 := h.below hB2
 have z0 := bm2.cell
 have HN := Lib.hid (And.intro (show w.heap.size ≤ mbx ∧ mbx ≤ w.heap.size by omega) (And.intro (show mbx < ob by omega) (show ob < w2.heap.size by omega)))
 have HM2 := Lib.hid hm2; have HIN := Lib.hid hin; have BM2 := Lib.hid bm2; have BO2 := Lib.hid bo2; have HB2 := Lib.hid hB2; have HNE := Lib.hid hne; have HSH := Lib.hid hsh
 clear h hin hne hsh pm po hb1 hb2 bm1 bo2 bm2 hB2 hm2 hs1 hs2
 refine (callsIn_wide (n := 20)).1 (callsIn_of_wp_marks (F := Fence.wide) (n := 20) Try.func27 rfl trivial ?_ rfl)
 simp only [Try.ntmps27, List.size_toArray, List.length_cons, List.length_nil, Nat.reduceAdd, Nat.reduceSub, Array.replicate_succ, Array.replicate_zero, List.push_toArray, List.append_toArray, List.nil_append, List.cons_append]
 rw [wpIn_wide]
 have HAL := Lib.hid (All_any (some ⟨mb, 0, none⟩) w2)
 go_wp2_with fail
 clear hmbx hob hw1 hw2 z0
 refine HAL.out.mono ?_
 rintro e W3 ⟨rfl, hw3⟩
 obtain ⟨⟨hn1, hn2⟩, hn3, hn4⟩ := HN.out
 have hsz3 : W3.heap.size = w2.heap.size + 1 := by rw [← hw3]; simp
 have hb23 : Below w2.heap.size w2 W3 := by rw [← hw3]; exact (Below.refl _ _).alloc (Nat.le_refl _) _
 have ba3 : Boxed W3 w2.heap.size 25 (.pointer (some ⟨mb, 0, none⟩)) := by rw [← hw3]; exact Boxed.new w2 _ _
 obtain ⟨ab, hab⟩ : ∃ x, w2.heap.size = x := ⟨_, rfl⟩
 rw [hab] at ba3 ⊢
 have hm3 := HM2.out.below hb23
 have hB3 := HB2.out.trans (hb23.mono HB2.out.size)
 have bm3 : Boxed W3 mbx 25 (.pointer (some ⟨mb, 0, none⟩)) := (hb23.block mbx (by omega)).trans BM2.out
 have bo3 : Boxed W3 ob 32 (.slice none 0 0) := (hb23.block ob (by omega)).trans BO2.out
 have ha3 : ob < ab ∧ ab < W3.heap.size := by omega
 have ha4 : W3.heap.size ≤ ab + 1 := by omega
 have hin3 : MeshIn (EPb W3.heap.size ob) mb pb ta := ⟨⟨by have := HIN.out.m; omega, by have := HIN.out.m; omega⟩, ⟨by have := HIN.out.p; omega, by have := HIN.out.p; omega⟩, fun b hb => ⟨by have := HIN.out.t b hb; omega, by have := HIN.out.t b hb; omega⟩⟩
 have hlt3 : ∀ b, EPb W3.heap.size ob b → b < W3.heap.size := fun _ h => h.1
 have hpa : EPb W3.heap.size ob ab := ⟨ha3.2, by omega⟩
 have hpm : EPb W3.heap.size ob mbx := ⟨by omega, by omega⟩
 have hwo : w.heap.size ≤ ob := by omega
 have hoW : ob < W3.heap.size := by omega
 have HSH2 := Lib.hid (show S.length ≤ 200000 from HSH.out)
 clear hw3 hsz3 hab hb23
 go_wp2
 rw [← wpIn_wide (n := 20)]
 refine range_startE (fun a0 ha0 => ?_)
 refine wpIn_rangeFunc_ownH rfl (by omega) (gf := 25) (lb := #[.pointer (some ⟨ab, 0, none⟩)]) (by rw [ha0]; rfl) trivial (enters_of Try.func25 (by kernel_rfl) rfl)
  (all_stops 19 (by omega) ab (EPb W3.heap.size ob) W3 hlt3 hm3 hin3 ba3.cell hpa) (fun h k => KeepB.trans h k) ?kb (Below.refl _ _) (fun _ => rfl)
  (fun (pre : List (RA S)) W => (∃ v, Boxed W ob 32 v ∧ W.ownsRow W3.heap.size 37 4 v (rawE S (pre.map (·.1))).length (edgeCells (rawE S (pre.map (·.1)))) ∧ True) ∧ KeepB (EPb W3.heap.size ob) W3 W ∧ Below w.heap.size w W)
  (fun _ _ _ => False)
  (OwnFrom.and (Own.from (holdsRow_own _ _ _ _ _ _ _ (fun _ _ => True)) _) (OwnFrom.and (keepB_own hlt3) (ownFrom_below (Nat.le_refl _) (by omega))))
  (fun _ _ _ _ _ h _ _ => h)
  ⟨⟨_, bo3, World.ownsRow_nil _ _ _ _, trivial⟩, KeepB.refl _ _, hB3⟩
  (fun x a' W => ∃ yb, a' = { tmps := ((#[12, 13].zip (encA x)).foldl (fun t (p, v) => t.setIfInBounds p v) a0.tmps).setIfInBounds 5 (.pointer (some ⟨yb, 0, none⟩)), defers := [] } ∧ W3.heap.size ≤ yb ∧ Box W yb x.1.2.cells ∧ ∃ v, Boxed W ob 32 v ∧ v.ownBlock ≠ some yb)
  ?own ?assign ?body ?done ?stop
 case kb =>
  intro W l o o' hl _ _ _ b hb
  exact World.putObj_heap_other (fun e => by have := hlt3 b hb; omega)
 case own =>
  intro x a' s A B row hs hg hr
  obtain ⟨yb, g1, g2, g3, v0, g4, g5⟩ := hs
  exact ⟨yb, g1, g2, box_ownE _ yb (fun _ : Unit => x.1.2.cells) () A B row g3 hg hr, v0, (Own.from (boxed_own ob 32 (fun _ : Unit => v0)) W3.heap.size) () A B row g4 hg hr, g5⟩
 case assign =>
  intro l pre x W K hI hK
  rw [ha0] at hK ⊢
  obtain ⟨⟨y, U⟩, hy1, hy2⟩ := x
  obtain ⟨u0, u1, u2, k0, k1, k2, g0, g1, g2⟩ := U
  dsimp only [encA, triV] at hK ⊢
  obtain ⟨W1, hW1, py, hbW, hsW⟩ := new_box W _ rfl [.int .i64 u0, .int .i64 u1, .int .i64 u2, .int .i64 k0, .int .i64 k1, .int .i64 k2, .bool g0, .bool g1, .bool g2] 49
  gi_wp2
  obtain ⟨⟨v, hv, hrow, -⟩, hkb, hbl⟩ := hI
  have hW9 : W3.heap.size ≤ W.heap.size := by
   have hx := (hkb ab hpa).trans ba3
   have := (Array.getElem?_eq_some_iff.1 hx).1
   have := hbl.size
   have h3 := hrow.lt
   omega
  refine hK _ _ ((keepsOthersE hbW).from _) (KeepB.of_below hbW (fun b hb => by have := hlt3 b hb; omega)) ?_ ⟨W.heap.size, by kernel_rfl, hW9, py, v, (hbW.block ob hv.lt).trans hv, fun e => by have := (hrow.lt _ e).2; omega⟩
  exact ⟨⟨v, (hbW.block ob hv.lt).trans hv, owns_blow hrow hbW, trivial⟩, hkb.trans (KeepB.of_below hbW (fun b hb => by have := hlt3 b hb; omega)), hbl.trans (hbW.mono hbl.size)⟩
 case body =>
  rintro l pre x a' W hWl - ⟨⟨v0, hv0, hrow0, -⟩, hKB, hBW⟩ ⟨yb, rfl, hyb, py, v1, hv1, hny⟩ hlen
  obtain rfl : v1 = v0 := by
   have := (show W.heap[ob]? = _ from hv1).symm.trans (show W.heap[ob]? = _ from hv0)
   simpa using this
  obtain ⟨⟨y, U⟩, hy1, hy2⟩ := x
  simp only [] at py hy1 hy2
  obtain ⟨L0, hL0⟩ : ∃ L, rawE S (pre.map (·.1)) = L := ⟨_, rfl⟩
  rw [hL0] at hrow0
  have hR0 : EdgR 37 32 w W3 W ob yb U L0 W := ⟨KeepsOthers.refl _, hKB, KeepB.refl _ _, hBW, py, hyb, v1, hv0, hrow0, hny⟩
  have hpl : L0.length ≤ 600000 := by
   have h1 := rawE_le S (pre.map (·.1))
   rw [hL0, List.length_map] at h1
   have := HSH2.out
   omega
  have HR0 := Lib.hid hR0; have HL0 := Lib.hid hL0; have HPL := Lib.hid hpl
  have HM3 := Lib.hid hm3; have HI3 := Lib.hid hin3; have BM3 := Lib.hid bm3
  have CC0 := Lib.hid (show ∀ (i : Nat) (L : List EdgeM) (w' : World), i < 3 → EdgR 37 32 w W3 W ob yb U L w' → w'.cell? ⟨mbx, 0, none⟩ = some (.pointer (some ⟨mb, 0, none⟩)) ∧ w'.cell? ⟨yb, 3 + i, none⟩ = some (.int .i64 (U.n i)) from fun i L w' hi hr => ⟨(hr.kb.cell hpm).trans bm3.cell, (box9E hr.py hi).1⟩)
  rw [ha0]
  dsimp only [encA, triV]
  simp only [List.zip_toArray, List.zip_cons_cons, List.zip_nil_right, List.size_toArray, List.length_cons, List.length_nil, Nat.zero_add, Nat.reduceAdd, List.foldl_toArray', List.foldl_cons, List.foldl_nil, List.setIfInBounds_toArray, List.set_cons_succ, List.set_cons_zero]
  clear hR0 hL0 hpl py hv0 hv1 hrow0 hny hKB hBW
  gi_wp2
  gi_loopw [6, 7, 8, 9, 14] (fun _ _ _ _ iv wr => ∃ i : Nat, i ≤ 3 ∧ iv = .int .i64 (i : Int) ∧ EdgR 37 32 w W3 W ob yb U (L0 ++ edgesI S U i) wr) (fun _ _ _ _ iv _ => 3 - (intOf iv).toNat)
  case atStart => exact ⟨0, by omega, rfl, by rw [show edgesI S U 0 = [] from rfl, List.append_nil]; exact HR0.out⟩
  case round =>
   obtain ⟨i, hi, rfl, hR_0⟩ := hrel
   obtain ⟨L, hL⟩ : ∃ L, L0 ++ edgesI S U i = L := ⟨_, rfl⟩
   have hLl : L.length ≤ 600003 := by
    rw [← hL, List.length_append]
    have := edgesI_le S U i; have := HPL.out
    omega
   rw [hL] at hR_0
   by_cases hlt : i < 3
   ·have hyd : decide ((i : Int) < 3) = true := decide_eq_true (by omega)
    have hed := ends_any yb 0 i hlt U wr (hR_0.py.c 0 _ rfl) (hR_0.py.c 1 _ rfl) (hR_0.py.c 2 _ rfl)
    obtain ⟨⟨ea, eb⟩, he⟩ : ∃ e, edgeV U i = e := ⟨_, rfl⟩
    rw [he] at hed
    obtain ⟨ni, hni⟩ : ∃ n, U.n i = n := ⟨_, rfl⟩
    obtain ⟨fi, hfi⟩ : ∃ f, U.f i = f := ⟨_, rfl⟩
    obtain ⟨hl, hhl⟩ : ∃ h, hullT S U i = h := ⟨_, rfl⟩
    have hcc : ∀ (w' : World), EdgR 37 32 w W3 W ob yb U L w' → w'.cell? ⟨mbx, 0, none⟩ = some (.pointer (some ⟨mb, 0, none⟩)) ∧ w'.cell? ⟨yb, 3 + i, none⟩ = some (.int .i64 ni) := fun w' hr => by rw [← hni]; exact CC0.out i L w' hlt hr
    have CC := Lib.hid hcc
    have hreal : realM S ni = !hl := by rw [← hhl, ← hni]; unfold hullT; rw [Bool.not_not]
    have HED := Lib.hid hed; have HR_0 := Lib.hid hR_0; have HE := Lib.hid he; have HNI := Lib.hid hni; have HFI := Lib.hid hfi; have HHL := Lib.hid hhl; have HL := Lib.hid hL; have HLL := Lib.hid hLl; have HREAL := Lib.hid hreal; have HLT := Lib.hid hlt
    have i1 : (0 : Int) ≤ (i : Int) := by omega
    have i2 : (i : Int) < 3 := by omega
    clear hcc hed hR_0 he hni hfi hhl hL hLl hreal hlt
    gi_wp2_with fail
    refine ⟨trivial, (CallsIn.inRound l (callsIn_wide.2 HED.out)).mono ?_⟩
    rintro e w7 ⟨rfl, hd7⟩
    have hR_7 := HR_0.out.below hd7.below
    have HRE := Lib.hid (show ∀ w', Below w7.heap.size w7 w' → Calls Try.prog 12 #[.pointer (some ⟨mb, 0, none⟩), .int .i64 ni] w' fun e w'' => e = .returned (.bool (!hl)) ∧ Drew w' w'' from fun w' hb => by
     have := Real_any ni w' (HM3.out.keep HI3.out (hR_7.below hb).kb)
     rw [HREAL.out] at this
     exact this)
    have HR7 := Lib.hid hR_7
    clear hd7
    gi_wp2_with fail
    refine rnd_region_held (S := fun w' => w'.cell? ⟨mbx, 0, none⟩ = some (.pointer (some ⟨mb, 0, none⟩)) ∧ w'.cell? ⟨yb, 3 + i, none⟩ = some (.int .i64 ni)) (by kernel_rfl) (by kernel_rfl) (CC.out _ (hR_7.below (Below.refl _ _).drew')) (fun hHeld => ?_)
    refine rU 0 _ _ ?_
    (try simp only [Act.put]);try simp only [sA,sZ,sS]
    refine rU 1 _ _ ?_
    (try simp only [Act.put]);try simp only [sA,sZ,sS]
    refine rU 2 _ _ ?_
    (try simp only [Act.put]);try simp only [sA,sZ,sS]
    refine rU 3 _ _ ?_
    (try simp only [Act.put]);try simp only [sA,sZ,sS]
    refine rU 4 _ _ ?_
    (try simp only [Act.put]);try simp only [sA,sZ,sS]
    refine reg_call 5 ?_ (by kernel_rfl) ?_ (fun K hK => ?_);rotate_left 1
    ·simp only [gA,gS,gZ]; exact rfl
    go_simp
    refine (HRE.out _ (Below.refl w7.heap.size w7).drew').mono ?_
    rintro e w8 ⟨rfl, hd8⟩
    have hR_8 := (hR_7.below (Below.refl _ _).drew').below hd8.below
    go_wp2_with fail
    refine hK.out _ _ (CC.out _ hR_8) (fun hHeld => ?_)
    clear hK K
    (try simp only [Act.put]);try simp only [sA,sZ,sS]
    refine rU 6 _ _ ?_
    (try simp only [Act.put]);try simp only [sA,sZ,sS]
    refine rU 7 _ _ ?_
    (try simp only [Act.put]);try simp only [sA,sZ,sS]
    refine wpAnyH_done (by kernel_rfl) ?_ _
    refine OnlyN.normal ?_
    have HR8 := Lib.hid hR_8
    clear hR_7 hR_8 hd8
    by_cases htk : (hl || decide (ea < eb)) = true
    ·have hei := edgesI_yes (S := S) (T := U) (n := i) (by rw [HHL.out, HE.out]; exact htk)
     obtain ⟨mn, hmn⟩ : ∃ m, min ea eb = m := ⟨_, rfl⟩
     obtain ⟨mx, hmx⟩ : ∃ m, max ea eb = m := ⟨_, rfl⟩
     have hee : edgeE S U i = ⟨mn, mx, fi, hl⟩ := by unfold edgeE; rw [HE.out, HFI.out, HHL.out, hmn, hmx]
     rw [hee] at hei
     have HEI := Lib.hid hei
     have MN := fun ats ty w' => min2E Try.prog ea eb mn hmn ats ty w'
     have MX := fun ats ty w' => max2E Try.prog ea eb mx hmx ats ty w'
     have hR_9 := HR8.out.below (Below.refl _ _).drew'
     obtain ⟨v, hv_9, hrow_9, hny⟩ := hR_9.row
     have co := hv_9.cell
     have cf := (box9E hR_9.py HLT.out).2
     rw [HFI.out] at cf
     have hhs : W3.heap.size ≤ w8.drew.heap.size := by have := hR_9.py.lt; have := hR_9.hyb; omega
     have hyl := hR_9.py.lt
     have hlll := HLL.out
     have hyo : yb ≠ ob := by have := hR_9.hyb; omega
     have fin : ∀ (w12 : World), EdgR 37 32 w W3 W ob yb U (L ++ [⟨mn, mx, fi, hl⟩]) w12 → EdgR 37 32 w W3 W ob yb U (L0 ++ edgesI S U (i + 1)) w12 := fun w12 h => by
      rw [HEI.out, ← List.append_assoc, HL.out]; exact h
     have FINN := Lib.hid fin
     clear hei hee hmn hmx fin
     cases hl with
     | true =>
      gi_wp2_with fail
      obtain ⟨SSq, hSSq⟩ : ∃ S : Array Bool → World → Prop, ∀ l w', S l w' ↔ ((l.getD 14 true = false → w'.cell? ⟨ob, 0, none⟩ = some (v)) ∧ (w'.cell? ⟨yb, 6 + i, none⟩ = some (.bool fi))) := ⟨_, fun _ _ => Iff.rfl⟩
      refine rnd_region_G SSq 16 #[false, false, false, false, false, false, false, false, false, false, false, false, false, false, false, false] (by kernel_rfl) (by kernel_rfl) (by kernel_rfl) (by kernel_rfl) ((hSSq _ _).2 ⟨(fun _ => co), cf⟩) (fun hCl hHeld => ?_)
      generalize w8.drew = w9 at *
      refine rG 0 ?_ ?_ ?_ ?_ ?_ ?_ hCl hHeld ?_;rotate_left 2
      ·simp only [gA,gZ]; exact rfl
      ·intro l w'; rw [hSSq, hSSq]; rw [getD_set_ne (i := 0) (j := 14) true (by decide)]
      ·rfl
      ·intro w' hA; obtain ⟨l, hl, hi, hSl⟩ := hA; have hSl := (hSSq _ _).1 hSl; obtain ⟨hy0, hz1⟩ := hSl; have hz0 := hy0 (hl.not (t := 14) (by kernel_rfl) hi); go_simp; try with_reducible rfl
      clear hCl hHeld
      intro hCl hHeld
      simp only [List.setIfInBounds_toArray, List.set_cons_zero] at hCl hHeld
      (try simp only [Act.put]);try simp only [sA,sZ,sS]
      refine rG 1 ?_ ?_ ?_ ?_ ?_ ?_ hCl hHeld ?_;rotate_left 2
      ·simp only [gA,gS,gZ]; exact rfl
      ·intro l w'; rw [hSSq, hSSq]; rw [getD_set_ne (i := 1) (j := 14) true (by decide)]
      ·rfl
      ·intro w' hA;clear hA;go_simp;try with_reducible rfl
      clear hCl hHeld
      intro hCl hHeld
      simp only [sA,sZ,sS] at hCl hHeld
      (try simp only [Act.put]);try simp only [sA,sZ,sS]
      refine rG 2 ?_ ?_ ?_ ?_ ?_ ?_ hCl hHeld ?_;rotate_left 2
      ·simp only [gA,gS,gZ]; exact rfl
      ·intro l w'; rw [hSSq, hSSq]; rw [getD_set_ne (i := 2) (j := 14) true (by decide)]
      ·rfl
      ·intro w' hA;clear hA;go_simp;try with_reducible rfl
      clear hCl hHeld
      intro hCl hHeld
      simp only [sA,sZ,sS] at hCl hHeld
      (try simp only [Act.put]);try simp only [sA,sZ,sS]
      refine rG 3 ?_ ?_ ?_ ?_ ?_ ?_ hCl hHeld ?_;rotate_left 2
      ·simp only [gA,gS,gZ]; exact rfl
      ·intro l w'; rw [hSSq, hSSq]; rw [getD_set_ne (i := 3) (j := 14) true (by decide)]
      ·rfl
      ·intro w' hA;clear hA;go_simp;try with_reducible rfl
      clear hCl hHeld
      intro hCl hHeld
      simp only [sA,sZ,sS] at hCl hHeld
      (try simp only [Act.put]);try simp only [sA,sZ,sS]
      refine rG 4 ?_ ?_ ?_ ?_ ?_ ?_ hCl hHeld ?_;rotate_left 2
      ·simp only [gA,gS,gZ]; exact rfl
      ·intro l w'; rw [hSSq, hSSq]; rw [getD_set_ne (i := 4) (j := 14) true (by decide)]
      ·rfl
      ·intro w' hA;clear hA;go_simp;try with_reducible rfl
      clear hCl hHeld
      intro hCl hHeld
      simp only [sA,sZ,sS] at hCl hHeld
      (try simp only [Act.put]);try simp only [sA,sZ,sS]
      refine rG 5 ?_ ?_ ?_ ?_ ?_ ?_ hCl hHeld ?_;rotate_left 2
      ·simp only [gA,gS,gZ]; exact rfl
      ·intro l w'; rw [hSSq, hSSq]; rw [getD_set_ne (i := 5) (j := 14) true (by decide)]
      ·rfl
      ·intro w' hA;clear hA;go_simp;try with_reducible rfl
      clear hCl hHeld
      intro hCl hHeld
      simp only [sA,sZ,sS] at hCl hHeld
      (try simp only [Act.put]);try simp only [sA,sZ,sS]
      refine rG 6 ?_ ?_ ?_ ?_ ?_ ?_ hCl hHeld ?_;rotate_left 2
      ·simp only [gA,gS,gZ]; exact rfl
      ·intro l w'; rw [hSSq, hSSq]; rw [getD_set_ne (i := 6) (j := 14) true (by decide)]
      ·rfl
      ·intro w' hA;clear hA;go_simp;try with_reducible rfl
      clear hCl hHeld
      intro hCl hHeld
      simp only [sA,sZ,sS] at hCl hHeld
      (try simp only [Act.put]);try simp only [sA,sZ,sS]
      refine rG 7 ?_ ?_ ?_ ?_ ?_ ?_ hCl hHeld ?_;rotate_left 2
      ·simp only [gA,gS,gZ]; exact rfl
      ·intro l w'; rw [hSSq, hSSq]; rw [getD_set_ne (i := 7) (j := 14) true (by decide)]
      ·rfl
      ·intro w' hA;clear hA;go_simp;try with_reducible rfl
      clear hCl hHeld
      intro hCl hHeld
      simp only [sA,sZ,sS] at hCl hHeld
      (try simp only [Act.put]);try simp only [sA,sZ,sS]
      refine rG 8 ?_ ?_ ?_ ?_ ?_ ?_ hCl hHeld ?_;rotate_left 2
      ·simp only [gA,gS,gZ]; exact rfl
      ·intro l w'; rw [hSSq, hSSq]; rw [getD_set_ne (i := 8) (j := 14) true (by decide)]
      ·rfl
      ·intro w' hA;clear hA;go_simp;try with_reducible rfl
      clear hCl hHeld
      intro hCl hHeld
      simp only [sA,sZ,sS] at hCl hHeld
      (try simp only [Act.put]);try simp only [sA,sZ,sS]
      refine rG 9 ?_ ?_ ?_ ?_ ?_ ?_ hCl hHeld ?_;rotate_left 2
      ·simp only [gA,gS,gZ]; exact rfl
      ·intro l w'; rw [hSSq, hSSq]; rw [getD_set_ne (i := 9) (j := 14) true (by decide)]
      ·rfl
      ·intro w' hA;clear hA;go_simp;try with_reducible rfl
      clear hCl hHeld
      intro hCl hHeld
      simp only [sA,sZ,sS] at hCl hHeld
      (try simp only [Act.put]);try simp only [sA,sZ,sS]
      refine rG 10 ?_ ?_ ?_ ?_ ?_ ?_ hCl hHeld ?_;rotate_left 2
      ·simp only [gA,gS,gZ]; exact rfl
      ·intro l w'; rw [hSSq, hSSq]; rw [getD_set_ne (i := 10) (j := 14) true (by decide)]
      ·rfl
      ·intro w' hA; obtain ⟨l, hl, hi, hSl⟩ := hA; have hSl := (hSSq _ _).1 hSl; obtain ⟨-, hz1⟩ := hSl; go_simp; try with_reducible rfl
      clear hCl hHeld
      intro hCl hHeld
      simp only [sA,sZ,sS] at hCl hHeld
      (try simp only [Act.put]);try simp only [sA,sZ,sS]
      refine rG 11 ?_ ?_ ?_ ?_ ?_ ?_ hCl hHeld ?_;rotate_left 2
      ·simp only [gA,gS,gZ]; exact rfl
      ·intro l w'; rw [hSSq, hSSq]; rw [getD_set_ne (i := 11) (j := 14) true (by decide)]
      ·rfl
      ·intro w' hA;clear hA;go_simp;try with_reducible rfl
      clear hCl hHeld
      intro hCl hHeld
      simp only [sA,sZ,sS] at hCl hHeld
      (try simp only [Act.put]);try simp only [sA,sZ,sS]
      refine rG 12 ?_ ?_ ?_ ?_ ?_ ?_ hCl hHeld ?_;rotate_left 2
      ·simp only [gA,gS,gZ]; exact rfl
      ·intro l w'; rw [hSSq, hSSq]; rw [getD_set_ne (i := 12) (j := 14) true (by decide)]
      ·rfl
      ·intro w' hA;clear hA;go_simp;try with_reducible rfl
      clear hCl hHeld
      intro hCl hHeld
      simp only [sA,sZ,sS] at hCl hHeld
      (try simp only [Act.put]);try simp only [sA,sZ,sS]
      clear hCl hHeld
      obtain ⟨w10, hw10, pz, hb10, hs10⟩ := new_box w9 _ rfl [.int .i64 mn, .int .i64 mx, .bool fi, .bool true] 37
      refine reg_callG 13 ?_ (by kernel_rfl) ?_ (fun K hK => ?_);rotate_left 1
      ·simp only [gA,gS,gZ]; exact rfl
      go_simp
      try rw [hw10]
      have hv_10 : Boxed w10 ob 32 v := (hb10.block ob (Array.getElem?_eq_some_iff.1 hv_9).1).trans hv_9
      have co10 := hv_10.cell
      have cf10 := (hb10.cell (p := ⟨yb, 6 + i, none⟩) (World.block_lt_of_cell? w9 _ cf)).trans cf
      refine hK.out _ _ ((hSSq _ _).2 ⟨(fun _ => co10), cf10⟩) ?_
      clear hK K
      (try simp only [Act.put]);try simp only [sA,sZ,sS]
      have hrow10 := owns_blow hrow_9 hb10
      obtain ⟨v', w11, hrun, hrow11, hgrow, hwh⟩ := run_append_where (P := Try.prog) w10 W3.heap.size 32 32 37 i0 (.agg #[.int .i64 0, .int .i64 0, .bool false, .bool false]) 4 24 (by kernel_rfl) HI.out HZ0.out HZ1.out HZ2.out rfl v L.length _ hrow10 ⟨w9.heap.size, 0, none⟩ 1 1 [.int .i64 mn, .int .i64 mx, .bool fi, .bool true] (by omega) rfl pz.news (by intro u hu; simp at hu; rcases hu with rfl | rfl | rfl | rfl <;> rfl) (by unfold maxLen; omega) (by omega) (by have := hb10.size; omega)
      refine reg_callG 14 ?_ (by kernel_rfl) ?_ (fun K hK => ?_);rotate_left 1
      ·simp only [gA,gS,gZ]; exact rfl
      refine wanted_go rfl ?_
      refine wp_append_row _ _ 32 rfl rfl rfl hrun ?_
      obtain ⟨g', cap', rfl⟩ := ownsRow_succ hrow11
      have hgrow' : (w9.alloc (.cells #[.int .i64 mn, .int .i64 mx, .bool fi, .bool true] 37)).grownBy w11 v.ownBlock := by rw [hw10]; exact hgrow
      have hwh' : (Value.slice (some ⟨g', 0, none⟩) (L.length + 1) cap').ownBlock = v.ownBlock ∨ ∀ k, (Value.slice (some ⟨g', 0, none⟩) (L.length + 1) cap').ownBlock = some k → (w9.alloc (.cells #[.int .i64 mn, .int .i64 mx, .bool fi, .bool true] 37)).heap.size ≤ k := by rw [hw10]; exact hwh
      have cf11 := hgrow.cell cf10 (fun e => hny e.symm)
      have hv_11 := (hv_9.appended (by decide) (owns_mono hrow_9 (by omega : ob ≤ W3.heap.size)) (by omega) (Nat.le_refl _) (owns_mono hrow11 (by omega : ob ≤ W3.heap.size)) hgrow').1
      refine hK.out _ _ ((hSSq _ _).2 ⟨(fun h => absurd h (by decide)), cf11⟩) ?_
      clear hK K
      (try simp only [Act.put]);try simp only [sA,sZ,sS]
      have c4 := hv_11.cell; have f4 := hv_11.frozen
      have cf12 : (w11.setCell ⟨ob, 0, none⟩ (.slice (some ⟨g', 0, none⟩) (L.length + 1) cap')).cell? ⟨yb, 6 + i, none⟩ = some (.bool fi) := (World.cell?_of_block (a := ⟨yb, 6 + i, none⟩) (heap_set_far _ _ _ _ _ (by omega))).trans cf11
      refine reg_callG 15 ?_ (by kernel_rfl) ?_ (fun K hK => ?_);rotate_left 1
      ·simp only [gA,gS,gZ]; exact rfl
      go_simp
      refine hK.out _ _ ((hSSq _ _).2 ⟨(fun h => absurd h (by decide)), cf12⟩) ?_
      clear hK K
      (try simp only [Act.put]);try simp only [sA,sZ,sS]
      refine wpAnyG_done (by kernel_rfl) ?_ _
      refine OnlyN.normal ?_
      clear hSSq SSq
      have hR_12 := FINN.out _ (hR_9.push (by decide) hwo hoW hv_9 hrow_9 hny ⟨mn, mx, fi, true⟩ hgrow' hrow11 hwh')
      have FIN := Lib.hid hR_12
      clear hR_12 hR_9 co cf hhs hyl hlll hyo MN MX hv_9 hrow_9 hny hgrow' hrow11 hwh' hgrow hwh hrow10 hrun hv_10 hv_11 c4 f4 cf10 cf11 cf12 co10 pz hb10 hs10 hw10
      gi_wp2
      go_roundw
      case rel => exact ⟨i + 1, by omega, by go_num, FIN.out⟩
      case measure => simp [intOf]; omega
     | false =>
      have hab2 : ea < eb := by simpa using htk
      gi_wp2_with fail
      obtain ⟨SSq, hSSq⟩ : ∃ S : Array Bool → World → Prop, ∀ l w', S l w' ↔ ((l.getD 14 true = false → w'.cell? ⟨ob, 0, none⟩ = some (v)) ∧ (w'.cell? ⟨yb, 6 + i, none⟩ = some (.bool fi))) := ⟨_, fun _ _ => Iff.rfl⟩
      refine rnd_region_G SSq 16 #[false, false, false, false, false, false, false, false, false, false, false, false, false, false, false, false] (by kernel_rfl) (by kernel_rfl) (by kernel_rfl) (by kernel_rfl) ((hSSq _ _).2 ⟨(fun _ => co), cf⟩) (fun hCl hHeld => ?_)
      generalize w8.drew = w9 at *
      refine rG 0 ?_ ?_ ?_ ?_ ?_ ?_ hCl hHeld ?_;rotate_left 2
      ·simp only [gA,gZ]; exact rfl
      ·intro l w'; rw [hSSq, hSSq]; rw [getD_set_ne (i := 0) (j := 14) true (by decide)]
      ·rfl
      ·intro w' hA; obtain ⟨l, hl, hi, hSl⟩ := hA; have hSl := (hSSq _ _).1 hSl; obtain ⟨hy0, hz1⟩ := hSl; have hz0 := hy0 (hl.not (t := 14) (by kernel_rfl) hi); go_simp; try with_reducible rfl
      clear hCl hHeld
      intro hCl hHeld
      simp only [List.setIfInBounds_toArray, List.set_cons_zero] at hCl hHeld
      (try simp only [Act.put]);try simp only [sA,sZ,sS]
      refine rG 1 ?_ ?_ ?_ ?_ ?_ ?_ hCl hHeld ?_;rotate_left 2
      ·simp only [gA,gS,gZ]; exact rfl
      ·intro l w'; rw [hSSq, hSSq]; rw [getD_set_ne (i := 1) (j := 14) true (by decide)]
      ·rfl
      ·intro w' hA;clear hA;go_simp;try with_reducible rfl
      clear hCl hHeld
      intro hCl hHeld
      simp only [sA,sZ,sS] at hCl hHeld
      (try simp only [Act.put]);try simp only [sA,sZ,sS]
      refine rG 2 ?_ ?_ ?_ ?_ ?_ ?_ hCl hHeld ?_;rotate_left 2
      ·simp only [gA,gS,gZ]; exact rfl
      ·intro l w'; rw [hSSq, hSSq]; rw [getD_set_ne (i := 2) (j := 14) true (by decide)]
      ·rfl
      ·intro w' hA;clear hA;go_simp;try with_reducible rfl
      clear hCl hHeld
      intro hCl hHeld
      simp only [sA,sZ,sS] at hCl hHeld
      (try simp only [Act.put]);try simp only [sA,sZ,sS]
      refine rG 3 ?_ ?_ ?_ ?_ ?_ ?_ hCl hHeld ?_;rotate_left 2
      ·simp only [gA,gS,gZ]; exact rfl
      ·intro l w'; rw [hSSq, hSSq]; rw [getD_set_ne (i := 3) (j := 14) true (by decide)]
      ·rfl
      ·intro w' hA;clear hA;go_simp;try with_reducible rfl
      clear hCl hHeld
      intro hCl hHeld
      simp only [sA,sZ,sS] at hCl hHeld
      (try simp only [Act.put]);try simp only [sA,sZ,sS]
      refine rG 4 ?_ ?_ ?_ ?_ ?_ ?_ hCl hHeld ?_;rotate_left 2
      ·simp only [gA,gS,gZ]; exact rfl
      ·intro l w'; rw [hSSq, hSSq]; rw [getD_set_ne (i := 4) (j := 14) true (by decide)]
      ·rfl
      ·intro w' hA;clear hA;go_simp;try with_reducible rfl
      clear hCl hHeld
      intro hCl hHeld
      simp only [sA,sZ,sS] at hCl hHeld
      (try simp only [Act.put]);try simp only [sA,sZ,sS]
      refine rG 5 ?_ ?_ ?_ ?_ ?_ ?_ hCl hHeld ?_;rotate_left 2
      ·simp only [gA,gS,gZ]; exact rfl
      ·intro l w'; rw [hSSq, hSSq]; rw [getD_set_ne (i := 5) (j := 14) true (by decide)]
      ·rfl
      ·intro w' hA;clear hA;go_simp;try with_reducible rfl
      clear hCl hHeld
      intro hCl hHeld
      simp only [sA,sZ,sS] at hCl hHeld
      (try simp only [Act.put]);try simp only [sA,sZ,sS]
      refine rG 6 ?_ ?_ ?_ ?_ ?_ ?_ hCl hHeld ?_;rotate_left 2
      ·simp only [gA,gS,gZ]; exact rfl
      ·intro l w'; rw [hSSq, hSSq]; rw [getD_set_ne (i := 6) (j := 14) true (by decide)]
      ·rfl
      ·intro w' hA;clear hA;go_simp;try with_reducible rfl
      clear hCl hHeld
      intro hCl hHeld
      simp only [sA,sZ,sS] at hCl hHeld
      (try simp only [Act.put]);try simp only [sA,sZ,sS]
      refine rG 7 ?_ ?_ ?_ ?_ ?_ ?_ hCl hHeld ?_;rotate_left 2
      ·simp only [gA,gS,gZ]; exact rfl
      ·intro l w'; rw [hSSq, hSSq]; rw [getD_set_ne (i := 7) (j := 14) true (by decide)]
      ·rfl
      ·intro w' hA;clear hA;go_simp;try with_reducible rfl
      clear hCl hHeld
      intro hCl hHeld
      simp only [sA,sZ,sS] at hCl hHeld
      (try simp only [Act.put]);try simp only [sA,sZ,sS]
      refine rG 8 ?_ ?_ ?_ ?_ ?_ ?_ hCl hHeld ?_;rotate_left 2
      ·simp only [gA,gS,gZ]; exact rfl
      ·intro l w'; rw [hSSq, hSSq]; rw [getD_set_ne (i := 8) (j := 14) true (by decide)]
      ·rfl
      ·intro w' hA;clear hA;go_simp;try with_reducible rfl
      clear hCl hHeld
      intro hCl hHeld
      simp only [sA,sZ,sS] at hCl hHeld
      (try simp only [Act.put]);try simp only [sA,sZ,sS]
      refine rG 9 ?_ ?_ ?_ ?_ ?_ ?_ hCl hHeld ?_;rotate_left 2
      ·simp only [gA,gS,gZ]; exact rfl
      ·intro l w'; rw [hSSq, hSSq]; rw [getD_set_ne (i := 9) (j := 14) true (by decide)]
      ·rfl
      ·intro w' hA;clear hA;go_simp;try with_reducible rfl
      clear hCl hHeld
      intro hCl hHeld
      simp only [sA,sZ,sS] at hCl hHeld
      (try simp only [Act.put]);try simp only [sA,sZ,sS]
      refine rG 10 ?_ ?_ ?_ ?_ ?_ ?_ hCl hHeld ?_;rotate_left 2
      ·simp only [gA,gS,gZ]; exact rfl
      ·intro l w'; rw [hSSq, hSSq]; rw [getD_set_ne (i := 10) (j := 14) true (by decide)]
      ·rfl
      ·intro w' hA; obtain ⟨l, hl, hi, hSl⟩ := hA; have hSl := (hSSq _ _).1 hSl; obtain ⟨-, hz1⟩ := hSl; go_simp; try with_reducible rfl
      clear hCl hHeld
      intro hCl hHeld
      simp only [sA,sZ,sS] at hCl hHeld
      (try simp only [Act.put]);try simp only [sA,sZ,sS]
      refine rG 11 ?_ ?_ ?_ ?_ ?_ ?_ hCl hHeld ?_;rotate_left 2
      ·simp only [gA,gS,gZ]; exact rfl
      ·intro l w'; rw [hSSq, hSSq]; rw [getD_set_ne (i := 11) (j := 14) true (by decide)]
      ·rfl
      ·intro w' hA;clear hA;go_simp;try with_reducible rfl
      clear hCl hHeld
      intro hCl hHeld
      simp only [sA,sZ,sS] at hCl hHeld
      (try simp only [Act.put]);try simp only [sA,sZ,sS]
      refine rG 12 ?_ ?_ ?_ ?_ ?_ ?_ hCl hHeld ?_;rotate_left 2
      ·simp only [gA,gS,gZ]; exact rfl
      ·intro l w'; rw [hSSq, hSSq]; rw [getD_set_ne (i := 12) (j := 14) true (by decide)]
      ·rfl
      ·intro w' hA;clear hA;go_simp;try with_reducible rfl
      clear hCl hHeld
      intro hCl hHeld
      simp only [sA,sZ,sS] at hCl hHeld
      (try simp only [Act.put]);try simp only [sA,sZ,sS]
      clear hCl hHeld
      obtain ⟨w10, hw10, pz, hb10, hs10⟩ := new_box w9 _ rfl [.int .i64 mn, .int .i64 mx, .bool fi, .bool false] 37
      refine reg_callG 13 ?_ (by kernel_rfl) ?_ (fun K hK => ?_);rotate_left 1
      ·simp only [gA,gS,gZ]; exact rfl
      go_simp
      try rw [hw10]
      have hv_10 : Boxed w10 ob 32 v := (hb10.block ob (Array.getElem?_eq_some_iff.1 hv_9).1).trans hv_9
      have co10 := hv_10.cell
      have cf10 := (hb10.cell (p := ⟨yb, 6 + i, none⟩) (World.block_lt_of_cell? w9 _ cf)).trans cf
      refine hK.out _ _ ((hSSq _ _).2 ⟨(fun _ => co10), cf10⟩) ?_
      clear hK K
      (try simp only [Act.put]);try simp only [sA,sZ,sS]
      have hrow10 := owns_blow hrow_9 hb10
      obtain ⟨v', w11, hrun, hrow11, hgrow, hwh⟩ := run_append_where (P := Try.prog) w10 W3.heap.size 32 32 37 i0 (.agg #[.int .i64 0, .int .i64 0, .bool false, .bool false]) 4 24 (by kernel_rfl) HI.out HZ0.out HZ1.out HZ2.out rfl v L.length _ hrow10 ⟨w9.heap.size, 0, none⟩ 1 1 [.int .i64 mn, .int .i64 mx, .bool fi, .bool false] (by omega) rfl pz.news (by intro u hu; simp at hu; rcases hu with rfl | rfl | rfl | rfl <;> rfl) (by unfold maxLen; omega) (by omega) (by have := hb10.size; omega)
      refine reg_callG 14 ?_ (by kernel_rfl) ?_ (fun K hK => ?_);rotate_left 1
      ·simp only [gA,gS,gZ]; exact rfl
      refine wanted_go rfl ?_
      refine wp_append_row _ _ 32 rfl rfl rfl hrun ?_
      obtain ⟨g', cap', rfl⟩ := ownsRow_succ hrow11
      have hgrow' : (w9.alloc (.cells #[.int .i64 mn, .int .i64 mx, .bool fi, .bool false] 37)).grownBy w11 v.ownBlock := by rw [hw10]; exact hgrow
      have hwh' : (Value.slice (some ⟨g', 0, none⟩) (L.length + 1) cap').ownBlock = v.ownBlock ∨ ∀ k, (Value.slice (some ⟨g', 0, none⟩) (L.length + 1) cap').ownBlock = some k → (w9.alloc (.cells #[.int .i64 mn, .int .i64 mx, .bool fi, .bool false] 37)).heap.size ≤ k := by rw [hw10]; exact hwh
      have cf11 := hgrow.cell cf10 (fun e => hny e.symm)
      have hv_11 := (hv_9.appended (by decide) (owns_mono hrow_9 (by omega : ob ≤ W3.heap.size)) (by omega) (Nat.le_refl _) (owns_mono hrow11 (by omega : ob ≤ W3.heap.size)) hgrow').1
      refine hK.out _ _ ((hSSq _ _).2 ⟨(fun h => absurd h (by decide)), cf11⟩) ?_
      clear hK K
      (try simp only [Act.put]);try simp only [sA,sZ,sS]
      have c4 := hv_11.cell; have f4 := hv_11.frozen
      have cf12 : (w11.setCell ⟨ob, 0, none⟩ (.slice (some ⟨g', 0, none⟩) (L.length + 1) cap')).cell? ⟨yb, 6 + i, none⟩ = some (.bool fi) := (World.cell?_of_block (a := ⟨yb, 6 + i, none⟩) (heap_set_far _ _ _ _ _ (by omega))).trans cf11
      refine reg_callG 15 ?_ (by kernel_rfl) ?_ (fun K hK => ?_);rotate_left 1
      ·simp only [gA,gS,gZ]; exact rfl
      go_simp
      refine hK.out _ _ ((hSSq _ _).2 ⟨(fun h => absurd h (by decide)), cf12⟩) ?_
      clear hK K
      (try simp only [Act.put]);try simp only [sA,sZ,sS]
      refine wpAnyG_done (by kernel_rfl) ?_ _
      refine OnlyN.normal ?_
      clear hSSq SSq
      have hR_12 := FINN.out _ (hR_9.push (by decide) hwo hoW hv_9 hrow_9 hny ⟨mn, mx, fi, false⟩ hgrow' hrow11 hwh')
      have FIN := Lib.hid hR_12
      clear hR_12 hR_9 co cf hhs hyl hlll hyo MN MX hv_9 hrow_9 hny hgrow' hrow11 hwh' hgrow hwh hrow10 hrun hv_10 hv_11 c4 f4 cf10 cf11 cf12 co10 pz hb10 hs10 hw10
      gi_wp2
      go_roundw
      case rel => exact ⟨i + 1, by omega, by go_num, FIN.out⟩
      case measure => simp [intOf]; omega
    ·have hb : (hl || decide (ea < eb)) = false := by simpa using htk
     have hei := edgesI_no (S := S) (T := U) (n := i) (by rw [HHL.out, HE.out]; exact hb)
     obtain ⟨rfl, hab2⟩ : hl = false ∧ ¬ ea < eb := by
      rw [Bool.or_eq_false_iff] at hb
      exact ⟨hb.1, of_decide_eq_false hb.2⟩
     have HEI := Lib.hid hei
     clear htk hb hei
     gi_wp2
     go_roundw
     case rel => exact ⟨i + 1, by omega, by go_num, by rw [HEI.out, HL.out]; exact HR8.out⟩
     case measure => simp [intOf]; omega
   ·obtain rfl : i = 3 := by omega
    have hyd : decide (((3 : Nat) : Int) < 3) = false := by decide
    have HR_0 := Lib.hid hR_0; have HL := Lib.hid hL
    clear hR_0 hL hLl
    gi_wp2
    have h := HR_0.out
    have e : rawE S ((pre ++ [(⟨(y, U), hy1, hy2⟩ : RA S)]).map (·.1)) = L := by rw [List.map_append, List.map_cons, List.map_nil, rawE_snoc, HL0.out]; exact HL.out
    refine ⟨h.ko.from _, h.kw, ⟨?_, h.kb, h.bl⟩⟩
    obtain ⟨v, g1, g2, -⟩ := h.row
    rw [e]
    exact ⟨v, g1, g2, trivial⟩
 case done =>
  rintro D xs W hD hS ⟨⟨v, hv, hrow, -⟩, hKB, hBW⟩ hK
  obtain ⟨E0, hE0⟩ : ∃ L, rawE S (xs.map (·.1)) = L := ⟨_, rfl⟩
  have hE1 : rawE S (realsK S S.length) = E0 := by rw [← hE0, hS]
  rw [hE0] at hrow
  have hne : E0 ≠ [] := by rw [← hE1]; exact HNE.out
  have hpl : E0.length ≤ 600000 := by
   have h1 := rawE_le S (realsK S S.length)
   have h2 := realsK_len S S.length
   rw [hE1] at h1
   have := HSH2.out
   omega
  obtain ⟨q, hq⟩ : ∃ q, E0.length = q + 1 := ⟨E0.length - 1, by have := List.length_pos_iff.2 hne; omega⟩
  rw [hq] at hrow
  obtain ⟨g, c, rfl⟩ := ownsRow_succ hrow
  have hcap : q + 1 ≤ c := by
   rcases hrow.2 with ⟨h0, -⟩ | ⟨g', cap, cur, hv', -, -, h4, -⟩
   ·cases h0
   ·simp only [Value.slice.injEq] at hv'
    omega
  have hbx := owns_box hrow
  have hgl := hrow.lt g rfl
  have hDg : D ≠ g := by
   intro e
   subst e
   rcases hrow.2 with ⟨h0, -⟩ | ⟨g', cap, cur, hv', -, hg, -⟩
   ·cases h0
   ·simp only [Value.slice.injEq, Option.some.injEq] at hv'
    obtain ⟨h1, -, -⟩ := hv'
    injection h1 with h1
    subst h1
    rw [hK] at hg; cases hg
  have hDl : D < W.heap.size := (Array.getElem?_eq_some_iff.1 hK).1
  have hDo : D ≠ ob := by omega
  have hsrt := edSort_any (c := c) W hbx hgl.2 (by omega)
  rw [hq] at hsrt
  have HSRT := Lib.hid hsrt; have HE1 := Lib.hid hE1; have HCAP := Lib.hid hcap; have HQ := Lib.hid hq
  have co := hv.cell
  have hgo : ob ≠ g := by omega
  rw [ha0]
  clear hsrt hE0 hS hbx hrow hKB hE1 hcap hq hne
  gi_wp2_with fail
  go_wp2_with fail
  refine HSRT.out.mono ?_
  rintro e w5 ⟨rfl, E, hEl, hEp, hEs, hEb, hEk, hEw⟩
  have hv5 : Boxed w5 ob 32 _ := (hEk ob hv.lt hgo).trans hv
  have co5 := hv5.cell
  have hK5 : w5.heap[D]? = some (.deferred (some [])) := (hEk D hDl hDg).trans hK
  have hB5 : Below w.heap.size w w5 := hBW.trans (hEw.mono (by omega))
  have hg5 : g < w5.heap.size := by have := hEw.size; omega
  have FIN := Lib.hid (And.intro hEl (And.intro hEp (And.intro hEs hEb)))
  clear hEl hEp hEs hEb hEk hEw co
  go_wp2
  refine ⟨by simp, .inl ⟨_, _, rfl, run_takeDeferred hK5, ?_⟩⟩
  refine ⟨_, results_tmp rfl _ _ _, g, c, E, ?_, by rw [FIN.out.1]; exact HCAP.out, ⟨by rw [HE1.out]; exact FIN.out.2.1, FIN.out.2.2.1⟩, ?_, by omega, by simp only [World.putObj]; simpa using hg5, hB5.trans (belowK_b (w := w) (Nat.le_refl _) w5 D _ _ (by omega) hK5 rfl rfl)⟩
  ·rw [FIN.out.1]; rfl
  ·have e := World.putObj_heap_other (w := w5) (r := D) (k := g) (o := .deferred none) (fun e => hDg e.symm)
   exact ⟨fun i u hi => (World.cell?_of_block (a := ⟨g, i, none⟩) e).trans (FIN.out.2.2.2.c i u hi), fun i u hi => (World.frozen?_of_block (a := ⟨g, i, none⟩) e).trans (FIN.out.2.2.2.f i u hi)⟩
 case stop =>
  rintro D c pre W _ _ h _
  exact h.elim
end Go.Proofs.Ytecnnpkpgbbfkaa
/- mesh's Edges, for a range over it. -/
namespace Go.MagM
open Go.RowKit
def encEd (e : EdgeM) : Array Value := #[edgeVal e]
/-- What a body keeps, so that an iterator's own blocks stay: those that are safe stay, and stay safe. -/
structure Guards (Kp : World → World → Prop) (Gd : World → Nat → Prop) (w : World) : Prop where
 keep : ∀ W W' b, Kp W W' → Gd W b → W'.heap[b]? = W.heap[b]? ∧ Gd W' b
 below : ∀ W W' b, Gd W b → Below W.heap.size W W' → Gd W' b
 new : ∀ W', Below w.heap.size w W' → ∀ b, w.heap.size ≤ b → W'.cell? ⟨b, 0, none⟩ ≠ none → Gd W' b
theorem grown_below {W W' : World} (h : Below W.heap.size W W') : W.grownBy W' none := ⟨h.os, h.tape, h.output, h.size, fun k hk _ => h.block k hk⟩
theorem sl_app {E : List EdgeM} {i : Nat} {e : EdgeM} (h : E[i]? = some e) : E.take (i + 1) = E.take i ++ [e] := by rw [List.take_add_one, h]; rfl
end Go.MagM
namespace Go.Proofs.Ytecnnpkpgbbfkaa
open Go.RowKit Go.MagM Go.Shelf
attribute [local go_sem] Oper.semAt_some
set_option maxRecDepth 100000 in
set_option maxHeartbeats 8000000 in
theorem edges1_any (n : Nat) (hn : 1 ≤ n) (l Bm : Nat) (Kp : World → World → Prop) (Gd : World → Nat → Prop) {mb pb pc : Nat} {ta : Option Addr} {tc : Nat} {P : List (Int × Int)} {S : List TriM} (J Jx : List EdgeM → World → Prop) (w W : World) (hg : Guards Kp Gd w) (hwW : Below w.heap.size w W)
  (hY : ∀ pre x W1, J pre W1 → pre.length < 600001 → YieldAt Fence.wide (n - 1) Try.prog l (encEd x) W1 fun e W' =>
   (e = .returned (.bool true) ∧ J (pre ++ [x]) W' ∧ Kp W1 W') ∨ (e = .returned (.bool false) ∧ Jx (pre ++ [x]) W'))
  (hD : ∀ pre W1 W2, J pre W1 → Below W1.heap.size W1 W2 → J pre W2)
  (hm : MeshR W mb pb pc ta tc P S) (hin : MeshIn (fun b => b < W.heap.size) mb pb ta) (hBm : W.cell? ⟨Bm, 0, none⟩ = some (.pointer (some ⟨mb, 0, none⟩))) (hne : rawE S (realsK S S.length) ≠ []) (hsh : S.length ≤ 200000) (h0 : J [] W) :
  CallsIn Fence.wide n Try.prog 26 #[.func (.yield l) #[] #[], .pointer (some ⟨Bm, 0, none⟩)] W fun e W' => (∃ v, e = .returned v) ∧
   ((∃ ys, EdgesAre S ys ∧ J ys W') ∨ (∃ pre, (∃ E, EdgesAre S E ∧ pre <+: E) ∧ Jx pre W')) := by
 have hF : ∀ k, Fence.wide.fn k := fun _ => trivial
 have hed := edges_any W hm hin hne hsh
 have HED := Lib.hid hed; have HD := Lib.hid hD; have HG := Lib.hid hg; have HW := Lib.hid hwW; have H0 := Lib.hid h0
 have HSH := Lib.hid hsh; have HNE := Lib.hid hne
 clear hed hD hg hwW hne hin hm h0 hsh
 refine callsIn_of_wp Try.func26 rfl trivial ?_ rfl
 simp only [Try.ntmps26, List.size_toArray, List.length_cons, List.length_nil, Nat.reduceAdd, Nat.reduceSub, Array.replicate_succ, Array.replicate_zero, List.push_toArray, List.append_toArray, List.nil_append, List.cons_append]
 gi_wp2_with fail
 refine (callsIn_wide.2 HED.out).mono ?_
 rintro e w1 ⟨g, c, E, rfl, hcap, hE, hbx, hg1, hg2, hb1⟩
 have hW1 := HW.out.trans (hb1.mono HW.out.size)
 have hEn : ∃ e0, E[0]? = some e0 := by
  have h1 := hE.1.length_eq
  have h2 := List.length_pos_iff.2 HNE.out
  exact ⟨_, List.getElem?_eq_getElem (by omega)⟩
 obtain ⟨e0, he0⟩ := hEn
 have hc0 := hbx.c 0 (.int .i64 e0.a) (by have := edgeCells_get E 0 0 e0 he0 (by omega); rw [Nat.zero_mul, Nat.zero_add] at this; rw [this]; rfl)
 have hgd := HG.out.new w1 hW1 g (Nat.le_trans HW.out.size hg1) (by rw [hc0]; simp)
 clear hc0 he0 e0
 have hj := HD.out [] W w1 H0.out hb1
 have hel : E.length ≤ 600000 := by
  have h1 := hE.1.length_eq
  have h2 := rawE_le S (realsK S S.length)
  have h3 := realsK_len S S.length
  have := HSH.out
  omega
 obtain ⟨len, hlen⟩ : ∃ len, E.length = len := ⟨_, rfl⟩
 rw [hlen] at hel hcap ⊢
 have HLEN := Lib.hid hlen; have HE := Lib.hid hE; have HBX := Lib.hid hbx; have HGD := Lib.hid hgd; have HJ := Lib.hid hj
 clear hlen hE hbx hgd hj hW1 hb1 hBm hcap hg1 hg2
 gi_wp2
 gi_loopw [4, 8] (fun _ iv wr => ∃ i : Nat, i ≤ len ∧ iv = .int .i64 (i : Int) ∧ J (E.take i) wr ∧ Gd wr g ∧ Box wr g (edgeCells E)) (fun _ iv _ => len - (intOf iv).toNat)
 case atStart => exact ⟨0, Nat.zero_le _, rfl, HJ.out, HGD.out, HBX.out⟩
 case round =>
  obtain ⟨i, hi, rfl, hj, hgd, hbx⟩ := hrel
  by_cases hlt : i < len
  ·have hyd : decide ((i : Int) < (len : Int)) = true := decide_eq_true (by omega)
   obtain ⟨e, he⟩ : ∃ e, E[i]? = some e := ⟨_, List.getElem?_eq_getElem (by rw [HLEN.out]; exact hlt)⟩
   obtain ⟨ea, eb, ef, eh⟩ := e
   have c0 := hbx.c (i * 4) (.int .i64 ea) (by have := edgeCells_get E i 0 _ he (by omega); rwa [Nat.add_zero] at this)
   have c1 := hbx.c (i * 4 + 1) (.int .i64 eb) (edgeCells_get E i 1 _ he (by omega))
   have c2 := hbx.c (i * 4 + 2) (.bool ef) (edgeCells_get E i 2 _ he (by omega))
   have c3 := hbx.c (i * 4 + 3) (.bool eh) (edgeCells_get E i 3 _ he (by omega))
   obtain ⟨w2, hw2, px, hb2, hs2⟩ := new_box wr _ rfl [.int .i64 ea, .int .i64 eb, .bool ef, .bool eh] 37
   have hj2 := HD.out _ _ _ hj hb2
   have hgd2 := HG.out.below _ _ _ hgd hb2
   have hbx2 := hbx.below hb2
   have hpl : (E.take i).length < 600001 := by rw [List.length_take]; omega
   have hyy := hY (E.take i) ⟨ea, eb, ef, eh⟩ w2 hj2 hpl
   obtain ⟨fn, tmps, assign, body, hy, hR⟩ := hyy
   unfold encEd edgeVal at hy
   dsimp only at hy
   have HR := Lib.hid hR; have HGD2 := Lib.hid hgd2; have HBX2 := Lib.hid hbx2; have HTK := Lib.hid (sl_app he)
   have q0 := px.c 0 _ rfl; have q1 := px.c 1 _ rfl; have q2 := px.c 2 _ rfl; have q3 := px.c 3 _ rfl
   have j1 : (0 : Int) ≤ (i : Int) := by omega
   have j2 : (i : Int) < (len : Int) := by omega
   clear hj hgd hbx he px hb2 hs2 hj2 hgd2 hbx2 hR hpl
   gi_wp2
   refine HR.out.mono ?_
   rintro e W3 (⟨rfl, hJ3, hk3⟩ | ⟨rfl, hJx3⟩)
   ·obtain ⟨h1, h2⟩ := HG.out.keep _ _ _ hk3 HGD2.out
    have hbx3 := HBX2.out.same h1
    rw [← HTK.out] at hJ3
    have FIN := Lib.hid (And.intro hJ3 (And.intro h2 hbx3))
    clear hJ3 hk3 h1 h2 hbx3 q0 q1 q2 q3 c0 c1 c2 c3
    gi_wp2
    go_roundw
    case rel => exact ⟨i + 1, by omega, by go_num, FIN.out.1, FIN.out.2.1, FIN.out.2.2⟩
    case measure => simp [intOf]; omega
   ·rw [← HTK.out] at hJx3
    have FIN := Lib.hid hJx3
    clear hJx3 q0 q1 q2 q3 c0 c1 c2 c3
    gi_wp2
    refine bodyPost_ret (results_none rfl _ _ _) rfl ?_
    exact ⟨⟨_, rfl⟩, .inr ⟨E.take (i + 1), ⟨E, HE.out, List.take_prefix _ _⟩, FIN.out⟩⟩
  ·obtain rfl : i = len := by omega
   have htk : E.take i = E := by rw [← HLEN.out]; exact List.take_length
   rw [htk] at hj
   have FIN := Lib.hid hj
   clear hj hgd hbx htk
   gi_wp2
   go_end0
   exact ⟨⟨_, rfl⟩, .inl ⟨E, HE.out, FIN.out⟩⟩
theorem edges_stops (n : Nat) (hn : 1 ≤ n) (Bm : Nat) (Kp : World → World → Prop) (Gd : World → Nat → Prop) {mb pb pc : Nat} {ta : Option Addr} {tc : Nat} {P : List (Int × Int)} {S : List TriM} (w : World) (hg : Guards Kp Gd w) (hm : MeshR w mb pb pc ta tc P S) (hin : MeshIn (fun b => b < w.heap.size) mb pb ta) (hBm : w.cell? ⟨Bm, 0, none⟩ = some (.pointer (some ⟨mb, 0, none⟩))) (hne : rawE S (realsK S S.length) ≠ []) (hsh : S.length ≤ 200000) :
  SeqStopsK Fence.wide n Try.prog 26 #[.pointer (some ⟨Bm, 0, none⟩)] encEd Kp (fun xs => EdgesAre S xs) (fun pre => ∃ E, EdgesAre S E ∧ pre <+: E) 600001 w := by
 intro l J Jx W hW hJ hJx hY h0
 have hcm : W.cell? ⟨Bm, 0, none⟩ = some (.pointer (some ⟨mb, 0, none⟩)) := (hW.cell (p := ⟨Bm, 0, none⟩) (World.block_lt_of_cell? w _ hBm)).trans hBm
 have hin2 : MeshIn (fun b => b < W.heap.size) mb pb ta := ⟨Nat.lt_of_lt_of_le hin.m hW.size, Nat.lt_of_lt_of_le hin.p hW.size, fun b hb => Nat.lt_of_lt_of_le (hin.t b hb) hW.size⟩
 refine (edges1_any n hn l Bm Kp Gd J Jx w W hg hW hY (fun pre W1 W2 h hb => hJ pre W1 W2 none h (grown_below hb) (fun r e => by cases e)) (hm.below hW) hin2 hcm hne hsh h0).mono ?_
 rintro e W' ⟨he, h⟩
 exact ⟨he, h⟩
theorem Edges_any (v : Option Addr) (w : World) : Calls Try.prog 9 #[.pointer v] w fun e w' => e = .returned (.func (.func 26) #[] #[.pointer (some ⟨w.heap.size, 0, none⟩)]) ∧ w.alloc (.cells #[.pointer v] 25) = w' := by
 go_enter Try.func9, Try.ntmps9
 go_wp2
 go_ret
 exact ⟨rfl, rfl⟩
end Go.Proofs.Ytecnnpkpgbbfkaa
/- A list of edges that a range over Edges fills: what its body keeps. -/
namespace Go.MagM
open Go.RowKit
/-- A block of cells that is neither the list's box nor the list's row. -/
def GdE (tS : TypeId) (ob : Nat) (W : World) (b : Nat) : Prop := W.cell? ⟨b, 0, none⟩ ≠ none ∧ b ≠ ob ∧ ob < W.heap.size ∧ ∀ v, Boxed W ob tS v → v.ownBlock ≠ some b
def KpE (tS : TypeId) (ob : Nat) (W W' : World) : Prop := ∀ b, GdE tS ob W b → W'.heap[b]? = W.heap[b]? ∧ GdE tS ob W' b
theorem GdE.lt {tS : TypeId} {ob b : Nat} {W : World} (h : GdE tS ob W b) : b < W.heap.size := by
 obtain ⟨v, hv⟩ := Option.ne_none_iff_exists'.1 h.1
 exact World.block_lt_of_cell? _ _ hv
theorem GdE.same {tS : TypeId} {ob b : Nat} {W W' : World} (h : GdE tS ob W b) (e : W'.heap[b]? = W.heap[b]?) (eo : W'.heap[ob]? = W.heap[ob]?) (hs : W.heap.size ≤ W'.heap.size) : GdE tS ob W' b :=
 ⟨by rw [World.cell?_of_block (a := ⟨b, 0, none⟩) e]; exact h.1, h.2.1, Nat.lt_of_lt_of_le h.2.2.1 hs, fun v hv => h.2.2.2 v ((show W.heap[ob]? = _ from eo.symm.trans hv))⟩
theorem KpE.trans {tS : TypeId} {ob : Nat} {A B C : World} (h : KpE tS ob A B) (k : KpE tS ob B C) : KpE tS ob A C := fun b hb =>
 ⟨((k b (h b hb).2).1).trans (h b hb).1, (k b (h b hb).2).2⟩
theorem KpE.below {tS : TypeId} {ob : Nat} {W W' : World} (h : Below W.heap.size W W') : KpE tS ob W W' := fun b hb =>
 ⟨h.block b hb.lt, hb.same (h.block b hb.lt) (h.block ob hb.2.2.1) h.size⟩
theorem KpE.put {tS : TypeId} {ob B : Nat} (hB : ob < B) (W : World) (l : Nat) (o o' : Obj) (hl : B ≤ l) (h : W.heap[l]? = some o) (hc : o.isCells = false) : KpE tS ob W (W.putObj l o') := fun b hb => by
 have hbl : b ≠ l := by
  intro e
  subst e
  have := hb.1
  unfold World.cell? at this
  rw [h] at this
  cases o <;> first | (exact this rfl) | (cases hc)
 have e1 := World.putObj_heap_other (w := W) (r := l) (k := b) (o := o') hbl
 exact ⟨e1, hb.same e1 (World.putObj_heap_other (by omega)) (by simp [World.putObj])⟩
theorem guardsE {tS : TypeId} {ob : Nat} {w : World} (h : Boxed w ob tS (.slice none 0 0)) : Guards (KpE tS ob) (GdE tS ob) w where
 keep := fun W W' b hk hb => hk b hb
 below := fun W W' b hb hw => hb.same (hw.block b hb.lt) (hw.block ob hb.2.2.1) hw.size
 new := fun W' hw b hb hc => by
  have hl : ob < w.heap.size := (Array.getElem?_eq_some_iff.1 h).1
  refine ⟨hc, by omega, Nat.lt_of_lt_of_le hl hw.size, fun v hv e => ?_⟩
  have h1 := (hw.block ob hl).trans h
  have h2 := h1.symm.trans (show W'.heap[ob]? = _ from hv)
  simp at h2
  rw [← h2] at e
  cases e
theorem ed_push {te tS : TypeId} (hte : tS ≠ te) {w W3 W w4 : World} {ob : Nat} {v v' : Value} {L : List EdgeM} {tmp : Obj} (e : EdgeM) (hW : W3.heap.size ≤ W.heap.size) (hw : w.heap.size ≤ ob) (ho : ob < W3.heap.size) (hv : Boxed W ob tS v) (hrow : W.ownsRow W3.heap.size te 4 v L.length (edgeCells L))
  (hkb : KeepB (EPb W3.heap.size ob) W3 W) (hbl : Below w.heap.size w W) (hgrow : (W.alloc tmp).grownBy w4 v.ownBlock) (hrow4 : w4.ownsRow W3.heap.size te 4 v' (L.length + 1) (edgeCells L ++ e.cells)) (hwh : v'.ownBlock = v.ownBlock ∨ ∀ k, v'.ownBlock = some k → (W.alloc tmp).heap.size ≤ k) :
  KeepsOthers W (w4.setCell ⟨ob, 0, none⟩ v') ∧ KpE tS ob W (w4.setCell ⟨ob, 0, none⟩ v') ∧ (∃ u, Boxed (w4.setCell ⟨ob, 0, none⟩ v') ob tS u ∧ (w4.setCell ⟨ob, 0, none⟩ v').ownsRow W3.heap.size te 4 u (L ++ [e]).length (edgeCells (L ++ [e])) ∧ True) ∧
   KeepB (EPb W3.heap.size ob) W3 (w4.setCell ⟨ob, 0, none⟩ v') ∧ Below w.heap.size w (w4.setCell ⟨ob, 0, none⟩ v') := by
 obtain ⟨hv4, hv5, -, hk5, hb5⟩ := hv.appended hte (owns_mono hrow (by omega : ob ≤ W3.heap.size)) (by omega) (Nat.le_refl _) (owns_mono hrow4 (by omega : ob ≤ W3.heap.size)) hgrow
 have hvl := hrow.lt
 have hkk : ∀ b, b < W.heap.size → b ≠ ob → v.ownBlock ≠ some b → (w4.setCell ⟨ob, 0, none⟩ v').heap[b]? = W.heap[b]? := by
  intro b hb1 hb2 hb3
  rw [heap_set_far _ _ _ _ _ hb2, hgrow.block b (by simp; omega) (fun e => hb3 e.symm)]
  exact Below.heap_alloc W tmp b hb1
 refine ⟨hk5, fun b hb => ?_, ⟨v', hv5, ?_, trivial⟩, hkb.trans (fun b hb => hkk b (Nat.lt_of_lt_of_le hb.1 hW) hb.2 (fun e => by have := (hvl _ e).1; have := hb.1; omega)), hbl.trans (hb5.mono hw)⟩
 ·have h1 := hkk b hb.lt hb.2.1 (hb.2.2.2 v hv)
  refine ⟨h1, ?_, hb.2.1, (Array.getElem?_eq_some_iff.1 hv5).1, fun u hu eu => ?_⟩
  ·rw [World.cell?_of_block (a := ⟨b, 0, none⟩) h1]; exact hb.1
  ·have h2 := (show (w4.setCell ⟨ob, 0, none⟩ v').heap[ob]? = _ from hv5).symm.trans hu
   simp at h2
   subst h2
   rcases hwh with q | q
   ·exact hb.2.2.2 v hv (q ▸ eu)
   ·have q1 := q b eu
    have q2 := hb.lt
    simp at q1
    omega
 ·rw [edgeCells_snoc, List.length_append]
  exact hrow4.kept (grownBy_setCell' w4 ob _) (.inr (hv4.not_row hte hrow4).symm)
end Go.MagM
/- slices.Grow, Concat, Min over ints. -/
namespace Go.MagM
open Go.RowKit
section
variable {P : Program}
/-- append, of nothing too. -/
theorem run_append_all (w : World) (base : Nat) (t ty e : TypeId) (i : TypeInfo) (z : Value) (size bytes : Nat) (ht : P.underlying t = some (.slice e)) (hi : P.info? e = some i) (hz : i.zero = some z)
  (hsize : i.size = size) (hby : i.bytes = bytes) (hzs : z.cells.size = size) (hzw : ∀ u ∈ z.cells.toList, NoWord u)
  (v : Value) (n : Nat) (xs : List Value) (hrow : RowN w base e size v n xs)
  (a : Addr) (m c : Nat) (news : List Value) (hl : news.length = m * size) (hnews : ∀ j u, news[j]? = some u → w.cell? (a.add j) = some u) (h1 : ∀ u ∈ news, u.oneCell' = true) (hnw : ∀ u ∈ news, NoWord u)
  (h63 : n + m ≤ maxLen) (hbytes : (n + m) * bytes ≤ 140737488355328) (hbase : base ≤ w.heap.size) :
  ∃ v' w', (Builtin.append_ #[t, t] ty #[v, .slice (some a) m c]).run P w = .ok v' w' ∧ RowN w' base e size v' (n + m) (xs ++ news) ∧ w.grownBy w' v.ownBlock ∧ Kept w w' := by
 by_cases hm : m = 0
 ·subst hm
  obtain rfl : news = [] := List.eq_nil_of_length_eq_zero (by omega)
  refine ⟨v, w, ?_, by rw [List.append_nil]; exact hrow, ⟨rfl, rfl, rfl, Nat.le_refl _, fun k _ _ => rfl⟩, Kept.refl w⟩
  rcases hrow.2 with ⟨rfl, rfl⟩ | ⟨g, cap, cur, rfl, _, _, hnc, _⟩
  ·simp [Builtin.append_, run_underlying ht, sizeOf, typeInfo, hi, Builtin.lenOf, Builtin.firstCells, loadCells, loadCellsFrom]
  ·simp [Builtin.append_, run_underlying ht, sizeOf, typeInfo, hi, Builtin.lenOf, Builtin.firstCells, loadCells, loadCellsFrom, storeCells, hnc]
 ·exact run_append_row w base t ty e i z size bytes ht hi hz hsize hby hzs hzw v n xs hrow a m c news (by omega) hl hnews h1 hnw h63 hbytes hbase
/-- append of so many zeros to nothing: room for as many. -/
theorem run_append_made (w : World) (base : Nat) (t u ty e : TypeId) (i : TypeInfo) (z : Value) (ht : P.underlying t = some (.slice e)) (hu : P.underlying u = some (.int .i64)) (hi : P.info? e = some i) (hz : i.zero = some z)
  (hzs : z.cells.size = i.size) (hzw : ∀ u ∈ z.cells.toList, NoWord u) (hs0 : 0 < i.size)
  (n : Nat) (h0 : 0 < n) (h63 : n ≤ maxLen) (hbytes : n * i.bytes ≤ 140737488355328) (hbase : base ≤ w.heap.size) :
  ∃ g c w', (Builtin.append_ #[t, u] ty #[.slice none 0 0, .int .i64 (n : Int)]).run P w = .ok (.slice (some ⟨g, 0, none⟩) n c) w' ∧ n ≤ c ∧ RowN w' base e i.size (.slice (some ⟨g, 0, none⟩) 0 c) 0 [] ∧ Below w.heap.size w w' := by
 have hge := grownCap_ge w n 0 e
 have hcm : grownCap w n 0 e ≤ maxLen := grownCap_le_maxLen w n 0 e h63
 have hm : maxLen = 9223372036854775807 := rfl
 refine ⟨w.heap.size, grownCap w n 0 e, w.drew.alloc (.cells (Builtin.zeroCells z.cells n ++ Builtin.zeroCells z.cells (grownCap w n 0 e - n)) e), ?_, hge, ⟨by simp, .inr ⟨w.heap.size, _, _, rfl, hbase, heap_alloc_new w.drew _, Nat.zero_le _, hcm, ?_, by simp, ?_⟩⟩, (Below.refl _ _).drew'.alloc (Nat.le_refl _) _⟩
 ·have hn : ¬ n = 0 := by omega
  have hns : ¬ n * i.size = 0 := Nat.ne_of_gt (Nat.mul_pos h0 hs0)
  have hw : IntKind.i64.wrap (n : Int) = (n : Int) := by rw [IntKind.wrap_i64]; omega
  have hneg : ¬ (n : Int) < 0 := by omega
  have h48 : ¬ (281474976710656 : Int) < (n : Int) * (i.bytes : Int) := by
   have : ((n * i.bytes : Nat) : Int) = (n : Int) * (i.bytes : Int) := by push_cast; rfl
   omega
  have h63' : ¬ (9223372036854775807 < (n : Int)) := by omega
  have h48' : ¬ (281474976710656 < Builtin.nextslicecap n 0 * i.bytes) := by rw [nextslicecap_zero h0]; omega
  simp [Builtin.append_, run_underlying ht, run_underlying hu, sizeOf, typeInfo, zeroValue, hi, hz, hw, hneg, h48, hn, hns, h63', h48', Question.forced, run_firstCells_none, newRow, grownCap, asInt, asIntOf]
 ·rw [Array.size_append, size_zeroCells, size_zeroCells, hzs, ← Nat.add_mul]
  congr 1; omega
 ·intro u hu
  rw [Array.toList_append, List.mem_append] at hu
  rcases hu with hu | hu
  ·exact noWord_zero hzw _ u hu
  ·exact noWord_zero hzw _ u hu
theorem wp_append_two {w : World} {o : Oper} {a : Act} {K : Act → World → Prop} {Q : Exit → Act → World → Prop} (s x : Operand) (t t2 : TypeId)
  (ho : o.op = .call { callee := .builtin .append, args := #[s, x], argTypes := #[t, t2] })
  {v v' : Value} {u : Value} {w' : World} (hs : a.eval s = v) (hx : a.eval x = u) (hr : (Builtin.append_ #[t, t2] o.type #[v, u]).run P w = .ok v' w')
  (h : K (a.put o.dst v') w') : o.wp P a w K Q := by
 unfold Oper.wp execOp
 simp only [ho, resolve, invoke, builtin, Sem.run_bind, Sem.run_pure, Result.andThen_ok, List.map_toArray, List.map_cons, List.map_nil, hs, hx, hr]
 exact h
theorem wpList_append_two {ops : Array Oper} {rest : List Oper} {w : World} {o : Oper} {a : Act} {Q : Exit → Act → World → Prop} (hgd : o.guard = none) (s x : Operand) (t t2 : TypeId)
  (ho : o.op = .call { callee := .builtin .append, args := #[s, x], argTypes := #[t, t2] })
  {v v' : Value} {u : Value} {w' : World} (hs : a.eval s = v) (hx : a.eval x = u) (hr : (Builtin.append_ #[t, t2] o.type #[v, u]).run P w = .ok v' w')
  (h : wpList P ops Q rest (a.put o.dst v') w') : wpList P ops Q (o :: rest) a w := wpList_plain hgd fun _ hK => wp_append_two s x t t2 ho hs hx hr (hK _ _ h)
end
/-- The least of the first so many. -/
def minZ (zs : List Int) : Nat → Int
 | 0 => zs.headD 0
 | k + 1 => min (minZ zs k) (zs.getD k 0)
theorem minZ_mem {zs : List Int} (h0 : 0 < zs.length) : ∀ k, k ≤ zs.length → minZ zs k ∈ zs
 | 0, _ => by
  cases zs with
  | nil => simp at h0
  | cons a r => simp [minZ]
 | k + 1, hk => by
  have h := minZ_mem h0 k (by omega)
  rw [minZ]
  have e : zs.getD k 0 = zs[k] := by simp [show k < zs.length by omega]
  rw [e]
  rcases Int.le_total (minZ zs k) zs[k] with g | g
  ·rw [Int.min_eq_left g]; exact h
  ·rw [Int.min_eq_right g]; exact List.getElem_mem (by omega)
theorem idxZ_mem {zs : List Int} {x : Int} (h : x ∈ zs) : ∃ k : Nat, idxZ zs x = (k : Int) ∧ k < zs.length := by
 unfold idxZ
 cases hf : zs.findIdx? (· == x) with
 | none =>
  rw [List.findIdx?_eq_none_iff] at hf
  exact absurd (hf x h) (by simp)
 | some k =>
  rw [List.findIdx?_eq_some_iff_getElem] at hf
  exact ⟨k, rfl, hf.1⟩
/-- A border, the least point first. -/
def hullL (l : List Int) : List Int := l.drop (idxZ l (minZ l l.length)).toNat ++ l.take (idxZ l (minZ l l.length)).toNat
theorem hullL_len (l : List Int) : (hullL l).length = l.length := by
 unfold hullL
 rw [List.length_append, List.length_drop, List.length_take]; omega
/-- Two rows, as many of them as have come. -/
def catK (xs ys : List Value) : Nat → List Value
 | 0 => []
 | 1 => xs
 | _ => xs ++ ys
end Go.MagM
namespace Go.Proofs.Ytecnnpkpgbbfkaa
open Go.RowKit Go.MagM
set_option maxRecDepth 100000 in
set_option maxHeartbeats 4000000 in
theorem growI_any (n : Nat) (h0 : 0 < n) (hn9 : n ≤ 1000000) (w : World) :
  Calls Try.prog 49 #[.slice none 0 0, .int .i64 (n : Int)] w fun e w' => ∃ g c, e = .returned (.slice (some ⟨g, 0, none⟩) 0 c) ∧ RowN w' w.heap.size 3 1 (.slice (some ⟨g, 0, none⟩) 0 c) 0 [] ∧ Below w.heap.size w w' := by
 obtain ⟨i0, hi, hz0, hz1, hz2⟩ := info_parts infoI
 obtain ⟨g, c, wa, hrun, hnc, hrow, hb⟩ := run_append_made (P := Try.prog) w w.heap.size 38 3 38 3 i0 (.int .i64 0) (by kernel_rfl) (by kernel_rfl) hi hz0 (by rw [hz1]; rfl) (by intro u hu; simp [Value.cells] at hu; subst hu; exact NoWord.int _) (by omega) n h0 (by unfold maxLen; omega) (by rw [hz2]; omega) (Nat.le_refl _)
 rw [hz1] at hrow
 have HR := Lib.hid hrow; have HB := Lib.hid hb
 clear hrow hb hi hz0 hz1 hz2
 have hp : (0 : Int) < (n : Int) := by omega
 go_enter Try.func49, Try.ntmps49
 go_wp2_with (refine wpList_append_two rfl _ _ 38 3 rfl rfl rfl hrun ?_)
 clear hrun
 go_wp2
 go_ret
 exact ⟨g, c, rfl, HR.out, HB.out⟩
set_option maxRecDepth 100000 in
set_option maxHeartbeats 4000000 in
theorem minI_any (g n c : Nat) (zs : List Int) (w : World) (hn : zs.length = n) (h0 : 0 < n) (hn9 : n ≤ 1000000) (hc : ∀ j v, zs[j]? = some v → w.cell? ⟨g, j, none⟩ = some (.int .i64 v)) :
  Calls Try.prog 29 #[.slice (some ⟨g, 0, none⟩) n c] w fun e w' => e = .returned (.int .i64 (minZ zs n)) ∧ w = w' := by
 obtain ⟨z0, hz0⟩ : ∃ z, zs[0]? = some z := ⟨_, List.getElem?_eq_getElem (by omega)⟩
 have c0 := hc 0 z0 hz0
 have h1 : minZ zs 1 = z0 := by
  cases zs with
  | nil => simp at hz0
  | cons a r => simp at hz0; subst hz0; simp [minZ]
 have HC := Lib.hid hc; have HN := Lib.hid hn; have H1 := Lib.hid h1
 clear hc hn h1 hz0
 have hn1 : ¬ (n : Int) < 1 := by omega
 go_enter Try.func29, Try.ntmps29
 go_wp2
 clear c0
 go_loop [3, 4] (fun mv iv => ∃ k : Nat, 1 ≤ k ∧ k ≤ n ∧ iv = .int .i64 (k : Int) ∧ mv = .int .i64 (minZ zs k)) (fun _ iv => n - (intOf iv).toNat)
 case atStart => exact ⟨1, by omega, by omega, rfl, by rw [H1.out]⟩
 case round =>
  obtain ⟨k, hk1, hk, rfl, rfl⟩ := hrel
  by_cases hlt : k < n
  ·obtain ⟨y, hy⟩ : ∃ y, zs[k]? = some y := ⟨_, List.getElem?_eq_getElem (by rw [HN.out]; exact hlt)⟩
   have hcell := HC.out k y hy
   have HM := Lib.hid (show minZ zs (k + 1) = min (minZ zs k) y by rw [minZ]; congr 1; simp [List.getD, hy])
   obtain ⟨m, hm⟩ : ∃ m, minZ zs k = m := ⟨_, rfl⟩
   have HMM := Lib.hid hm
   rw [hm]
   have b1 : (0 : Int) ≤ (k : Int) := by omega
   have b2 : (k : Int) < (n : Int) := by omega
   clear hy hm
   go_wp2
   go_round
   case rel =>
    refine ⟨k + 1, by omega, by omega, by go_num, ?_⟩
    rw [HM.out, HMM.out] <;> congr 1 <;> (by_cases hc : y < m <;> first | (rw [if_pos hc]; omega) | (rw [if_neg hc]; omega) | omega)
   case measure => simp [intOf]; omega
  ·obtain rfl : k = n := by omega
   go_wp2
   go_ret
   exact ⟨rfl, rfl⟩
set_option maxRecDepth 100000 in
set_option maxHeartbeats 4000000 in
theorem concatI_any (sb sc n1 c1 n2 c2 : Nat) (a b : Addr) (xs ys : List Value) (w : World) (h0 : 0 < n1 + n2) (h9 : n1 + n2 ≤ 1000000) (hx : xs.length = n1) (hy : ys.length = n2) (hs : Box w sb [.slice (some a) n1 c1, .slice (some b) n2 c2])
  (hcx : ∀ j u, xs[j]? = some u → w.cell? (a.add j) = some u) (hcy : ∀ j u, ys[j]? = some u → w.cell? (b.add j) = some u) (h1 : ∀ u ∈ xs ++ ys, ∃ z : Int, u = .int .i64 z) :
  Calls Try.prog 30 #[.slice (some ⟨sb, 0, none⟩) 2 sc] w fun e w' => ∃ g c, e = .returned (.slice (some ⟨g, 0, none⟩) (n1 + n2) c) ∧ RowN w' w.heap.size 3 1 (.slice (some ⟨g, 0, none⟩) (n1 + n2) c) (n1 + n2) (xs ++ ys) ∧ Below w.heap.size w w' := by
 obtain ⟨i0, hi, hz0, hz1, hz2⟩ := info_parts infoI
 have HI := Lib.hid hi; have HZ0 := Lib.hid hz0; have HZ1 := Lib.hid hz1; have HZ2 := Lib.hid hz2
 have hone : ∀ u ∈ xs ++ ys, u.oneCell' = true := fun u hu => by obtain ⟨z, rfl⟩ := h1 u hu; rfl
 have hnow : ∀ u ∈ xs ++ ys, NoWord u := fun u hu => by obtain ⟨z, rfl⟩ := h1 u hu; exact NoWord.int _
 have d0 := hs.c 0 _ rfl; have d1 := hs.c 1 _ rfl
 have HS := Lib.hid hs; have HX := Lib.hid hx; have HY := Lib.hid hy; have HCX := Lib.hid hcx; have HCY := Lib.hid hcy; have HONE := Lib.hid hone; have HNOW := Lib.hid hnow
 clear hi hz0 hz1 hz2 hs hx hy hcx hcy hone hnow h1
 obtain ⟨sz, hsz⟩ : ∃ f : Nat → Nat, f = fun k => if k = 0 then 0 else if k = 1 then n1 else n1 + n2 := ⟨_, rfl⟩
 have s0 : sz 0 = 0 := by rw [hsz]; rfl
 have s1 : sz 1 = n1 := by rw [hsz]; rfl
 have s2 : sz 2 = n1 + n2 := by rw [hsz]; rfl
 clear hsz
 have S0 := Lib.hid s0; have S1 := Lib.hid s1; have S2 := Lib.hid s2
 clear s0 s1 s2
 go_enter Try.func30, Try.ntmps30
 go_wp2
 go_loop [3, 5, 11] (fun sv _ iv => ∃ k : Nat, k ≤ 2 ∧ iv = .int .i64 (k : Int) ∧ sv = .int .i64 (sz k : Int)) (fun _ _ iv => 2 - (intOf iv).toNat)
 case atStart => exact ⟨0, by omega, rfl, by rw [S0.out]; rfl⟩
 case round =>
  obtain ⟨k, hk, rfl, rfl⟩ := hrel
  obtain rfl | rfl | rfl : k = 0 ∨ k = 1 ∨ k = 2 := by omega
  ·rw [S0.out]
   have n1b : ¬ (n1 : Int) < 0 := by omega
   go_wp2
   go_round
   case rel => exact ⟨1, by omega, rfl, by rw [S1.out]⟩
   case measure => simp [intOf]
  ·rw [S1.out]
   have n1b : ¬ ((n1 : Int) + (n2 : Int)) < 0 := by omega
   go_wp2
   go_round
   case rel => exact ⟨2, by omega, rfl, by rw [S2.out]; go_num⟩
   case measure => simp [intOf]
  ·rw [S2.out]
   have HG := Lib.hid (growI_any (n1 + n2) h0 h9 w)
   have e2 : ((2 : Nat) : Int) = 2 := rfl
   clear d0 d1
   go_wp2_with fail
   refine HG.out.mono ?_
   rintro e wg ⟨g, c, rfl, hrow, hb⟩
   have hs2 := HS.out.below hb
   have d0 := hs2.c 0 _ rfl; have d1 := hs2.c 1 _ rfl
   have HROW := Lib.hid hrow; have HB := Lib.hid hb
   have hbs := hb.size
   clear hrow hb hs2
   go_wp2
   clear d0 d1
   go_loopw [6, 8, 27] (fun nv _ iv wr => ∃ k : Nat, k ≤ 2 ∧ iv = .int .i64 (k : Int) ∧ RowN wr w.heap.size 3 1 nv (sz k) (catK xs ys k) ∧ Below w.heap.size w wr) (fun _ _ iv _ => 2 - (intOf iv).toNat)
   case atStart => exact ⟨0, by omega, rfl, by rw [S0.out]; exact HROW.out, HB.out⟩
   case round =>
    obtain ⟨k, hk, rfl, hrow, hb⟩ := hrel
    have hs2 := HS.out.below hb
    have d0 := hs2.c 0 _ rfl; have d1 := hs2.c 1 _ rfl
    have hbs := hb.size
    obtain rfl | rfl | rfl : k = 0 ∨ k = 1 ∨ k = 2 := by omega
    ·rw [S0.out] at hrow
     obtain ⟨v', w', hrun, hrow', hgr, -⟩ := run_append_all (P := Try.prog) wr w.heap.size 38 38 3 i0 (.int .i64 0) 1 8 (by kernel_rfl) HI.out HZ0.out HZ1.out HZ2.out rfl (by intro u hu; simp [Value.cells] at hu; subst hu; exact NoWord.int _) _ 0 _ hrow a n1 c1 xs (by rw [HX.out]; omega)
      (fun j u hj => (hb.cell (World.block_lt_of_cell? w _ (HCX.out j u hj))).trans (HCX.out j u hj)) (fun u hu => HONE.out u (by simp [hu])) (fun u hu => HNOW.out u (by simp [hu])) (by unfold maxLen; omega) (by omega) hbs
     have HR := Lib.hid hrow'; have HB2 := Lib.hid (hb.grown hgr hbs (fun q hq => (hrow.lt q hq).1))
     clear hrow hb hs2 hrow' hgr
     go_wp2_with (refine wpList_append_row rfl _ _ 38 rfl rfl rfl hrun ?_)
     clear hrun d0 d1
     go_wp2
     exact ⟨⟨1, by omega, rfl, by rw [S1.out]; simpa [catK] using HR.out, HB2.out⟩, by simp [intOf]⟩
    ·rw [S1.out] at hrow
     obtain ⟨v', w', hrun, hrow', hgr, -⟩ := run_append_all (P := Try.prog) wr w.heap.size 38 38 3 i0 (.int .i64 0) 1 8 (by kernel_rfl) HI.out HZ0.out HZ1.out HZ2.out rfl (by intro u hu; simp [Value.cells] at hu; subst hu; exact NoWord.int _) _ n1 _ hrow b n2 c2 ys (by rw [HY.out]; omega)
      (fun j u hj => (hb.cell (World.block_lt_of_cell? w _ (HCY.out j u hj))).trans (HCY.out j u hj)) (fun u hu => HONE.out u (by simp [hu])) (fun u hu => HNOW.out u (by simp [hu])) (by unfold maxLen; omega) (by omega) hbs
     have HR := Lib.hid hrow'; have HB2 := Lib.hid (hb.grown hgr hbs (fun q hq => (hrow.lt q hq).1))
     clear hrow hb hs2 hrow' hgr
     go_wp2_with (refine wpList_append_row rfl _ _ 38 rfl rfl rfl hrun ?_)
     clear hrun d0 d1
     go_wp2
     exact ⟨⟨2, by omega, rfl, by rw [S2.out]; simpa [catK] using HR.out, HB2.out⟩, by simp [intOf]⟩
    ·rw [S2.out] at hrow
     have hrow2 : RowN wr w.heap.size 3 1 _ (n1 + n2) (xs ++ ys) := hrow
     have HB2 := Lib.hid hb
     rcases hrow2.2 with ⟨h1, h2⟩ | ⟨g2, cap, cur, h1, -⟩
     ·omega
     ·have HR := Lib.hid hrow2
      have e2 : ((2 : Nat) : Int) = 2 := rfl
      clear hrow hb hs2 hrow2 d0 d1
      subst h1
      go_wp2
      go_ret
      exact ⟨g2, cap, rfl, HR.out, HB2.out⟩
end Go.Proofs.Ytecnnpkpgbbfkaa
