/- The statement SpotMoves, walked. -/
import Derived.Test.YtkcfaddilknelaaPartl
import Derived.LoopN
import Derived.Test.YtkcfaddilknelaaPartk
import Derived.Test.YtkcfaddilknelaaParti
namespace Go.Proofs.Ytkcfaddilknelaa
open Go.RowKit Go.MagM
set_option maxRecDepth 100000 in
set_option maxHeartbeats 32000000 in
theorem SpotMoves_n (x0 x1 y0 y1 z0 z1 t0 t1 a0 a1 b0 b1 v0 v1 c0 c1 d0 d1 u0 u1 r0 r1 : Int) (hm : bits .and .i64 t0 65535 = r0 ∧ bits .and .i64 t1 65535 = r1 ∧ bits .and .i64 x0 65535 = a0 ∧ bits .and .i64 x1 65535 = a1 ∧ bits .and .i64 y0 65535 = b0 ∧ bits .and .i64 y1 65535 = b1 ∧ bits .and .i64 z0 65535 = v0 ∧ bits .and .i64 z1 65535 = v1 ∧ IntKind.i64.wrap (r0 - a1) = c0 ∧ IntKind.i64.wrap (r1 + a0) = c1 ∧ IntKind.i64.wrap (r0 - b1) = d0 ∧ IntKind.i64.wrap (r1 + b0) = d1 ∧ IntKind.i64.wrap (r0 - v1) = u0 ∧ IntKind.i64.wrap (r1 + v0) = u1) (hr1 : 0 ≤ r0) (hr2 : r0 ≤ 65535) (hr3 : 0 ≤ r1) (hr4 : r1 ≤ 65535) (ha0 : InP a0) (ha1 : InP a1) (hb0 : InP b0) (hb1 : InP b1) (hv0 : InP v0) (hv1 : InP v1) (hc0 : InP c0) (hc1 : InP c1) (hd0 : InP d0) (hd1 : InP d1) (hu0 : InP u0) (hu1 : InP u1) (hc : (crs a0 a1 b0 b1 v0 v1).sign = 0) (hd : (crs c0 c1 d0 d1 u0 u1).sign = 0) (w : World) :
    Calls Try.prog 8 #[.agg #[.int .i64 x0, .int .i64 x1, .int .i64 y0, .int .i64 y1, .int .i64 z0, .int .i64 z1], .agg #[.int .i64 t0, .int .i64 t1]] w fun e w' => e = .returned (.bool true) ∧ Below w.heap.size w w' := by
  have hB_0 := Below.refl w.heap.size w
  have HA0 := Lib.hid ha0; have HA1 := Lib.hid ha1; have HB0 := Lib.hid hb0; have HB1 := Lib.hid hb1; have HV0 := Lib.hid hv0; have HV1 := Lib.hid hv1; have HC0 := Lib.hid hc0; have HC1 := Lib.hid hc1; have HD0 := Lib.hid hd0; have HD1 := Lib.hid hd1; have HU0 := Lib.hid hu0; have HU1 := Lib.hid hu1; have HM := Lib.hid hm; have HR1 := Lib.hid hr1; have HR2 := Lib.hid hr2; have HR3 := Lib.hid hr3; have HR4 := Lib.hid hr4; have HC := Lib.hid hc; have HD := Lib.hid hd
  clear ha0 ha1 hb0 hb1 hv0 hv1 hc0 hc1 hd0 hd1 hu0 hu1 hm hr1 hr2 hr3 hr4 hc hd
  obtain ⟨e0, e1, e2, e3, e4, e5, e6, e7, e8, e9, e10, e11, e12, e13⟩ := HM.out
  obtain ⟨w1, hw1, pl_0, hb1, hs1⟩ := new_box w (w.heap.size) rfl [.int .i64 x0, .int .i64 x1, .int .i64 y0, .int .i64 y1, .int .i64 z0, .int .i64 z1] 56
  have hb1' : Below w.heap.size w w1 := hb1.mono (by omega)
  clear hb1
  have hB_1 := hB_0.trans (hb1'.mono hB_0.size)
  clear hb1' hB_0
  obtain ⟨w2, hw2, pt_0, hb2, hs2⟩ := new_box w1 (w.heap.size + 1) hs1 [.int .i64 t0, .int .i64 t1] 23
  have hb2' : Below w1.heap.size w1 w2 := hb2.mono (by omega)
  clear hb2
  have hB_2 := hB_1.trans (hb2'.mono hB_1.size)
  have pl_1 := pl_0.below hb2'
  clear hb2' hB_1 pl_0
  go_enter Try.func8, Try.ntmps8
  obtain ⟨ple0, ple1, ple2, ple3, ple4, ple5, ple6, ple7, ple8, ple9, ple10, ple11⟩ := pl_1.open6
  obtain ⟨pte0, pte1, pte2, pte3⟩ := pt_0.open2
  go_wp2_with fail
  refine (sfit_any _).mono ?_
  rintro e w3 ⟨rfl, hb3⟩
  clear ple0 ple1 ple2 ple3 ple4 ple5 ple6 ple7 ple8 ple9 ple10 ple11 pte0 pte1 pte2 pte3
  have hB_3 := hB_2.trans (hb3.mono hB_2.size)
  have pl_2 := pl_1.below hb3
  have pt_1 := pt_0.below hb3
  clear hb3 hB_2 pl_1 pt_0
  obtain ⟨ple0, ple1, ple2, ple3, ple4, ple5, ple6, ple7, ple8, ple9, ple10, ple11⟩ := pl_2.open6
  obtain ⟨pte0, pte1, pte2, pte3⟩ := pt_1.open2
  clear ple0 ple1 ple2 ple3 ple4 ple5 ple6 ple7 ple8 ple9 ple10 ple11 pte0 pte1 pte2 pte3
  obtain ⟨sf1a, sf1b, sf1c, sf1d⟩ := pt_1.open2
  obtain ⟨sg1a, sg1b⟩ := Box.put2 pt_1 (.int .i64 r0)
  have hB_4 := below_setAll hB_3 (g := w.heap.size + 1) (by omega) [.int .i64 r0, .int .i64 r1]
  have pl_3 := pl_2.farAll (g' := w.heap.size + 1) (by omega) [.int .i64 r0, .int .i64 r1]
  have pt_2 := pt_1.setAll [.int .i64 r0, .int .i64 r1] rfl
  simp only [setAll, Nat.zero_add] at hB_4 pl_3 pt_2
  obtain ⟨w4, hstw4⟩ : ∃ q, (World.setCell (World.setCell w3 ⟨w.heap.size + 1, 0, none⟩ (.int .i64 r0)) ⟨w.heap.size + 1, 1, none⟩ (.int .i64 r1)) = q := ⟨_, rfl⟩
  simp only [hstw4] at hB_4 pl_3 pt_2
  have hszw4 : w4.heap.size = w3.heap.size := by rw [← hstw4]; simp [World.setCell]
  have hl1pl := pl_3.lt
  have hl1pt := pt_2.lt
  have hl1B := hB_4.size
  obtain ⟨w5, hw5, pp_0, hb5, hs5⟩ := new_box w4 (w3.heap.size) hszw4 [.int .i64 0, .int .i64 0, .int .i64 0, .int .i64 0, .int .i64 0, .int .i64 0] 56
  have hb5' : Below w4.heap.size w4 w5 := hb5.mono (by omega)
  clear hb5
  have hB_5 := hB_4.trans (hb5'.mono hB_4.size)
  have pl_4 := pl_3.below hb5'
  have pt_3 := pt_2.below hb5'
  clear hb5' hB_4 pl_3 pt_2
  obtain ⟨w6, hw6, pq_0, hb6, hs6⟩ := new_box w5 (w3.heap.size + 1) hs5 [.int .i64 0, .int .i64 0, .int .i64 0, .int .i64 0, .int .i64 0, .int .i64 0] 56
  have hb6' : Below w5.heap.size w5 w6 := hb6.mono (by omega)
  clear hb6
  have hB_6 := hB_5.trans (hb6'.mono hB_5.size)
  have pl_5 := pl_4.below hb6'
  have pt_4 := pt_3.below hb6'
  have pp_1 := pp_0.below hb6'
  clear hb6' hB_5 pl_4 pt_3 pp_0
  obtain ⟨ple0, ple1, ple2, ple3, ple4, ple5, ple6, ple7, ple8, ple9, ple10, ple11⟩ := pl_5.open6
  go_wp2
  try rw [hstw4]
  try rw [hw5]
  try rw [hw6]
  clear ple0 ple1 ple2 ple3 ple4 ple5 ple6 ple7 ple8 ple9 ple10 ple11 sf1a sf1b sf1c sf1d sg1a sg1b hB_3 pl_2 pt_1
  clear hs1 hs2 hs5 hs6
  refine wp_loop_rounds 4 ?_
  rw [rounds_succ]
  have hix : ∀ w : World, (Instr.index 56 (.agg #[.int .i64 x0, .int .i64 x1, .int .i64 y0, .int .i64 y1, .int .i64 z0, .int .i64 z1]) (.int .i64 0)).run Try.prog w = .ok (.agg #[.int .i64 x0, .int .i64 x1]) w := fun _ => by kernel_rfl
  have hl2pl := pl_5.lt
  have hl2pt := pt_4.lt
  have hl2pp := pp_1.lt
  have hl2pq := pq_0.lt
  have hl2B := hB_6.size
  obtain ⟨w7, hw7, px0_0, hb7, hs7⟩ := new_box w6 (w6.heap.size) rfl [.int .i64 x0, .int .i64 x1] 23
  have hb7' : Below w6.heap.size w6 w7 := hb7.mono (by omega)
  clear hb7
  have hB_7 := hB_6.trans (hb7'.mono hB_6.size)
  have pl_6 := pl_5.below hb7'
  have pt_5 := pt_4.below hb7'
  have pp_2 := pp_1.below hb7'
  have pq_1 := pq_0.below hb7'
  clear hb7' hB_6 pl_5 pt_4 pp_1 pq_0
  have sf2c0 := pp_2.c 0 _ rfl
  have sf2f0 := pp_2.f 0 _ rfl
  have sf2b0 : Box (World.setCell w7 ⟨w3.heap.size, 0, none⟩ (.int .i64 a0)) (w3.heap.size) [.int .i64 a0, .int .i64 0, .int .i64 0, .int .i64 0, .int .i64 0, .int .i64 0] := pp_2.set 0 (.int .i64 a0)
  have sf2c1 := sf2b0.c 1 _ rfl
  have sf2f1 := sf2b0.f 1 _ rfl
  obtain ⟨rdpx00, rdpx01, rdpx02, rdpx03⟩ := px0_0.open2
  go_wp2
  try rw [hw7]
  clear hix sf2c0 sf2f0 sf2b0 sf2c1 sf2f1 rdpx00 rdpx01 rdpx02 rdpx03
  have hB_8 := below_setFrom (g := w3.heap.size) (by omega) [.int .i64 a0, .int .i64 a1] 0 hB_7
  have pl_7 := Box.farFrom (g' := w3.heap.size) (by omega) [.int .i64 a0, .int .i64 a1] 0 pl_6
  have pt_6 := Box.farFrom (g' := w3.heap.size) (by omega) [.int .i64 a0, .int .i64 a1] 0 pt_5
  have pq_2 := Box.farFrom (g' := w3.heap.size) (by omega) [.int .i64 a0, .int .i64 a1] 0 pq_1
  have px0_1 := Box.farFrom (g' := w3.heap.size) (by omega) [.int .i64 a0, .int .i64 a1] 0 px0_0
  simp only [setAll, Nat.zero_add] at hB_8 pl_7 pt_6 pq_2 px0_1
  have pp_3 : Box (World.setCell (World.setCell w7 ⟨w3.heap.size, 0, none⟩ (.int .i64 a0)) ⟨w3.heap.size, 1, none⟩ (.int .i64 a1)) (w3.heap.size) [.int .i64 a0, .int .i64 a1, .int .i64 0, .int .i64 0, .int .i64 0, .int .i64 0] := ((pp_2.set 0 (.int .i64 a0)).set 1 (.int .i64 a1))
  clear hB_7 pl_6 pt_5 pq_1 px0_0 pp_2
  generalize (World.setCell (World.setCell w7 ⟨w3.heap.size, 0, none⟩ (.int .i64 a0)) ⟨w3.heap.size, 1, none⟩ (.int .i64 a1)) = w8 at *
  clear hs7
  have sf3c0 := pq_2.c 0 _ rfl
  have sf3f0 := pq_2.f 0 _ rfl
  have sf3b0 : Box (World.setCell w8 ⟨w3.heap.size + 1, 0, none⟩ (.int .i64 c0)) (w3.heap.size + 1) [.int .i64 c0, .int .i64 0, .int .i64 0, .int .i64 0, .int .i64 0, .int .i64 0] := pq_2.set 0 (.int .i64 c0)
  have sf3c1 := sf3b0.c 1 _ rfl
  have sf3f1 := sf3b0.f 1 _ rfl
  have hB_9 := below_setFrom (g := w3.heap.size + 1) (by omega) [.int .i64 c0, .int .i64 c1] 0 hB_8
  have pl_8 := Box.farFrom (g' := w3.heap.size + 1) (by omega) [.int .i64 c0, .int .i64 c1] 0 pl_7
  have pt_7 := Box.farFrom (g' := w3.heap.size + 1) (by omega) [.int .i64 c0, .int .i64 c1] 0 pt_6
  have pp_4 := Box.farFrom (g' := w3.heap.size + 1) (by omega) [.int .i64 c0, .int .i64 c1] 0 pp_3
  have px0_2 := Box.farFrom (g' := w3.heap.size + 1) (by omega) [.int .i64 c0, .int .i64 c1] 0 px0_1
  simp only [setAll, Nat.zero_add] at hB_9 pl_8 pt_7 pp_4 px0_2
  have pq_3 : Box (World.setCell (World.setCell w8 ⟨w3.heap.size + 1, 0, none⟩ (.int .i64 c0)) ⟨w3.heap.size + 1, 1, none⟩ (.int .i64 c1)) (w3.heap.size + 1) [.int .i64 c0, .int .i64 c1, .int .i64 0, .int .i64 0, .int .i64 0, .int .i64 0] := ((pq_2.set 0 (.int .i64 c0)).set 1 (.int .i64 c1))
  go_region_held3 (fun w' => w'.cell? ⟨w.heap.size + 1, 0, none⟩ = some (.int .i64 r0) ∧ w'.cell? ⟨w.heap.size + 1, 1, none⟩ = some (.int .i64 r1) ∧ w'.cell? ⟨w3.heap.size, 0, none⟩ = some (.int .i64 a0) ∧ w'.cell? ⟨w3.heap.size, 1, none⟩ = some (.int .i64 a1) ∧ w'.cell? ⟨w3.heap.size, 2, none⟩ = some (.int .i64 0) ∧ w'.cell? ⟨w3.heap.size, 3, none⟩ = some (.int .i64 0) ∧ w'.cell? ⟨w3.heap.size, 4, none⟩ = some (.int .i64 0) ∧ w'.cell? ⟨w3.heap.size, 5, none⟩ = some (.int .i64 0))
    (first | with_reducible exact ⟨pt_6.drew.c0, pt_6.drew.c1, pp_3.drew.c0, pp_3.drew.c1, pp_3.drew.c2, pp_3.drew.c3, pp_3.drew.c4, pp_3.drew.c5⟩ | with_reducible exact ⟨pt_7.drew.c0, pt_7.drew.c1, pp_4.drew.c0, pp_4.drew.c1, pp_4.drew.c2, pp_4.drew.c3, pp_4.drew.c4, pp_4.drew.c5⟩ | fail)
    (fail)
  clear hB_8 pl_7 pt_6 pp_3 px0_1 pq_2
  clear sf3c0 sf3f0 sf3b0 sf3c1 sf3f1
  have hB_10 := hB_9.drew'
  have pl_9 := pl_8.drew
  have pt_8 := pt_7.drew
  have pp_5 := pp_4.drew
  have pq_4 := pq_3.drew
  have px0_3 := px0_2.drew
  clear hB_9 pl_8 pt_7 pp_4 pq_3 px0_2
  generalize World.drew (World.setCell (World.setCell w8 ⟨w3.heap.size + 1, 0, none⟩ (.int .i64 c0)) ⟨w3.heap.size + 1, 1, none⟩ (.int .i64 c1)) = w9 at *
  clear px0_3
  go_wp2
  rw [rounds_succ]
  have hix : ∀ w : World, (Instr.index 56 (.agg #[.int .i64 x0, .int .i64 x1, .int .i64 y0, .int .i64 y1, .int .i64 z0, .int .i64 z1]) (.int .i64 1)).run Try.prog w = .ok (.agg #[.int .i64 y0, .int .i64 y1]) w := fun _ => by kernel_rfl
  have hl3pl := pl_9.lt
  have hl3pt := pt_8.lt
  have hl3pp := pp_5.lt
  have hl3pq := pq_4.lt
  have hl3B := hB_10.size
  obtain ⟨w10, hw10, px1_0, hb10, hs10⟩ := new_box w9 (w9.heap.size) rfl [.int .i64 y0, .int .i64 y1] 23
  have hb10' : Below w9.heap.size w9 w10 := hb10.mono (by omega)
  clear hb10
  have hB_11 := hB_10.trans (hb10'.mono hB_10.size)
  have pl_10 := pl_9.below hb10'
  have pt_9 := pt_8.below hb10'
  have pp_6 := pp_5.below hb10'
  have pq_5 := pq_4.below hb10'
  clear hb10' hB_10 pl_9 pt_8 pp_5 pq_4
  have sf4c0 := pp_6.c 2 _ rfl
  have sf4f0 := pp_6.f 2 _ rfl
  have sf4b0 : Box (World.setCell w10 ⟨w3.heap.size, 2, none⟩ (.int .i64 b0)) (w3.heap.size) [.int .i64 a0, .int .i64 a1, .int .i64 b0, .int .i64 0, .int .i64 0, .int .i64 0] := pp_6.set 2 (.int .i64 b0)
  have sf4c1 := sf4b0.c 3 _ rfl
  have sf4f1 := sf4b0.f 3 _ rfl
  obtain ⟨rdpx10, rdpx11, rdpx12, rdpx13⟩ := px1_0.open2
  go_wp2
  try rw [hw10]
  clear hix sf4c0 sf4f0 sf4b0 sf4c1 sf4f1 rdpx10 rdpx11 rdpx12 rdpx13
  have hB_12 := below_setFrom (g := w3.heap.size) (by omega) [.int .i64 b0, .int .i64 b1] 2 hB_11
  have pl_11 := Box.farFrom (g' := w3.heap.size) (by omega) [.int .i64 b0, .int .i64 b1] 2 pl_10
  have pt_10 := Box.farFrom (g' := w3.heap.size) (by omega) [.int .i64 b0, .int .i64 b1] 2 pt_9
  have pq_6 := Box.farFrom (g' := w3.heap.size) (by omega) [.int .i64 b0, .int .i64 b1] 2 pq_5
  have px1_1 := Box.farFrom (g' := w3.heap.size) (by omega) [.int .i64 b0, .int .i64 b1] 2 px1_0
  simp only [setAll, Nat.reduceAdd] at hB_12 pl_11 pt_10 pq_6 px1_1
  have pp_7 : Box (World.setCell (World.setCell w10 ⟨w3.heap.size, 2, none⟩ (.int .i64 b0)) ⟨w3.heap.size, 3, none⟩ (.int .i64 b1)) (w3.heap.size) [.int .i64 a0, .int .i64 a1, .int .i64 b0, .int .i64 b1, .int .i64 0, .int .i64 0] := ((pp_6.set 2 (.int .i64 b0)).set 3 (.int .i64 b1))
  clear hB_11 pl_10 pt_9 pq_5 px1_0 pp_6
  generalize (World.setCell (World.setCell w10 ⟨w3.heap.size, 2, none⟩ (.int .i64 b0)) ⟨w3.heap.size, 3, none⟩ (.int .i64 b1)) = w11 at *
  clear hs10
  have sf5c0 := pq_6.c 2 _ rfl
  have sf5f0 := pq_6.f 2 _ rfl
  have sf5b0 : Box (World.setCell w11 ⟨w3.heap.size + 1, 2, none⟩ (.int .i64 d0)) (w3.heap.size + 1) [.int .i64 c0, .int .i64 c1, .int .i64 d0, .int .i64 0, .int .i64 0, .int .i64 0] := pq_6.set 2 (.int .i64 d0)
  have sf5c1 := sf5b0.c 3 _ rfl
  have sf5f1 := sf5b0.f 3 _ rfl
  have hB_13 := below_setFrom (g := w3.heap.size + 1) (by omega) [.int .i64 d0, .int .i64 d1] 2 hB_12
  have pl_12 := Box.farFrom (g' := w3.heap.size + 1) (by omega) [.int .i64 d0, .int .i64 d1] 2 pl_11
  have pt_11 := Box.farFrom (g' := w3.heap.size + 1) (by omega) [.int .i64 d0, .int .i64 d1] 2 pt_10
  have pp_8 := Box.farFrom (g' := w3.heap.size + 1) (by omega) [.int .i64 d0, .int .i64 d1] 2 pp_7
  have px1_2 := Box.farFrom (g' := w3.heap.size + 1) (by omega) [.int .i64 d0, .int .i64 d1] 2 px1_1
  simp only [setAll, Nat.reduceAdd] at hB_13 pl_12 pt_11 pp_8 px1_2
  have pq_7 : Box (World.setCell (World.setCell w11 ⟨w3.heap.size + 1, 2, none⟩ (.int .i64 d0)) ⟨w3.heap.size + 1, 3, none⟩ (.int .i64 d1)) (w3.heap.size + 1) [.int .i64 c0, .int .i64 c1, .int .i64 d0, .int .i64 d1, .int .i64 0, .int .i64 0] := ((pq_6.set 2 (.int .i64 d0)).set 3 (.int .i64 d1))
  go_region_held3 (fun w' => w'.cell? ⟨w.heap.size + 1, 0, none⟩ = some (.int .i64 r0) ∧ w'.cell? ⟨w.heap.size + 1, 1, none⟩ = some (.int .i64 r1) ∧ w'.cell? ⟨w3.heap.size, 0, none⟩ = some (.int .i64 a0) ∧ w'.cell? ⟨w3.heap.size, 1, none⟩ = some (.int .i64 a1) ∧ w'.cell? ⟨w3.heap.size, 2, none⟩ = some (.int .i64 b0) ∧ w'.cell? ⟨w3.heap.size, 3, none⟩ = some (.int .i64 b1) ∧ w'.cell? ⟨w3.heap.size, 4, none⟩ = some (.int .i64 0) ∧ w'.cell? ⟨w3.heap.size, 5, none⟩ = some (.int .i64 0))
    (first | with_reducible exact ⟨pt_10.drew.c0, pt_10.drew.c1, pp_7.drew.c0, pp_7.drew.c1, pp_7.drew.c2, pp_7.drew.c3, pp_7.drew.c4, pp_7.drew.c5⟩ | with_reducible exact ⟨pt_11.drew.c0, pt_11.drew.c1, pp_8.drew.c0, pp_8.drew.c1, pp_8.drew.c2, pp_8.drew.c3, pp_8.drew.c4, pp_8.drew.c5⟩ | fail)
    (fail)
  clear hB_12 pl_11 pt_10 pp_7 px1_1 pq_6
  clear sf5c0 sf5f0 sf5b0 sf5c1 sf5f1
  have hB_14 := hB_13.drew'
  have pl_13 := pl_12.drew
  have pt_12 := pt_11.drew
  have pp_9 := pp_8.drew
  have pq_8 := pq_7.drew
  have px1_3 := px1_2.drew
  clear hB_13 pl_12 pt_11 pp_8 pq_7 px1_2
  generalize World.drew (World.setCell (World.setCell w11 ⟨w3.heap.size + 1, 2, none⟩ (.int .i64 d0)) ⟨w3.heap.size + 1, 3, none⟩ (.int .i64 d1)) = w12 at *
  clear px1_3
  go_wp2
  rw [rounds_succ]
  have hix : ∀ w : World, (Instr.index 56 (.agg #[.int .i64 x0, .int .i64 x1, .int .i64 y0, .int .i64 y1, .int .i64 z0, .int .i64 z1]) (.int .i64 2)).run Try.prog w = .ok (.agg #[.int .i64 z0, .int .i64 z1]) w := fun _ => by kernel_rfl
  have hl4pl := pl_13.lt
  have hl4pt := pt_12.lt
  have hl4pp := pp_9.lt
  have hl4pq := pq_8.lt
  have hl4B := hB_14.size
  obtain ⟨w13, hw13, px2_0, hb13, hs13⟩ := new_box w12 (w12.heap.size) rfl [.int .i64 z0, .int .i64 z1] 23
  have hb13' : Below w12.heap.size w12 w13 := hb13.mono (by omega)
  clear hb13
  have hB_15 := hB_14.trans (hb13'.mono hB_14.size)
  have pl_14 := pl_13.below hb13'
  have pt_13 := pt_12.below hb13'
  have pp_10 := pp_9.below hb13'
  have pq_9 := pq_8.below hb13'
  clear hb13' hB_14 pl_13 pt_12 pp_9 pq_8
  have sf6c0 := pp_10.c 4 _ rfl
  have sf6f0 := pp_10.f 4 _ rfl
  have sf6b0 : Box (World.setCell w13 ⟨w3.heap.size, 4, none⟩ (.int .i64 v0)) (w3.heap.size) [.int .i64 a0, .int .i64 a1, .int .i64 b0, .int .i64 b1, .int .i64 v0, .int .i64 0] := pp_10.set 4 (.int .i64 v0)
  have sf6c1 := sf6b0.c 5 _ rfl
  have sf6f1 := sf6b0.f 5 _ rfl
  obtain ⟨rdpx20, rdpx21, rdpx22, rdpx23⟩ := px2_0.open2
  go_wp2
  try rw [hw13]
  clear hix sf6c0 sf6f0 sf6b0 sf6c1 sf6f1 rdpx20 rdpx21 rdpx22 rdpx23
  have hB_16 := below_setFrom (g := w3.heap.size) (by omega) [.int .i64 v0, .int .i64 v1] 4 hB_15
  have pl_15 := Box.farFrom (g' := w3.heap.size) (by omega) [.int .i64 v0, .int .i64 v1] 4 pl_14
  have pt_14 := Box.farFrom (g' := w3.heap.size) (by omega) [.int .i64 v0, .int .i64 v1] 4 pt_13
  have pq_10 := Box.farFrom (g' := w3.heap.size) (by omega) [.int .i64 v0, .int .i64 v1] 4 pq_9
  have px2_1 := Box.farFrom (g' := w3.heap.size) (by omega) [.int .i64 v0, .int .i64 v1] 4 px2_0
  simp only [setAll, Nat.reduceAdd] at hB_16 pl_15 pt_14 pq_10 px2_1
  have pp_11 : Box (World.setCell (World.setCell w13 ⟨w3.heap.size, 4, none⟩ (.int .i64 v0)) ⟨w3.heap.size, 5, none⟩ (.int .i64 v1)) (w3.heap.size) [.int .i64 a0, .int .i64 a1, .int .i64 b0, .int .i64 b1, .int .i64 v0, .int .i64 v1] := ((pp_10.set 4 (.int .i64 v0)).set 5 (.int .i64 v1))
  clear hB_15 pl_14 pt_13 pq_9 px2_0 pp_10
  generalize (World.setCell (World.setCell w13 ⟨w3.heap.size, 4, none⟩ (.int .i64 v0)) ⟨w3.heap.size, 5, none⟩ (.int .i64 v1)) = w14 at *
  clear hs13
  have sf7c0 := pq_10.c 4 _ rfl
  have sf7f0 := pq_10.f 4 _ rfl
  have sf7b0 : Box (World.setCell w14 ⟨w3.heap.size + 1, 4, none⟩ (.int .i64 u0)) (w3.heap.size + 1) [.int .i64 c0, .int .i64 c1, .int .i64 d0, .int .i64 d1, .int .i64 u0, .int .i64 0] := pq_10.set 4 (.int .i64 u0)
  have sf7c1 := sf7b0.c 5 _ rfl
  have sf7f1 := sf7b0.f 5 _ rfl
  have hB_17 := below_setFrom (g := w3.heap.size + 1) (by omega) [.int .i64 u0, .int .i64 u1] 4 hB_16
  have pl_16 := Box.farFrom (g' := w3.heap.size + 1) (by omega) [.int .i64 u0, .int .i64 u1] 4 pl_15
  have pt_15 := Box.farFrom (g' := w3.heap.size + 1) (by omega) [.int .i64 u0, .int .i64 u1] 4 pt_14
  have pp_12 := Box.farFrom (g' := w3.heap.size + 1) (by omega) [.int .i64 u0, .int .i64 u1] 4 pp_11
  have px2_2 := Box.farFrom (g' := w3.heap.size + 1) (by omega) [.int .i64 u0, .int .i64 u1] 4 px2_1
  simp only [setAll, Nat.reduceAdd] at hB_17 pl_16 pt_15 pp_12 px2_2
  have pq_11 : Box (World.setCell (World.setCell w14 ⟨w3.heap.size + 1, 4, none⟩ (.int .i64 u0)) ⟨w3.heap.size + 1, 5, none⟩ (.int .i64 u1)) (w3.heap.size + 1) [.int .i64 c0, .int .i64 c1, .int .i64 d0, .int .i64 d1, .int .i64 u0, .int .i64 u1] := ((pq_10.set 4 (.int .i64 u0)).set 5 (.int .i64 u1))
  go_region_held3 (fun w' => w'.cell? ⟨w.heap.size + 1, 0, none⟩ = some (.int .i64 r0) ∧ w'.cell? ⟨w.heap.size + 1, 1, none⟩ = some (.int .i64 r1) ∧ w'.cell? ⟨w3.heap.size, 0, none⟩ = some (.int .i64 a0) ∧ w'.cell? ⟨w3.heap.size, 1, none⟩ = some (.int .i64 a1) ∧ w'.cell? ⟨w3.heap.size, 2, none⟩ = some (.int .i64 b0) ∧ w'.cell? ⟨w3.heap.size, 3, none⟩ = some (.int .i64 b1) ∧ w'.cell? ⟨w3.heap.size, 4, none⟩ = some (.int .i64 v0) ∧ w'.cell? ⟨w3.heap.size, 5, none⟩ = some (.int .i64 v1))
    (first | with_reducible exact ⟨pt_14.drew.c0, pt_14.drew.c1, pp_11.drew.c0, pp_11.drew.c1, pp_11.drew.c2, pp_11.drew.c3, pp_11.drew.c4, pp_11.drew.c5⟩ | with_reducible exact ⟨pt_15.drew.c0, pt_15.drew.c1, pp_12.drew.c0, pp_12.drew.c1, pp_12.drew.c2, pp_12.drew.c3, pp_12.drew.c4, pp_12.drew.c5⟩ | fail)
    (fail)
  clear hB_16 pl_15 pt_14 pp_11 px2_1 pq_10
  clear sf7c0 sf7f0 sf7b0 sf7c1 sf7f1
  have hB_18 := hB_17.drew'
  have pl_17 := pl_16.drew
  have pt_16 := pt_15.drew
  have pp_13 := pp_12.drew
  have pq_12 := pq_11.drew
  have px2_3 := px2_2.drew
  clear hB_17 pl_16 pt_15 pp_12 pq_11 px2_2
  generalize World.drew (World.setCell (World.setCell w14 ⟨w3.heap.size + 1, 4, none⟩ (.int .i64 u0)) ⟨w3.heap.size + 1, 5, none⟩ (.int .i64 u1)) = w15 at *
  clear px2_3
  go_wp2
  rw [rounds_succ]
  obtain ⟨ppe0, ppe1, ppe2, ppe3, ppe4, ppe5, ppe6, ppe7, ppe8, ppe9, ppe10, ppe11⟩ := pp_13.open6
  obtain ⟨pqe0, pqe1, pqe2, pqe3, pqe4, pqe5, pqe6, pqe7, pqe8, pqe9, pqe10, pqe11⟩ := pq_12.open6
  obtain ⟨pte0, pte1, pte2, pte3⟩ := pt_16.open2
  go_wp2_with fail
  refine (sCentre_n a0 a1 b0 b1 v0 v1 HA0.out HA1.out HB0.out HB1.out HV0.out HV1.out HC.out _).mono ?_
  rintro e w16 ⟨rfl, hb16⟩
  clear ppe0 ppe1 ppe2 ppe3 ppe4 ppe5 ppe6 ppe7 ppe8 ppe9 ppe10 ppe11 pqe0 pqe1 pqe2 pqe3 pqe4 pqe5 pqe6 pqe7 pqe8 pqe9 pqe10 pqe11 pte0 pte1 pte2 pte3
  have hB_19 := hB_18.trans (hb16.mono hB_18.size)
  have pl_18 := pl_17.below hb16
  have pt_17 := pt_16.below hb16
  have pp_14 := pp_13.below hb16
  have pq_13 := pq_12.below hb16
  clear hb16 hB_18 pl_17 pt_16 pp_13 pq_12
  have hl5pl := pl_18.lt
  have hl5pt := pt_17.lt
  have hl5pp := pp_14.lt
  have hl5pq := pq_13.lt
  have hl5B := hB_19.size
  obtain ⟨w17, hw17, ps_0, hb17, hs17⟩ := new_box w16 (w16.heap.size) rfl [.bool false, .slice none 0 0, .slice none 0 0, .bool false, .slice none 0 0, .slice none 0 0] 33
  have hb17' : Below w16.heap.size w16 w17 := hb17.mono (by omega)
  clear hb17
  have hB_20 := hB_19.trans (hb17'.mono hB_19.size)
  have pl_19 := pl_18.below hb17'
  have pt_18 := pt_17.below hb17'
  have pp_15 := pp_14.below hb17'
  have pq_14 := pq_13.below hb17'
  clear hb17' hB_19 pl_18 pt_17 pp_14 pq_13
  skip
  obtain ⟨sf8a, sf8b, sf8c, sf8d, sf8e, sf8f, sf8g, sf8h, sf8i, sf8j, sf8k, sf8l⟩ := ps_0.open6
  obtain ⟨sg8a, sg8b, sg8c, sg8d, sg8e, sg8f, sg8g, sg8h, sg8i, sg8j⟩ := Box.put6 ps_0 (.bool false) (.slice none 0 0) (.slice none 0 0) (.bool false) (.slice none 0 0)
  have hB_21 := below_setAll hB_20 (g := w16.heap.size) (by omega) [.bool false, .slice none 0 0, .slice none 0 0, .bool false, .slice none 0 0, .slice none 0 0]
  have pl_20 := pl_19.farAll (g' := w16.heap.size) (by omega) [.bool false, .slice none 0 0, .slice none 0 0, .bool false, .slice none 0 0, .slice none 0 0]
  have pt_19 := pt_18.farAll (g' := w16.heap.size) (by omega) [.bool false, .slice none 0 0, .slice none 0 0, .bool false, .slice none 0 0, .slice none 0 0]
  have pp_16 := pp_15.farAll (g' := w16.heap.size) (by omega) [.bool false, .slice none 0 0, .slice none 0 0, .bool false, .slice none 0 0, .slice none 0 0]
  have pq_15 := pq_14.farAll (g' := w16.heap.size) (by omega) [.bool false, .slice none 0 0, .slice none 0 0, .bool false, .slice none 0 0, .slice none 0 0]
  have ps_1 := ps_0.setAll [.bool false, .slice none 0 0, .slice none 0 0, .bool false, .slice none 0 0, .slice none 0 0] rfl
  simp only [setAll, Nat.zero_add, Nat.reduceAdd] at hB_21 pl_20 pt_19 pp_16 pq_15 ps_1
  obtain ⟨ppe0, ppe1, ppe2, ppe3, ppe4, ppe5, ppe6, ppe7, ppe8, ppe9, ppe10, ppe11⟩ := pp_16.open6
  obtain ⟨pqe0, pqe1, pqe2, pqe3, pqe4, pqe5, pqe6, pqe7, pqe8, pqe9, pqe10, pqe11⟩ := pq_15.open6
  obtain ⟨pse0, pse1, pse2, pse3, pse4, pse5, pse6, pse7, pse8, pse9, pse10, pse11⟩ := ps_1.open6
  go_wp2_with fail
  clear sf8a sf8b sf8c sf8d sf8e sf8f sf8g sf8h sf8i sf8j sf8k sf8l sg8a sg8b sg8c sg8d sg8e sg8f sg8g sg8h sg8i sg8j hB_20 pl_19 pt_18 pp_15 pq_14 ps_0
  generalize (World.setCell (World.setCell (World.setCell (World.setCell (World.setCell (World.setCell w17 ⟨w16.heap.size, 0, none⟩ (.bool false)) ⟨w16.heap.size, 1, none⟩ (.slice none 0 0)) ⟨w16.heap.size, 2, none⟩ (.slice none 0 0)) ⟨w16.heap.size, 3, none⟩ (.bool false)) ⟨w16.heap.size, 4, none⟩ (.slice none 0 0)) ⟨w16.heap.size, 5, none⟩ (.slice none 0 0)) = w18 at *
  go_wp2_with fail
  refine (sCentre_n c0 c1 d0 d1 u0 u1 HC0.out HC1.out HD0.out HD1.out HU0.out HU1.out HD.out _).mono ?_
  rintro e w19 ⟨rfl, hb19⟩
  clear ppe0 ppe1 ppe2 ppe3 ppe4 ppe5 ppe6 ppe7 ppe8 ppe9 ppe10 ppe11 pqe0 pqe1 pqe2 pqe3 pqe4 pqe5 pqe6 pqe7 pqe8 pqe9 pqe10 pqe11 pse0 pse1 pse2 pse3 pse4 pse5 pse6 pse7 pse8 pse9 pse10 pse11
  have hB_22 := hB_21.trans (hb19.mono hB_21.size)
  have pl_21 := pl_20.below hb19
  have pt_20 := pt_19.below hb19
  have pp_17 := pp_16.below hb19
  have pq_16 := pq_15.below hb19
  have ps_2 := ps_1.below hb19
  clear hb19 hB_21 pl_20 pt_19 pp_16 pq_15 ps_1
  have hl6pl := pl_21.lt
  have hl6pt := pt_20.lt
  have hl6pp := pp_17.lt
  have hl6pq := pq_16.lt
  have hl6ps := ps_2.lt
  have hl6B := hB_22.size
  obtain ⟨w20, hw20, pz_0, hb20, hs20⟩ := new_box w19 (w19.heap.size) rfl [.bool false, .slice none 0 0, .slice none 0 0, .bool false, .slice none 0 0, .slice none 0 0] 33
  have hb20' : Below w19.heap.size w19 w20 := hb20.mono (by omega)
  clear hb20
  have hB_23 := hB_22.trans (hb20'.mono hB_22.size)
  have pl_22 := pl_21.below hb20'
  have pt_21 := pt_20.below hb20'
  have pp_18 := pp_17.below hb20'
  have pq_17 := pq_16.below hb20'
  have ps_3 := ps_2.below hb20'
  clear hb20' hB_22 pl_21 pt_20 pp_17 pq_16 ps_2
  skip
  obtain ⟨sf9a, sf9b, sf9c, sf9d, sf9e, sf9f, sf9g, sf9h, sf9i, sf9j, sf9k, sf9l⟩ := pz_0.open6
  obtain ⟨sg9a, sg9b, sg9c, sg9d, sg9e, sg9f, sg9g, sg9h, sg9i, sg9j⟩ := Box.put6 pz_0 (.bool false) (.slice none 0 0) (.slice none 0 0) (.bool false) (.slice none 0 0)
  have hB_24 := below_setAll hB_23 (g := w19.heap.size) (by omega) [.bool false, .slice none 0 0, .slice none 0 0, .bool false, .slice none 0 0, .slice none 0 0]
  have pl_23 := pl_22.farAll (g' := w19.heap.size) (by omega) [.bool false, .slice none 0 0, .slice none 0 0, .bool false, .slice none 0 0, .slice none 0 0]
  have pt_22 := pt_21.farAll (g' := w19.heap.size) (by omega) [.bool false, .slice none 0 0, .slice none 0 0, .bool false, .slice none 0 0, .slice none 0 0]
  have pp_19 := pp_18.farAll (g' := w19.heap.size) (by omega) [.bool false, .slice none 0 0, .slice none 0 0, .bool false, .slice none 0 0, .slice none 0 0]
  have pq_18 := pq_17.farAll (g' := w19.heap.size) (by omega) [.bool false, .slice none 0 0, .slice none 0 0, .bool false, .slice none 0 0, .slice none 0 0]
  have ps_4 := ps_3.farAll (g' := w19.heap.size) (by omega) [.bool false, .slice none 0 0, .slice none 0 0, .bool false, .slice none 0 0, .slice none 0 0]
  have pz_1 := pz_0.setAll [.bool false, .slice none 0 0, .slice none 0 0, .bool false, .slice none 0 0, .slice none 0 0] rfl
  simp only [setAll, Nat.zero_add, Nat.reduceAdd] at hB_24 pl_23 pt_22 pp_19 pq_18 ps_4 pz_1
  obtain ⟨ppe0, ppe1, ppe2, ppe3, ppe4, ppe5, ppe6, ppe7, ppe8, ppe9, ppe10, ppe11⟩ := pp_19.open6
  obtain ⟨pqe0, pqe1, pqe2, pqe3, pqe4, pqe5, pqe6, pqe7, pqe8, pqe9, pqe10, pqe11⟩ := pq_18.open6
  obtain ⟨pse0, pse1, pse2, pse3, pse4, pse5, pse6, pse7, pse8, pse9, pse10, pse11⟩ := ps_4.open6
  go_wp2_with fail
  clear sf9a sf9b sf9c sf9d sf9e sf9f sf9g sf9h sf9i sf9j sf9k sf9l sg9a sg9b sg9c sg9d sg9e sg9f sg9g sg9h sg9i sg9j hB_23 pl_22 pt_21 pp_18 pq_17 ps_3 pz_0
  generalize (World.setCell (World.setCell (World.setCell (World.setCell (World.setCell (World.setCell w20 ⟨w19.heap.size, 0, none⟩ (.bool false)) ⟨w19.heap.size, 1, none⟩ (.slice none 0 0)) ⟨w19.heap.size, 2, none⟩ (.slice none 0 0)) ⟨w19.heap.size, 3, none⟩ (.bool false)) ⟨w19.heap.size, 4, none⟩ (.slice none 0 0)) ⟨w19.heap.size, 5, none⟩ (.slice none 0 0)) = w21 at *
  go_wp2_with fail
  refine (Orient_is a0 a1 b0 b1 v0 v1 HA0.out HA1.out HB0.out HB1.out HV0.out HV1.out HC.out _).mono ?_
  rintro e w22 ⟨rfl, hb22⟩
  clear ppe0 ppe1 ppe2 ppe3 ppe4 ppe5 ppe6 ppe7 ppe8 ppe9 ppe10 ppe11 pqe0 pqe1 pqe2 pqe3 pqe4 pqe5 pqe6 pqe7 pqe8 pqe9 pqe10 pqe11 pse0 pse1 pse2 pse3 pse4 pse5 pse6 pse7 pse8 pse9 pse10 pse11
  have hB_25 := hB_24.trans (hb22.mono hB_24.size)
  have pl_24 := pl_23.below hb22
  have pt_23 := pt_22.below hb22
  have pp_20 := pp_19.below hb22
  have pq_19 := pq_18.below hb22
  have ps_5 := ps_4.below hb22
  have pz_2 := pz_1.below hb22
  clear hb22 hB_24 pl_23 pt_22 pp_19 pq_18 ps_4 pz_1
  obtain ⟨ppe0, ppe1, ppe2, ppe3, ppe4, ppe5, ppe6, ppe7, ppe8, ppe9, ppe10, ppe11⟩ := pp_20.open6
  go_wp2
  go_ret
  exact ⟨rfl, hB_25⟩
set_option maxRecDepth 100000 in
set_option maxHeartbeats 32000000 in
theorem SpotMoves_s (x0 x1 y0 y1 z0 z1 t0 t1 a0 a1 b0 b1 v0 v1 c0 c1 d0 d1 u0 u1 r0 r1 : Int) (hm : bits .and .i64 t0 65535 = r0 ∧ bits .and .i64 t1 65535 = r1 ∧ bits .and .i64 x0 65535 = a0 ∧ bits .and .i64 x1 65535 = a1 ∧ bits .and .i64 y0 65535 = b0 ∧ bits .and .i64 y1 65535 = b1 ∧ bits .and .i64 z0 65535 = v0 ∧ bits .and .i64 z1 65535 = v1 ∧ IntKind.i64.wrap (r0 - a1) = c0 ∧ IntKind.i64.wrap (r1 + a0) = c1 ∧ IntKind.i64.wrap (r0 - b1) = d0 ∧ IntKind.i64.wrap (r1 + b0) = d1 ∧ IntKind.i64.wrap (r0 - v1) = u0 ∧ IntKind.i64.wrap (r1 + v0) = u1) (hr1 : 0 ≤ r0) (hr2 : r0 ≤ 65535) (hr3 : 0 ≤ r1) (hr4 : r1 ≤ 65535) (ha0 : InP a0) (ha1 : InP a1) (hb0 : InP b0) (hb1 : InP b1) (hv0 : InP v0) (hv1 : InP v1) (hc0 : InP c0) (hc1 : InP c1) (hd0 : InP d0) (hd1 : InP d1) (hu0 : InP u0) (hu1 : InP u1) (hc : crs a0 a1 b0 b1 v0 v1 ≠ 0) (hd : crs c0 c1 d0 d1 u0 u1 ≠ 0) (hx : cx c0 c1 d0 d1 u0 u1 = (r0 : Rat) - cy a0 a1 b0 b1 v0 v1) (hy : cy c0 c1 d0 d1 u0 u1 = (r1 : Rat) + cx a0 a1 b0 b1 v0 v1) (w : World) :
    Calls Try.prog 8 #[.agg #[.int .i64 x0, .int .i64 x1, .int .i64 y0, .int .i64 y1, .int .i64 z0, .int .i64 z1], .agg #[.int .i64 t0, .int .i64 t1]] w fun e w' => e = .returned (.bool true) ∧ Below w.heap.size w w' := by
  have hB_0 := Below.refl w.heap.size w
  have HA0 := Lib.hid ha0; have HA1 := Lib.hid ha1; have HB0 := Lib.hid hb0; have HB1 := Lib.hid hb1; have HV0 := Lib.hid hv0; have HV1 := Lib.hid hv1; have HC0 := Lib.hid hc0; have HC1 := Lib.hid hc1; have HD0 := Lib.hid hd0; have HD1 := Lib.hid hd1; have HU0 := Lib.hid hu0; have HU1 := Lib.hid hu1; have HM := Lib.hid hm; have HR1 := Lib.hid hr1; have HR2 := Lib.hid hr2; have HR3 := Lib.hid hr3; have HR4 := Lib.hid hr4; have HC := Lib.hid hc; have HD := Lib.hid hd; have HX := Lib.hid hx; have HY := Lib.hid hy
  clear ha0 ha1 hb0 hb1 hv0 hv1 hc0 hc1 hd0 hd1 hu0 hu1 hm hr1 hr2 hr3 hr4 hc hd hx hy
  obtain ⟨e0, e1, e2, e3, e4, e5, e6, e7, e8, e9, e10, e11, e12, e13⟩ := HM.out
  obtain ⟨w1, hw1, pl_0, hb1, hs1⟩ := new_box w (w.heap.size) rfl [.int .i64 x0, .int .i64 x1, .int .i64 y0, .int .i64 y1, .int .i64 z0, .int .i64 z1] 56
  have hb1' : Below w.heap.size w w1 := hb1.mono (by omega)
  clear hb1
  have hB_1 := hB_0.trans (hb1'.mono hB_0.size)
  clear hb1' hB_0
  obtain ⟨w2, hw2, pt_0, hb2, hs2⟩ := new_box w1 (w.heap.size + 1) hs1 [.int .i64 t0, .int .i64 t1] 23
  have hb2' : Below w1.heap.size w1 w2 := hb2.mono (by omega)
  clear hb2
  have hB_2 := hB_1.trans (hb2'.mono hB_1.size)
  have pl_1 := pl_0.below hb2'
  clear hb2' hB_1 pl_0
  go_enter Try.func8, Try.ntmps8
  obtain ⟨ple0, ple1, ple2, ple3, ple4, ple5, ple6, ple7, ple8, ple9, ple10, ple11⟩ := pl_1.open6
  obtain ⟨pte0, pte1, pte2, pte3⟩ := pt_0.open2
  go_wp2_with fail
  refine (sfit_any _).mono ?_
  rintro e w3 ⟨rfl, hb3⟩
  clear ple0 ple1 ple2 ple3 ple4 ple5 ple6 ple7 ple8 ple9 ple10 ple11 pte0 pte1 pte2 pte3
  have hB_3 := hB_2.trans (hb3.mono hB_2.size)
  have pl_2 := pl_1.below hb3
  have pt_1 := pt_0.below hb3
  clear hb3 hB_2 pl_1 pt_0
  obtain ⟨ple0, ple1, ple2, ple3, ple4, ple5, ple6, ple7, ple8, ple9, ple10, ple11⟩ := pl_2.open6
  obtain ⟨pte0, pte1, pte2, pte3⟩ := pt_1.open2
  clear ple0 ple1 ple2 ple3 ple4 ple5 ple6 ple7 ple8 ple9 ple10 ple11 pte0 pte1 pte2 pte3
  obtain ⟨sf1a, sf1b, sf1c, sf1d⟩ := pt_1.open2
  obtain ⟨sg1a, sg1b⟩ := Box.put2 pt_1 (.int .i64 r0)
  have hB_4 := below_setAll hB_3 (g := w.heap.size + 1) (by omega) [.int .i64 r0, .int .i64 r1]
  have pl_3 := pl_2.farAll (g' := w.heap.size + 1) (by omega) [.int .i64 r0, .int .i64 r1]
  have pt_2 := pt_1.setAll [.int .i64 r0, .int .i64 r1] rfl
  simp only [setAll, Nat.zero_add] at hB_4 pl_3 pt_2
  obtain ⟨w4, hstw4⟩ : ∃ q, (World.setCell (World.setCell w3 ⟨w.heap.size + 1, 0, none⟩ (.int .i64 r0)) ⟨w.heap.size + 1, 1, none⟩ (.int .i64 r1)) = q := ⟨_, rfl⟩
  simp only [hstw4] at hB_4 pl_3 pt_2
  have hszw4 : w4.heap.size = w3.heap.size := by rw [← hstw4]; simp [World.setCell]
  have hl1pl := pl_3.lt
  have hl1pt := pt_2.lt
  have hl1B := hB_4.size
  obtain ⟨w5, hw5, pp_0, hb5, hs5⟩ := new_box w4 (w3.heap.size) hszw4 [.int .i64 0, .int .i64 0, .int .i64 0, .int .i64 0, .int .i64 0, .int .i64 0] 56
  have hb5' : Below w4.heap.size w4 w5 := hb5.mono (by omega)
  clear hb5
  have hB_5 := hB_4.trans (hb5'.mono hB_4.size)
  have pl_4 := pl_3.below hb5'
  have pt_3 := pt_2.below hb5'
  clear hb5' hB_4 pl_3 pt_2
  obtain ⟨w6, hw6, pq_0, hb6, hs6⟩ := new_box w5 (w3.heap.size + 1) hs5 [.int .i64 0, .int .i64 0, .int .i64 0, .int .i64 0, .int .i64 0, .int .i64 0] 56
  have hb6' : Below w5.heap.size w5 w6 := hb6.mono (by omega)
  clear hb6
  have hB_6 := hB_5.trans (hb6'.mono hB_5.size)
  have pl_5 := pl_4.below hb6'
  have pt_4 := pt_3.below hb6'
  have pp_1 := pp_0.below hb6'
  clear hb6' hB_5 pl_4 pt_3 pp_0
  obtain ⟨ple0, ple1, ple2, ple3, ple4, ple5, ple6, ple7, ple8, ple9, ple10, ple11⟩ := pl_5.open6
  go_wp2
  try rw [hstw4]
  try rw [hw5]
  try rw [hw6]
  clear ple0 ple1 ple2 ple3 ple4 ple5 ple6 ple7 ple8 ple9 ple10 ple11 sf1a sf1b sf1c sf1d sg1a sg1b hB_3 pl_2 pt_1
  clear hs1 hs2 hs5 hs6
  refine wp_loop_rounds 4 ?_
  rw [rounds_succ]
  have hix : ∀ w : World, (Instr.index 56 (.agg #[.int .i64 x0, .int .i64 x1, .int .i64 y0, .int .i64 y1, .int .i64 z0, .int .i64 z1]) (.int .i64 0)).run Try.prog w = .ok (.agg #[.int .i64 x0, .int .i64 x1]) w := fun _ => by kernel_rfl
  have hl2pl := pl_5.lt
  have hl2pt := pt_4.lt
  have hl2pp := pp_1.lt
  have hl2pq := pq_0.lt
  have hl2B := hB_6.size
  obtain ⟨w7, hw7, px0_0, hb7, hs7⟩ := new_box w6 (w6.heap.size) rfl [.int .i64 x0, .int .i64 x1] 23
  have hb7' : Below w6.heap.size w6 w7 := hb7.mono (by omega)
  clear hb7
  have hB_7 := hB_6.trans (hb7'.mono hB_6.size)
  have pl_6 := pl_5.below hb7'
  have pt_5 := pt_4.below hb7'
  have pp_2 := pp_1.below hb7'
  have pq_1 := pq_0.below hb7'
  clear hb7' hB_6 pl_5 pt_4 pp_1 pq_0
  have sf2c0 := pp_2.c 0 _ rfl
  have sf2f0 := pp_2.f 0 _ rfl
  have sf2b0 : Box (World.setCell w7 ⟨w3.heap.size, 0, none⟩ (.int .i64 a0)) (w3.heap.size) [.int .i64 a0, .int .i64 0, .int .i64 0, .int .i64 0, .int .i64 0, .int .i64 0] := pp_2.set 0 (.int .i64 a0)
  have sf2c1 := sf2b0.c 1 _ rfl
  have sf2f1 := sf2b0.f 1 _ rfl
  obtain ⟨rdpx00, rdpx01, rdpx02, rdpx03⟩ := px0_0.open2
  go_wp2
  try rw [hw7]
  clear hix sf2c0 sf2f0 sf2b0 sf2c1 sf2f1 rdpx00 rdpx01 rdpx02 rdpx03
  have hB_8 := below_setFrom (g := w3.heap.size) (by omega) [.int .i64 a0, .int .i64 a1] 0 hB_7
  have pl_7 := Box.farFrom (g' := w3.heap.size) (by omega) [.int .i64 a0, .int .i64 a1] 0 pl_6
  have pt_6 := Box.farFrom (g' := w3.heap.size) (by omega) [.int .i64 a0, .int .i64 a1] 0 pt_5
  have pq_2 := Box.farFrom (g' := w3.heap.size) (by omega) [.int .i64 a0, .int .i64 a1] 0 pq_1
  have px0_1 := Box.farFrom (g' := w3.heap.size) (by omega) [.int .i64 a0, .int .i64 a1] 0 px0_0
  simp only [setAll, Nat.zero_add] at hB_8 pl_7 pt_6 pq_2 px0_1
  have pp_3 : Box (World.setCell (World.setCell w7 ⟨w3.heap.size, 0, none⟩ (.int .i64 a0)) ⟨w3.heap.size, 1, none⟩ (.int .i64 a1)) (w3.heap.size) [.int .i64 a0, .int .i64 a1, .int .i64 0, .int .i64 0, .int .i64 0, .int .i64 0] := ((pp_2.set 0 (.int .i64 a0)).set 1 (.int .i64 a1))
  clear hB_7 pl_6 pt_5 pq_1 px0_0 pp_2
  generalize (World.setCell (World.setCell w7 ⟨w3.heap.size, 0, none⟩ (.int .i64 a0)) ⟨w3.heap.size, 1, none⟩ (.int .i64 a1)) = w8 at *
  clear hs7
  have sf3c0 := pq_2.c 0 _ rfl
  have sf3f0 := pq_2.f 0 _ rfl
  have sf3b0 : Box (World.setCell w8 ⟨w3.heap.size + 1, 0, none⟩ (.int .i64 c0)) (w3.heap.size + 1) [.int .i64 c0, .int .i64 0, .int .i64 0, .int .i64 0, .int .i64 0, .int .i64 0] := pq_2.set 0 (.int .i64 c0)
  have sf3c1 := sf3b0.c 1 _ rfl
  have sf3f1 := sf3b0.f 1 _ rfl
  have hB_9 := below_setFrom (g := w3.heap.size + 1) (by omega) [.int .i64 c0, .int .i64 c1] 0 hB_8
  have pl_8 := Box.farFrom (g' := w3.heap.size + 1) (by omega) [.int .i64 c0, .int .i64 c1] 0 pl_7
  have pt_7 := Box.farFrom (g' := w3.heap.size + 1) (by omega) [.int .i64 c0, .int .i64 c1] 0 pt_6
  have pp_4 := Box.farFrom (g' := w3.heap.size + 1) (by omega) [.int .i64 c0, .int .i64 c1] 0 pp_3
  have px0_2 := Box.farFrom (g' := w3.heap.size + 1) (by omega) [.int .i64 c0, .int .i64 c1] 0 px0_1
  simp only [setAll, Nat.zero_add] at hB_9 pl_8 pt_7 pp_4 px0_2
  have pq_3 : Box (World.setCell (World.setCell w8 ⟨w3.heap.size + 1, 0, none⟩ (.int .i64 c0)) ⟨w3.heap.size + 1, 1, none⟩ (.int .i64 c1)) (w3.heap.size + 1) [.int .i64 c0, .int .i64 c1, .int .i64 0, .int .i64 0, .int .i64 0, .int .i64 0] := ((pq_2.set 0 (.int .i64 c0)).set 1 (.int .i64 c1))
  go_region_held3 (fun w' => w'.cell? ⟨w.heap.size + 1, 0, none⟩ = some (.int .i64 r0) ∧ w'.cell? ⟨w.heap.size + 1, 1, none⟩ = some (.int .i64 r1) ∧ w'.cell? ⟨w3.heap.size, 0, none⟩ = some (.int .i64 a0) ∧ w'.cell? ⟨w3.heap.size, 1, none⟩ = some (.int .i64 a1) ∧ w'.cell? ⟨w3.heap.size, 2, none⟩ = some (.int .i64 0) ∧ w'.cell? ⟨w3.heap.size, 3, none⟩ = some (.int .i64 0) ∧ w'.cell? ⟨w3.heap.size, 4, none⟩ = some (.int .i64 0) ∧ w'.cell? ⟨w3.heap.size, 5, none⟩ = some (.int .i64 0))
    (first | with_reducible exact ⟨pt_6.drew.c0, pt_6.drew.c1, pp_3.drew.c0, pp_3.drew.c1, pp_3.drew.c2, pp_3.drew.c3, pp_3.drew.c4, pp_3.drew.c5⟩ | with_reducible exact ⟨pt_7.drew.c0, pt_7.drew.c1, pp_4.drew.c0, pp_4.drew.c1, pp_4.drew.c2, pp_4.drew.c3, pp_4.drew.c4, pp_4.drew.c5⟩ | fail)
    (fail)
  clear hB_8 pl_7 pt_6 pp_3 px0_1 pq_2
  clear sf3c0 sf3f0 sf3b0 sf3c1 sf3f1
  have hB_10 := hB_9.drew'
  have pl_9 := pl_8.drew
  have pt_8 := pt_7.drew
  have pp_5 := pp_4.drew
  have pq_4 := pq_3.drew
  have px0_3 := px0_2.drew
  clear hB_9 pl_8 pt_7 pp_4 pq_3 px0_2
  generalize World.drew (World.setCell (World.setCell w8 ⟨w3.heap.size + 1, 0, none⟩ (.int .i64 c0)) ⟨w3.heap.size + 1, 1, none⟩ (.int .i64 c1)) = w9 at *
  clear px0_3
  go_wp2
  rw [rounds_succ]
  have hix : ∀ w : World, (Instr.index 56 (.agg #[.int .i64 x0, .int .i64 x1, .int .i64 y0, .int .i64 y1, .int .i64 z0, .int .i64 z1]) (.int .i64 1)).run Try.prog w = .ok (.agg #[.int .i64 y0, .int .i64 y1]) w := fun _ => by kernel_rfl
  have hl3pl := pl_9.lt
  have hl3pt := pt_8.lt
  have hl3pp := pp_5.lt
  have hl3pq := pq_4.lt
  have hl3B := hB_10.size
  obtain ⟨w10, hw10, px1_0, hb10, hs10⟩ := new_box w9 (w9.heap.size) rfl [.int .i64 y0, .int .i64 y1] 23
  have hb10' : Below w9.heap.size w9 w10 := hb10.mono (by omega)
  clear hb10
  have hB_11 := hB_10.trans (hb10'.mono hB_10.size)
  have pl_10 := pl_9.below hb10'
  have pt_9 := pt_8.below hb10'
  have pp_6 := pp_5.below hb10'
  have pq_5 := pq_4.below hb10'
  clear hb10' hB_10 pl_9 pt_8 pp_5 pq_4
  have sf4c0 := pp_6.c 2 _ rfl
  have sf4f0 := pp_6.f 2 _ rfl
  have sf4b0 : Box (World.setCell w10 ⟨w3.heap.size, 2, none⟩ (.int .i64 b0)) (w3.heap.size) [.int .i64 a0, .int .i64 a1, .int .i64 b0, .int .i64 0, .int .i64 0, .int .i64 0] := pp_6.set 2 (.int .i64 b0)
  have sf4c1 := sf4b0.c 3 _ rfl
  have sf4f1 := sf4b0.f 3 _ rfl
  obtain ⟨rdpx10, rdpx11, rdpx12, rdpx13⟩ := px1_0.open2
  go_wp2
  try rw [hw10]
  clear hix sf4c0 sf4f0 sf4b0 sf4c1 sf4f1 rdpx10 rdpx11 rdpx12 rdpx13
  have hB_12 := below_setFrom (g := w3.heap.size) (by omega) [.int .i64 b0, .int .i64 b1] 2 hB_11
  have pl_11 := Box.farFrom (g' := w3.heap.size) (by omega) [.int .i64 b0, .int .i64 b1] 2 pl_10
  have pt_10 := Box.farFrom (g' := w3.heap.size) (by omega) [.int .i64 b0, .int .i64 b1] 2 pt_9
  have pq_6 := Box.farFrom (g' := w3.heap.size) (by omega) [.int .i64 b0, .int .i64 b1] 2 pq_5
  have px1_1 := Box.farFrom (g' := w3.heap.size) (by omega) [.int .i64 b0, .int .i64 b1] 2 px1_0
  simp only [setAll, Nat.reduceAdd] at hB_12 pl_11 pt_10 pq_6 px1_1
  have pp_7 : Box (World.setCell (World.setCell w10 ⟨w3.heap.size, 2, none⟩ (.int .i64 b0)) ⟨w3.heap.size, 3, none⟩ (.int .i64 b1)) (w3.heap.size) [.int .i64 a0, .int .i64 a1, .int .i64 b0, .int .i64 b1, .int .i64 0, .int .i64 0] := ((pp_6.set 2 (.int .i64 b0)).set 3 (.int .i64 b1))
  clear hB_11 pl_10 pt_9 pq_5 px1_0 pp_6
  generalize (World.setCell (World.setCell w10 ⟨w3.heap.size, 2, none⟩ (.int .i64 b0)) ⟨w3.heap.size, 3, none⟩ (.int .i64 b1)) = w11 at *
  clear hs10
  have sf5c0 := pq_6.c 2 _ rfl
  have sf5f0 := pq_6.f 2 _ rfl
  have sf5b0 : Box (World.setCell w11 ⟨w3.heap.size + 1, 2, none⟩ (.int .i64 d0)) (w3.heap.size + 1) [.int .i64 c0, .int .i64 c1, .int .i64 d0, .int .i64 0, .int .i64 0, .int .i64 0] := pq_6.set 2 (.int .i64 d0)
  have sf5c1 := sf5b0.c 3 _ rfl
  have sf5f1 := sf5b0.f 3 _ rfl
  have hB_13 := below_setFrom (g := w3.heap.size + 1) (by omega) [.int .i64 d0, .int .i64 d1] 2 hB_12
  have pl_12 := Box.farFrom (g' := w3.heap.size + 1) (by omega) [.int .i64 d0, .int .i64 d1] 2 pl_11
  have pt_11 := Box.farFrom (g' := w3.heap.size + 1) (by omega) [.int .i64 d0, .int .i64 d1] 2 pt_10
  have pp_8 := Box.farFrom (g' := w3.heap.size + 1) (by omega) [.int .i64 d0, .int .i64 d1] 2 pp_7
  have px1_2 := Box.farFrom (g' := w3.heap.size + 1) (by omega) [.int .i64 d0, .int .i64 d1] 2 px1_1
  simp only [setAll, Nat.reduceAdd] at hB_13 pl_12 pt_11 pp_8 px1_2
  have pq_7 : Box (World.setCell (World.setCell w11 ⟨w3.heap.size + 1, 2, none⟩ (.int .i64 d0)) ⟨w3.heap.size + 1, 3, none⟩ (.int .i64 d1)) (w3.heap.size + 1) [.int .i64 c0, .int .i64 c1, .int .i64 d0, .int .i64 d1, .int .i64 0, .int .i64 0] := ((pq_6.set 2 (.int .i64 d0)).set 3 (.int .i64 d1))
  go_region_held3 (fun w' => w'.cell? ⟨w.heap.size + 1, 0, none⟩ = some (.int .i64 r0) ∧ w'.cell? ⟨w.heap.size + 1, 1, none⟩ = some (.int .i64 r1) ∧ w'.cell? ⟨w3.heap.size, 0, none⟩ = some (.int .i64 a0) ∧ w'.cell? ⟨w3.heap.size, 1, none⟩ = some (.int .i64 a1) ∧ w'.cell? ⟨w3.heap.size, 2, none⟩ = some (.int .i64 b0) ∧ w'.cell? ⟨w3.heap.size, 3, none⟩ = some (.int .i64 b1) ∧ w'.cell? ⟨w3.heap.size, 4, none⟩ = some (.int .i64 0) ∧ w'.cell? ⟨w3.heap.size, 5, none⟩ = some (.int .i64 0))
    (first | with_reducible exact ⟨pt_10.drew.c0, pt_10.drew.c1, pp_7.drew.c0, pp_7.drew.c1, pp_7.drew.c2, pp_7.drew.c3, pp_7.drew.c4, pp_7.drew.c5⟩ | with_reducible exact ⟨pt_11.drew.c0, pt_11.drew.c1, pp_8.drew.c0, pp_8.drew.c1, pp_8.drew.c2, pp_8.drew.c3, pp_8.drew.c4, pp_8.drew.c5⟩ | fail)
    (fail)
  clear hB_12 pl_11 pt_10 pp_7 px1_1 pq_6
  clear sf5c0 sf5f0 sf5b0 sf5c1 sf5f1
  have hB_14 := hB_13.drew'
  have pl_13 := pl_12.drew
  have pt_12 := pt_11.drew
  have pp_9 := pp_8.drew
  have pq_8 := pq_7.drew
  have px1_3 := px1_2.drew
  clear hB_13 pl_12 pt_11 pp_8 pq_7 px1_2
  generalize World.drew (World.setCell (World.setCell w11 ⟨w3.heap.size + 1, 2, none⟩ (.int .i64 d0)) ⟨w3.heap.size + 1, 3, none⟩ (.int .i64 d1)) = w12 at *
  clear px1_3
  go_wp2
  rw [rounds_succ]
  have hix : ∀ w : World, (Instr.index 56 (.agg #[.int .i64 x0, .int .i64 x1, .int .i64 y0, .int .i64 y1, .int .i64 z0, .int .i64 z1]) (.int .i64 2)).run Try.prog w = .ok (.agg #[.int .i64 z0, .int .i64 z1]) w := fun _ => by kernel_rfl
  have hl4pl := pl_13.lt
  have hl4pt := pt_12.lt
  have hl4pp := pp_9.lt
  have hl4pq := pq_8.lt
  have hl4B := hB_14.size
  obtain ⟨w13, hw13, px2_0, hb13, hs13⟩ := new_box w12 (w12.heap.size) rfl [.int .i64 z0, .int .i64 z1] 23
  have hb13' : Below w12.heap.size w12 w13 := hb13.mono (by omega)
  clear hb13
  have hB_15 := hB_14.trans (hb13'.mono hB_14.size)
  have pl_14 := pl_13.below hb13'
  have pt_13 := pt_12.below hb13'
  have pp_10 := pp_9.below hb13'
  have pq_9 := pq_8.below hb13'
  clear hb13' hB_14 pl_13 pt_12 pp_9 pq_8
  have sf6c0 := pp_10.c 4 _ rfl
  have sf6f0 := pp_10.f 4 _ rfl
  have sf6b0 : Box (World.setCell w13 ⟨w3.heap.size, 4, none⟩ (.int .i64 v0)) (w3.heap.size) [.int .i64 a0, .int .i64 a1, .int .i64 b0, .int .i64 b1, .int .i64 v0, .int .i64 0] := pp_10.set 4 (.int .i64 v0)
  have sf6c1 := sf6b0.c 5 _ rfl
  have sf6f1 := sf6b0.f 5 _ rfl
  obtain ⟨rdpx20, rdpx21, rdpx22, rdpx23⟩ := px2_0.open2
  go_wp2
  try rw [hw13]
  clear hix sf6c0 sf6f0 sf6b0 sf6c1 sf6f1 rdpx20 rdpx21 rdpx22 rdpx23
  have hB_16 := below_setFrom (g := w3.heap.size) (by omega) [.int .i64 v0, .int .i64 v1] 4 hB_15
  have pl_15 := Box.farFrom (g' := w3.heap.size) (by omega) [.int .i64 v0, .int .i64 v1] 4 pl_14
  have pt_14 := Box.farFrom (g' := w3.heap.size) (by omega) [.int .i64 v0, .int .i64 v1] 4 pt_13
  have pq_10 := Box.farFrom (g' := w3.heap.size) (by omega) [.int .i64 v0, .int .i64 v1] 4 pq_9
  have px2_1 := Box.farFrom (g' := w3.heap.size) (by omega) [.int .i64 v0, .int .i64 v1] 4 px2_0
  simp only [setAll, Nat.reduceAdd] at hB_16 pl_15 pt_14 pq_10 px2_1
  have pp_11 : Box (World.setCell (World.setCell w13 ⟨w3.heap.size, 4, none⟩ (.int .i64 v0)) ⟨w3.heap.size, 5, none⟩ (.int .i64 v1)) (w3.heap.size) [.int .i64 a0, .int .i64 a1, .int .i64 b0, .int .i64 b1, .int .i64 v0, .int .i64 v1] := ((pp_10.set 4 (.int .i64 v0)).set 5 (.int .i64 v1))
  clear hB_15 pl_14 pt_13 pq_9 px2_0 pp_10
  generalize (World.setCell (World.setCell w13 ⟨w3.heap.size, 4, none⟩ (.int .i64 v0)) ⟨w3.heap.size, 5, none⟩ (.int .i64 v1)) = w14 at *
  clear hs13
  have sf7c0 := pq_10.c 4 _ rfl
  have sf7f0 := pq_10.f 4 _ rfl
  have sf7b0 : Box (World.setCell w14 ⟨w3.heap.size + 1, 4, none⟩ (.int .i64 u0)) (w3.heap.size + 1) [.int .i64 c0, .int .i64 c1, .int .i64 d0, .int .i64 d1, .int .i64 u0, .int .i64 0] := pq_10.set 4 (.int .i64 u0)
  have sf7c1 := sf7b0.c 5 _ rfl
  have sf7f1 := sf7b0.f 5 _ rfl
  have hB_17 := below_setFrom (g := w3.heap.size + 1) (by omega) [.int .i64 u0, .int .i64 u1] 4 hB_16
  have pl_16 := Box.farFrom (g' := w3.heap.size + 1) (by omega) [.int .i64 u0, .int .i64 u1] 4 pl_15
  have pt_15 := Box.farFrom (g' := w3.heap.size + 1) (by omega) [.int .i64 u0, .int .i64 u1] 4 pt_14
  have pp_12 := Box.farFrom (g' := w3.heap.size + 1) (by omega) [.int .i64 u0, .int .i64 u1] 4 pp_11
  have px2_2 := Box.farFrom (g' := w3.heap.size + 1) (by omega) [.int .i64 u0, .int .i64 u1] 4 px2_1
  simp only [setAll, Nat.reduceAdd] at hB_17 pl_16 pt_15 pp_12 px2_2
  have pq_11 : Box (World.setCell (World.setCell w14 ⟨w3.heap.size + 1, 4, none⟩ (.int .i64 u0)) ⟨w3.heap.size + 1, 5, none⟩ (.int .i64 u1)) (w3.heap.size + 1) [.int .i64 c0, .int .i64 c1, .int .i64 d0, .int .i64 d1, .int .i64 u0, .int .i64 u1] := ((pq_10.set 4 (.int .i64 u0)).set 5 (.int .i64 u1))
  go_region_held3 (fun w' => w'.cell? ⟨w.heap.size + 1, 0, none⟩ = some (.int .i64 r0) ∧ w'.cell? ⟨w.heap.size + 1, 1, none⟩ = some (.int .i64 r1) ∧ w'.cell? ⟨w3.heap.size, 0, none⟩ = some (.int .i64 a0) ∧ w'.cell? ⟨w3.heap.size, 1, none⟩ = some (.int .i64 a1) ∧ w'.cell? ⟨w3.heap.size, 2, none⟩ = some (.int .i64 b0) ∧ w'.cell? ⟨w3.heap.size, 3, none⟩ = some (.int .i64 b1) ∧ w'.cell? ⟨w3.heap.size, 4, none⟩ = some (.int .i64 v0) ∧ w'.cell? ⟨w3.heap.size, 5, none⟩ = some (.int .i64 v1))
    (first | with_reducible exact ⟨pt_14.drew.c0, pt_14.drew.c1, pp_11.drew.c0, pp_11.drew.c1, pp_11.drew.c2, pp_11.drew.c3, pp_11.drew.c4, pp_11.drew.c5⟩ | with_reducible exact ⟨pt_15.drew.c0, pt_15.drew.c1, pp_12.drew.c0, pp_12.drew.c1, pp_12.drew.c2, pp_12.drew.c3, pp_12.drew.c4, pp_12.drew.c5⟩ | fail)
    (fail)
  clear hB_16 pl_15 pt_14 pp_11 px2_1 pq_10
  clear sf7c0 sf7f0 sf7b0 sf7c1 sf7f1
  have hB_18 := hB_17.drew'
  have pl_17 := pl_16.drew
  have pt_16 := pt_15.drew
  have pp_13 := pp_12.drew
  have pq_12 := pq_11.drew
  have px2_3 := px2_2.drew
  clear hB_17 pl_16 pt_15 pp_12 pq_11 px2_2
  generalize World.drew (World.setCell (World.setCell w14 ⟨w3.heap.size + 1, 4, none⟩ (.int .i64 u0)) ⟨w3.heap.size + 1, 5, none⟩ (.int .i64 u1)) = w15 at *
  clear px2_3
  go_wp2
  rw [rounds_succ]
  obtain ⟨ppe0, ppe1, ppe2, ppe3, ppe4, ppe5, ppe6, ppe7, ppe8, ppe9, ppe10, ppe11⟩ := pp_13.open6
  obtain ⟨pqe0, pqe1, pqe2, pqe3, pqe4, pqe5, pqe6, pqe7, pqe8, pqe9, pqe10, pqe11⟩ := pq_12.open6
  obtain ⟨pte0, pte1, pte2, pte3⟩ := pt_16.open2
  go_wp2_with fail
  refine (sCentre_s a0 a1 b0 b1 v0 v1 HA0.out HA1.out HB0.out HB1.out HV0.out HV1.out HC.out _).mono ?_
  rintro e w16 ⟨m1x, o1x, n1x, c1x, p1x, k1x, d1x, m1y, o1y, n1y, c1y, p1y, k1y, d1y, rfl, f1x_0, f1y_0, hb16⟩
  clear ppe0 ppe1 ppe2 ppe3 ppe4 ppe5 ppe6 ppe7 ppe8 ppe9 ppe10 ppe11 pqe0 pqe1 pqe2 pqe3 pqe4 pqe5 pqe6 pqe7 pqe8 pqe9 pqe10 pqe11 pte0 pte1 pte2 pte3
  have hB_19 := hB_18.trans (hb16.mono hB_18.size)
  have pl_18 := pl_17.below hb16
  have pt_17 := pt_16.below hb16
  have pp_14 := pp_13.below hb16
  have pq_13 := pq_12.below hb16
  clear hb16 hB_18 pl_17 pt_16 pp_13 pq_12
  have hl5pl := pl_18.lt
  have hl5pt := pt_17.lt
  have hl5pp := pp_14.lt
  have hl5pq := pq_13.lt
  have hl5B := hB_19.size
  obtain ⟨w17, hw17, ps_0, hb17, hs17⟩ := new_box w16 (w16.heap.size) rfl [.bool m1x, .slice o1x n1x c1x, .slice p1x k1x d1x, .bool m1y, .slice o1y n1y c1y, .slice p1y k1y d1y] 33
  have hb17' : Below w16.heap.size w16 w17 := hb17.mono (by omega)
  clear hb17
  have hB_20 := hB_19.trans (hb17'.mono hB_19.size)
  have pl_19 := pl_18.below hb17'
  have pt_18 := pt_17.below hb17'
  have pp_15 := pp_14.below hb17'
  have pq_14 := pq_13.below hb17'
  have f1x_1 := f1x_0.below hb17'
  have f1y_1 := f1y_0.below hb17'
  clear hb17' hB_19 pl_18 pt_17 pp_14 pq_13 f1x_0 f1y_0
  obtain ⟨pqe0, pqe1, pqe2, pqe3, pqe4, pqe5, pqe6, pqe7, pqe8, pqe9, pqe10, pqe11⟩ := pq_14.open6
  go_wp2_with fail
  refine (sCentre_s c0 c1 d0 d1 u0 u1 HC0.out HC1.out HD0.out HD1.out HU0.out HU1.out HD.out _).mono ?_
  rintro e w18 ⟨m2x, o2x, n2x, c2x, p2x, k2x, d2x, m2y, o2y, n2y, c2y, p2y, k2y, d2y, rfl, f2x_0, f2y_0, hb18⟩
  clear pqe0 pqe1 pqe2 pqe3 pqe4 pqe5 pqe6 pqe7 pqe8 pqe9 pqe10 pqe11
  have hB_21 := hB_20.trans (hb18.mono hB_20.size)
  have pl_20 := pl_19.below hb18
  have pt_19 := pt_18.below hb18
  have pp_16 := pp_15.below hb18
  have pq_15 := pq_14.below hb18
  have f1x_2 := f1x_1.below hb18
  have f1y_2 := f1y_1.below hb18
  have ps_1 := ps_0.below hb18
  clear hb18 hB_20 pl_19 pt_18 pp_15 pq_14 f1x_1 f1y_1 ps_0
  have hl6pl := pl_20.lt
  have hl6pt := pt_19.lt
  have hl6pp := pp_16.lt
  have hl6pq := pq_15.lt
  have hl6ps := ps_1.lt
  have hl6B := hB_21.size
  obtain ⟨w19, hw19, pz_0, hb19, hs19⟩ := new_box w18 (w18.heap.size) rfl [.bool m2x, .slice o2x n2x c2x, .slice p2x k2x d2x, .bool m2y, .slice o2y n2y c2y, .slice p2y k2y d2y] 33
  have hb19' : Below w18.heap.size w18 w19 := hb19.mono (by omega)
  clear hb19
  have hB_22 := hB_21.trans (hb19'.mono hB_21.size)
  have pl_21 := pl_20.below hb19'
  have pt_20 := pt_19.below hb19'
  have pp_17 := pp_16.below hb19'
  have pq_16 := pq_15.below hb19'
  have f1x_3 := f1x_2.below hb19'
  have f1y_3 := f1y_2.below hb19'
  have ps_2 := ps_1.below hb19'
  have f2x_1 := f2x_0.below hb19'
  have f2y_1 := f2y_0.below hb19'
  clear hb19' hB_21 pl_20 pt_19 pp_16 pq_15 f1x_2 f1y_2 ps_1 f2x_0 f2y_0
  go_wp2
  try rw [hw19]
  have hB_23 := hB_22.drew'
  have pl_22 := pl_21.drew
  have pt_21 := pt_20.drew
  have pp_18 := pp_17.drew
  have pq_17 := pq_16.drew
  have f1x_4 := f1x_3.drew
  have f1y_4 := f1y_3.drew
  have ps_3 := ps_2.drew
  have f2x_2 := f2x_1.drew
  have f2y_2 := f2y_1.drew
  have pz_1 := pz_0.drew
  clear hB_22 pl_21 pt_20 pp_17 pq_16 f1x_3 f1y_3 ps_2 f2x_1 f2y_1 pz_0
  go_region_held3 (fun w' => w'.cell? ⟨w18.heap.size, 0, none⟩ = some (.bool m2x) ∧ w'.cell? ⟨w18.heap.size, 1, none⟩ = some (.slice o2x n2x c2x) ∧ w'.cell? ⟨w18.heap.size, 2, none⟩ = some (.slice p2x k2x d2x) ∧ w'.cell? ⟨w18.heap.size, 3, none⟩ = some (.bool m2y) ∧ w'.cell? ⟨w18.heap.size, 4, none⟩ = some (.slice o2y n2y c2y) ∧ w'.cell? ⟨w18.heap.size, 5, none⟩ = some (.slice p2y k2y d2y) ∧ w'.cell? ⟨w16.heap.size, 0, none⟩ = some (.bool m1x) ∧ w'.cell? ⟨w16.heap.size, 1, none⟩ = some (.slice o1x n1x c1x) ∧ w'.cell? ⟨w16.heap.size, 2, none⟩ = some (.slice p1x k1x d1x) ∧ w'.cell? ⟨w16.heap.size, 3, none⟩ = some (.bool m1y) ∧ w'.cell? ⟨w16.heap.size, 4, none⟩ = some (.slice o1y n1y c1y) ∧ w'.cell? ⟨w16.heap.size, 5, none⟩ = some (.slice p1y k1y d1y) ∧ w'.cell? ⟨w.heap.size + 1, 0, none⟩ = some (.int .i64 r0) ∧ w'.cell? ⟨w.heap.size + 1, 1, none⟩ = some (.int .i64 r1))
    (first | with_reducible exact ⟨pz_1.c0, pz_1.c1, pz_1.c2, pz_1.c3, pz_1.c4, pz_1.c5, ps_3.c0, ps_3.c1, ps_3.c2, ps_3.c3, ps_3.c4, ps_3.c5, pt_21.c0, pt_21.c1⟩ | with_reducible exact ⟨pz_2.c0, pz_2.c1, pz_2.c2, pz_2.c3, pz_2.c4, pz_2.c5, ps_4.c0, ps_4.c1, ps_4.c2, ps_4.c3, ps_4.c4, ps_4.c5, pt_22.c0, pt_22.c1⟩ | with_reducible exact ⟨pz_3.c0, pz_3.c1, pz_3.c2, pz_3.c3, pz_3.c4, pz_3.c5, ps_5.c0, ps_5.c1, ps_5.c2, ps_5.c3, ps_5.c4, ps_5.c5, pt_23.c0, pt_23.c1⟩ | with_reducible exact ⟨pz_4.c0, pz_4.c1, pz_4.c2, pz_4.c3, pz_4.c4, pz_4.c5, ps_6.c0, ps_6.c1, ps_6.c2, ps_6.c3, ps_6.c4, ps_6.c5, pt_24.c0, pt_24.c1⟩ | with_reducible exact ⟨pz_5.c0, pz_5.c1, pz_5.c2, pz_5.c3, pz_5.c4, pz_5.c5, ps_7.c0, ps_7.c1, ps_7.c2, ps_7.c3, ps_7.c4, ps_7.c5, pt_25.c0, pt_25.c1⟩ | with_reducible exact ⟨pz_6.c0, pz_6.c1, pz_6.c2, pz_6.c3, pz_6.c4, pz_6.c5, ps_8.c0, ps_8.c1, ps_8.c2, ps_8.c3, ps_8.c4, ps_8.c5, pt_26.c0, pt_26.c1⟩ | fail)
    (first
      | (go_at_call 21; (with_reducible refine (fOf_any r0 (by have := HR1.out; omega) (by have := HR2.out; omega) _).mono ?_); rintro e w20 ⟨m3, o3, n3, c3, p3, k3, d3, rfl, f3_0, hb20⟩; have hB_24 := hB_23.trans (hb20.mono hB_23.size); have pl_23 := pl_22.below hb20; have pt_22 := pt_21.below hb20; have pp_19 := pp_18.below hb20; have pq_18 := pq_17.below hb20; have f1x_5 := f1x_4.below hb20; have f1y_5 := f1y_4.below hb20; have ps_4 := ps_3.below hb20; have f2x_3 := f2x_2.below hb20; have f2y_3 := f2y_2.below hb20; have pz_2 := pz_1.below hb20; clear hb20 hB_23 pl_22 pt_21 pp_18 pq_17 f1x_4 f1y_4 ps_3 f2x_2 f2y_2 pz_1)
      | (go_at_call 24; (with_reducible refine (qSub _ _ 1 7 _ _ _ (by omega) (by omega) f3_0.q f1y_5.q).mono ?_); rintro e w21 ⟨m4, o4, n4, c4, p4, k4, d4, rfl, f4_0, hb21⟩; have hB_25 := hB_24.trans (hb21.mono hB_24.size); have pl_24 := pl_23.below hb21; have pt_23 := pt_22.below hb21; have pp_20 := pp_19.below hb21; have pq_19 := pq_18.below hb21; have f1x_6 := f1x_5.below hb21; have f1y_6 := f1y_5.below hb21; have ps_5 := ps_4.below hb21; have f2x_4 := f2x_3.below hb21; have f2y_4 := f2y_3.below hb21; have pz_3 := pz_2.below hb21; have f3_1 := f3_0.below hb21; clear hb21 hB_24 pl_23 pt_22 pp_19 pq_18 f1x_5 f1y_5 ps_4 f2x_3 f2y_3 pz_2 f3_0)
      | (go_at_call 21; (with_reducible refine (fOf_any r1 (by have := HR3.out; omega) (by have := HR4.out; omega) _).mono ?_); rintro e w22 ⟨m5, o5, n5, c5, p5, k5, d5, rfl, f5_0, hb22⟩; have hB_26 := hB_25.trans (hb22.mono hB_25.size); have pl_25 := pl_24.below hb22; have pt_24 := pt_23.below hb22; have pp_21 := pp_20.below hb22; have pq_20 := pq_19.below hb22; have f1x_7 := f1x_6.below hb22; have f1y_7 := f1y_6.below hb22; have ps_6 := ps_5.below hb22; have f2x_5 := f2x_4.below hb22; have f2y_5 := f2y_4.below hb22; have pz_4 := pz_3.below hb22; have f3_2 := f3_1.below hb22; have f4_1 := f4_0.below hb22; clear hb22 hB_25 pl_24 pt_23 pp_20 pq_19 f1x_6 f1y_6 ps_5 f2x_4 f2y_4 pz_3 f3_1 f4_0)
      | (go_at_call 27; (with_reducible refine (qAdd _ _ 1 7 _ _ _ (by omega) (by omega) f5_0.q f1x_7.q).mono ?_); rintro e w23 ⟨m6, o6, n6, c6, p6, k6, d6, rfl, f6_0, hb23⟩; have hB_27 := hB_26.trans (hb23.mono hB_26.size); have pl_26 := pl_25.below hb23; have pt_25 := pt_24.below hb23; have pp_22 := pp_21.below hb23; have pq_21 := pq_20.below hb23; have f1x_8 := f1x_7.below hb23; have f1y_8 := f1y_7.below hb23; have ps_7 := ps_6.below hb23; have f2x_6 := f2x_5.below hb23; have f2y_6 := f2y_5.below hb23; have pz_5 := pz_4.below hb23; have f3_3 := f3_2.below hb23; have f4_2 := f4_1.below hb23; have f5_1 := f5_0.below hb23; clear hb23 hB_26 pl_25 pt_24 pp_21 pq_20 f1x_7 f1y_7 ps_6 f2x_5 f2y_5 pz_4 f3_2 f4_1 f5_0)
      | (go_at_call 17; (with_reducible refine (sSame_any 7 _ _ (1 + 7 + 2) _ _ _ (by omega) (by omega) f2x_6.q f2y_6.q f4_2.q f6_0.q true ⟨fun _ => rfl, fun _ => ⟨HX.out, HY.out⟩⟩).mono ?_); rintro e w24 ⟨rfl, hb24⟩; have hB_28 := hB_27.trans (hb24.mono hB_27.size); have pl_27 := pl_26.below hb24; have pt_26 := pt_25.below hb24; have pp_23 := pp_22.below hb24; have pq_22 := pq_21.below hb24; have f1x_9 := f1x_8.below hb24; have f1y_9 := f1y_8.below hb24; have ps_8 := ps_7.below hb24; have f2x_7 := f2x_6.below hb24; have f2y_7 := f2y_6.below hb24; have pz_6 := pz_5.below hb24; have f3_4 := f3_3.below hb24; have f4_3 := f4_2.below hb24; have f5_2 := f5_1.below hb24; have f6_1 := f6_0.below hb24; clear hb24 hB_27 pl_26 pt_25 pp_22 pq_21 f1x_8 f1y_8 ps_7 f2x_6 f2y_6 pz_5 f3_3 f4_2 f5_1 f6_0))
  go_wp2
  go_ret
  exact ⟨rfl, hB_28⟩
end Go.Proofs.Ytkcfaddilknelaa
/- The statement SpotMoves: for all inputs. -/
namespace Go.Proofs.Ytkcfaddilknelaa
open Go.RowKit Go.MagM
theorem smask (x : Int) (k : Nat) (hk : k < 9223372036854775808) : ∃ y : Int, bits .and .i64 x (k : Int) = y ∧ 0 ≤ y ∧ y ≤ (k : Int) := by
  have h1 : (BitVec.ofInt 64 (k : Int)).toNat = k := by
    rw [BitVec.ofInt_natCast, BitVec.toNat_ofNat]; exact Nat.mod_eq_of_lt (by omega)
  have h2 : (BitVec.ofInt 64 x).toNat &&& k ≤ k := Nat.and_le_right
  refine ⟨(((BitVec.ofInt 64 x).toNat &&& k : Nat) : Int), ?_, by omega, by omega⟩
  show IntKind.i64.wrap ((BitVec.ofInt 64 x &&& BitVec.ofInt 64 (k : Int)).toNat : Int) = _
  rw [BitVec.toNat_and, h1, IntKind.wrap_i64]
  omega
theorem smask_in {y : Int} (h0 : 0 ≤ y) (h1 : y ≤ ((65535 : Nat) : Int)) : InP y := by unfold InP; omega
theorem SpotMoves_walk (x0 x1 y0 y1 z0 z1 t0 t1 : Int) (w : World) : Calls Try.prog 8 #[.agg #[.int .i64 x0, .int .i64 x1, .int .i64 y0, .int .i64 y1, .int .i64 z0, .int .i64 z1], .agg #[.int .i64 t0, .int .i64 t1]] w fun e w' => e = .returned (.bool true) ∧ Below w.heap.size w w' := by
  obtain ⟨r0, e0, lr0, ur0⟩ := smask t0 65535 (by omega)
  obtain ⟨r1, e1, lr1, ur1⟩ := smask t1 65535 (by omega)
  obtain ⟨a0, e2, la0, ua0⟩ := smask x0 65535 (by omega)
  obtain ⟨a1, e3, la1, ua1⟩ := smask x1 65535 (by omega)
  obtain ⟨b0, e4, lb0, ub0⟩ := smask y0 65535 (by omega)
  obtain ⟨b1, e5, lb1, ub1⟩ := smask y1 65535 (by omega)
  obtain ⟨v0, e6, lv0, uv0⟩ := smask z0 65535 (by omega)
  obtain ⟨v1, e7, lv1, uv1⟩ := smask z1 65535 (by omega)
  have hm : bits .and .i64 t0 65535 = r0 ∧ bits .and .i64 t1 65535 = r1 ∧ bits .and .i64 x0 65535 = a0 ∧ bits .and .i64 x1 65535 = a1 ∧ bits .and .i64 y0 65535 = b0 ∧ bits .and .i64 y1 65535 = b1 ∧ bits .and .i64 z0 65535 = v0 ∧ bits .and .i64 z1 65535 = v1 ∧ IntKind.i64.wrap (r0 - a1) = r0 - a1 ∧ IntKind.i64.wrap (r1 + a0) = r1 + a0 ∧ IntKind.i64.wrap (r0 - b1) = r0 - b1 ∧ IntKind.i64.wrap (r1 + b0) = r1 + b0 ∧ IntKind.i64.wrap (r0 - v1) = r0 - v1 ∧ IntKind.i64.wrap (r1 + v0) = r1 + v0 :=
    ⟨e0, e1, e2, e3, e4, e5, e6, e7, by rw [IntKind.wrap_i64]; omega, by rw [IntKind.wrap_i64]; omega, by rw [IntKind.wrap_i64]; omega, by rw [IntKind.wrap_i64]; omega, by rw [IntKind.wrap_i64]; omega, by rw [IntKind.wrap_i64]; omega⟩
  have ha0 := smask_in la0 ua0
  have ha1 := smask_in la1 ua1
  have hb0 := smask_in lb0 ub0
  have hb1 := smask_in lb1 ub1
  have hv0 := smask_in lv0 uv0
  have hv1 := smask_in lv1 uv1
  have hc0 : InP (r0 - a1) := by unfold InP; omega
  have hc1 : InP (r1 + a0) := by unfold InP; omega
  have hd0 : InP (r0 - b1) := by unfold InP; omega
  have hd1 : InP (r1 + b0) := by unfold InP; omega
  have hu0 : InP (r0 - v1) := by unfold InP; omega
  have hu1 : InP (r1 + v0) := by unfold InP; omega
  by_cases h : crs a0 a1 b0 b1 v0 v1 = 0
  · have hs : (crs a0 a1 b0 b1 v0 v1).sign = 0 := by rw [h]; rfl
    exact SpotMoves_n x0 x1 y0 y1 z0 z1 t0 t1 a0 a1 b0 b1 v0 v1 (r0 - a1) (r1 + a0) (r0 - b1) (r1 + b0) (r0 - v1) (r1 + v0) r0 r1 hm lr0 ur0 lr1 ur1 ha0 ha1 hb0 hb1 hv0 hv1 hc0 hc1 hd0 hd1 hu0 hu1 hs (by rw [crs_turn]; exact hs) w
  · exact SpotMoves_s x0 x1 y0 y1 z0 z1 t0 t1 a0 a1 b0 b1 v0 v1 (r0 - a1) (r1 + a0) (r0 - b1) (r1 + b0) (r0 - v1) (r1 + v0) r0 r1 hm lr0 ur0 lr1 ur1 ha0 ha1 hb0 hb1 hv0 hv1 hc0 hc1 hd0 hd1 hu0 hu1 h (by rw [crs_turn]; exact h) (cx_turn r0 r1 h) (cy_turn r0 r1 h) w
end Go.Proofs.Ytkcfaddilknelaa
