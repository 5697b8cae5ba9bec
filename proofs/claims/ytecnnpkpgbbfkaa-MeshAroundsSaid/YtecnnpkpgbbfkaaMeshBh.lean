/- MeshArounds. Written by tools/mesh19.py. -/
import Derived.Test.YtecnnpkpgbbfkaaPartr
import Derived.Test.YtecnnpkpgbbfkaaPartq
import Derived.Test.YtecnnpkpgbbfkaaPartm
import Derived.BigGuardIn
import Derived.BigGuardPartIn
namespace Go.Proofs.Ytecnnpkpgbbfkaa
open Go.RowKit Go.MagM Go.Shelf
attribute [local go_sem] Oper.semAt_some
/-- The function's frame between two rounds of its loop. -/
def FrameA (w0 h0 b0 : Int) (wn mbx g gn gc mb pb N pc v : Nat) (dl : List Deferred) (a : Act) : Prop := ∃ u : Nat → Value, a = { tmps := #[.agg #[.int .i64 w0, .int .i64 h0], .int .u32 b0, .pointer (some ⟨wn, 0, none⟩), undef, .pointer (some ⟨wn + 1, 0, none⟩), .pointer (some ⟨mbx, 0, none⟩), .slice (some ⟨g, 0, none⟩) gn gc, u 7, u 8, u 9, u 10, u 11, u 12, u 13, u 14, .bool true, .bool false, .tuple #[.pointer (some ⟨mb, 0, none⟩), .slice (some ⟨g, 0, none⟩) gn gc], .pointer (some ⟨wn, 0, none⟩), .int .i64 w0, .pointer (some ⟨wn, 1, none⟩), .int .i64 h0, .int .u32 b0, .tuple #[.pointer (some ⟨mb, 0, none⟩), .slice (some ⟨g, 0, none⟩) gn gc], .pointer (some ⟨mb, 0, none⟩), .slice (some ⟨g, 0, none⟩) gn gc, .pointer (some ⟨mb, 0, none⟩), .bool false, .pointer (some ⟨mb, 0, none⟩), .pointer (some ⟨mb, 0, none⟩), .pointer (some ⟨mb, 0, none⟩), .slice (some ⟨pb, 0, none⟩) N pc, .int .i64 (N : Int), .int .i64 (v : Int), u 34, u 35, u 36, u 37, u 38, u 39, u 40, u 41, u 42, u 43, u 44, u 45, u 46, u 47, u 48, u 49, u 50, u 51, u 52, u 53, u 54, u 55, u 56, u 57, u 58, u 59, u 60, u 61, u 62, u 63, u 64, u 65, u 66, u 67, u 68, u 69, u 70, u 71, u 72, u 73, u 74, u 75, u 76, u 77, u 78, u 79, u 80, u 81, u 82, u 83, u 84, u 85, u 86, u 87, u 88, u 89, u 90, u 91, u 92, u 93, u 94, u 95, u 96, u 97, u 98, u 99, u 100, u 101, u 102, u 103, u 104, u 105, u 106, u 107, u 108, u 109, u 110, u 111, u 112, u 113, u 114, u 115, u 116, u 117, u 118, u 119, u 120, u 121, u 122, u 123, u 124], defers := dl }
theorem frameA_ok {w0 h0 b0 : Int} {wn mbx g gn gc mb pb N pc v : Nat} {dl : List Deferred} {u7 u8 u9 u10 u11 u12 u13 u14 u34 u35 u36 u37 u38 u39 u40 u41 u42 u43 u44 u45 u46 u47 u48 u49 u50 u51 u52 u53 u54 u55 u56 u57 u58 u59 u60 u61 u62 u63 u64 u65 u66 u67 u68 u69 u70 u71 u72 u73 u74 u75 u76 u77 u78 u79 u80 u81 u82 u83 u84 u85 u86 u87 u88 u89 u90 u91 u92 u93 u94 u95 u96 u97 u98 u99 u100 u101 u102 u103 u104 u105 u106 u107 u108 u109 u110 u111 u112 u113 u114 u115 u116 u117 u118 u119 u120 u121 u122 u123 u124 : Value} : FrameA w0 h0 b0 wn mbx g gn gc mb pb N pc v dl { tmps := #[.agg #[.int .i64 w0, .int .i64 h0], .int .u32 b0, .pointer (some ⟨wn, 0, none⟩), undef, .pointer (some ⟨wn + 1, 0, none⟩), .pointer (some ⟨mbx, 0, none⟩), .slice (some ⟨g, 0, none⟩) gn gc, u7, u8, u9, u10, u11, u12, u13, u14, .bool true, .bool false, .tuple #[.pointer (some ⟨mb, 0, none⟩), .slice (some ⟨g, 0, none⟩) gn gc], .pointer (some ⟨wn, 0, none⟩), .int .i64 w0, .pointer (some ⟨wn, 1, none⟩), .int .i64 h0, .int .u32 b0, .tuple #[.pointer (some ⟨mb, 0, none⟩), .slice (some ⟨g, 0, none⟩) gn gc], .pointer (some ⟨mb, 0, none⟩), .slice (some ⟨g, 0, none⟩) gn gc, .pointer (some ⟨mb, 0, none⟩), .bool false, .pointer (some ⟨mb, 0, none⟩), .pointer (some ⟨mb, 0, none⟩), .pointer (some ⟨mb, 0, none⟩), .slice (some ⟨pb, 0, none⟩) N pc, .int .i64 (N : Int), .int .i64 (v : Int), u34, u35, u36, u37, u38, u39, u40, u41, u42, u43, u44, u45, u46, u47, u48, u49, u50, u51, u52, u53, u54, u55, u56, u57, u58, u59, u60, u61, u62, u63, u64, u65, u66, u67, u68, u69, u70, u71, u72, u73, u74, u75, u76, u77, u78, u79, u80, u81, u82, u83, u84, u85, u86, u87, u88, u89, u90, u91, u92, u93, u94, u95, u96, u97, u98, u99, u100, u101, u102, u103, u104, u105, u106, u107, u108, u109, u110, u111, u112, u113, u114, u115, u116, u117, u118, u119, u120, u121, u122, u123, u124], defers := dl } :=
  ⟨fun k => (#[undef, undef, undef, undef, undef, undef, undef, u7, u8, u9, u10, u11, u12, u13, u14, undef, undef, undef, undef, undef, undef, undef, undef, undef, undef, undef, undef, undef, undef, undef, undef, undef, undef, undef, u34, u35, u36, u37, u38, u39, u40, u41, u42, u43, u44, u45, u46, u47, u48, u49, u50, u51, u52, u53, u54, u55, u56, u57, u58, u59, u60, u61, u62, u63, u64, u65, u66, u67, u68, u69, u70, u71, u72, u73, u74, u75, u76, u77, u78, u79, u80, u81, u82, u83, u84, u85, u86, u87, u88, u89, u90, u91, u92, u93, u94, u95, u96, u97, u98, u99, u100, u101, u102, u103, u104, u105, u106, u107, u108, u109, u110, u111, u112, u113, u114, u115, u116, u117, u118, u119, u120, u121, u122, u123, u124] : Array Value).getD k undef, rfl⟩
theorem three_boxes (w : World) (v0 v1 v2 : Value) (t0 t1 t2 : TypeId) :
    Boxed (((w.alloc (.cells #[v0] t0)).alloc (.cells #[v1] t1)).alloc (.cells #[v2] t2)) w.heap.size t0 v0 ∧
    Boxed (((w.alloc (.cells #[v0] t0)).alloc (.cells #[v1] t1)).alloc (.cells #[v2] t2)) (w.heap.size + 1) t1 v1 ∧
    Boxed (((w.alloc (.cells #[v0] t0)).alloc (.cells #[v1] t1)).alloc (.cells #[v2] t2)) (w.heap.size + 1 + 1) t2 v2 ∧
    (((w.alloc (.cells #[v0] t0)).alloc (.cells #[v1] t1)).alloc (.cells #[v2] t2)).heap.size = w.heap.size + 3 ∧
    Below w.heap.size w (((w.alloc (.cells #[v0] t0)).alloc (.cells #[v1] t1)).alloc (.cells #[v2] t2)) := by
  have n0 := Boxed.new w t0 v0
  have n1 := Boxed.new (w.alloc (.cells #[v0] t0)) t1 v1
  have n2 := Boxed.new ((w.alloc (.cells #[v0] t0)).alloc (.cells #[v1] t1)) t2 v2
  simp only [World.size_alloc] at n1 n2
  refine ⟨(n0.alloc _).alloc _, n1.alloc _, n2, by simp only [World.size_alloc], ?_⟩
  exact (((Below.refl _ w).alloc (Nat.le_refl _) _).alloc (by simp) _).alloc (by simp; omega) _
theorem mapB_own {Q : Program} {k : TypeId} {β : Type} (B b : Nat) (hb : b < B) (f : β → List (Value × Value)) : OwnFrom B (fun (s : β) W => MapB Q k W b (f s)) := fun s X Y row hs hg hr =>
  hs.block (hg.block b hs.lt (fun e => by have := (hr b e.symm).1; omega))
theorem KeepsFrom.turned {B b : Nat} {W W' : World} (h : Turned W W' b) (hb : b < B) : KeepsFrom B W W' := ⟨by rw [h.size]; exact Nat.le_refl _, fun k o hk ho _ => (h.block k (by omega)).trans ho⟩
set_option maxRecDepth 100000 in
set_option maxHeartbeats 16000000 in
theorem MeshArounds_walk (w0 h0 b0 : Int) (w : World) :
    Calls Try.prog 4 #[.agg #[.int .i64 w0, .int .i64 h0], .int .u32 b0] w fun e w' => e = .returned (.bool true) ∧ Below w.heap.size w w' := by
  obtain ⟨w1, hw1, pz, hb1, hs1⟩ := new_box w _ rfl [.int .i64 w0, .int .i64 h0] 22
  obtain ⟨w2, hw2, pr2, hb2, hs2⟩ := new_box w1 _ hs1 [.bool false] 4
  have hB2 : Below w.heap.size w w2 := hb1.trans (hb2.mono (by omega))
  have PZ := Lib.hid (pz.below (hb2.mono (by omega))); have PR := Lib.hid pr2; have HB2 := Lib.hid hB2; have HS2 := Lib.hid hs2
  have HF := Lib.hid (fit9_any w2)
  clear pz pr2 hb1 hb2 hB2
  refine (callsIn_wide (n := 20)).1 (callsIn_of_wp_marks (F := Fence.wide) (n := 20) Try.func4 rfl trivial ?_ rfl)
  simp only [Try.ntmps4, List.size_toArray, List.length_cons, List.length_nil, Nat.reduceAdd, Nat.reduceSub, Array.replicate_succ, Array.replicate_zero, List.push_toArray, List.append_toArray, List.nil_append, List.cons_append]
  rw [wpIn_wide]
  go_wp2_with fail
  refine HF.out.mono ?_
  rintro e w3 ⟨rfl, hb23⟩
  have hz3 := PZ.out.below hb23
  have z0 := hz3.c 0 _ rfl; have z1 := hz3.c 1 _ rfl
  have PR3 := Lib.hid (PR.out.below hb23); have HB3 := Lib.hid (HB2.out.trans (hb23.mono HB2.out.size))
  have hsz3 : w.heap.size + 2 ≤ w3.heap.size := by have := hb23.size; have := HS2.out; omega
  have HG := Lib.hid (Grid_any w0 h0 b0 0 w3)
  clear hz3 hb23
  go_wp2_with fail
  refine HG.out.mono ?_
  rintro e w4 ⟨mb, pb, pc, tb, tc, g, gn, gc, gW, gH, bn, F, Bd, S, rfl, hgn, hgi, hb4⟩
  obtain ⟨mbx, hmbx⟩ : ∃ x, w4.heap.size = x := ⟨_, rfl⟩
  obtain ⟨w5, hw5, pm5, hb5, hs5⟩ := new_box w4 _ rfl [.pointer (some ⟨mb, 0, none⟩)] 25
  rw [hmbx] at pm5
  have hb35 : Below w3.heap.size w3 w5 := hb4.trans (hb5.mono hb4.size)
  obtain ⟨hN4, hN9, hS4, hS16⟩ := hgi.sizes
  have HGI := Lib.hid (hgi.below hb5); have PM5 := Lib.hid pm5; have PR5 := Lib.hid (PR3.out.below hb35); have HB5 := Lib.hid (HB3.out.trans (hb35.mono HB3.out.size))
  have h35 : w3.heap.size ≤ w5.heap.size := hb35.size
  obtain ⟨N, hN⟩ : ∃ N, (gridP gW gH).length = N := ⟨_, rfl⟩
  obtain ⟨SL, hSL⟩ : ∃ SL, S.length = SL := ⟨_, rfl⟩
  have HNL := Lib.hid (show N = (gW + 1) * (gH + 1) by
    rw [← hN]
    rcases HGI.out.hW with e | e <;> rcases HGI.out.hH with e' | e' <;> rw [e, e'] <;> rfl)
  rw [hN] at hN4 hN9; rw [hSL] at hS4 hS16
  have HN := Lib.hid hN; have HSL := Lib.hid hSL
  have m0_ := PM5.out.c0
  have b0_ := HGI.out.read.box.c0
  rw [hN] at b0_
  clear hgi hb4 hb5 hb35 pm5 hN hSL z0 z1 hs5 hgn
  have hrbl : w.heap.size + 1 < w5.heap.size := PR5.out.lt
  have hmxl : mbx < w5.heap.size := PM5.out.lt
  have hml : mb < w5.heap.size := HGI.out.mesh.low.2.1
  have hpl : pb < w5.heap.size := HGI.out.mesh.low.2.2.1
  have htl : tb < w5.heap.size := (HGI.out.mesh.row.lt tb rfl).2
  go_wp2
  clear m0_ b0_
  refine wp_loop (fun a wr => ∃ (v : Nat) (dl : List Deferred), (v ≤ N ∧ Below w5.heap.size w5 wr ∧ MarksOk wr dl ∧ (∀ d, d ∈ dl → ∀ r, d.target = .collected r → w5.heap.size ≤ r)) ∧ FrameA w0 h0 b0 w.heap.size mbx g gn gc mb pb N pc v dl a) (fun a _ => N - (intOf (a.tmps.getD 33 undef)).toNat) ?_ ?_
  · exact ⟨0, [], ⟨Nat.zero_le _, Below.refl _ _, .nil, fun d hd => by cases hd⟩, frameA_ok⟩
  rintro a0_ wq ⟨v, dl, ⟨hv, hbw, hmk, hfr⟩, u, rfl⟩
  try dsimp only
  by_cases hlt : v < N
  · have hyd : decide ((v : Int) < (N : Int)) = true := decide_eq_true (by omega)
    have hq5 : w5.heap.size ≤ wq.heap.size := hbw.size
    have HBW := Lib.hid hbw; have HMK := Lib.hid hmk; have HFR := Lib.hid hfr
    obtain ⟨vb, hvb⟩ : ∃ x, wq.heap.size = x := ⟨_, rfl⟩
    obtain ⟨w6, hw6, pv6, hb6, hs6⟩ := new_box wq _ rfl [.int .i64 (v : Int)] 3
    obtain ⟨hrun7, hmap7⟩ := run_new_map (P := Try.prog) w6 52 3
    obtain ⟨w7, hw7⟩ : ∃ w7, w6.alloc (.map #[] 0) = w7 := ⟨_, rfl⟩
    rw [hw7] at hrun7 hmap7
    have hb7 : Below w6.heap.size w6 w7 := by rw [← hw7]; exact (Below.refl _ _).alloc (Nat.le_refl _) _
    have hs7 : w7.heap.size = w6.heap.size + 1 := by rw [← hw7]; simp
    obtain ⟨mpb, hmpb⟩ : ∃ x, w6.heap.size = x := ⟨_, rfl⟩
    rw [hmpb] at hrun7 hmap7
    obtain ⟨mpx, hmpx⟩ : ∃ x, w7.heap.size = x := ⟨_, rfl⟩
    obtain ⟨w8, hw8, pm8, hb8, hs8⟩ := new_box w7 _ rfl [.map (some mpb)] 52
    obtain ⟨lb, hlb⟩ : ∃ x, w8.heap.size = x := ⟨_, rfl⟩
    obtain ⟨w9, hw9, pl9, hb9, hs9⟩ := new_box w8 _ rfl [.int .i64 0] 3
    obtain ⟨fb, hfb⟩ : ∃ x, w9.heap.size = x := ⟨_, rfl⟩
    obtain ⟨w10, hw10, pf10, hb10, hs10⟩ := new_box w9 _ rfl [.int .i64 0] 3
    have bv6 : Boxed w6 vb 3 (.int .i64 (v : Int)) := by rw [← hw6, ← hvb]; exact Boxed.new wq _ _
    have bm8 : Boxed w8 mpx 52 (.map (some mpb)) := by rw [← hw8, ← hmpx]; exact Boxed.new w7 _ _
    have bl9 : Boxed w9 lb 3 (.int .i64 0) := by rw [← hw9, ← hlb]; exact Boxed.new w8 _ _
    have bf10 : Boxed w10 fb 3 (.int .i64 0) := by rw [← hw10, ← hfb]; exact Boxed.new w9 _ _
    rw [hmpx] at pm8; rw [hlb] at pl9; rw [hfb] at pf10; rw [hvb] at pv6
    have e1 : vb < mpb := by omega
    have e2 : mpb < mpx := by omega
    have e3 : mpx < lb := by omega
    have e4 : lb < fb := by omega
    have e5 : fb < w10.heap.size := by omega
    have bl10 : Boxed w10 lb 3 (.int .i64 0) := (hb10.block lb (by omega)).trans bl9
    have hcl := bl10.cell; have hfl := bl10.frozen
    obtain ⟨w11, hw11⟩ : ∃ x, w10.setCell ⟨lb, 0, none⟩ (.int .i64 (-1)) = x := ⟨_, rfl⟩
    have bl11 : Boxed w11 lb 3 (.int .i64 (-1)) := by rw [← hw11]; exact bl10.set _
    have bf11 : Boxed w11 fb 3 (.int .i64 0) := by rw [← hw11]; exact bf10.other (by omega) _
    have hcf := bf11.cell; have hff := bf11.frozen
    obtain ⟨w12, hw12⟩ : ∃ x, w11.setCell ⟨fb, 0, none⟩ (.int .i64 (-1)) = x := ⟨_, rfl⟩
    have bf12 : Boxed w12 fb 3 (.int .i64 (-1)) := by rw [← hw12]; exact bf11.set _
    have bl12 : Boxed w12 lb 3 (.int .i64 (-1)) := by rw [← hw12]; exact bl11.other (by omega) _
    have hs11 : w11.heap.size = w10.heap.size := by rw [← hw11]; simp [World.setCell]
    have hs12 : w12.heap.size = w10.heap.size := by rw [← hw12, ← hs11]; simp [World.setCell]
    have hb812 : Below w8.heap.size w8 w12 := by
      rw [← hw12, ← hw11]
      exact (((hb9.trans (hb10.mono hb9.size))).setCell (p := ⟨lb, 0, none⟩) (by simp only []; omega) _).setCell (p := ⟨fb, 0, none⟩) (by simp only []; omega) _
    have hb712 := hb8.trans (hb812.mono hb8.size)
    have hb612 := hb7.trans (hb712.mono hb7.size)
    have hbq12 := hb6.trans (hb612.mono hb6.size)
    have bv12 : Boxed w12 vb 3 (.int .i64 (v : Int)) := (hb612.block vb (by omega)).trans bv6
    have bm12 : Boxed w12 mpx 52 (.map (some mpb)) := (hb812.block mpx (by omega)).trans bm8
    have hmap12 := hmap7.below hb712
    have pv0 := pv6.c0
    have m0_ := (PM5.out.below (hbw.trans (hbq12.mono hbw.size))).c0
    have v0_ := bv12.cell
    have HAR := Lib.hid (Around_any mb (v : Int) w12)
    have BV12 := Lib.hid bv12; have BM12 := Lib.hid bm12; have BL12 := Lib.hid bl12; have BF12 := Lib.hid bf12; have MP12 := Lib.hid hmap12; have HBQ12 := Lib.hid hbq12
    have hs12' : w12.heap.size = fb + 1 := by omega
    clear hbw hmk hfr pv6 hb6 hs6 hmap7 hb7 hb8 hs8 pm8 pl9 pf10 hb9 hs9 hb10 hs10 bv6 bm8 bl9 bf10 bl10 bl11 bf11 bf12 bl12 hb812 hb712 hb612 hbq12 bv12 bm12 hmap12 hs7 hs11 hs12
    go_wp2_with fail
    refine HAR.out.mono ?_
    rintro e w13 ⟨rfl, hw13⟩
    have HW13 := Lib.hid hw13; have HS12 := Lib.hid hs12'
    clear hw13 hs12'
    clear hcl hfl hcf hff m0_ v0_ pv0 hrun7
    go_wp2
    obtain ⟨x0, x1, x2, hs13, hb1213⟩ := three_boxes w12 (.pointer (some ⟨mb, 0, none⟩)) (.int .i64 (v : Int)) (.func (.func 15) #[.pointer (some ⟨mb, 0, none⟩)] #[]) 25 3 57
    rw [← HW13.out] at x0 x1 x2 hs13 hb1213
    have hs12a : fb + 1 ≤ w12.heap.size := by have := HS12.out; omega
    have hs12b : w12.heap.size ≤ fb + 1 := by have := HS12.out; omega
    have hs13a : w12.heap.size + 3 ≤ w13.heap.size := by omega
    have hs13b : w13.heap.size ≤ w12.heap.size + 3 := by omega
    clear hs13
    have hbq13 := HBQ12.out.trans (hb1213.mono HBQ12.out.size)
    have bv13 : Boxed w13 vb 3 (.int .i64 (v : Int)) := (hb1213.block vb (by omega)).trans BV12.out
    have bm13 : Boxed w13 mpx 52 (.map (some mpb)) := (hb1213.block mpx (by omega)).trans BM12.out
    have bl13 : Boxed w13 lb 3 (.int .i64 (-1)) := (hb1213.block lb (by omega)).trans BL12.out
    have bf13 : Boxed w13 fb 3 (.int .i64 (-1)) := (hb1213.block fb (by omega)).trans BF12.out
    have mp13 := MP12.out.below hb1213
    have hg13 := HGI.out.below (HBW.out.trans (hbq13.mono HBW.out.size))
    have pm13 := PM5.out.below (HBW.out.trans (hbq13.mono HBW.out.size))
    have pr13 := PR5.out.below (HBW.out.trans (hbq13.mono HBW.out.size))
    clear HW13 hb1213
    obtain ⟨Pb, hPb⟩ : ∃ Pb : Nat → Prop, ∀ b, Pb b ↔ (b ≠ lb ∧ b ≠ fb ∧ b ≠ mpb ∧ b < w13.heap.size) := ⟨_, fun _ => Iff.rfl⟩
    have hltW : ∀ b, Pb b → b < w13.heap.size := fun b h => ((hPb b).1 h).2.2.2
    have hnl : ¬ Pb lb := fun h => ((hPb _).1 h).1 rfl
    have hnf : ¬ Pb fb := fun h => ((hPb _).1 h).2.1 rfl
    have hnm : ¬ Pb mpb := fun h => ((hPb _).1 h).2.2.1 rfl
    have hin13 : MeshIn Pb mb pb (some ⟨tb, 0, none⟩) := ⟨(hPb _).2 (by omega), (hPb _).2 (by omega), fun b hb => by cases hb; exact (hPb _).2 (by omega)⟩
    have hPv : Pb vb := (hPb _).2 (by omega)
    have hPx : Pb mpx := (hPb _).2 (by omega)
    have hPm : Pb mbx := (hPb _).2 (by omega)
    have hPr : Pb (w.heap.size + 1) := (hPb _).2 (by omega)
    have hP0 : Pb w12.heap.size := (hPb _).2 (by omega)
    have hP1 : Pb (w12.heap.size + 1) := (hPb _).2 (by omega)
    have hP2 : Pb (w12.heap.size + 1 + 1) := (hPb _).2 (by omega)
    rw [← wpIn_wide (n := 20)]
    refine range_start9 (fun a0_ ha0 => ?_)
    refine wpIn_rangeFunc_ownH rfl (by omega) (gf := 50) (lb := #[.pointer (some ⟨w12.heap.size + 1 + 1, 0, none⟩), .pointer (some ⟨w12.heap.size + 1, 0, none⟩), .pointer (some ⟨w12.heap.size, 0, none⟩)]) (by rw [ha0]; rfl) trivial (enters_of Try.func50 (by kernel_rfl) rfl)
      (round_stops_at 19 (by omega) _ _ _ Pb (v : Int) w13 hg13.read hin13 x2.cell x1.cell x0.cell hP1 hP0) (fun h k => KeepB.trans h k) ?kb (Below.refl _ _) (fun _ => rfl)
      (fun (pre : List (RB S)) W => KeepB Pb w13 W ∧ (Boxed W lb 3 (.int .i64 (lastZ (pre.map (·.1)))) ∧ (Boxed W fb 3 (.int .i64 (firstZ (pre.map (·.1)))) ∧ (MapB Try.prog 3 W mpb ((seenP (pre.map (·.1))).map encG) ∧ Below wq.heap.size wq W))))
      (fun c (pre : List (RB S)) _ => c = .ret ∧ ∃ q x, pre.map (·.1) = q ++ [x] ∧ BadA S (v : Int) q x)
      (OwnFrom.and (keepB_own hltW) (OwnFrom.and (Own.from (boxed_own lb 3 (fun pre : List (RB S) => Value.int .i64 (lastZ (pre.map (·.1))))) _) (OwnFrom.and (Own.from (boxed_own fb 3 (fun pre : List (RB S) => Value.int .i64 (firstZ (pre.map (·.1))))) _) (OwnFrom.and (mapB_own w13.heap.size mpb (by omega) (fun pre : List (RB S) => (seenP (pre.map (·.1))).map encG)) (ownFrom_below (by have := hbq13.size; omega) (by have := hbq13.size; omega))))))
      (fun c => ownFrom_pure _ (fun pre : List (RB S) => c = .ret ∧ ∃ q x, pre.map (·.1) = q ++ [x] ∧ BadA S (v : Int) q x))
      ⟨KeepB.refl _ _, bl13, bf13, mp13, hbq13⟩
      (fun x a' W => a' = { tmps := (((#[40, 41].zip (encR x)).foldl (fun t (p, v) => t.setIfInBounds p v) a0_.tmps).setIfInBounds 11 (.int .i64 (x.1.1 : Int))).setIfInBounds 12 (.int .i64 (x.1.2 : Int)), defers := [] })
      ?own ?assign ?body ?done ?stop
    case kb =>
      intro W l o o' hl _ _ _ b hb
      exact World.putObj_heap_other (fun e => by have := hltW b hb; omega)
    case own =>
      intro x a' s A B row hs _ _
      exact hs
    case assign =>
      intro l pre x W K hI hK
      rw [ha0] at hK ⊢
      dsimp only [encR] at hK ⊢
      gi_wp2
      exact hK _ _ (KeepsFrom.refl _ _) (KeepB.refl _ _) hI (by kernel_rfl)
    case body =>
      as_aux_lemma =>
        rintro l pre x a' W hWl - ⟨hKB, hbl, hbf, hmp, hBW⟩ rfl hlen
        obtain ⟨⟨t, k⟩, ht, hk⟩ := x
        simp only [] at ht hk
        have hW13 : w13.heap.size ≤ W.heap.size := by
          have hx := (hKB w12.heap.size hP0).trans x0
          have := (Array.getElem?_eq_some_iff.1 hx).1
          have h2 := hBW.size
          have hx2 := (hKB (w12.heap.size + 1 + 1) hP2).trans x2
          have := (Array.getElem?_eq_some_iff.1 hx2).1
          omega
        obtain ⟨T, hT⟩ : ∃ T, S[t]? = some T := ⟨_, List.getElem?_eq_getElem ht⟩
        obtain ⟨pq, hpq⟩ : ∃ q, pre.map (·.1) = q := ⟨_, rfl⟩
        have hpx : ∀ z : RB S, z.1 = (t, k) → (pre ++ [z]).map (·.1) = pq ++ [(t, k)] := fun z hz => by rw [List.map_append, hpq, List.map_cons, hz]; rfl
        rw [hpq] at hbl hbf hmp
        rw [HSL.out] at ht
        have hr13 := hg13.read
        have hrW := hr13.keep hin13 hKB
        obtain ⟨tb', htb, -, h9⟩ := hrW.tris.get hT
        simp only [Option.some.injEq, Addr.mk.injEq, and_true] at htb
        subst htb
        obtain ⟨x, hx⟩ : ∃ x, T.v k = x := ⟨_, rfl⟩
        have c1 := hrW.box.c1
        rw [HSL.out] at c1
        have cx : W.cell? ⟨tb, t * 9 + k, none⟩ = some (.int .i64 x) := by rw [← hx]; exact h9.v hk
        have cm := (hKB.cell hPm).trans pm13.c0
        have cv : W.cell? ⟨vb, 0, none⟩ = some (.int .i64 (v : Int)) := (hKB.cell hPv).trans bv13.cell
        have cp : W.cell? ⟨mpx, 0, none⟩ = some (.map (some mpb)) := (hKB.cell hPx).trans bm13.cell
        have prW := box_keep9 pr13 hKB hPr
        obtain ⟨la, hla⟩ : ∃ z, lastZ pq = z := ⟨_, rfl⟩
        obtain ⟨fi, hfi⟩ : ∃ z, firstZ pq = z := ⟨_, rfl⟩
        rw [hla] at hbl; rw [hfi] at hbf
        have HKB := Lib.hid hKB; have HBL := Lib.hid hbl; have HBF := Lib.hid hbf; have HMP := Lib.hid hmp; have HBWW := Lib.hid hBW; have HPX := Lib.hid hpx; have HTT := Lib.hid hT; have HXX := Lib.hid hx; have HLA := Lib.hid hla; have HFI := Lib.hid hfi; have PRW := Lib.hid prW
        have i1 : (0 : Int) ≤ (t : Int) := by omega
        have i2 : (t : Int) < (SL : Int) := by omega
        have i3 : (0 : Int) ≤ (k : Int) := by omega
        have i4 : (k : Int) < 3 := by omega
        have hf0 := (Below.refl W.heap.size W).drew'
        have HC1 := Lib.hid c1; have HCX := Lib.hid cx; have HCM := Lib.hid cm; have HCV := Lib.hid cv; have HCP := Lib.hid cp; have HCL := Lib.hid hbl.cell; have HTRI := Lib.hid hrW
        rw [ha0]
        dsimp only [encR]
        clear hpx hT hx hla hfi prW hKB hbl hbf hmp hBW hr13 hrW h9 c1 cx cm cv cp
        simp only [List.zip_toArray, List.zip_cons_cons, List.zip_nil_right, List.size_toArray, List.length_cons, List.length_nil, Nat.zero_add, Nat.reduceAdd, List.foldl_toArray', List.foldl_cons, List.foldl_nil, List.setIfInBounds_toArray, List.set_cons_succ, List.set_cons_zero]
        have leave : ∀ (w1 : World), Below W.heap.size W w1 → BadA S (v : Int) pq (t, k) → ∀ (z : RB S), z.1 = (t, k) → KeepsFrom w13.heap.size W (w1.setCell ⟨w.heap.size + 1, 0, none⟩ (.bool false)) ∧ (Code.ret = Code.ret ∧ ∃ q x, (pre ++ [z]).map (·.1) = q ++ [x] ∧ BadA S (v : Int) q x) := fun w1 hb hbad z hz =>
          ⟨(KeepsOthers.trans (keepsOthers_below9 hb) (KeepsOthers.setCell _ _ _)).from _, rfl, pq, (t, k), HPX.out z hz, hbad⟩
        by_cases hin : t ∈ seenP pq
        · have CF := Lib.hid (show ∀ w', Below W.heap.size W w' → (Instr.lookup 52 (.map (some mpb)) (.int .i64 (t : Int)) false).run Try.prog w' = .ok (.int .i64 1) w' ∧ w'.cell? ⟨mpx, 0, none⟩ = some (.map (some mpb)) ∧ w'.cell? ⟨mbx, 0, none⟩ = some (.pointer (some ⟨mb, 0, none⟩)) ∧ w'.cell? ⟨mb, 1, none⟩ = some (.slice (some ⟨tb, 0, none⟩) SL tc) ∧ w'.cell? ⟨tb, t * 9 + k, none⟩ = some (.int .i64 x) ∧ w'.cell? ⟨vb, 0, none⟩ = some (.int .i64 (v : Int)) ∧ w'.cell? ⟨lb, 0, none⟩ = some (.int .i64 la) from fun w' hb => by
            have hl := set_look (HMP.out.below hb) (t := t) (by omega)
            rw [if_pos hin] at hl
            exact ⟨hl, (hb.cell (World.block_lt_of_cell? _ _ HCP.out)).trans HCP.out, (hb.cell (World.block_lt_of_cell? _ _ HCM.out)).trans HCM.out, (hb.cell (World.block_lt_of_cell? _ _ HC1.out)).trans HC1.out, (hb.cell (World.block_lt_of_cell? _ _ HCX.out)).trans HCX.out, (hb.cell (World.block_lt_of_cell? _ _ HCV.out)).trans HCV.out, (hb.cell (World.block_lt_of_cell? _ _ HCL.out)).trans HCL.out⟩)
          have hbad : BadA S (v : Int) pq (t, k) := .inl (seenP_mem.1 hin)
          have HL := Lib.hid (leave _ hf0 hbad)
          clear leave hin hbad
          gi_wp2
          refine rnd_region_held (S := fun w' => (Instr.lookup 52 (.map (some mpb)) (.int .i64 (t : Int)) false).run Try.prog w' = .ok (.int .i64 1) w' ∧ w'.cell? ⟨mpx, 0, none⟩ = some (.map (some mpb)) ∧ w'.cell? ⟨mbx, 0, none⟩ = some (.pointer (some ⟨mb, 0, none⟩)) ∧ w'.cell? ⟨mb, 1, none⟩ = some (.slice (some ⟨tb, 0, none⟩) SL tc) ∧ w'.cell? ⟨tb, t * 9 + k, none⟩ = some (.int .i64 x) ∧ w'.cell? ⟨vb, 0, none⟩ = some (.int .i64 (v : Int)) ∧ w'.cell? ⟨lb, 0, none⟩ = some (.int .i64 la)) (by kernel_rfl) (by kernel_rfl) (CF.out _ hf0) (fun hHeld => ?_)
          refine reg_take 0 ?_ ?_ ?_ (by kernel_rfl) (by kernel_rfl) (by kernel_rfl) (fun _ _ _ h => h) ?_ ?_ (by assumption) ?_
          rotate_left 2
          · simp only [List.getElem?_toArray, List.getElem?_cons_zero]; exact rfl
          · rfl
          · intro w hSw; (try dsimp only at hSw); go_simp; try with_reducible rfl
          try simp only [Act.put]
          try simp only [List.setIfInBounds_toArray, List.set_cons_zero, List.set_cons_succ]
          refine reg_take 1 ?_ ?_ ?_ (by kernel_rfl) (by kernel_rfl) (by kernel_rfl) (fun _ _ _ h => h) ?_ ?_ (by assumption) ?_
          rotate_left 2
          · simp only [List.getElem?_toArray, List.getElem?_cons_succ, List.getElem?_cons_zero]; exact rfl
          · rfl
          · intro w hSw; (try dsimp only at hSw); go_simp; try with_reducible rfl
          try simp only [Act.put]
          try simp only [List.setIfInBounds_toArray, List.set_cons_zero, List.set_cons_succ]
          refine reg_take 2 ?_ ?_ ?_ (by kernel_rfl) (by kernel_rfl) (by kernel_rfl) (fun _ _ _ h => h) ?_ ?_ (by assumption) ?_
          rotate_left 2
          · simp only [List.getElem?_toArray, List.getElem?_cons_succ, List.getElem?_cons_zero]; exact rfl
          · rfl
          · intro w hSw; (try dsimp only at hSw); go_simp; try with_reducible rfl
          try simp only [Act.put]
          try simp only [List.setIfInBounds_toArray, List.set_cons_zero, List.set_cons_succ]
          refine reg_take 3 ?_ ?_ ?_ (by kernel_rfl) (by kernel_rfl) (by kernel_rfl) (fun _ _ _ h => h) ?_ ?_ (by assumption) ?_
          rotate_left 2
          · simp only [List.getElem?_toArray, List.getElem?_cons_succ, List.getElem?_cons_zero]; exact rfl
          · rfl
          · intro w hSw; (try dsimp only at hSw); go_simp; try with_reducible rfl
          try simp only [Act.put]
          try simp only [List.setIfInBounds_toArray, List.set_cons_zero, List.set_cons_succ]
          refine reg_take 4 ?_ ?_ ?_ (by kernel_rfl) (by kernel_rfl) (by kernel_rfl) (fun _ _ _ h => h) ?_ ?_ (by assumption) ?_
          rotate_left 2
          · simp only [List.getElem?_toArray, List.getElem?_cons_succ, List.getElem?_cons_zero]; exact rfl
          · rfl
          · intro w hSw; (try dsimp only at hSw); go_simp; try with_reducible rfl
          try simp only [Act.put]
          try simp only [List.setIfInBounds_toArray, List.set_cons_zero, List.set_cons_succ]
          refine reg_skip 5 ?_ ?_ (by kernel_rfl) (by kernel_rfl) (by kernel_rfl) (fun _ _ _ h => h) ?_ (by assumption) ?_
          rotate_left 1
          · simp only [List.getElem?_toArray, List.getElem?_cons_succ, List.getElem?_cons_zero]; exact rfl
          · rfl
          try simp only [Act.put]
          try simp only [List.setIfInBounds_toArray, List.set_cons_zero, List.set_cons_succ]
          refine reg_skip 6 ?_ ?_ (by kernel_rfl) (by kernel_rfl) (by kernel_rfl) (fun _ _ _ h => h) ?_ (by assumption) ?_
          rotate_left 1
          · simp only [List.getElem?_toArray, List.getElem?_cons_succ, List.getElem?_cons_zero]; exact rfl
          · rfl
          try simp only [Act.put]
          try simp only [List.setIfInBounds_toArray, List.set_cons_zero, List.set_cons_succ]
          refine reg_skip 7 ?_ ?_ (by kernel_rfl) (by kernel_rfl) (by kernel_rfl) (fun _ _ _ h => h) ?_ (by assumption) ?_
          rotate_left 1
          · simp only [List.getElem?_toArray, List.getElem?_cons_succ, List.getElem?_cons_zero]; exact rfl
          · rfl
          try simp only [Act.put]
          try simp only [List.setIfInBounds_toArray, List.set_cons_zero, List.set_cons_succ]
          refine reg_skip 8 ?_ ?_ (by kernel_rfl) (by kernel_rfl) (by kernel_rfl) (fun _ _ _ h => h) ?_ (by assumption) ?_
          rotate_left 1
          · simp only [List.getElem?_toArray, List.getElem?_cons_succ, List.getElem?_cons_zero]; exact rfl
          · rfl
          try simp only [Act.put]
          try simp only [List.setIfInBounds_toArray, List.set_cons_zero, List.set_cons_succ]
          refine reg_skip 9 ?_ ?_ (by kernel_rfl) (by kernel_rfl) (by kernel_rfl) (fun _ _ _ h => h) ?_ (by assumption) ?_
          rotate_left 1
          · simp only [List.getElem?_toArray, List.getElem?_cons_succ, List.getElem?_cons_zero]; exact rfl
          · rfl
          try simp only [Act.put]
          try simp only [List.setIfInBounds_toArray, List.set_cons_zero, List.set_cons_succ]
          refine reg_skip 10 ?_ ?_ (by kernel_rfl) (by kernel_rfl) (by kernel_rfl) (fun _ _ _ h => h) ?_ (by assumption) ?_
          rotate_left 1
          · simp only [List.getElem?_toArray, List.getElem?_cons_succ, List.getElem?_cons_zero]; exact rfl
          · rfl
          try simp only [Act.put]
          try simp only [List.setIfInBounds_toArray, List.set_cons_zero, List.set_cons_succ]
          refine reg_skip 11 ?_ ?_ (by kernel_rfl) (by kernel_rfl) (by kernel_rfl) (fun _ _ _ h => h) ?_ (by assumption) ?_
          rotate_left 1
          · simp only [List.getElem?_toArray, List.getElem?_cons_succ, List.getElem?_cons_zero]; exact rfl
          · rfl
          try simp only [Act.put]
          try simp only [List.setIfInBounds_toArray, List.set_cons_zero, List.set_cons_succ]
          refine reg_skip 12 ?_ ?_ (by kernel_rfl) (by kernel_rfl) (by kernel_rfl) (fun _ _ _ h => h) ?_ (by assumption) ?_
          rotate_left 1
          · simp only [List.getElem?_toArray, List.getElem?_cons_succ, List.getElem?_cons_zero]; exact rfl
          · rfl
          try simp only [Act.put]
          try simp only [List.setIfInBounds_toArray, List.set_cons_zero, List.set_cons_succ]
          refine reg_skip 13 ?_ ?_ (by kernel_rfl) (by kernel_rfl) (by kernel_rfl) (fun _ _ _ h => h) ?_ (by assumption) ?_
          rotate_left 1
          · simp only [List.getElem?_toArray, List.getElem?_cons_succ, List.getElem?_cons_zero]; exact rfl
          · rfl
          try simp only [Act.put]
          try simp only [List.setIfInBounds_toArray, List.set_cons_zero, List.set_cons_succ]
          refine reg_skip 14 ?_ ?_ (by kernel_rfl) (by kernel_rfl) (by kernel_rfl) (fun _ _ _ h => h) ?_ (by assumption) ?_
          rotate_left 1
          · simp only [List.getElem?_toArray, List.getElem?_cons_succ, List.getElem?_cons_zero]; exact rfl
          · rfl
          try simp only [Act.put]
          try simp only [List.setIfInBounds_toArray, List.set_cons_zero, List.set_cons_succ]
          refine reg_skip 15 ?_ ?_ (by kernel_rfl) (by kernel_rfl) (by kernel_rfl) (fun _ _ _ h => h) ?_ (by assumption) ?_
          rotate_left 1
          · simp only [List.getElem?_toArray, List.getElem?_cons_succ, List.getElem?_cons_zero]; exact rfl
          · rfl
          try simp only [Act.put]
          try simp only [List.setIfInBounds_toArray, List.set_cons_zero, List.set_cons_succ]
          refine reg_skip 16 ?_ ?_ (by kernel_rfl) (by kernel_rfl) (by kernel_rfl) (fun _ _ _ h => h) ?_ (by assumption) ?_
          rotate_left 1
          · simp only [List.getElem?_toArray, List.getElem?_cons_succ, List.getElem?_cons_zero]; exact rfl
          · rfl
          try simp only [Act.put]
          try simp only [List.setIfInBounds_toArray, List.set_cons_zero, List.set_cons_succ]
          refine reg_take 17 ?_ ?_ ?_ (by kernel_rfl) (by kernel_rfl) (by kernel_rfl) (fun _ _ _ h => h) ?_ ?_ (by assumption) ?_
          rotate_left 2
          · simp only [List.getElem?_toArray, List.getElem?_cons_succ, List.getElem?_cons_zero]; exact rfl
          · rfl
          · intro w hSw; (try dsimp only at hSw); go_simp; try with_reducible rfl
          try simp only [Act.put]
          try simp only [List.setIfInBounds_toArray, List.set_cons_zero, List.set_cons_succ]
          refine reg_take 18 ?_ ?_ ?_ (by kernel_rfl) (by kernel_rfl) (by kernel_rfl) (fun _ _ _ h => h) ?_ ?_ (by assumption) ?_
          rotate_left 2
          · simp only [List.getElem?_toArray, List.getElem?_cons_succ, List.getElem?_cons_zero]; exact rfl
          · rfl
          · intro w hSw; (try dsimp only at hSw); go_simp; try with_reducible rfl
          try simp only [Act.put]
          try simp only [List.setIfInBounds_toArray, List.set_cons_zero, List.set_cons_succ]
          refine reg_skip 19 ?_ ?_ (by kernel_rfl) (by kernel_rfl) (by kernel_rfl) (fun _ _ _ h => h) ?_ (by assumption) ?_
          rotate_left 1
          · simp only [List.getElem?_toArray, List.getElem?_cons_succ, List.getElem?_cons_zero]; exact rfl
          · rfl
          try simp only [Act.put]
          try simp only [List.setIfInBounds_toArray, List.set_cons_zero, List.set_cons_succ]
          refine reg_skip 20 ?_ ?_ (by kernel_rfl) (by kernel_rfl) (by kernel_rfl) (fun _ _ _ h => h) ?_ (by assumption) ?_
          rotate_left 1
          · simp only [List.getElem?_toArray, List.getElem?_cons_succ, List.getElem?_cons_zero]; exact rfl
          · rfl
          try simp only [Act.put]
          try simp only [List.setIfInBounds_toArray, List.set_cons_zero, List.set_cons_succ]
          refine reg_skip 21 ?_ ?_ (by kernel_rfl) (by kernel_rfl) (by kernel_rfl) (fun _ _ _ h => h) ?_ (by assumption) ?_
          rotate_left 1
          · simp only [List.getElem?_toArray, List.getElem?_cons_succ, List.getElem?_cons_zero]; exact rfl
          · rfl
          try simp only [Act.put]
          try simp only [List.setIfInBounds_toArray, List.set_cons_zero, List.set_cons_succ]
          refine reg_skip 22 ?_ ?_ (by kernel_rfl) (by kernel_rfl) (by kernel_rfl) (fun _ _ _ h => h) ?_ (by assumption) ?_
          rotate_left 1
          · simp only [List.getElem?_toArray, List.getElem?_cons_succ, List.getElem?_cons_zero]; exact rfl
          · rfl
          try simp only [Act.put]
          try simp only [List.setIfInBounds_toArray, List.set_cons_zero, List.set_cons_succ]
          refine reg_skip 23 ?_ ?_ (by kernel_rfl) (by kernel_rfl) (by kernel_rfl) (fun _ _ _ h => h) ?_ (by assumption) ?_
          rotate_left 1
          · simp only [List.getElem?_toArray, List.getElem?_cons_succ, List.getElem?_cons_zero]; exact rfl
          · rfl
          try simp only [Act.put]
          try simp only [List.setIfInBounds_toArray, List.set_cons_zero, List.set_cons_succ]
          refine reg_skip 24 ?_ ?_ (by kernel_rfl) (by kernel_rfl) (by kernel_rfl) (fun _ _ _ h => h) ?_ (by assumption) ?_
          rotate_left 1
          · simp only [List.getElem?_toArray, List.getElem?_cons_succ, List.getElem?_cons_zero]; exact rfl
          · rfl
          try simp only [Act.put]
          try simp only [List.setIfInBounds_toArray, List.set_cons_zero, List.set_cons_succ]
          refine reg_skip 25 ?_ ?_ (by kernel_rfl) (by kernel_rfl) (by kernel_rfl) (fun _ _ _ h => h) ?_ (by assumption) ?_
          rotate_left 1
          · simp only [List.getElem?_toArray, List.getElem?_cons_succ, List.getElem?_cons_zero]; exact rfl
          · rfl
          try simp only [Act.put]
          try simp only [List.setIfInBounds_toArray, List.set_cons_zero, List.set_cons_succ]
          refine reg_skip 26 ?_ ?_ (by kernel_rfl) (by kernel_rfl) (by kernel_rfl) (fun _ _ _ h => h) ?_ (by assumption) ?_
          rotate_left 1
          · simp only [List.getElem?_toArray, List.getElem?_cons_succ, List.getElem?_cons_zero]; exact rfl
          · rfl
          try simp only [Act.put]
          try simp only [List.setIfInBounds_toArray, List.set_cons_zero, List.set_cons_succ]
          refine reg_skip 27 ?_ ?_ (by kernel_rfl) (by kernel_rfl) (by kernel_rfl) (fun _ _ _ h => h) ?_ (by assumption) ?_
          rotate_left 1
          · simp only [List.getElem?_toArray, List.getElem?_cons_succ, List.getElem?_cons_zero]; exact rfl
          · rfl
          try simp only [Act.put]
          try simp only [List.setIfInBounds_toArray, List.set_cons_zero, List.set_cons_succ]
          refine reg_skip 28 ?_ ?_ (by kernel_rfl) (by kernel_rfl) (by kernel_rfl) (fun _ _ _ h => h) ?_ (by assumption) ?_
          rotate_left 1
          · simp only [List.getElem?_toArray, List.getElem?_cons_succ, List.getElem?_cons_zero]; exact rfl
          · rfl
          try simp only [Act.put]
          try simp only [List.setIfInBounds_toArray, List.set_cons_zero, List.set_cons_succ]
          refine reg_skip 29 ?_ ?_ (by kernel_rfl) (by kernel_rfl) (by kernel_rfl) (fun _ _ _ h => h) ?_ (by assumption) ?_
          rotate_left 1
          · simp only [List.getElem?_toArray, List.getElem?_cons_succ, List.getElem?_cons_zero]; exact rfl
          · rfl
          try simp only [Act.put]
          try simp only [List.setIfInBounds_toArray, List.set_cons_zero, List.set_cons_succ]
          refine reg_skip 30 ?_ ?_ (by kernel_rfl) (by kernel_rfl) (by kernel_rfl) (fun _ _ _ h => h) ?_ (by assumption) ?_
          rotate_left 1
          · simp only [List.getElem?_toArray, List.getElem?_cons_succ, List.getElem?_cons_zero]; exact rfl
          · rfl
          try simp only [Act.put]
          try simp only [List.setIfInBounds_toArray, List.set_cons_zero, List.set_cons_succ]
          refine reg_skip 31 ?_ ?_ (by kernel_rfl) (by kernel_rfl) (by kernel_rfl) (fun _ _ _ h => h) ?_ (by assumption) ?_
          rotate_left 1
          · simp only [List.getElem?_toArray, List.getElem?_cons_succ, List.getElem?_cons_zero]; exact rfl
          · rfl
          try simp only [Act.put]
          try simp only [List.setIfInBounds_toArray, List.set_cons_zero, List.set_cons_succ]
          refine reg_skip 32 ?_ ?_ (by kernel_rfl) (by kernel_rfl) (by kernel_rfl) (fun _ _ _ h => h) ?_ (by assumption) ?_
          rotate_left 1
          · simp only [List.getElem?_toArray, List.getElem?_cons_succ, List.getElem?_cons_zero]; exact rfl
          · rfl
          try simp only [Act.put]
          try simp only [List.setIfInBounds_toArray, List.set_cons_zero, List.set_cons_succ]
          refine reg_skip 33 ?_ ?_ (by kernel_rfl) (by kernel_rfl) (by kernel_rfl) (fun _ _ _ h => h) ?_ (by assumption) ?_
          rotate_left 1
          · simp only [List.getElem?_toArray, List.getElem?_cons_succ, List.getElem?_cons_zero]; exact rfl
          · rfl
          try simp only [Act.put]
          try simp only [List.setIfInBounds_toArray, List.set_cons_zero, List.set_cons_succ]
          refine reg_skip 34 ?_ ?_ (by kernel_rfl) (by kernel_rfl) (by kernel_rfl) (fun _ _ _ h => h) ?_ (by assumption) ?_
          rotate_left 1
          · simp only [List.getElem?_toArray, List.getElem?_cons_succ, List.getElem?_cons_zero]; exact rfl
          · rfl
          try simp only [Act.put]
          try simp only [List.setIfInBounds_toArray, List.set_cons_zero, List.set_cons_succ]
          refine reg_skip 35 ?_ ?_ (by kernel_rfl) (by kernel_rfl) (by kernel_rfl) (fun _ _ _ h => h) ?_ (by assumption) ?_
          rotate_left 1
          · simp only [List.getElem?_toArray, List.getElem?_cons_succ, List.getElem?_cons_zero]; exact rfl
          · rfl
          try simp only [Act.put]
          try simp only [List.setIfInBounds_toArray, List.set_cons_zero, List.set_cons_succ]
          refine reg_skip 36 ?_ ?_ (by kernel_rfl) (by kernel_rfl) (by kernel_rfl) (fun _ _ _ h => h) ?_ (by assumption) ?_
          rotate_left 1
          · simp only [List.getElem?_toArray, List.getElem?_cons_succ, List.getElem?_cons_zero]; exact rfl
          · rfl
          try simp only [Act.put]
          try simp only [List.setIfInBounds_toArray, List.set_cons_zero, List.set_cons_succ]
          refine reg_skip 37 ?_ ?_ (by kernel_rfl) (by kernel_rfl) (by kernel_rfl) (fun _ _ _ h => h) ?_ (by assumption) ?_
          rotate_left 1
          · simp only [List.getElem?_toArray, List.getElem?_cons_succ, List.getElem?_cons_zero]; exact rfl
          · rfl
          try simp only [Act.put]
          try simp only [List.setIfInBounds_toArray, List.set_cons_zero, List.set_cons_succ]
          refine reg_skip 38 ?_ ?_ (by kernel_rfl) (by kernel_rfl) (by kernel_rfl) (fun _ _ _ h => h) ?_ (by assumption) ?_
          rotate_left 1
          · simp only [List.getElem?_toArray, List.getElem?_cons_succ, List.getElem?_cons_zero]; exact rfl
          · rfl
          try simp only [Act.put]
          try simp only [List.setIfInBounds_toArray, List.set_cons_zero, List.set_cons_succ]
          refine reg_skip 39 ?_ ?_ (by kernel_rfl) (by kernel_rfl) (by kernel_rfl) (fun _ _ _ h => h) ?_ (by assumption) ?_
          rotate_left 1
          · simp only [List.getElem?_toArray, List.getElem?_cons_succ, List.getElem?_cons_zero]; exact rfl
          · rfl
          try simp only [Act.put]
          try simp only [List.setIfInBounds_toArray, List.set_cons_zero, List.set_cons_succ]
          refine reg_skip 40 ?_ ?_ (by kernel_rfl) (by kernel_rfl) (by kernel_rfl) (fun _ _ _ h => h) ?_ (by assumption) ?_
          rotate_left 1
          · simp only [List.getElem?_toArray, List.getElem?_cons_succ, List.getElem?_cons_zero]; exact rfl
          · rfl
          try simp only [Act.put]
          try simp only [List.setIfInBounds_toArray, List.set_cons_zero, List.set_cons_succ]
          refine reg_skip 41 ?_ ?_ (by kernel_rfl) (by kernel_rfl) (by kernel_rfl) (fun _ _ _ h => h) ?_ (by assumption) ?_
          rotate_left 1
          · simp only [List.getElem?_toArray, List.getElem?_cons_succ, List.getElem?_cons_zero]; exact rfl
          · rfl
          try simp only [Act.put]
          try simp only [List.setIfInBounds_toArray, List.set_cons_zero, List.set_cons_succ]
          refine reg_skip 42 ?_ ?_ (by kernel_rfl) (by kernel_rfl) (by kernel_rfl) (fun _ _ _ h => h) ?_ (by assumption) ?_
          rotate_left 1
          · simp only [List.getElem?_toArray, List.getElem?_cons_succ, List.getElem?_cons_zero]; exact rfl
          · rfl
          try simp only [Act.put]
          try simp only [List.setIfInBounds_toArray, List.set_cons_zero, List.set_cons_succ]
          refine reg_skip 43 ?_ ?_ (by kernel_rfl) (by kernel_rfl) (by kernel_rfl) (fun _ _ _ h => h) ?_ (by assumption) ?_
          rotate_left 1
          · simp only [List.getElem?_toArray, List.getElem?_cons_succ, List.getElem?_cons_zero]; exact rfl
          · rfl
          try simp only [Act.put]
          try simp only [List.setIfInBounds_toArray, List.set_cons_zero, List.set_cons_succ]
          refine reg_skip 44 ?_ ?_ (by kernel_rfl) (by kernel_rfl) (by kernel_rfl) (fun _ _ _ h => h) ?_ (by assumption) ?_
          rotate_left 1
          · simp only [List.getElem?_toArray, List.getElem?_cons_succ, List.getElem?_cons_zero]; exact rfl
          · rfl
          try simp only [Act.put]
          try simp only [List.setIfInBounds_toArray, List.set_cons_zero, List.set_cons_succ]
          refine reg_take 45 ?_ ?_ ?_ (by kernel_rfl) (by kernel_rfl) (by kernel_rfl) (fun _ _ _ h => h) ?_ ?_ (by assumption) ?_
          rotate_left 2
          · simp only [List.getElem?_toArray, List.getElem?_cons_succ, List.getElem?_cons_zero]; exact rfl
          · rfl
          · intro w hSw; (try dsimp only at hSw); go_simp; try with_reducible rfl
          try simp only [Act.put]
          try simp only [List.setIfInBounds_toArray, List.set_cons_zero, List.set_cons_succ]
          refine wpAnyH_done (by kernel_rfl) ?_ _
          refine OnlyN.normal ?_
          have prz := PRW.out.below hf0
          obtain ⟨q0, q1⟩ := prz.open1
          clear prz
          gi_wp2
          obtain ⟨g1, -, g3⟩ := HL.out ⟨(t, k), by rw [HSL.out]; exact ht, hk⟩ rfl; exact ⟨g1, rfl, g3⟩
        have hl0 : ∀ w', Below W.heap.size W w' → (Instr.lookup 52 (.map (some mpb)) (.int .i64 (t : Int)) false).run Try.prog w' = .ok (.int .i64 0) w' := fun w' hb => by
          have hl := set_look (HMP.out.below hb) (t := t) (by omega)
          rw [if_neg hin] at hl; exact hl
        by_cases hxv : x = (v : Int)
        case neg =>
          have CF := Lib.hid (show ∀ w', Below W.heap.size W w' → (Instr.lookup 52 (.map (some mpb)) (.int .i64 (t : Int)) false).run Try.prog w' = .ok (.int .i64 0) w' ∧ w'.cell? ⟨mpx, 0, none⟩ = some (.map (some mpb)) ∧ w'.cell? ⟨mbx, 0, none⟩ = some (.pointer (some ⟨mb, 0, none⟩)) ∧ w'.cell? ⟨mb, 1, none⟩ = some (.slice (some ⟨tb, 0, none⟩) SL tc) ∧ w'.cell? ⟨tb, t * 9 + k, none⟩ = some (.int .i64 x) ∧ w'.cell? ⟨vb, 0, none⟩ = some (.int .i64 (v : Int)) ∧ w'.cell? ⟨lb, 0, none⟩ = some (.int .i64 la) from fun w' hb =>
            ⟨hl0 w' hb, (hb.cell (World.block_lt_of_cell? _ _ HCP.out)).trans HCP.out, (hb.cell (World.block_lt_of_cell? _ _ HCM.out)).trans HCM.out, (hb.cell (World.block_lt_of_cell? _ _ HC1.out)).trans HC1.out, (hb.cell (World.block_lt_of_cell? _ _ HCX.out)).trans HCX.out, (hb.cell (World.block_lt_of_cell? _ _ HCV.out)).trans HCV.out, (hb.cell (World.block_lt_of_cell? _ _ HCL.out)).trans HCL.out⟩)
          have hbad : BadA S (v : Int) pq (t, k) := .inr (.inl fun T' hT' => by rw [HTT.out] at hT'; cases hT'; rw [HXX.out]; exact hxv)
          have HL := Lib.hid (leave _ hf0 hbad)
          have q2 : (x == (v : Int)) = false := by simpa using hxv
          have q3 : (x != (v : Int)) = true := by simpa using hxv
          clear leave hin hbad hl0 hxv
          gi_wp2
          refine rnd_region_held (S := fun w' => (Instr.lookup 52 (.map (some mpb)) (.int .i64 (t : Int)) false).run Try.prog w' = .ok (.int .i64 0) w' ∧ w'.cell? ⟨mpx, 0, none⟩ = some (.map (some mpb)) ∧ w'.cell? ⟨mbx, 0, none⟩ = some (.pointer (some ⟨mb, 0, none⟩)) ∧ w'.cell? ⟨mb, 1, none⟩ = some (.slice (some ⟨tb, 0, none⟩) SL tc) ∧ w'.cell? ⟨tb, t * 9 + k, none⟩ = some (.int .i64 x) ∧ w'.cell? ⟨vb, 0, none⟩ = some (.int .i64 (v : Int)) ∧ w'.cell? ⟨lb, 0, none⟩ = some (.int .i64 la)) (by kernel_rfl) (by kernel_rfl) (CF.out _ hf0) (fun hHeld => ?_)
          refine reg_take 0 ?_ ?_ ?_ (by kernel_rfl) (by kernel_rfl) (by kernel_rfl) (fun _ _ _ h => h) ?_ ?_ (by assumption) ?_
          rotate_left 2
          · simp only [List.getElem?_toArray, List.getElem?_cons_zero]; exact rfl
          · rfl
          · intro w hSw; (try dsimp only at hSw); go_simp; try with_reducible rfl
          try simp only [Act.put]
          try simp only [List.setIfInBounds_toArray, List.set_cons_zero, List.set_cons_succ]
          refine reg_take 1 ?_ ?_ ?_ (by kernel_rfl) (by kernel_rfl) (by kernel_rfl) (fun _ _ _ h => h) ?_ ?_ (by assumption) ?_
          rotate_left 2
          · simp only [List.getElem?_toArray, List.getElem?_cons_succ, List.getElem?_cons_zero]; exact rfl
          · rfl
          · intro w hSw; (try dsimp only at hSw); go_simp; try with_reducible rfl
          try simp only [Act.put]
          try simp only [List.setIfInBounds_toArray, List.set_cons_zero, List.set_cons_succ]
          refine reg_take 2 ?_ ?_ ?_ (by kernel_rfl) (by kernel_rfl) (by kernel_rfl) (fun _ _ _ h => h) ?_ ?_ (by assumption) ?_
          rotate_left 2
          · simp only [List.getElem?_toArray, List.getElem?_cons_succ, List.getElem?_cons_zero]; exact rfl
          · rfl
          · intro w hSw; (try dsimp only at hSw); go_simp; try with_reducible rfl
          try simp only [Act.put]
          try simp only [List.setIfInBounds_toArray, List.set_cons_zero, List.set_cons_succ]
          refine reg_take 3 ?_ ?_ ?_ (by kernel_rfl) (by kernel_rfl) (by kernel_rfl) (fun _ _ _ h => h) ?_ ?_ (by assumption) ?_
          rotate_left 2
          · simp only [List.getElem?_toArray, List.getElem?_cons_succ, List.getElem?_cons_zero]; exact rfl
          · rfl
          · intro w hSw; (try dsimp only at hSw); go_simp; try with_reducible rfl
          try simp only [Act.put]
          try simp only [List.setIfInBounds_toArray, List.set_cons_zero, List.set_cons_succ]
          refine reg_take 4 ?_ ?_ ?_ (by kernel_rfl) (by kernel_rfl) (by kernel_rfl) (fun _ _ _ h => h) ?_ ?_ (by assumption) ?_
          rotate_left 2
          · simp only [List.getElem?_toArray, List.getElem?_cons_succ, List.getElem?_cons_zero]; exact rfl
          · rfl
          · intro w hSw; (try dsimp only at hSw); go_simp; try with_reducible rfl
          try simp only [Act.put]
          try simp only [List.setIfInBounds_toArray, List.set_cons_zero, List.set_cons_succ]
          refine reg_take 5 ?_ ?_ ?_ (by kernel_rfl) (by kernel_rfl) (by kernel_rfl) (fun _ _ _ h => h) ?_ ?_ (by assumption) ?_
          rotate_left 2
          · simp only [List.getElem?_toArray, List.getElem?_cons_succ, List.getElem?_cons_zero]; exact rfl
          · rfl
          · intro w hSw; (try dsimp only at hSw); go_simp; try with_reducible rfl
          try simp only [Act.put]
          try simp only [List.setIfInBounds_toArray, List.set_cons_zero, List.set_cons_succ]
          refine reg_take 6 ?_ ?_ ?_ (by kernel_rfl) (by kernel_rfl) (by kernel_rfl) (fun _ _ _ h => h) ?_ ?_ (by assumption) ?_
          rotate_left 2
          · simp only [List.getElem?_toArray, List.getElem?_cons_succ, List.getElem?_cons_zero]; exact rfl
          · rfl
          · intro w hSw; (try dsimp only at hSw); go_simp; try with_reducible rfl
          try simp only [Act.put]
          try simp only [List.setIfInBounds_toArray, List.set_cons_zero, List.set_cons_succ]
          refine reg_take 7 ?_ ?_ ?_ (by kernel_rfl) (by kernel_rfl) (by kernel_rfl) (fun _ _ _ h => h) ?_ ?_ (by assumption) ?_
          rotate_left 2
          · simp only [List.getElem?_toArray, List.getElem?_cons_succ, List.getElem?_cons_zero]; exact rfl
          · rfl
          · intro w hSw; (try dsimp only at hSw); go_simp; try with_reducible rfl
          try simp only [Act.put]
          try simp only [List.setIfInBounds_toArray, List.set_cons_zero, List.set_cons_succ]
          refine reg_take 8 ?_ ?_ ?_ (by kernel_rfl) (by kernel_rfl) (by kernel_rfl) (fun _ _ _ h => h) ?_ ?_ (by assumption) ?_
          rotate_left 2
          · simp only [List.getElem?_toArray, List.getElem?_cons_succ, List.getElem?_cons_zero]; exact rfl
          · rfl
          · intro w hSw; (try dsimp only at hSw); go_simp; try with_reducible rfl
          try simp only [Act.put]
          try simp only [List.setIfInBounds_toArray, List.set_cons_zero, List.set_cons_succ]
          refine reg_take 9 ?_ ?_ ?_ (by kernel_rfl) (by kernel_rfl) (by kernel_rfl) (fun _ _ _ h => h) ?_ ?_ (by assumption) ?_
          rotate_left 2
          · simp only [List.getElem?_toArray, List.getElem?_cons_succ, List.getElem?_cons_zero]; exact rfl
          · rfl
          · intro w hSw; (try dsimp only at hSw); go_simp; try with_reducible rfl
          try simp only [Act.put]
          try simp only [List.setIfInBounds_toArray, List.set_cons_zero, List.set_cons_succ]
          refine reg_take 10 ?_ ?_ ?_ (by kernel_rfl) (by kernel_rfl) (by kernel_rfl) (fun _ _ _ h => h) ?_ ?_ (by assumption) ?_
          rotate_left 2
          · simp only [List.getElem?_toArray, List.getElem?_cons_succ, List.getElem?_cons_zero]; exact rfl
          · rfl
          · intro w hSw; (try dsimp only at hSw); go_simp; try with_reducible rfl
          try simp only [Act.put]
          try simp only [List.setIfInBounds_toArray, List.set_cons_zero, List.set_cons_succ]
          refine reg_take 11 ?_ ?_ ?_ (by kernel_rfl) (by kernel_rfl) (by kernel_rfl) (fun _ _ _ h => h) ?_ ?_ (by assumption) ?_
          rotate_left 2
          · simp only [List.getElem?_toArray, List.getElem?_cons_succ, List.getElem?_cons_zero]; exact rfl
          · rfl
          · intro w hSw; (try dsimp only at hSw); go_simp; try with_reducible rfl
          try simp only [Act.put]
          try simp only [List.setIfInBounds_toArray, List.set_cons_zero, List.set_cons_succ]
          refine reg_take 12 ?_ ?_ ?_ (by kernel_rfl) (by kernel_rfl) (by kernel_rfl) (fun _ _ _ h => h) ?_ ?_ (by assumption) ?_
          rotate_left 2
          · simp only [List.getElem?_toArray, List.getElem?_cons_succ, List.getElem?_cons_zero]; exact rfl
          · rfl
          · intro w hSw; (try dsimp only at hSw); go_simp; try with_reducible rfl
          try simp only [Act.put]
          try simp only [List.setIfInBounds_toArray, List.set_cons_zero, List.set_cons_succ]
          refine reg_take 13 ?_ ?_ ?_ (by kernel_rfl) (by kernel_rfl) (by kernel_rfl) (fun _ _ _ h => h) ?_ ?_ (by assumption) ?_
          rotate_left 2
          · simp only [List.getElem?_toArray, List.getElem?_cons_succ, List.getElem?_cons_zero]; exact rfl
          · rfl
          · intro w hSw; (try dsimp only at hSw); go_simp; try with_reducible rfl
          try simp only [Act.put]
          try simp only [List.setIfInBounds_toArray, List.set_cons_zero, List.set_cons_succ]
          refine reg_take 14 ?_ ?_ ?_ (by kernel_rfl) (by kernel_rfl) (by kernel_rfl) (fun _ _ _ h => h) ?_ ?_ (by assumption) ?_
          rotate_left 2
          · simp only [List.getElem?_toArray, List.getElem?_cons_succ, List.getElem?_cons_zero]; exact rfl
          · rfl
          · intro w hSw; (try dsimp only at hSw); go_simp; try with_reducible rfl
          try simp only [Act.put]
          try simp only [List.setIfInBounds_toArray, List.set_cons_zero, List.set_cons_succ]
          refine reg_take 15 ?_ ?_ ?_ (by kernel_rfl) (by kernel_rfl) (by kernel_rfl) (fun _ _ _ h => h) ?_ ?_ (by assumption) ?_
          rotate_left 2
          · simp only [List.getElem?_toArray, List.getElem?_cons_succ, List.getElem?_cons_zero]; exact rfl
          · rfl
          · intro w hSw; (try dsimp only at hSw); go_simp; try with_reducible rfl
          try simp only [Act.put]
          try simp only [List.setIfInBounds_toArray, List.set_cons_zero, List.set_cons_succ]
          refine reg_take 16 ?_ ?_ ?_ (by kernel_rfl) (by kernel_rfl) (by kernel_rfl) (fun _ _ _ h => h) ?_ ?_ (by assumption) ?_
          rotate_left 2
          · simp only [List.getElem?_toArray, List.getElem?_cons_succ, List.getElem?_cons_zero]; exact rfl
          · rfl
          · intro w hSw; (try dsimp only at hSw); go_simp; try with_reducible rfl
          try simp only [Act.put]
          try simp only [List.setIfInBounds_toArray, List.set_cons_zero, List.set_cons_succ]
          refine reg_take 17 ?_ ?_ ?_ (by kernel_rfl) (by kernel_rfl) (by kernel_rfl) (fun _ _ _ h => h) ?_ ?_ (by assumption) ?_
          rotate_left 2
          · simp only [List.getElem?_toArray, List.getElem?_cons_succ, List.getElem?_cons_zero]; exact rfl
          · rfl
          · intro w hSw; (try dsimp only at hSw); go_simp; try with_reducible rfl
          try simp only [Act.put]
          try simp only [List.setIfInBounds_toArray, List.set_cons_zero, List.set_cons_succ]
          refine reg_take 18 ?_ ?_ ?_ (by kernel_rfl) (by kernel_rfl) (by kernel_rfl) (fun _ _ _ h => h) ?_ ?_ (by assumption) ?_
          rotate_left 2
          · simp only [List.getElem?_toArray, List.getElem?_cons_succ, List.getElem?_cons_zero]; exact rfl
          · rfl
          · intro w hSw; (try dsimp only at hSw); go_simp; try with_reducible rfl
          try simp only [Act.put]
          try simp only [List.setIfInBounds_toArray, List.set_cons_zero, List.set_cons_succ]
          refine reg_skip 19 ?_ ?_ (by kernel_rfl) (by kernel_rfl) (by kernel_rfl) (fun _ _ _ h => h) ?_ (by assumption) ?_
          rotate_left 1
          · simp only [List.getElem?_toArray, List.getElem?_cons_succ, List.getElem?_cons_zero]; exact rfl
          · rfl
          try simp only [Act.put]
          try simp only [List.setIfInBounds_toArray, List.set_cons_zero, List.set_cons_succ]
          refine reg_skip 20 ?_ ?_ (by kernel_rfl) (by kernel_rfl) (by kernel_rfl) (fun _ _ _ h => h) ?_ (by assumption) ?_
          rotate_left 1
          · simp only [List.getElem?_toArray, List.getElem?_cons_succ, List.getElem?_cons_zero]; exact rfl
          · rfl
          try simp only [Act.put]
          try simp only [List.setIfInBounds_toArray, List.set_cons_zero, List.set_cons_succ]
          refine reg_skip 21 ?_ ?_ (by kernel_rfl) (by kernel_rfl) (by kernel_rfl) (fun _ _ _ h => h) ?_ (by assumption) ?_
          rotate_left 1
          · simp only [List.getElem?_toArray, List.getElem?_cons_succ, List.getElem?_cons_zero]; exact rfl
          · rfl
          try simp only [Act.put]
          try simp only [List.setIfInBounds_toArray, List.set_cons_zero, List.set_cons_succ]
          refine reg_skip 22 ?_ ?_ (by kernel_rfl) (by kernel_rfl) (by kernel_rfl) (fun _ _ _ h => h) ?_ (by assumption) ?_
          rotate_left 1
          · simp only [List.getElem?_toArray, List.getElem?_cons_succ, List.getElem?_cons_zero]; exact rfl
          · rfl
          try simp only [Act.put]
          try simp only [List.setIfInBounds_toArray, List.set_cons_zero, List.set_cons_succ]
          refine reg_skip 23 ?_ ?_ (by kernel_rfl) (by kernel_rfl) (by kernel_rfl) (fun _ _ _ h => h) ?_ (by assumption) ?_
          rotate_left 1
          · simp only [List.getElem?_toArray, List.getElem?_cons_succ, List.getElem?_cons_zero]; exact rfl
          · rfl
          try simp only [Act.put]
          try simp only [List.setIfInBounds_toArray, List.set_cons_zero, List.set_cons_succ]
          refine reg_skip 24 ?_ ?_ (by kernel_rfl) (by kernel_rfl) (by kernel_rfl) (fun _ _ _ h => h) ?_ (by assumption) ?_
          rotate_left 1
          · simp only [List.getElem?_toArray, List.getElem?_cons_succ, List.getElem?_cons_zero]; exact rfl
          · rfl
          try simp only [Act.put]
          try simp only [List.setIfInBounds_toArray, List.set_cons_zero, List.set_cons_succ]
          refine reg_skip 25 ?_ ?_ (by kernel_rfl) (by kernel_rfl) (by kernel_rfl) (fun _ _ _ h => h) ?_ (by assumption) ?_
          rotate_left 1
          · simp only [List.getElem?_toArray, List.getElem?_cons_succ, List.getElem?_cons_zero]; exact rfl
          · rfl
          try simp only [Act.put]
          try simp only [List.setIfInBounds_toArray, List.set_cons_zero, List.set_cons_succ]
          refine reg_skip 26 ?_ ?_ (by kernel_rfl) (by kernel_rfl) (by kernel_rfl) (fun _ _ _ h => h) ?_ (by assumption) ?_
          rotate_left 1
          · simp only [List.getElem?_toArray, List.getElem?_cons_succ, List.getElem?_cons_zero]; exact rfl
          · rfl
          try simp only [Act.put]
          try simp only [List.setIfInBounds_toArray, List.set_cons_zero, List.set_cons_succ]
          refine reg_skip 27 ?_ ?_ (by kernel_rfl) (by kernel_rfl) (by kernel_rfl) (fun _ _ _ h => h) ?_ (by assumption) ?_
          rotate_left 1
          · simp only [List.getElem?_toArray, List.getElem?_cons_succ, List.getElem?_cons_zero]; exact rfl
          · rfl
          try simp only [Act.put]
          try simp only [List.setIfInBounds_toArray, List.set_cons_zero, List.set_cons_succ]
          refine reg_skip 28 ?_ ?_ (by kernel_rfl) (by kernel_rfl) (by kernel_rfl) (fun _ _ _ h => h) ?_ (by assumption) ?_
          rotate_left 1
          · simp only [List.getElem?_toArray, List.getElem?_cons_succ, List.getElem?_cons_zero]; exact rfl
          · rfl
          try simp only [Act.put]
          try simp only [List.setIfInBounds_toArray, List.set_cons_zero, List.set_cons_succ]
          refine reg_skip 29 ?_ ?_ (by kernel_rfl) (by kernel_rfl) (by kernel_rfl) (fun _ _ _ h => h) ?_ (by assumption) ?_
          rotate_left 1
          · simp only [List.getElem?_toArray, List.getElem?_cons_succ, List.getElem?_cons_zero]; exact rfl
          · rfl
          try simp only [Act.put]
          try simp only [List.setIfInBounds_toArray, List.set_cons_zero, List.set_cons_succ]
          refine reg_skip 30 ?_ ?_ (by kernel_rfl) (by kernel_rfl) (by kernel_rfl) (fun _ _ _ h => h) ?_ (by assumption) ?_
          rotate_left 1
          · simp only [List.getElem?_toArray, List.getElem?_cons_succ, List.getElem?_cons_zero]; exact rfl
          · rfl
          try simp only [Act.put]
          try simp only [List.setIfInBounds_toArray, List.set_cons_zero, List.set_cons_succ]
          refine reg_skip 31 ?_ ?_ (by kernel_rfl) (by kernel_rfl) (by kernel_rfl) (fun _ _ _ h => h) ?_ (by assumption) ?_
          rotate_left 1
          · simp only [List.getElem?_toArray, List.getElem?_cons_succ, List.getElem?_cons_zero]; exact rfl
          · rfl
          try simp only [Act.put]
          try simp only [List.setIfInBounds_toArray, List.set_cons_zero, List.set_cons_succ]
          refine reg_skip 32 ?_ ?_ (by kernel_rfl) (by kernel_rfl) (by kernel_rfl) (fun _ _ _ h => h) ?_ (by assumption) ?_
          rotate_left 1
          · simp only [List.getElem?_toArray, List.getElem?_cons_succ, List.getElem?_cons_zero]; exact rfl
          · rfl
          try simp only [Act.put]
          try simp only [List.setIfInBounds_toArray, List.set_cons_zero, List.set_cons_succ]
          refine reg_skip 33 ?_ ?_ (by kernel_rfl) (by kernel_rfl) (by kernel_rfl) (fun _ _ _ h => h) ?_ (by assumption) ?_
          rotate_left 1
          · simp only [List.getElem?_toArray, List.getElem?_cons_succ, List.getElem?_cons_zero]; exact rfl
          · rfl
          try simp only [Act.put]
          try simp only [List.setIfInBounds_toArray, List.set_cons_zero, List.set_cons_succ]
          refine reg_skip 34 ?_ ?_ (by kernel_rfl) (by kernel_rfl) (by kernel_rfl) (fun _ _ _ h => h) ?_ (by assumption) ?_
          rotate_left 1
          · simp only [List.getElem?_toArray, List.getElem?_cons_succ, List.getElem?_cons_zero]; exact rfl
          · rfl
          try simp only [Act.put]
          try simp only [List.setIfInBounds_toArray, List.set_cons_zero, List.set_cons_succ]
          refine reg_skip 35 ?_ ?_ (by kernel_rfl) (by kernel_rfl) (by kernel_rfl) (fun _ _ _ h => h) ?_ (by assumption) ?_
          rotate_left 1
          · simp only [List.getElem?_toArray, List.getElem?_cons_succ, List.getElem?_cons_zero]; exact rfl
          · rfl
          try simp only [Act.put]
          try simp only [List.setIfInBounds_toArray, List.set_cons_zero, List.set_cons_succ]
          refine reg_skip 36 ?_ ?_ (by kernel_rfl) (by kernel_rfl) (by kernel_rfl) (fun _ _ _ h => h) ?_ (by assumption) ?_
          rotate_left 1
          · simp only [List.getElem?_toArray, List.getElem?_cons_succ, List.getElem?_cons_zero]; exact rfl
          · rfl
          try simp only [Act.put]
          try simp only [List.setIfInBounds_toArray, List.set_cons_zero, List.set_cons_succ]
          refine reg_skip 37 ?_ ?_ (by kernel_rfl) (by kernel_rfl) (by kernel_rfl) (fun _ _ _ h => h) ?_ (by assumption) ?_
          rotate_left 1
          · simp only [List.getElem?_toArray, List.getElem?_cons_succ, List.getElem?_cons_zero]; exact rfl
          · rfl
          try simp only [Act.put]
          try simp only [List.setIfInBounds_toArray, List.set_cons_zero, List.set_cons_succ]
          refine reg_skip 38 ?_ ?_ (by kernel_rfl) (by kernel_rfl) (by kernel_rfl) (fun _ _ _ h => h) ?_ (by assumption) ?_
          rotate_left 1
          · simp only [List.getElem?_toArray, List.getElem?_cons_succ, List.getElem?_cons_zero]; exact rfl
          · rfl
          try simp only [Act.put]
          try simp only [List.setIfInBounds_toArray, List.set_cons_zero, List.set_cons_succ]
          refine reg_skip 39 ?_ ?_ (by kernel_rfl) (by kernel_rfl) (by kernel_rfl) (fun _ _ _ h => h) ?_ (by assumption) ?_
          rotate_left 1
          · simp only [List.getElem?_toArray, List.getElem?_cons_succ, List.getElem?_cons_zero]; exact rfl
          · rfl
          try simp only [Act.put]
          try simp only [List.setIfInBounds_toArray, List.set_cons_zero, List.set_cons_succ]
          refine reg_skip 40 ?_ ?_ (by kernel_rfl) (by kernel_rfl) (by kernel_rfl) (fun _ _ _ h => h) ?_ (by assumption) ?_
          rotate_left 1
          · simp only [List.getElem?_toArray, List.getElem?_cons_succ, List.getElem?_cons_zero]; exact rfl
          · rfl
          try simp only [Act.put]
          try simp only [List.setIfInBounds_toArray, List.set_cons_zero, List.set_cons_succ]
          refine reg_skip 41 ?_ ?_ (by kernel_rfl) (by kernel_rfl) (by kernel_rfl) (fun _ _ _ h => h) ?_ (by assumption) ?_
          rotate_left 1
          · simp only [List.getElem?_toArray, List.getElem?_cons_succ, List.getElem?_cons_zero]; exact rfl
          · rfl
          try simp only [Act.put]
          try simp only [List.setIfInBounds_toArray, List.set_cons_zero, List.set_cons_succ]
          refine reg_skip 42 ?_ ?_ (by kernel_rfl) (by kernel_rfl) (by kernel_rfl) (fun _ _ _ h => h) ?_ (by assumption) ?_
          rotate_left 1
          · simp only [List.getElem?_toArray, List.getElem?_cons_succ, List.getElem?_cons_zero]; exact rfl
          · rfl
          try simp only [Act.put]
          try simp only [List.setIfInBounds_toArray, List.set_cons_zero, List.set_cons_succ]
          refine reg_skip 43 ?_ ?_ (by kernel_rfl) (by kernel_rfl) (by kernel_rfl) (fun _ _ _ h => h) ?_ (by assumption) ?_
          rotate_left 1
          · simp only [List.getElem?_toArray, List.getElem?_cons_succ, List.getElem?_cons_zero]; exact rfl
          · rfl
          try simp only [Act.put]
          try simp only [List.setIfInBounds_toArray, List.set_cons_zero, List.set_cons_succ]
          refine reg_skip 44 ?_ ?_ (by kernel_rfl) (by kernel_rfl) (by kernel_rfl) (fun _ _ _ h => h) ?_ (by assumption) ?_
          rotate_left 1
          · simp only [List.getElem?_toArray, List.getElem?_cons_succ, List.getElem?_cons_zero]; exact rfl
          · rfl
          try simp only [Act.put]
          try simp only [List.setIfInBounds_toArray, List.set_cons_zero, List.set_cons_succ]
          refine reg_take 45 ?_ ?_ ?_ (by kernel_rfl) (by kernel_rfl) (by kernel_rfl) (fun _ _ _ h => h) ?_ ?_ (by assumption) ?_
          rotate_left 2
          · simp only [List.getElem?_toArray, List.getElem?_cons_succ, List.getElem?_cons_zero]; exact rfl
          · rfl
          · intro w hSw; (try dsimp only at hSw); go_simp; try with_reducible rfl
          try simp only [Act.put]
          try simp only [List.setIfInBounds_toArray, List.set_cons_zero, List.set_cons_succ]
          refine wpAnyH_done (by kernel_rfl) ?_ _
          refine OnlyN.normal ?_
          have prz := PRW.out.below hf0
          obtain ⟨q0, q1⟩ := prz.open1
          clear prz
          gi_wp2
          obtain ⟨g1, -, g3⟩ := HL.out ⟨(t, k), by rw [HSL.out]; exact ht, hk⟩ rfl; exact ⟨g1, rfl, g3⟩
        have HIN := Lib.hid hin
        subst hxv
        rcases lastZ_cases pq with ⟨hp0, hlz⟩ | ⟨qq, y', hp0, hlz⟩
        · have hla : la = -1 := by rw [← HLA.out]; exact hlz
          have hfi : fi = -1 := by rw [← HFI.out, hp0]; rfl
          have hla0 : ¬ (0 : Int) ≤ la := by omega
          have hla1 : decide ((0 : Int) ≤ la) = false := decide_eq_false hla0
          have hfi0 : fi < (0 : Int) := by omega
          clear hla hfi
          have CF := Lib.hid (show ∀ w', Below W.heap.size W w' → (Instr.lookup 52 (.map (some mpb)) (.int .i64 (t : Int)) false).run Try.prog w' = .ok (.int .i64 0) w' ∧ w'.cell? ⟨mpx, 0, none⟩ = some (.map (some mpb)) ∧ w'.cell? ⟨mbx, 0, none⟩ = some (.pointer (some ⟨mb, 0, none⟩)) ∧ w'.cell? ⟨mb, 1, none⟩ = some (.slice (some ⟨tb, 0, none⟩) SL tc) ∧ w'.cell? ⟨tb, t * 9 + k, none⟩ = some (.int .i64 (v : Int)) ∧ w'.cell? ⟨vb, 0, none⟩ = some (.int .i64 (v : Int)) ∧ w'.cell? ⟨lb, 0, none⟩ = some (.int .i64 la) from fun w' hb =>
            ⟨hl0 w' hb, (hb.cell (World.block_lt_of_cell? _ _ HCP.out)).trans HCP.out, (hb.cell (World.block_lt_of_cell? _ _ HCM.out)).trans HCM.out, (hb.cell (World.block_lt_of_cell? _ _ HC1.out)).trans HC1.out, (hb.cell (World.block_lt_of_cell? _ _ HCX.out)).trans HCX.out, (hb.cell (World.block_lt_of_cell? _ _ HCV.out)).trans HCV.out, (hb.cell (World.block_lt_of_cell? _ _ HCL.out)).trans HCL.out⟩)
          clear leave hin hl0 hp0 hlz
          gi_wp2
          refine rnd_region_held (S := fun w' => (Instr.lookup 52 (.map (some mpb)) (.int .i64 (t : Int)) false).run Try.prog w' = .ok (.int .i64 0) w' ∧ w'.cell? ⟨mpx, 0, none⟩ = some (.map (some mpb)) ∧ w'.cell? ⟨mbx, 0, none⟩ = some (.pointer (some ⟨mb, 0, none⟩)) ∧ w'.cell? ⟨mb, 1, none⟩ = some (.slice (some ⟨tb, 0, none⟩) SL tc) ∧ w'.cell? ⟨tb, t * 9 + k, none⟩ = some (.int .i64 (v : Int)) ∧ w'.cell? ⟨vb, 0, none⟩ = some (.int .i64 (v : Int)) ∧ w'.cell? ⟨lb, 0, none⟩ = some (.int .i64 la)) (by kernel_rfl) (by kernel_rfl) (CF.out _ hf0) (fun hHeld => ?_)
          refine reg_take 0 ?_ ?_ ?_ (by kernel_rfl) (by kernel_rfl) (by kernel_rfl) (fun _ _ _ h => h) ?_ ?_ (by assumption) ?_
          rotate_left 2
          · simp only [List.getElem?_toArray, List.getElem?_cons_zero]; exact rfl
          · rfl
          · intro w hSw; (try dsimp only at hSw); go_simp; try with_reducible rfl
          try simp only [Act.put]
          try simp only [List.setIfInBounds_toArray, List.set_cons_zero, List.set_cons_succ]
          refine reg_take 1 ?_ ?_ ?_ (by kernel_rfl) (by kernel_rfl) (by kernel_rfl) (fun _ _ _ h => h) ?_ ?_ (by assumption) ?_
          rotate_left 2
          · simp only [List.getElem?_toArray, List.getElem?_cons_succ, List.getElem?_cons_zero]; exact rfl
          · rfl
          · intro w hSw; (try dsimp only at hSw); go_simp; try with_reducible rfl
          try simp only [Act.put]
          try simp only [List.setIfInBounds_toArray, List.set_cons_zero, List.set_cons_succ]
          refine reg_take 2 ?_ ?_ ?_ (by kernel_rfl) (by kernel_rfl) (by kernel_rfl) (fun _ _ _ h => h) ?_ ?_ (by assumption) ?_
          rotate_left 2
          · simp only [List.getElem?_toArray, List.getElem?_cons_succ, List.getElem?_cons_zero]; exact rfl
          · rfl
          · intro w hSw; (try dsimp only at hSw); go_simp; try with_reducible rfl
          try simp only [Act.put]
          try simp only [List.setIfInBounds_toArray, List.set_cons_zero, List.set_cons_succ]
          refine reg_take 3 ?_ ?_ ?_ (by kernel_rfl) (by kernel_rfl) (by kernel_rfl) (fun _ _ _ h => h) ?_ ?_ (by assumption) ?_
          rotate_left 2
          · simp only [List.getElem?_toArray, List.getElem?_cons_succ, List.getElem?_cons_zero]; exact rfl
          · rfl
          · intro w hSw; (try dsimp only at hSw); go_simp; try with_reducible rfl
          try simp only [Act.put]
          try simp only [List.setIfInBounds_toArray, List.set_cons_zero, List.set_cons_succ]
          refine reg_take 4 ?_ ?_ ?_ (by kernel_rfl) (by kernel_rfl) (by kernel_rfl) (fun _ _ _ h => h) ?_ ?_ (by assumption) ?_
          rotate_left 2
          · simp only [List.getElem?_toArray, List.getElem?_cons_succ, List.getElem?_cons_zero]; exact rfl
          · rfl
          · intro w hSw; (try dsimp only at hSw); go_simp; try with_reducible rfl
          try simp only [Act.put]
          try simp only [List.setIfInBounds_toArray, List.set_cons_zero, List.set_cons_succ]
          refine reg_take 5 ?_ ?_ ?_ (by kernel_rfl) (by kernel_rfl) (by kernel_rfl) (fun _ _ _ h => h) ?_ ?_ (by assumption) ?_
          rotate_left 2
          · simp only [List.getElem?_toArray, List.getElem?_cons_succ, List.getElem?_cons_zero]; exact rfl
          · rfl
          · intro w hSw; (try dsimp only at hSw); go_simp; try with_reducible rfl
          try simp only [Act.put]
          try simp only [List.setIfInBounds_toArray, List.set_cons_zero, List.set_cons_succ]
          refine reg_take 6 ?_ ?_ ?_ (by kernel_rfl) (by kernel_rfl) (by kernel_rfl) (fun _ _ _ h => h) ?_ ?_ (by assumption) ?_
          rotate_left 2
          · simp only [List.getElem?_toArray, List.getElem?_cons_succ, List.getElem?_cons_zero]; exact rfl
          · rfl
          · intro w hSw; (try dsimp only at hSw); go_simp; try with_reducible rfl
          try simp only [Act.put]
          try simp only [List.setIfInBounds_toArray, List.set_cons_zero, List.set_cons_succ]
          refine reg_take 7 ?_ ?_ ?_ (by kernel_rfl) (by kernel_rfl) (by kernel_rfl) (fun _ _ _ h => h) ?_ ?_ (by assumption) ?_
          rotate_left 2
          · simp only [List.getElem?_toArray, List.getElem?_cons_succ, List.getElem?_cons_zero]; exact rfl
          · rfl
          · intro w hSw; (try dsimp only at hSw); go_simp; try with_reducible rfl
          try simp only [Act.put]
          try simp only [List.setIfInBounds_toArray, List.set_cons_zero, List.set_cons_succ]
          refine reg_take 8 ?_ ?_ ?_ (by kernel_rfl) (by kernel_rfl) (by kernel_rfl) (fun _ _ _ h => h) ?_ ?_ (by assumption) ?_
          rotate_left 2
          · simp only [List.getElem?_toArray, List.getElem?_cons_succ, List.getElem?_cons_zero]; exact rfl
          · rfl
          · intro w hSw; (try dsimp only at hSw); go_simp; try with_reducible rfl
          try simp only [Act.put]
          try simp only [List.setIfInBounds_toArray, List.set_cons_zero, List.set_cons_succ]
          refine reg_take 9 ?_ ?_ ?_ (by kernel_rfl) (by kernel_rfl) (by kernel_rfl) (fun _ _ _ h => h) ?_ ?_ (by assumption) ?_
          rotate_left 2
          · simp only [List.getElem?_toArray, List.getElem?_cons_succ, List.getElem?_cons_zero]; exact rfl
          · rfl
          · intro w hSw; (try dsimp only at hSw); go_simp; try with_reducible rfl
          try simp only [Act.put]
          try simp only [List.setIfInBounds_toArray, List.set_cons_zero, List.set_cons_succ]
          refine reg_take 10 ?_ ?_ ?_ (by kernel_rfl) (by kernel_rfl) (by kernel_rfl) (fun _ _ _ h => h) ?_ ?_ (by assumption) ?_
          rotate_left 2
          · simp only [List.getElem?_toArray, List.getElem?_cons_succ, List.getElem?_cons_zero]; exact rfl
          · rfl
          · intro w hSw; (try dsimp only at hSw); go_simp; try with_reducible rfl
          try simp only [Act.put]
          try simp only [List.setIfInBounds_toArray, List.set_cons_zero, List.set_cons_succ]
          refine reg_take 11 ?_ ?_ ?_ (by kernel_rfl) (by kernel_rfl) (by kernel_rfl) (fun _ _ _ h => h) ?_ ?_ (by assumption) ?_
          rotate_left 2
          · simp only [List.getElem?_toArray, List.getElem?_cons_succ, List.getElem?_cons_zero]; exact rfl
          · rfl
          · intro w hSw; (try dsimp only at hSw); go_simp; try with_reducible rfl
          try simp only [Act.put]
          try simp only [List.setIfInBounds_toArray, List.set_cons_zero, List.set_cons_succ]
          refine reg_take 12 ?_ ?_ ?_ (by kernel_rfl) (by kernel_rfl) (by kernel_rfl) (fun _ _ _ h => h) ?_ ?_ (by assumption) ?_
          rotate_left 2
          · simp only [List.getElem?_toArray, List.getElem?_cons_succ, List.getElem?_cons_zero]; exact rfl
          · rfl
          · intro w hSw; (try dsimp only at hSw); go_simp; try with_reducible rfl
          try simp only [Act.put]
          try simp only [List.setIfInBounds_toArray, List.set_cons_zero, List.set_cons_succ]
          refine reg_take 13 ?_ ?_ ?_ (by kernel_rfl) (by kernel_rfl) (by kernel_rfl) (fun _ _ _ h => h) ?_ ?_ (by assumption) ?_
          rotate_left 2
          · simp only [List.getElem?_toArray, List.getElem?_cons_succ, List.getElem?_cons_zero]; exact rfl
          · rfl
          · intro w hSw; (try dsimp only at hSw); go_simp; try with_reducible rfl
          try simp only [Act.put]
          try simp only [List.setIfInBounds_toArray, List.set_cons_zero, List.set_cons_succ]
          refine reg_take 14 ?_ ?_ ?_ (by kernel_rfl) (by kernel_rfl) (by kernel_rfl) (fun _ _ _ h => h) ?_ ?_ (by assumption) ?_
          rotate_left 2
          · simp only [List.getElem?_toArray, List.getElem?_cons_succ, List.getElem?_cons_zero]; exact rfl
          · rfl
          · intro w hSw; (try dsimp only at hSw); go_simp; try with_reducible rfl
          try simp only [Act.put]
          try simp only [List.setIfInBounds_toArray, List.set_cons_zero, List.set_cons_succ]
          refine reg_take 15 ?_ ?_ ?_ (by kernel_rfl) (by kernel_rfl) (by kernel_rfl) (fun _ _ _ h => h) ?_ ?_ (by assumption) ?_
          rotate_left 2
          · simp only [List.getElem?_toArray, List.getElem?_cons_succ, List.getElem?_cons_zero]; exact rfl
          · rfl
          · intro w hSw; (try dsimp only at hSw); go_simp; try with_reducible rfl
          try simp only [Act.put]
          try simp only [List.setIfInBounds_toArray, List.set_cons_zero, List.set_cons_succ]
          refine reg_take 16 ?_ ?_ ?_ (by kernel_rfl) (by kernel_rfl) (by kernel_rfl) (fun _ _ _ h => h) ?_ ?_ (by assumption) ?_
          rotate_left 2
          · simp only [List.getElem?_toArray, List.getElem?_cons_succ, List.getElem?_cons_zero]; exact rfl
          · rfl
          · intro w hSw; (try dsimp only at hSw); go_simp; try with_reducible rfl
          try simp only [Act.put]
          try simp only [List.setIfInBounds_toArray, List.set_cons_zero, List.set_cons_succ]
          refine reg_take 17 ?_ ?_ ?_ (by kernel_rfl) (by kernel_rfl) (by kernel_rfl) (fun _ _ _ h => h) ?_ ?_ (by assumption) ?_
          rotate_left 2
          · simp only [List.getElem?_toArray, List.getElem?_cons_succ, List.getElem?_cons_zero]; exact rfl
          · rfl
          · intro w hSw; (try dsimp only at hSw); go_simp; try with_reducible rfl
          try simp only [Act.put]
          try simp only [List.setIfInBounds_toArray, List.set_cons_zero, List.set_cons_succ]
          refine reg_take 18 ?_ ?_ ?_ (by kernel_rfl) (by kernel_rfl) (by kernel_rfl) (fun _ _ _ h => h) ?_ ?_ (by assumption) ?_
          rotate_left 2
          · simp only [List.getElem?_toArray, List.getElem?_cons_succ, List.getElem?_cons_zero]; exact rfl
          · rfl
          · intro w hSw; (try dsimp only at hSw); go_simp; try with_reducible rfl
          try simp only [Act.put]
          try simp only [List.setIfInBounds_toArray, List.set_cons_zero, List.set_cons_succ]
          refine reg_take 19 ?_ ?_ ?_ (by kernel_rfl) (by kernel_rfl) (by kernel_rfl) (fun _ _ _ h => h) ?_ ?_ (by assumption) ?_
          rotate_left 2
          · simp only [List.getElem?_toArray, List.getElem?_cons_succ, List.getElem?_cons_zero]; exact rfl
          · rfl
          · intro w hSw; (try dsimp only at hSw); go_simp; try with_reducible rfl
          try simp only [Act.put]
          try simp only [List.setIfInBounds_toArray, List.set_cons_zero, List.set_cons_succ]
          refine reg_take 20 ?_ ?_ ?_ (by kernel_rfl) (by kernel_rfl) (by kernel_rfl) (fun _ _ _ h => h) ?_ ?_ (by assumption) ?_
          rotate_left 2
          · simp only [List.getElem?_toArray, List.getElem?_cons_succ, List.getElem?_cons_zero]; exact rfl
          · rfl
          · intro w hSw; (try dsimp only at hSw); go_simp; try with_reducible rfl
          try simp only [Act.put]
          try simp only [List.setIfInBounds_toArray, List.set_cons_zero, List.set_cons_succ]
          refine reg_take 21 ?_ ?_ ?_ (by kernel_rfl) (by kernel_rfl) (by kernel_rfl) (fun _ _ _ h => h) ?_ ?_ (by assumption) ?_
          rotate_left 2
          · simp only [List.getElem?_toArray, List.getElem?_cons_succ, List.getElem?_cons_zero]; exact rfl
          · rfl
          · intro w hSw; (try dsimp only at hSw); go_simp; try with_reducible rfl
          try simp only [Act.put]
          try simp only [List.setIfInBounds_toArray, List.set_cons_zero, List.set_cons_succ]
          refine reg_skip 22 ?_ ?_ (by kernel_rfl) (by kernel_rfl) (by kernel_rfl) (fun _ _ _ h => h) ?_ (by assumption) ?_
          rotate_left 1
          · simp only [List.getElem?_toArray, List.getElem?_cons_succ, List.getElem?_cons_zero]; exact rfl
          · rfl
          try simp only [Act.put]
          try simp only [List.setIfInBounds_toArray, List.set_cons_zero, List.set_cons_succ]
          refine reg_skip 23 ?_ ?_ (by kernel_rfl) (by kernel_rfl) (by kernel_rfl) (fun _ _ _ h => h) ?_ (by assumption) ?_
          rotate_left 1
          · simp only [List.getElem?_toArray, List.getElem?_cons_succ, List.getElem?_cons_zero]; exact rfl
          · rfl
          try simp only [Act.put]
          try simp only [List.setIfInBounds_toArray, List.set_cons_zero, List.set_cons_succ]
          refine reg_skip 24 ?_ ?_ (by kernel_rfl) (by kernel_rfl) (by kernel_rfl) (fun _ _ _ h => h) ?_ (by assumption) ?_
          rotate_left 1
          · simp only [List.getElem?_toArray, List.getElem?_cons_succ, List.getElem?_cons_zero]; exact rfl
          · rfl
          try simp only [Act.put]
          try simp only [List.setIfInBounds_toArray, List.set_cons_zero, List.set_cons_succ]
          refine reg_skip 25 ?_ ?_ (by kernel_rfl) (by kernel_rfl) (by kernel_rfl) (fun _ _ _ h => h) ?_ (by assumption) ?_
          rotate_left 1
          · simp only [List.getElem?_toArray, List.getElem?_cons_succ, List.getElem?_cons_zero]; exact rfl
          · rfl
          try simp only [Act.put]
          try simp only [List.setIfInBounds_toArray, List.set_cons_zero, List.set_cons_succ]
          refine reg_skip 26 ?_ ?_ (by kernel_rfl) (by kernel_rfl) (by kernel_rfl) (fun _ _ _ h => h) ?_ (by assumption) ?_
          rotate_left 1
          · simp only [List.getElem?_toArray, List.getElem?_cons_succ, List.getElem?_cons_zero]; exact rfl
          · rfl
          try simp only [Act.put]
          try simp only [List.setIfInBounds_toArray, List.set_cons_zero, List.set_cons_succ]
          refine reg_skip 27 ?_ ?_ (by kernel_rfl) (by kernel_rfl) (by kernel_rfl) (fun _ _ _ h => h) ?_ (by assumption) ?_
          rotate_left 1
          · simp only [List.getElem?_toArray, List.getElem?_cons_succ, List.getElem?_cons_zero]; exact rfl
          · rfl
          try simp only [Act.put]
          try simp only [List.setIfInBounds_toArray, List.set_cons_zero, List.set_cons_succ]
          refine reg_skip 28 ?_ ?_ (by kernel_rfl) (by kernel_rfl) (by kernel_rfl) (fun _ _ _ h => h) ?_ (by assumption) ?_
          rotate_left 1
          · simp only [List.getElem?_toArray, List.getElem?_cons_succ, List.getElem?_cons_zero]; exact rfl
          · rfl
          try simp only [Act.put]
          try simp only [List.setIfInBounds_toArray, List.set_cons_zero, List.set_cons_succ]
          refine reg_skip 29 ?_ ?_ (by kernel_rfl) (by kernel_rfl) (by kernel_rfl) (fun _ _ _ h => h) ?_ (by assumption) ?_
          rotate_left 1
          · simp only [List.getElem?_toArray, List.getElem?_cons_succ, List.getElem?_cons_zero]; exact rfl
          · rfl
          try simp only [Act.put]
          try simp only [List.setIfInBounds_toArray, List.set_cons_zero, List.set_cons_succ]
          refine reg_skip 30 ?_ ?_ (by kernel_rfl) (by kernel_rfl) (by kernel_rfl) (fun _ _ _ h => h) ?_ (by assumption) ?_
          rotate_left 1
          · simp only [List.getElem?_toArray, List.getElem?_cons_succ, List.getElem?_cons_zero]; exact rfl
          · rfl
          try simp only [Act.put]
          try simp only [List.setIfInBounds_toArray, List.set_cons_zero, List.set_cons_succ]
          refine reg_skip 31 ?_ ?_ (by kernel_rfl) (by kernel_rfl) (by kernel_rfl) (fun _ _ _ h => h) ?_ (by assumption) ?_
          rotate_left 1
          · simp only [List.getElem?_toArray, List.getElem?_cons_succ, List.getElem?_cons_zero]; exact rfl
          · rfl
          try simp only [Act.put]
          try simp only [List.setIfInBounds_toArray, List.set_cons_zero, List.set_cons_succ]
          refine reg_skip 32 ?_ ?_ (by kernel_rfl) (by kernel_rfl) (by kernel_rfl) (fun _ _ _ h => h) ?_ (by assumption) ?_
          rotate_left 1
          · simp only [List.getElem?_toArray, List.getElem?_cons_succ, List.getElem?_cons_zero]; exact rfl
          · rfl
          try simp only [Act.put]
          try simp only [List.setIfInBounds_toArray, List.set_cons_zero, List.set_cons_succ]
          refine reg_skip 33 ?_ ?_ (by kernel_rfl) (by kernel_rfl) (by kernel_rfl) (fun _ _ _ h => h) ?_ (by assumption) ?_
          rotate_left 1
          · simp only [List.getElem?_toArray, List.getElem?_cons_succ, List.getElem?_cons_zero]; exact rfl
          · rfl
          try simp only [Act.put]
          try simp only [List.setIfInBounds_toArray, List.set_cons_zero, List.set_cons_succ]
          refine reg_skip 34 ?_ ?_ (by kernel_rfl) (by kernel_rfl) (by kernel_rfl) (fun _ _ _ h => h) ?_ (by assumption) ?_
          rotate_left 1
          · simp only [List.getElem?_toArray, List.getElem?_cons_succ, List.getElem?_cons_zero]; exact rfl
          · rfl
          try simp only [Act.put]
          try simp only [List.setIfInBounds_toArray, List.set_cons_zero, List.set_cons_succ]
          refine reg_skip 35 ?_ ?_ (by kernel_rfl) (by kernel_rfl) (by kernel_rfl) (fun _ _ _ h => h) ?_ (by assumption) ?_
          rotate_left 1
          · simp only [List.getElem?_toArray, List.getElem?_cons_succ, List.getElem?_cons_zero]; exact rfl
          · rfl
          try simp only [Act.put]
          try simp only [List.setIfInBounds_toArray, List.set_cons_zero, List.set_cons_succ]
          refine reg_skip 36 ?_ ?_ (by kernel_rfl) (by kernel_rfl) (by kernel_rfl) (fun _ _ _ h => h) ?_ (by assumption) ?_
          rotate_left 1
          · simp only [List.getElem?_toArray, List.getElem?_cons_succ, List.getElem?_cons_zero]; exact rfl
          · rfl
          try simp only [Act.put]
          try simp only [List.setIfInBounds_toArray, List.set_cons_zero, List.set_cons_succ]
          refine reg_skip 37 ?_ ?_ (by kernel_rfl) (by kernel_rfl) (by kernel_rfl) (fun _ _ _ h => h) ?_ (by assumption) ?_
          rotate_left 1
          · simp only [List.getElem?_toArray, List.getElem?_cons_succ, List.getElem?_cons_zero]; exact rfl
          · rfl
          try simp only [Act.put]
          try simp only [List.setIfInBounds_toArray, List.set_cons_zero, List.set_cons_succ]
          refine reg_skip 38 ?_ ?_ (by kernel_rfl) (by kernel_rfl) (by kernel_rfl) (fun _ _ _ h => h) ?_ (by assumption) ?_
          rotate_left 1
          · simp only [List.getElem?_toArray, List.getElem?_cons_succ, List.getElem?_cons_zero]; exact rfl
          · rfl
          try simp only [Act.put]
          try simp only [List.setIfInBounds_toArray, List.set_cons_zero, List.set_cons_succ]
          refine reg_skip 39 ?_ ?_ (by kernel_rfl) (by kernel_rfl) (by kernel_rfl) (fun _ _ _ h => h) ?_ (by assumption) ?_
          rotate_left 1
          · simp only [List.getElem?_toArray, List.getElem?_cons_succ, List.getElem?_cons_zero]; exact rfl
          · rfl
          try simp only [Act.put]
          try simp only [List.setIfInBounds_toArray, List.set_cons_zero, List.set_cons_succ]
          refine reg_skip 40 ?_ ?_ (by kernel_rfl) (by kernel_rfl) (by kernel_rfl) (fun _ _ _ h => h) ?_ (by assumption) ?_
          rotate_left 1
          · simp only [List.getElem?_toArray, List.getElem?_cons_succ, List.getElem?_cons_zero]; exact rfl
          · rfl
          try simp only [Act.put]
          try simp only [List.setIfInBounds_toArray, List.set_cons_zero, List.set_cons_succ]
          refine reg_skip 41 ?_ ?_ (by kernel_rfl) (by kernel_rfl) (by kernel_rfl) (fun _ _ _ h => h) ?_ (by assumption) ?_
          rotate_left 1
          · simp only [List.getElem?_toArray, List.getElem?_cons_succ, List.getElem?_cons_zero]; exact rfl
          · rfl
          try simp only [Act.put]
          try simp only [List.setIfInBounds_toArray, List.set_cons_zero, List.set_cons_succ]
          refine reg_skip 42 ?_ ?_ (by kernel_rfl) (by kernel_rfl) (by kernel_rfl) (fun _ _ _ h => h) ?_ (by assumption) ?_
          rotate_left 1
          · simp only [List.getElem?_toArray, List.getElem?_cons_succ, List.getElem?_cons_zero]; exact rfl
          · rfl
          try simp only [Act.put]
          try simp only [List.setIfInBounds_toArray, List.set_cons_zero, List.set_cons_succ]
          refine reg_skip 43 ?_ ?_ (by kernel_rfl) (by kernel_rfl) (by kernel_rfl) (fun _ _ _ h => h) ?_ (by assumption) ?_
          rotate_left 1
          · simp only [List.getElem?_toArray, List.getElem?_cons_succ, List.getElem?_cons_zero]; exact rfl
          · rfl
          try simp only [Act.put]
          try simp only [List.setIfInBounds_toArray, List.set_cons_zero, List.set_cons_succ]
          refine reg_take 44 ?_ ?_ ?_ (by kernel_rfl) (by kernel_rfl) (by kernel_rfl) (fun _ _ _ h => h) ?_ ?_ (by assumption) ?_
          rotate_left 2
          · simp only [List.getElem?_toArray, List.getElem?_cons_succ, List.getElem?_cons_zero]; exact rfl
          · rfl
          · intro w hSw; (try dsimp only at hSw); go_simp; try with_reducible rfl
          try simp only [Act.put]
          try simp only [List.setIfInBounds_toArray, List.set_cons_zero, List.set_cons_succ]
          refine reg_take 45 ?_ ?_ ?_ (by kernel_rfl) (by kernel_rfl) (by kernel_rfl) (fun _ _ _ h => h) ?_ ?_ (by assumption) ?_
          rotate_left 2
          · simp only [List.getElem?_toArray, List.getElem?_cons_succ, List.getElem?_cons_zero]; exact rfl
          · rfl
          · intro w hSw; (try dsimp only at hSw); go_simp; try with_reducible rfl
          try simp only [Act.put]
          try simp only [List.setIfInBounds_toArray, List.set_cons_zero, List.set_cons_succ]
          refine wpAnyH_done (by kernel_rfl) ?_ _
          refine OnlyN.normal ?_
          obtain ⟨W1, hW1⟩ : ∃ x, W.drew = x := ⟨_, rfl⟩
          rw [hW1] at hf0 ⊢
          have bf1 : Boxed W1 fb 3 (.int .i64 fi) := (hf0.block fb (by omega)).trans HBF.out
          have f0_ := bf1.cell; have f1_ := bf1.frozen
          obtain ⟨W2, hW2⟩ : ∃ x, W1.setCell ⟨fb, 0, none⟩ (.int .i64 (t : Int)) = x := ⟨_, rfl⟩
          have bf2 : Boxed W2 fb 3 (.int .i64 (t : Int)) := by rw [← hW2]; exact bf1.set _
          have bl2 : Boxed W2 lb 3 (.int .i64 la) := by rw [← hW2]; exact Boxed.other (show Boxed W1 lb 3 (.int .i64 la) from (hf0.block lb (by omega)).trans HBL.out) (by omega) _
          have mp2 : MapB Try.prog 3 W2 mpb ((seenP pq).map encG) := (HMP.out.below hf0).block (by rw [← hW2]; exact heap_set_far _ _ _ _ _ (by omega))
          have hk2 : KeepB Pb W W2 := by rw [← hW2]; exact keepB_set9 (KeepB.of_below hf0 (fun b hb => by have := hltW b hb; omega)) hnf _
          have hkf2 : KeepsFrom w13.heap.size W W2 := by rw [← hW2]; exact (KeepsOthers.trans (keepsOthers_below9 hf0) (KeepsOthers.setCell _ _ _)).from _
          have hbw2 : Below wq.heap.size wq W2 := by rw [← hW2]; exact (HBWW.out.trans (hf0.mono HBWW.out.size)).setCell (p := ⟨fb, 0, none⟩) (by simp only []; omega) _
          have hp2 : W2.cell? ⟨mpx, 0, none⟩ = some (.map (some mpb)) := (hk2.cell hPx).trans HCP.out
          obtain ⟨W3, hrun3, htu3, mp3⟩ := set_store mp2 (t := t) (by omega) HIN.out
          rw [← seenP_app (x := (t, k)) HIN.out] at mp3
          have bl3 : Boxed W3 lb 3 (.int .i64 la) := (htu3.block lb (by omega)).trans bl2
          have bf3 : Boxed W3 fb 3 (.int .i64 (t : Int)) := (htu3.block fb (by omega)).trans bf2
          have l0_ := bl3.cell; have l1_ := bl3.frozen
          obtain ⟨W4, hW4⟩ : ∃ x, W3.setCell ⟨lb, 0, none⟩ (.int .i64 (t : Int)) = x := ⟨_, rfl⟩
          have bl4 : Boxed W4 lb 3 (.int .i64 (t : Int)) := by rw [← hW4]; exact bl3.set _
          have bf4 : Boxed W4 fb 3 (.int .i64 (t : Int)) := by rw [← hW4]; exact bf3.other (by omega) _
          have mp4 := mp3.block (w' := W4) (by rw [← hW4]; exact heap_set_far _ _ _ _ _ (by omega))
          have hk4 : KeepB Pb W W4 := by rw [← hW4]; exact keepB_set9 (fun b hb => (htu3.block b (fun e => hnm (by rw [← e]; exact hb))).trans (hk2 b hb)) hnl _
          have hkf4 : KeepsFrom w13.heap.size W W4 := by rw [← hW4]; exact (hkf2.trans (KeepsFrom.turned htu3 (by omega))).trans ((KeepsOthers.setCell _ _ _).from _)
          have hbw4 : Below wq.heap.size wq W4 := by rw [← hW4]; exact (hbw2.trans (htu3.below (by omega))).setCell (p := ⟨lb, 0, none⟩) (by simp only []; omega) _
          have HEND := Lib.hid (And.intro hkf4 (And.intro hk4 (And.intro bl4 (And.intro bf4 (And.intro mp4 hbw4)))))
          clear hkf4 hk4 bl4 bf4 mp4 hbw4 mp3 bl3 bf3 htu3 bf2 bl2 mp2 hk2 hkf2 hbw2
          gi_wp2
          refine ⟨HEND.out.1, HEND.out.2.1, HKB.out.trans HEND.out.2.1, ?_, ?_, ?_, HEND.out.2.2.2.2.2⟩
          · rw [HPX.out _ (by rfl), lastZ_app]; exact HEND.out.2.2.1
          · rw [HPX.out _ (by rfl), firstZ_app, HFI.out]; first | exact HEND.out.2.2.2.1 | (rw [if_neg (by omega)]; exact HEND.out.2.2.2.1) | (rw [if_pos (by omega)]; exact HEND.out.2.2.2.1)
          · rw [HPX.out _ (by rfl)]; exact HEND.out.2.2.2.2.1
        · have hla : la = (y'.1 : Int) := by rw [← HLA.out]; exact hlz
          obtain ⟨f', hf'⟩ : ∃ f' : Nat, fi = (f' : Int) := by
            rw [← HFI.out, hp0]
            cases qq with
            | nil => exact ⟨y'.1, rfl⟩
            | cons z r => exact ⟨z.1, rfl⟩
          subst hla; subst hf'
          by_cases hyl : y'.1 < S.length
          case neg => exact absurd (by
            have hmem : y' ∈ pre.map (·.1) := by rw [hpq, hp0]; simp
            obtain ⟨z, -, e⟩ := List.mem_map.1 hmem
            rw [← e]; exact z.2.1) hyl
          obtain ⟨L, hL⟩ : ∃ L, S[y'.1]? = some L := ⟨_, List.getElem?_eq_getElem hyl⟩
          obtain ⟨y, hy⟩ : ∃ y, y'.1 = y := ⟨_, rfl⟩
          rw [hy] at hL hyl
          obtain ⟨p, hp⟩ : ∃ p, placeT L (v : Int) = p := ⟨_, rfl⟩
          have hpc : -1 ≤ p ∧ p ≤ 2 := by rcases placeT_cases L (v : Int) with h | h | h | h <;> omega
          obtain ⟨j, hj⟩ : ∃ j : Nat, (p + 1).tmod 3 = (j : Int) := ⟨((p + 1).tmod 3).toNat, by rw [Int.toNat_of_nonneg (Int.tmod_nonneg _ (by omega))]⟩
          have hj3 : j < 3 := by have := Int.tmod_lt_of_pos (p + 1) (show (0 : Int) < 3 by omega); omega
          have hwp : IntKind.i64.wrap (p + 1) = p + 1 := by rw [IntKind.wrap_i64]; omega
          have hwp2 : wrap64 (p + 1) = p + 1 := by rw [← IntWalk.i64_left]; exact hwp
          obtain ⟨nx, hnx⟩ : ∃ z, L.n j = z := ⟨_, rfl⟩
          have hnn : nxT L (v : Int) = nx := by unfold nxT; rw [hp, hj, Int.toNat_natCast]; exact hnx
          have HNN := Lib.hid hnn; have HLL := Lib.hid hL
          have HHA := Lib.hid (fun W' => has_any L (v : Int) W')
          rw [hp] at HHA
          obtain ⟨tb'', htb, -, h9⟩ := HTRI.out.tris.get hL
          simp only [Option.some.injEq, Addr.mk.injEq, and_true] at htb
          subst htb
          have cn := h9.n hj3
          rw [hnx] at cn
          obtain ⟨l0, l1, l2, n0, n1, n2, f0, f1, f2⟩ := L
          obtain ⟨d0, d1, d2, d3, d4, d5, d6, d7, d8⟩ := h9
          simp only [] at d0 d1 d2 d3 d4 d5 d6 d7 d8
          unfold triV at HHA
          simp only [] at HHA
          have i5 : (0 : Int) ≤ (y : Int) := by omega
          have hyS : y < SL := by rw [← HSL.out]; exact hyl
          have i6 : (y : Int) < (SL : Int) := by omega
          have i7 : (0 : Int) ≤ (j : Int) := by omega
          have i8 : (j : Int) < 3 := by omega
          rw [hy] at HCL HBL
          have HD := Lib.hid (And.intro d0 (And.intro d1 (And.intro d2 (And.intro d3 (And.intro d4 (And.intro d5 (And.intro d6 (And.intro d7 (And.intro d8 cn)))))))))
          have HP0 := Lib.hid hp0; have HYY := Lib.hid hy
          have CF := Lib.hid (show ∀ w', Below W.heap.size W w' → (Instr.lookup 52 (.map (some mpb)) (.int .i64 (t : Int)) false).run Try.prog w' = .ok (.int .i64 0) w' ∧ w'.cell? ⟨mpx, 0, none⟩ = some (.map (some mpb)) ∧ w'.cell? ⟨mbx, 0, none⟩ = some (.pointer (some ⟨mb, 0, none⟩)) ∧ w'.cell? ⟨mb, 1, none⟩ = some (.slice (some ⟨tb, 0, none⟩) SL tc) ∧ w'.cell? ⟨tb, t * 9 + k, none⟩ = some (.int .i64 (v : Int)) ∧ w'.cell? ⟨vb, 0, none⟩ = some (.int .i64 (v : Int)) ∧ w'.cell? ⟨lb, 0, none⟩ = some (.int .i64 (y : Int)) ∧ w'.cell? ⟨tb, y * 9, none⟩ = some (.int .i64 l0) ∧ w'.cell? ⟨tb, y * 9 + 1, none⟩ = some (.int .i64 l1) ∧ w'.cell? ⟨tb, y * 9 + 2, none⟩ = some (.int .i64 l2) ∧ w'.cell? ⟨tb, y * 9 + 3, none⟩ = some (.int .i64 n0) ∧ w'.cell? ⟨tb, y * 9 + 4, none⟩ = some (.int .i64 n1) ∧ w'.cell? ⟨tb, y * 9 + 5, none⟩ = some (.int .i64 n2) ∧ w'.cell? ⟨tb, y * 9 + 6, none⟩ = some (.bool f0) ∧ w'.cell? ⟨tb, y * 9 + 7, none⟩ = some (.bool f1) ∧ w'.cell? ⟨tb, y * 9 + 8, none⟩ = some (.bool f2) ∧ w'.cell? ⟨tb, y * 9 + 3 + j, none⟩ = some (.int .i64 nx) from fun w' hb =>
            ⟨hl0 w' hb, (hb.cell (World.block_lt_of_cell? _ _ HCP.out)).trans HCP.out, (hb.cell (World.block_lt_of_cell? _ _ HCM.out)).trans HCM.out, (hb.cell (World.block_lt_of_cell? _ _ HC1.out)).trans HC1.out, (hb.cell (World.block_lt_of_cell? _ _ HCX.out)).trans HCX.out, (hb.cell (World.block_lt_of_cell? _ _ HCV.out)).trans HCV.out, (hb.cell (World.block_lt_of_cell? _ _ HCL.out)).trans HCL.out,
              (hb.cell (World.block_lt_of_cell? _ _ HD.out.1)).trans HD.out.1, (hb.cell (World.block_lt_of_cell? _ _ HD.out.2.1)).trans HD.out.2.1, (hb.cell (World.block_lt_of_cell? _ _ HD.out.2.2.1)).trans HD.out.2.2.1, (hb.cell (World.block_lt_of_cell? _ _ HD.out.2.2.2.1)).trans HD.out.2.2.2.1, (hb.cell (World.block_lt_of_cell? _ _ HD.out.2.2.2.2.1)).trans HD.out.2.2.2.2.1, (hb.cell (World.block_lt_of_cell? _ _ HD.out.2.2.2.2.2.1)).trans HD.out.2.2.2.2.2.1, (hb.cell (World.block_lt_of_cell? _ _ HD.out.2.2.2.2.2.2.1)).trans HD.out.2.2.2.2.2.2.1, (hb.cell (World.block_lt_of_cell? _ _ HD.out.2.2.2.2.2.2.2.1)).trans HD.out.2.2.2.2.2.2.2.1, (hb.cell (World.block_lt_of_cell? _ _ HD.out.2.2.2.2.2.2.2.2.1)).trans HD.out.2.2.2.2.2.2.2.2.1, (hb.cell (World.block_lt_of_cell? _ _ HD.out.2.2.2.2.2.2.2.2.2)).trans HD.out.2.2.2.2.2.2.2.2.2⟩)
          clear hin hl0 hp0 hlz d0 d1 d2 d3 d4 d5 d6 d7 d8 cn hL hnn hp hy hnx hyl
          by_cases hnt : nx = (t : Int)
          case neg =>
            have q4 : (nx == (t : Int)) = false := by simpa using hnt
            have q5 : (nx != (t : Int)) = true := by simpa using hnt
            have hbad : BadA S (v : Int) pq (t, k) := .inr (.inr ⟨qq, y', _, HP0.out, by rw [HYY.out]; exact HLL.out, by rw [HNN.out]; exact hnt⟩)
            have HLV := Lib.hid (fun w1 hb => leave w1 hb hbad)
            clear leave hbad hnt
            gi_wp2
            refine rnd_region_held (S := fun w' => (Instr.lookup 52 (.map (some mpb)) (.int .i64 (t : Int)) false).run Try.prog w' = .ok (.int .i64 0) w' ∧ w'.cell? ⟨mpx, 0, none⟩ = some (.map (some mpb)) ∧ w'.cell? ⟨mbx, 0, none⟩ = some (.pointer (some ⟨mb, 0, none⟩)) ∧ w'.cell? ⟨mb, 1, none⟩ = some (.slice (some ⟨tb, 0, none⟩) SL tc) ∧ w'.cell? ⟨tb, t * 9 + k, none⟩ = some (.int .i64 (v : Int)) ∧ w'.cell? ⟨vb, 0, none⟩ = some (.int .i64 (v : Int)) ∧ w'.cell? ⟨lb, 0, none⟩ = some (.int .i64 (y : Int)) ∧ w'.cell? ⟨tb, y * 9, none⟩ = some (.int .i64 l0) ∧ w'.cell? ⟨tb, y * 9 + 1, none⟩ = some (.int .i64 l1) ∧ w'.cell? ⟨tb, y * 9 + 2, none⟩ = some (.int .i64 l2) ∧ w'.cell? ⟨tb, y * 9 + 3, none⟩ = some (.int .i64 n0) ∧ w'.cell? ⟨tb, y * 9 + 4, none⟩ = some (.int .i64 n1) ∧ w'.cell? ⟨tb, y * 9 + 5, none⟩ = some (.int .i64 n2) ∧ w'.cell? ⟨tb, y * 9 + 6, none⟩ = some (.bool f0) ∧ w'.cell? ⟨tb, y * 9 + 7, none⟩ = some (.bool f1) ∧ w'.cell? ⟨tb, y * 9 + 8, none⟩ = some (.bool f2) ∧ w'.cell? ⟨tb, y * 9 + 3 + j, none⟩ = some (.int .i64 nx)) (by kernel_rfl) (by kernel_rfl) (CF.out _ hf0) (fun hHeld => ?_)
            refine reg_take 0 ?_ ?_ ?_ (by kernel_rfl) (by kernel_rfl) (by kernel_rfl) (fun _ _ _ h => h) ?_ ?_ (by assumption) ?_
            rotate_left 2
            · simp only [List.getElem?_toArray, List.getElem?_cons_zero]; exact rfl
            · rfl
            · intro w hSw; (try dsimp only at hSw); go_simp; try with_reducible rfl
            try simp only [Act.put]
            try simp only [List.setIfInBounds_toArray, List.set_cons_zero, List.set_cons_succ]
            refine reg_take 1 ?_ ?_ ?_ (by kernel_rfl) (by kernel_rfl) (by kernel_rfl) (fun _ _ _ h => h) ?_ ?_ (by assumption) ?_
            rotate_left 2
            · simp only [List.getElem?_toArray, List.getElem?_cons_succ, List.getElem?_cons_zero]; exact rfl
            · rfl
            · intro w hSw; (try dsimp only at hSw); go_simp; try with_reducible rfl
            try simp only [Act.put]
            try simp only [List.setIfInBounds_toArray, List.set_cons_zero, List.set_cons_succ]
            refine reg_take 2 ?_ ?_ ?_ (by kernel_rfl) (by kernel_rfl) (by kernel_rfl) (fun _ _ _ h => h) ?_ ?_ (by assumption) ?_
            rotate_left 2
            · simp only [List.getElem?_toArray, List.getElem?_cons_succ, List.getElem?_cons_zero]; exact rfl
            · rfl
            · intro w hSw; (try dsimp only at hSw); go_simp; try with_reducible rfl
            try simp only [Act.put]
            try simp only [List.setIfInBounds_toArray, List.set_cons_zero, List.set_cons_succ]
            refine reg_take 3 ?_ ?_ ?_ (by kernel_rfl) (by kernel_rfl) (by kernel_rfl) (fun _ _ _ h => h) ?_ ?_ (by assumption) ?_
            rotate_left 2
            · simp only [List.getElem?_toArray, List.getElem?_cons_succ, List.getElem?_cons_zero]; exact rfl
            · rfl
            · intro w hSw; (try dsimp only at hSw); go_simp; try with_reducible rfl
            try simp only [Act.put]
            try simp only [List.setIfInBounds_toArray, List.set_cons_zero, List.set_cons_succ]
            refine reg_take 4 ?_ ?_ ?_ (by kernel_rfl) (by kernel_rfl) (by kernel_rfl) (fun _ _ _ h => h) ?_ ?_ (by assumption) ?_
            rotate_left 2
            · simp only [List.getElem?_toArray, List.getElem?_cons_succ, List.getElem?_cons_zero]; exact rfl
            · rfl
            · intro w hSw; (try dsimp only at hSw); go_simp; try with_reducible rfl
            try simp only [Act.put]
            try simp only [List.setIfInBounds_toArray, List.set_cons_zero, List.set_cons_succ]
            refine reg_take 5 ?_ ?_ ?_ (by kernel_rfl) (by kernel_rfl) (by kernel_rfl) (fun _ _ _ h => h) ?_ ?_ (by assumption) ?_
            rotate_left 2
            · simp only [List.getElem?_toArray, List.getElem?_cons_succ, List.getElem?_cons_zero]; exact rfl
            · rfl
            · intro w hSw; (try dsimp only at hSw); go_simp; try with_reducible rfl
            try simp only [Act.put]
            try simp only [List.setIfInBounds_toArray, List.set_cons_zero, List.set_cons_succ]
            refine reg_take 6 ?_ ?_ ?_ (by kernel_rfl) (by kernel_rfl) (by kernel_rfl) (fun _ _ _ h => h) ?_ ?_ (by assumption) ?_
            rotate_left 2
            · simp only [List.getElem?_toArray, List.getElem?_cons_succ, List.getElem?_cons_zero]; exact rfl
            · rfl
            · intro w hSw; (try dsimp only at hSw); go_simp; try with_reducible rfl
            try simp only [Act.put]
            try simp only [List.setIfInBounds_toArray, List.set_cons_zero, List.set_cons_succ]
            refine reg_take 7 ?_ ?_ ?_ (by kernel_rfl) (by kernel_rfl) (by kernel_rfl) (fun _ _ _ h => h) ?_ ?_ (by assumption) ?_
            rotate_left 2
            · simp only [List.getElem?_toArray, List.getElem?_cons_succ, List.getElem?_cons_zero]; exact rfl
            · rfl
            · intro w hSw; (try dsimp only at hSw); go_simp; try with_reducible rfl
            try simp only [Act.put]
            try simp only [List.setIfInBounds_toArray, List.set_cons_zero, List.set_cons_succ]
            refine reg_take 8 ?_ ?_ ?_ (by kernel_rfl) (by kernel_rfl) (by kernel_rfl) (fun _ _ _ h => h) ?_ ?_ (by assumption) ?_
            rotate_left 2
            · simp only [List.getElem?_toArray, List.getElem?_cons_succ, List.getElem?_cons_zero]; exact rfl
            · rfl
            · intro w hSw; (try dsimp only at hSw); go_simp; try with_reducible rfl
            try simp only [Act.put]
            try simp only [List.setIfInBounds_toArray, List.set_cons_zero, List.set_cons_succ]
            refine reg_take 9 ?_ ?_ ?_ (by kernel_rfl) (by kernel_rfl) (by kernel_rfl) (fun _ _ _ h => h) ?_ ?_ (by assumption) ?_
            rotate_left 2
            · simp only [List.getElem?_toArray, List.getElem?_cons_succ, List.getElem?_cons_zero]; exact rfl
            · rfl
            · intro w hSw; (try dsimp only at hSw); go_simp; try with_reducible rfl
            try simp only [Act.put]
            try simp only [List.setIfInBounds_toArray, List.set_cons_zero, List.set_cons_succ]
            refine reg_take 10 ?_ ?_ ?_ (by kernel_rfl) (by kernel_rfl) (by kernel_rfl) (fun _ _ _ h => h) ?_ ?_ (by assumption) ?_
            rotate_left 2
            · simp only [List.getElem?_toArray, List.getElem?_cons_succ, List.getElem?_cons_zero]; exact rfl
            · rfl
            · intro w hSw; (try dsimp only at hSw); go_simp; try with_reducible rfl
            try simp only [Act.put]
            try simp only [List.setIfInBounds_toArray, List.set_cons_zero, List.set_cons_succ]
            refine reg_take 11 ?_ ?_ ?_ (by kernel_rfl) (by kernel_rfl) (by kernel_rfl) (fun _ _ _ h => h) ?_ ?_ (by assumption) ?_
            rotate_left 2
            · simp only [List.getElem?_toArray, List.getElem?_cons_succ, List.getElem?_cons_zero]; exact rfl
            · rfl
            · intro w hSw; (try dsimp only at hSw); go_simp; try with_reducible rfl
            try simp only [Act.put]
            try simp only [List.setIfInBounds_toArray, List.set_cons_zero, List.set_cons_succ]
            refine reg_take 12 ?_ ?_ ?_ (by kernel_rfl) (by kernel_rfl) (by kernel_rfl) (fun _ _ _ h => h) ?_ ?_ (by assumption) ?_
            rotate_left 2
            · simp only [List.getElem?_toArray, List.getElem?_cons_succ, List.getElem?_cons_zero]; exact rfl
            · rfl
            · intro w hSw; (try dsimp only at hSw); go_simp; try with_reducible rfl
            try simp only [Act.put]
            try simp only [List.setIfInBounds_toArray, List.set_cons_zero, List.set_cons_succ]
            refine reg_take 13 ?_ ?_ ?_ (by kernel_rfl) (by kernel_rfl) (by kernel_rfl) (fun _ _ _ h => h) ?_ ?_ (by assumption) ?_
            rotate_left 2
            · simp only [List.getElem?_toArray, List.getElem?_cons_succ, List.getElem?_cons_zero]; exact rfl
            · rfl
            · intro w hSw; (try dsimp only at hSw); go_simp; try with_reducible rfl
            try simp only [Act.put]
            try simp only [List.setIfInBounds_toArray, List.set_cons_zero, List.set_cons_succ]
            refine reg_take 14 ?_ ?_ ?_ (by kernel_rfl) (by kernel_rfl) (by kernel_rfl) (fun _ _ _ h => h) ?_ ?_ (by assumption) ?_
            rotate_left 2
            · simp only [List.getElem?_toArray, List.getElem?_cons_succ, List.getElem?_cons_zero]; exact rfl
            · rfl
            · intro w hSw; (try dsimp only at hSw); go_simp; try with_reducible rfl
            try simp only [Act.put]
            try simp only [List.setIfInBounds_toArray, List.set_cons_zero, List.set_cons_succ]
            refine reg_take 15 ?_ ?_ ?_ (by kernel_rfl) (by kernel_rfl) (by kernel_rfl) (fun _ _ _ h => h) ?_ ?_ (by assumption) ?_
            rotate_left 2
            · simp only [List.getElem?_toArray, List.getElem?_cons_succ, List.getElem?_cons_zero]; exact rfl
            · rfl
            · intro w hSw; (try dsimp only at hSw); go_simp; try with_reducible rfl
            try simp only [Act.put]
            try simp only [List.setIfInBounds_toArray, List.set_cons_zero, List.set_cons_succ]
            refine reg_take 16 ?_ ?_ ?_ (by kernel_rfl) (by kernel_rfl) (by kernel_rfl) (fun _ _ _ h => h) ?_ ?_ (by assumption) ?_
            rotate_left 2
            · simp only [List.getElem?_toArray, List.getElem?_cons_succ, List.getElem?_cons_zero]; exact rfl
            · rfl
            · intro w hSw; (try dsimp only at hSw); go_simp; try with_reducible rfl
            try simp only [Act.put]
            try simp only [List.setIfInBounds_toArray, List.set_cons_zero, List.set_cons_succ]
            refine reg_take 17 ?_ ?_ ?_ (by kernel_rfl) (by kernel_rfl) (by kernel_rfl) (fun _ _ _ h => h) ?_ ?_ (by assumption) ?_
            rotate_left 2
            · simp only [List.getElem?_toArray, List.getElem?_cons_succ, List.getElem?_cons_zero]; exact rfl
            · rfl
            · intro w hSw; (try dsimp only at hSw); go_simp; try with_reducible rfl
            try simp only [Act.put]
            try simp only [List.setIfInBounds_toArray, List.set_cons_zero, List.set_cons_succ]
            refine reg_take 18 ?_ ?_ ?_ (by kernel_rfl) (by kernel_rfl) (by kernel_rfl) (fun _ _ _ h => h) ?_ ?_ (by assumption) ?_
            rotate_left 2
            · simp only [List.getElem?_toArray, List.getElem?_cons_succ, List.getElem?_cons_zero]; exact rfl
            · rfl
            · intro w hSw; (try dsimp only at hSw); go_simp; try with_reducible rfl
            try simp only [Act.put]
            try simp only [List.setIfInBounds_toArray, List.set_cons_zero, List.set_cons_succ]
            refine reg_take 19 ?_ ?_ ?_ (by kernel_rfl) (by kernel_rfl) (by kernel_rfl) (fun _ _ _ h => h) ?_ ?_ (by assumption) ?_
            rotate_left 2
            · simp only [List.getElem?_toArray, List.getElem?_cons_succ, List.getElem?_cons_zero]; exact rfl
            · rfl
            · intro w hSw; (try dsimp only at hSw); go_simp; try with_reducible rfl
            try simp only [Act.put]
            try simp only [List.setIfInBounds_toArray, List.set_cons_zero, List.set_cons_succ]
            refine reg_take 20 ?_ ?_ ?_ (by kernel_rfl) (by kernel_rfl) (by kernel_rfl) (fun _ _ _ h => h) ?_ ?_ (by assumption) ?_
            rotate_left 2
            · simp only [List.getElem?_toArray, List.getElem?_cons_succ, List.getElem?_cons_zero]; exact rfl
            · rfl
            · intro w hSw; (try dsimp only at hSw); go_simp; try with_reducible rfl
            try simp only [Act.put]
            try simp only [List.setIfInBounds_toArray, List.set_cons_zero, List.set_cons_succ]
            refine reg_take 21 ?_ ?_ ?_ (by kernel_rfl) (by kernel_rfl) (by kernel_rfl) (fun _ _ _ h => h) ?_ ?_ (by assumption) ?_
            rotate_left 2
            · simp only [List.getElem?_toArray, List.getElem?_cons_succ, List.getElem?_cons_zero]; exact rfl
            · rfl
            · intro w hSw; (try dsimp only at hSw); go_simp; try with_reducible rfl
            try simp only [Act.put]
            try simp only [List.setIfInBounds_toArray, List.set_cons_zero, List.set_cons_succ]
            refine reg_take 22 ?_ ?_ ?_ (by kernel_rfl) (by kernel_rfl) (by kernel_rfl) (fun _ _ _ h => h) ?_ ?_ (by assumption) ?_
            rotate_left 2
            · simp only [List.getElem?_toArray, List.getElem?_cons_succ, List.getElem?_cons_zero]; exact rfl
            · rfl
            · intro w hSw; (try dsimp only at hSw); go_simp; try with_reducible rfl
            try simp only [Act.put]
            try simp only [List.setIfInBounds_toArray, List.set_cons_zero, List.set_cons_succ]
            refine reg_take 23 ?_ ?_ ?_ (by kernel_rfl) (by kernel_rfl) (by kernel_rfl) (fun _ _ _ h => h) ?_ ?_ (by assumption) ?_
            rotate_left 2
            · simp only [List.getElem?_toArray, List.getElem?_cons_succ, List.getElem?_cons_zero]; exact rfl
            · rfl
            · intro w hSw; (try dsimp only at hSw); go_simp; try with_reducible rfl
            try simp only [Act.put]
            try simp only [List.setIfInBounds_toArray, List.set_cons_zero, List.set_cons_succ]
            refine reg_take 24 ?_ ?_ ?_ (by kernel_rfl) (by kernel_rfl) (by kernel_rfl) (fun _ _ _ h => h) ?_ ?_ (by assumption) ?_
            rotate_left 2
            · simp only [List.getElem?_toArray, List.getElem?_cons_succ, List.getElem?_cons_zero]; exact rfl
            · rfl
            · intro w hSw; (try dsimp only at hSw); go_simp; try with_reducible rfl
            try simp only [Act.put]
            try simp only [List.setIfInBounds_toArray, List.set_cons_zero, List.set_cons_succ]
            refine reg_take 25 ?_ ?_ ?_ (by kernel_rfl) (by kernel_rfl) (by kernel_rfl) (fun _ _ _ h => h) ?_ ?_ (by assumption) ?_
            rotate_left 2
            · simp only [List.getElem?_toArray, List.getElem?_cons_succ, List.getElem?_cons_zero]; exact rfl
            · rfl
            · intro w hSw; (try dsimp only at hSw); go_simp; try with_reducible rfl
            try simp only [Act.put]
            try simp only [List.setIfInBounds_toArray, List.set_cons_zero, List.set_cons_succ]
            refine reg_take 26 ?_ ?_ ?_ (by kernel_rfl) (by kernel_rfl) (by kernel_rfl) (fun _ _ _ h => h) ?_ ?_ (by assumption) ?_
            rotate_left 2
            · simp only [List.getElem?_toArray, List.getElem?_cons_succ, List.getElem?_cons_zero]; exact rfl
            · rfl
            · intro w hSw; (try dsimp only at hSw); go_simp; try with_reducible rfl
            try simp only [Act.put]
            try simp only [List.setIfInBounds_toArray, List.set_cons_zero, List.set_cons_succ]
            refine reg_take 27 ?_ ?_ ?_ (by kernel_rfl) (by kernel_rfl) (by kernel_rfl) (fun _ _ _ h => h) ?_ ?_ (by assumption) ?_
            rotate_left 2
            · simp only [List.getElem?_toArray, List.getElem?_cons_succ, List.getElem?_cons_zero]; exact rfl
            · rfl
            · intro w hSw; (try dsimp only at hSw); go_simp; try with_reducible rfl
            try simp only [Act.put]
            try simp only [List.setIfInBounds_toArray, List.set_cons_zero, List.set_cons_succ]
            refine reg_take 28 ?_ ?_ ?_ (by kernel_rfl) (by kernel_rfl) (by kernel_rfl) (fun _ _ _ h => h) ?_ ?_ (by assumption) ?_
            rotate_left 2
            · simp only [List.getElem?_toArray, List.getElem?_cons_succ, List.getElem?_cons_zero]; exact rfl
            · rfl
            · intro w hSw; (try dsimp only at hSw); go_simp; try with_reducible rfl
            try simp only [Act.put]
            try simp only [List.setIfInBounds_toArray, List.set_cons_zero, List.set_cons_succ]
            refine reg_take 29 ?_ ?_ ?_ (by kernel_rfl) (by kernel_rfl) (by kernel_rfl) (fun _ _ _ h => h) ?_ ?_ (by assumption) ?_
            rotate_left 2
            · simp only [List.getElem?_toArray, List.getElem?_cons_succ, List.getElem?_cons_zero]; exact rfl
            · rfl
            · intro w hSw; (try dsimp only at hSw); go_simp; try with_reducible rfl
            try simp only [Act.put]
            try simp only [List.setIfInBounds_toArray, List.set_cons_zero, List.set_cons_succ]
            refine reg_take 30 ?_ ?_ ?_ (by kernel_rfl) (by kernel_rfl) (by kernel_rfl) (fun _ _ _ h => h) ?_ ?_ (by assumption) ?_
            rotate_left 2
            · simp only [List.getElem?_toArray, List.getElem?_cons_succ, List.getElem?_cons_zero]; exact rfl
            · rfl
            · intro w hSw; (try dsimp only at hSw); go_simp; try with_reducible rfl
            try simp only [Act.put]
            try simp only [List.setIfInBounds_toArray, List.set_cons_zero, List.set_cons_succ]
            refine reg_take 31 ?_ ?_ ?_ (by kernel_rfl) (by kernel_rfl) (by kernel_rfl) (fun _ _ _ h => h) ?_ ?_ (by assumption) ?_
            rotate_left 2
            · simp only [List.getElem?_toArray, List.getElem?_cons_succ, List.getElem?_cons_zero]; exact rfl
            · rfl
            · intro w hSw; (try dsimp only at hSw); go_simp; try with_reducible rfl
            try simp only [Act.put]
            try simp only [List.setIfInBounds_toArray, List.set_cons_zero, List.set_cons_succ]
            refine reg_take 32 ?_ ?_ ?_ (by kernel_rfl) (by kernel_rfl) (by kernel_rfl) (fun _ _ _ h => h) ?_ ?_ (by assumption) ?_
            rotate_left 2
            · simp only [List.getElem?_toArray, List.getElem?_cons_succ, List.getElem?_cons_zero]; exact rfl
            · rfl
            · intro w hSw; (try dsimp only at hSw); go_simp; try with_reducible rfl
            try simp only [Act.put]
            try simp only [List.setIfInBounds_toArray, List.set_cons_zero, List.set_cons_succ]
            refine reg_take 33 ?_ ?_ ?_ (by kernel_rfl) (by kernel_rfl) (by kernel_rfl) (fun _ _ _ h => h) ?_ ?_ (by assumption) ?_
            rotate_left 2
            · simp only [List.getElem?_toArray, List.getElem?_cons_succ, List.getElem?_cons_zero]; exact rfl
            · rfl
            · intro w hSw; (try dsimp only at hSw); go_simp; try with_reducible rfl
            try simp only [Act.put]
            try simp only [List.setIfInBounds_toArray, List.set_cons_zero, List.set_cons_succ]
            refine reg_take 34 ?_ ?_ ?_ (by kernel_rfl) (by kernel_rfl) (by kernel_rfl) (fun _ _ _ h => h) ?_ ?_ (by assumption) ?_
            rotate_left 2
            · simp only [List.getElem?_toArray, List.getElem?_cons_succ, List.getElem?_cons_zero]; exact rfl
            · rfl
            · intro w hSw; (try dsimp only at hSw); go_simp; try with_reducible rfl
            try simp only [Act.put]
            try simp only [List.setIfInBounds_toArray, List.set_cons_zero, List.set_cons_succ]
            refine reg_take 38 ?_ ?_ ?_ (by kernel_rfl) (by kernel_rfl) (by kernel_rfl) (fun _ _ _ h => h) ?_ ?_ (by assumption) ?_
            rotate_left 2
            · simp only [List.getElem?_toArray, List.getElem?_cons_succ, List.getElem?_cons_zero]; exact rfl
            · rfl
            · intro w hSw; (try dsimp only at hSw); go_simp; try with_reducible rfl
            try simp only [Act.put]
            try simp only [List.setIfInBounds_toArray, List.set_cons_zero, List.set_cons_succ]
            refine reg_take 39 ?_ ?_ ?_ (by kernel_rfl) (by kernel_rfl) (by kernel_rfl) (fun _ _ _ h => h) ?_ ?_ (by assumption) ?_
            rotate_left 2
            · simp only [List.getElem?_toArray, List.getElem?_cons_succ, List.getElem?_cons_zero]; exact rfl
            · rfl
            · intro w hSw; (try dsimp only at hSw); go_simp; try with_reducible rfl
            try simp only [Act.put]
            try simp only [List.setIfInBounds_toArray, List.set_cons_zero, List.set_cons_succ]
            refine reg_take 42 ?_ ?_ ?_ (by kernel_rfl) (by kernel_rfl) (by kernel_rfl) (fun _ _ _ h => h) ?_ ?_ (by assumption) ?_
            rotate_left 2
            · simp only [List.getElem?_toArray, List.getElem?_cons_succ, List.getElem?_cons_zero]; exact rfl
            · rfl
            · intro w hSw; (try dsimp only at hSw); go_simp; try with_reducible rfl
            try simp only [Act.put]
            try simp only [List.setIfInBounds_toArray, List.set_cons_zero, List.set_cons_succ]
            refine reg_call 35 ?_ (by kernel_rfl) ?_ (fun K hK => ?_)
            rotate_left 1
            · simp only [List.getElem?_toArray, List.getElem?_cons_succ, List.getElem?_cons_zero]; exact rfl
            go_simp
            refine (HHA.out _).mono ?_
            rintro e v1 ⟨rfl, hbv⟩
            have hf1 := hf0.trans (hbv.mono hf0.size)
            clear hbv
            go_wp2_with fail
            refine hK.out _ _ (CF.out _ hf1) (fun hHeld => ?_)
            clear hK K
            try simp only [Act.put]
            try simp only [List.setIfInBounds_toArray, List.set_cons_zero, List.set_cons_succ]
            refine reg_take 36 ?_ ?_ ?_ (by kernel_rfl) (by kernel_rfl) (by kernel_rfl) (fun _ _ _ h => h) ?_ ?_ (by assumption) ?_
            rotate_left 2
            · simp only [List.getElem?_toArray, List.getElem?_cons_succ, List.getElem?_cons_zero]; exact rfl
            · rfl
            · intro w hSw; (try dsimp only at hSw); go_simp; try with_reducible rfl
            try simp only [Act.put]
            try simp only [List.setIfInBounds_toArray, List.set_cons_zero, List.set_cons_succ]
            refine reg_take 37 ?_ ?_ ?_ (by kernel_rfl) (by kernel_rfl) (by kernel_rfl) (fun _ _ _ h => h) ?_ ?_ (by assumption) ?_
            rotate_left 2
            · simp only [List.getElem?_toArray, List.getElem?_cons_succ, List.getElem?_cons_zero]; exact rfl
            · rfl
            · intro w hSw; (try dsimp only at hSw); go_simp; try with_reducible rfl
            try simp only [Act.put]
            try simp only [List.setIfInBounds_toArray, List.set_cons_zero, List.set_cons_succ]
            refine reg_take 40 ?_ ?_ ?_ (by kernel_rfl) (by kernel_rfl) (by kernel_rfl) (fun _ _ _ h => h) ?_ ?_ (by assumption) ?_
            rotate_left 2
            · simp only [List.getElem?_toArray, List.getElem?_cons_succ, List.getElem?_cons_zero]; exact rfl
            · rfl
            · intro w hSw; (try dsimp only at hSw); go_simp; try with_reducible rfl
            try simp only [Act.put]
            try simp only [List.setIfInBounds_toArray, List.set_cons_zero, List.set_cons_succ]
            refine reg_take 41 ?_ ?_ ?_ (by kernel_rfl) (by kernel_rfl) (by kernel_rfl) (fun _ _ _ h => h) ?_ ?_ (by assumption) ?_
            rotate_left 2
            · simp only [List.getElem?_toArray, List.getElem?_cons_succ, List.getElem?_cons_zero]; exact rfl
            · rfl
            · intro w hSw; (try dsimp only at hSw); go_simp; try with_reducible rfl
            try simp only [Act.put]
            try simp only [List.setIfInBounds_toArray, List.set_cons_zero, List.set_cons_succ]
            refine reg_take 43 ?_ ?_ ?_ (by kernel_rfl) (by kernel_rfl) (by kernel_rfl) (fun _ _ _ h => h) ?_ ?_ (by assumption) ?_
            rotate_left 2
            · simp only [List.getElem?_toArray, List.getElem?_cons_succ, List.getElem?_cons_zero]; exact rfl
            · rfl
            · intro w hSw; (try dsimp only at hSw); go_simp; try with_reducible rfl
            try simp only [Act.put]
            try simp only [List.setIfInBounds_toArray, List.set_cons_zero, List.set_cons_succ]
            refine reg_take 44 ?_ ?_ ?_ (by kernel_rfl) (by kernel_rfl) (by kernel_rfl) (fun _ _ _ h => h) ?_ ?_ (by assumption) ?_
            rotate_left 2
            · simp only [List.getElem?_toArray, List.getElem?_cons_succ, List.getElem?_cons_zero]; exact rfl
            · rfl
            · intro w hSw; (try dsimp only at hSw); go_simp; try with_reducible rfl
            try simp only [Act.put]
            try simp only [List.setIfInBounds_toArray, List.set_cons_zero, List.set_cons_succ]
            refine reg_take 45 ?_ ?_ ?_ (by kernel_rfl) (by kernel_rfl) (by kernel_rfl) (fun _ _ _ h => h) ?_ ?_ (by assumption) ?_
            rotate_left 2
            · simp only [List.getElem?_toArray, List.getElem?_cons_succ, List.getElem?_cons_zero]; exact rfl
            · rfl
            · intro w hSw; (try dsimp only at hSw); go_simp; try with_reducible rfl
            try simp only [Act.put]
            try simp only [List.setIfInBounds_toArray, List.set_cons_zero, List.set_cons_succ]
            refine wpAnyH_done (by kernel_rfl) ?_ _
            refine OnlyN.normal ?_
            have prz := PRW.out.below hf1
            obtain ⟨q0, q1⟩ := prz.open1
            clear prz
            gi_wp2
            obtain ⟨g1, -, g3⟩ := HLV.out _ hf1 ⟨(t, k), by rw [HSL.out]; exact ht, hk⟩ rfl; exact ⟨g1, rfl, g3⟩
          have q4 : (nx == (t : Int)) = true := by simpa using hnt
          have q5 : (nx != (t : Int)) = false := by simpa using hnt
          clear leave hnt
          gi_wp2
          refine rnd_region_held (S := fun w' => (Instr.lookup 52 (.map (some mpb)) (.int .i64 (t : Int)) false).run Try.prog w' = .ok (.int .i64 0) w' ∧ w'.cell? ⟨mpx, 0, none⟩ = some (.map (some mpb)) ∧ w'.cell? ⟨mbx, 0, none⟩ = some (.pointer (some ⟨mb, 0, none⟩)) ∧ w'.cell? ⟨mb, 1, none⟩ = some (.slice (some ⟨tb, 0, none⟩) SL tc) ∧ w'.cell? ⟨tb, t * 9 + k, none⟩ = some (.int .i64 (v : Int)) ∧ w'.cell? ⟨vb, 0, none⟩ = some (.int .i64 (v : Int)) ∧ w'.cell? ⟨lb, 0, none⟩ = some (.int .i64 (y : Int)) ∧ w'.cell? ⟨tb, y * 9, none⟩ = some (.int .i64 l0) ∧ w'.cell? ⟨tb, y * 9 + 1, none⟩ = some (.int .i64 l1) ∧ w'.cell? ⟨tb, y * 9 + 2, none⟩ = some (.int .i64 l2) ∧ w'.cell? ⟨tb, y * 9 + 3, none⟩ = some (.int .i64 n0) ∧ w'.cell? ⟨tb, y * 9 + 4, none⟩ = some (.int .i64 n1) ∧ w'.cell? ⟨tb, y * 9 + 5, none⟩ = some (.int .i64 n2) ∧ w'.cell? ⟨tb, y * 9 + 6, none⟩ = some (.bool f0) ∧ w'.cell? ⟨tb, y * 9 + 7, none⟩ = some (.bool f1) ∧ w'.cell? ⟨tb, y * 9 + 8, none⟩ = some (.bool f2) ∧ w'.cell? ⟨tb, y * 9 + 3 + j, none⟩ = some (.int .i64 nx)) (by kernel_rfl) (by kernel_rfl) (CF.out _ hf0) (fun hHeld => ?_)
          refine reg_take 0 ?_ ?_ ?_ (by kernel_rfl) (by kernel_rfl) (by kernel_rfl) (fun _ _ _ h => h) ?_ ?_ (by assumption) ?_
          rotate_left 2
          · simp only [List.getElem?_toArray, List.getElem?_cons_zero]; exact rfl
          · rfl
          · intro w hSw; (try dsimp only at hSw); go_simp; try with_reducible rfl
          try simp only [Act.put]
          try simp only [List.setIfInBounds_toArray, List.set_cons_zero, List.set_cons_succ]
          refine reg_take 1 ?_ ?_ ?_ (by kernel_rfl) (by kernel_rfl) (by kernel_rfl) (fun _ _ _ h => h) ?_ ?_ (by assumption) ?_
          rotate_left 2
          · simp only [List.getElem?_toArray, List.getElem?_cons_succ, List.getElem?_cons_zero]; exact rfl
          · rfl
          · intro w hSw; (try dsimp only at hSw); go_simp; try with_reducible rfl
          try simp only [Act.put]
          try simp only [List.setIfInBounds_toArray, List.set_cons_zero, List.set_cons_succ]
          refine reg_take 2 ?_ ?_ ?_ (by kernel_rfl) (by kernel_rfl) (by kernel_rfl) (fun _ _ _ h => h) ?_ ?_ (by assumption) ?_
          rotate_left 2
          · simp only [List.getElem?_toArray, List.getElem?_cons_succ, List.getElem?_cons_zero]; exact rfl
          · rfl
          · intro w hSw; (try dsimp only at hSw); go_simp; try with_reducible rfl
          try simp only [Act.put]
          try simp only [List.setIfInBounds_toArray, List.set_cons_zero, List.set_cons_succ]
          refine reg_take 3 ?_ ?_ ?_ (by kernel_rfl) (by kernel_rfl) (by kernel_rfl) (fun _ _ _ h => h) ?_ ?_ (by assumption) ?_
          rotate_left 2
          · simp only [List.getElem?_toArray, List.getElem?_cons_succ, List.getElem?_cons_zero]; exact rfl
          · rfl
          · intro w hSw; (try dsimp only at hSw); go_simp; try with_reducible rfl
          try simp only [Act.put]
          try simp only [List.setIfInBounds_toArray, List.set_cons_zero, List.set_cons_succ]
          refine reg_take 4 ?_ ?_ ?_ (by kernel_rfl) (by kernel_rfl) (by kernel_rfl) (fun _ _ _ h => h) ?_ ?_ (by assumption) ?_
          rotate_left 2
          · simp only [List.getElem?_toArray, List.getElem?_cons_succ, List.getElem?_cons_zero]; exact rfl
          · rfl
          · intro w hSw; (try dsimp only at hSw); go_simp; try with_reducible rfl
          try simp only [Act.put]
          try simp only [List.setIfInBounds_toArray, List.set_cons_zero, List.set_cons_succ]
          refine reg_take 5 ?_ ?_ ?_ (by kernel_rfl) (by kernel_rfl) (by kernel_rfl) (fun _ _ _ h => h) ?_ ?_ (by assumption) ?_
          rotate_left 2
          · simp only [List.getElem?_toArray, List.getElem?_cons_succ, List.getElem?_cons_zero]; exact rfl
          · rfl
          · intro w hSw; (try dsimp only at hSw); go_simp; try with_reducible rfl
          try simp only [Act.put]
          try simp only [List.setIfInBounds_toArray, List.set_cons_zero, List.set_cons_succ]
          refine reg_take 6 ?_ ?_ ?_ (by kernel_rfl) (by kernel_rfl) (by kernel_rfl) (fun _ _ _ h => h) ?_ ?_ (by assumption) ?_
          rotate_left 2
          · simp only [List.getElem?_toArray, List.getElem?_cons_succ, List.getElem?_cons_zero]; exact rfl
          · rfl
          · intro w hSw; (try dsimp only at hSw); go_simp; try with_reducible rfl
          try simp only [Act.put]
          try simp only [List.setIfInBounds_toArray, List.set_cons_zero, List.set_cons_succ]
          refine reg_take 7 ?_ ?_ ?_ (by kernel_rfl) (by kernel_rfl) (by kernel_rfl) (fun _ _ _ h => h) ?_ ?_ (by assumption) ?_
          rotate_left 2
          · simp only [List.getElem?_toArray, List.getElem?_cons_succ, List.getElem?_cons_zero]; exact rfl
          · rfl
          · intro w hSw; (try dsimp only at hSw); go_simp; try with_reducible rfl
          try simp only [Act.put]
          try simp only [List.setIfInBounds_toArray, List.set_cons_zero, List.set_cons_succ]
          refine reg_take 8 ?_ ?_ ?_ (by kernel_rfl) (by kernel_rfl) (by kernel_rfl) (fun _ _ _ h => h) ?_ ?_ (by assumption) ?_
          rotate_left 2
          · simp only [List.getElem?_toArray, List.getElem?_cons_succ, List.getElem?_cons_zero]; exact rfl
          · rfl
          · intro w hSw; (try dsimp only at hSw); go_simp; try with_reducible rfl
          try simp only [Act.put]
          try simp only [List.setIfInBounds_toArray, List.set_cons_zero, List.set_cons_succ]
          refine reg_take 9 ?_ ?_ ?_ (by kernel_rfl) (by kernel_rfl) (by kernel_rfl) (fun _ _ _ h => h) ?_ ?_ (by assumption) ?_
          rotate_left 2
          · simp only [List.getElem?_toArray, List.getElem?_cons_succ, List.getElem?_cons_zero]; exact rfl
          · rfl
          · intro w hSw; (try dsimp only at hSw); go_simp; try with_reducible rfl
          try simp only [Act.put]
          try simp only [List.setIfInBounds_toArray, List.set_cons_zero, List.set_cons_succ]
          refine reg_take 10 ?_ ?_ ?_ (by kernel_rfl) (by kernel_rfl) (by kernel_rfl) (fun _ _ _ h => h) ?_ ?_ (by assumption) ?_
          rotate_left 2
          · simp only [List.getElem?_toArray, List.getElem?_cons_succ, List.getElem?_cons_zero]; exact rfl
          · rfl
          · intro w hSw; (try dsimp only at hSw); go_simp; try with_reducible rfl
          try simp only [Act.put]
          try simp only [List.setIfInBounds_toArray, List.set_cons_zero, List.set_cons_succ]
          refine reg_take 11 ?_ ?_ ?_ (by kernel_rfl) (by kernel_rfl) (by kernel_rfl) (fun _ _ _ h => h) ?_ ?_ (by assumption) ?_
          rotate_left 2
          · simp only [List.getElem?_toArray, List.getElem?_cons_succ, List.getElem?_cons_zero]; exact rfl
          · rfl
          · intro w hSw; (try dsimp only at hSw); go_simp; try with_reducible rfl
          try simp only [Act.put]
          try simp only [List.setIfInBounds_toArray, List.set_cons_zero, List.set_cons_succ]
          refine reg_take 12 ?_ ?_ ?_ (by kernel_rfl) (by kernel_rfl) (by kernel_rfl) (fun _ _ _ h => h) ?_ ?_ (by assumption) ?_
          rotate_left 2
          · simp only [List.getElem?_toArray, List.getElem?_cons_succ, List.getElem?_cons_zero]; exact rfl
          · rfl
          · intro w hSw; (try dsimp only at hSw); go_simp; try with_reducible rfl
          try simp only [Act.put]
          try simp only [List.setIfInBounds_toArray, List.set_cons_zero, List.set_cons_succ]
          refine reg_take 13 ?_ ?_ ?_ (by kernel_rfl) (by kernel_rfl) (by kernel_rfl) (fun _ _ _ h => h) ?_ ?_ (by assumption) ?_
          rotate_left 2
          · simp only [List.getElem?_toArray, List.getElem?_cons_succ, List.getElem?_cons_zero]; exact rfl
          · rfl
          · intro w hSw; (try dsimp only at hSw); go_simp; try with_reducible rfl
          try simp only [Act.put]
          try simp only [List.setIfInBounds_toArray, List.set_cons_zero, List.set_cons_succ]
          refine reg_take 14 ?_ ?_ ?_ (by kernel_rfl) (by kernel_rfl) (by kernel_rfl) (fun _ _ _ h => h) ?_ ?_ (by assumption) ?_
          rotate_left 2
          · simp only [List.getElem?_toArray, List.getElem?_cons_succ, List.getElem?_cons_zero]; exact rfl
          · rfl
          · intro w hSw; (try dsimp only at hSw); go_simp; try with_reducible rfl
          try simp only [Act.put]
          try simp only [List.setIfInBounds_toArray, List.set_cons_zero, List.set_cons_succ]
          refine reg_take 15 ?_ ?_ ?_ (by kernel_rfl) (by kernel_rfl) (by kernel_rfl) (fun _ _ _ h => h) ?_ ?_ (by assumption) ?_
          rotate_left 2
          · simp only [List.getElem?_toArray, List.getElem?_cons_succ, List.getElem?_cons_zero]; exact rfl
          · rfl
          · intro w hSw; (try dsimp only at hSw); go_simp; try with_reducible rfl
          try simp only [Act.put]
          try simp only [List.setIfInBounds_toArray, List.set_cons_zero, List.set_cons_succ]
          refine reg_take 16 ?_ ?_ ?_ (by kernel_rfl) (by kernel_rfl) (by kernel_rfl) (fun _ _ _ h => h) ?_ ?_ (by assumption) ?_
          rotate_left 2
          · simp only [List.getElem?_toArray, List.getElem?_cons_succ, List.getElem?_cons_zero]; exact rfl
          · rfl
          · intro w hSw; (try dsimp only at hSw); go_simp; try with_reducible rfl
          try simp only [Act.put]
          try simp only [List.setIfInBounds_toArray, List.set_cons_zero, List.set_cons_succ]
          refine reg_take 17 ?_ ?_ ?_ (by kernel_rfl) (by kernel_rfl) (by kernel_rfl) (fun _ _ _ h => h) ?_ ?_ (by assumption) ?_
          rotate_left 2
          · simp only [List.getElem?_toArray, List.getElem?_cons_succ, List.getElem?_cons_zero]; exact rfl
          · rfl
          · intro w hSw; (try dsimp only at hSw); go_simp; try with_reducible rfl
          try simp only [Act.put]
          try simp only [List.setIfInBounds_toArray, List.set_cons_zero, List.set_cons_succ]
          refine reg_take 18 ?_ ?_ ?_ (by kernel_rfl) (by kernel_rfl) (by kernel_rfl) (fun _ _ _ h => h) ?_ ?_ (by assumption) ?_
          rotate_left 2
          · simp only [List.getElem?_toArray, List.getElem?_cons_succ, List.getElem?_cons_zero]; exact rfl
          · rfl
          · intro w hSw; (try dsimp only at hSw); go_simp; try with_reducible rfl
          try simp only [Act.put]
          try simp only [List.setIfInBounds_toArray, List.set_cons_zero, List.set_cons_succ]
          refine reg_take 19 ?_ ?_ ?_ (by kernel_rfl) (by kernel_rfl) (by kernel_rfl) (fun _ _ _ h => h) ?_ ?_ (by assumption) ?_
          rotate_left 2
          · simp only [List.getElem?_toArray, List.getElem?_cons_succ, List.getElem?_cons_zero]; exact rfl
          · rfl
          · intro w hSw; (try dsimp only at hSw); go_simp; try with_reducible rfl
          try simp only [Act.put]
          try simp only [List.setIfInBounds_toArray, List.set_cons_zero, List.set_cons_succ]
          refine reg_take 20 ?_ ?_ ?_ (by kernel_rfl) (by kernel_rfl) (by kernel_rfl) (fun _ _ _ h => h) ?_ ?_ (by assumption) ?_
          rotate_left 2
          · simp only [List.getElem?_toArray, List.getElem?_cons_succ, List.getElem?_cons_zero]; exact rfl
          · rfl
          · intro w hSw; (try dsimp only at hSw); go_simp; try with_reducible rfl
          try simp only [Act.put]
          try simp only [List.setIfInBounds_toArray, List.set_cons_zero, List.set_cons_succ]
          refine reg_take 21 ?_ ?_ ?_ (by kernel_rfl) (by kernel_rfl) (by kernel_rfl) (fun _ _ _ h => h) ?_ ?_ (by assumption) ?_
          rotate_left 2
          · simp only [List.getElem?_toArray, List.getElem?_cons_succ, List.getElem?_cons_zero]; exact rfl
          · rfl
          · intro w hSw; (try dsimp only at hSw); go_simp; try with_reducible rfl
          try simp only [Act.put]
          try simp only [List.setIfInBounds_toArray, List.set_cons_zero, List.set_cons_succ]
          refine reg_take 22 ?_ ?_ ?_ (by kernel_rfl) (by kernel_rfl) (by kernel_rfl) (fun _ _ _ h => h) ?_ ?_ (by assumption) ?_
          rotate_left 2
          · simp only [List.getElem?_toArray, List.getElem?_cons_succ, List.getElem?_cons_zero]; exact rfl
          · rfl
          · intro w hSw; (try dsimp only at hSw); go_simp; try with_reducible rfl
          try simp only [Act.put]
          try simp only [List.setIfInBounds_toArray, List.set_cons_zero, List.set_cons_succ]
          refine reg_take 23 ?_ ?_ ?_ (by kernel_rfl) (by kernel_rfl) (by kernel_rfl) (fun _ _ _ h => h) ?_ ?_ (by assumption) ?_
          rotate_left 2
          · simp only [List.getElem?_toArray, List.getElem?_cons_succ, List.getElem?_cons_zero]; exact rfl
          · rfl
          · intro w hSw; (try dsimp only at hSw); go_simp; try with_reducible rfl
          try simp only [Act.put]
          try simp only [List.setIfInBounds_toArray, List.set_cons_zero, List.set_cons_succ]
          refine reg_take 24 ?_ ?_ ?_ (by kernel_rfl) (by kernel_rfl) (by kernel_rfl) (fun _ _ _ h => h) ?_ ?_ (by assumption) ?_
          rotate_left 2
          · simp only [List.getElem?_toArray, List.getElem?_cons_succ, List.getElem?_cons_zero]; exact rfl
          · rfl
          · intro w hSw; (try dsimp only at hSw); go_simp; try with_reducible rfl
          try simp only [Act.put]
          try simp only [List.setIfInBounds_toArray, List.set_cons_zero, List.set_cons_succ]
          refine reg_take 25 ?_ ?_ ?_ (by kernel_rfl) (by kernel_rfl) (by kernel_rfl) (fun _ _ _ h => h) ?_ ?_ (by assumption) ?_
          rotate_left 2
          · simp only [List.getElem?_toArray, List.getElem?_cons_succ, List.getElem?_cons_zero]; exact rfl
          · rfl
          · intro w hSw; (try dsimp only at hSw); go_simp; try with_reducible rfl
          try simp only [Act.put]
          try simp only [List.setIfInBounds_toArray, List.set_cons_zero, List.set_cons_succ]
          refine reg_take 26 ?_ ?_ ?_ (by kernel_rfl) (by kernel_rfl) (by kernel_rfl) (fun _ _ _ h => h) ?_ ?_ (by assumption) ?_
          rotate_left 2
          · simp only [List.getElem?_toArray, List.getElem?_cons_succ, List.getElem?_cons_zero]; exact rfl
          · rfl
          · intro w hSw; (try dsimp only at hSw); go_simp; try with_reducible rfl
          try simp only [Act.put]
          try simp only [List.setIfInBounds_toArray, List.set_cons_zero, List.set_cons_succ]
          refine reg_take 27 ?_ ?_ ?_ (by kernel_rfl) (by kernel_rfl) (by kernel_rfl) (fun _ _ _ h => h) ?_ ?_ (by assumption) ?_
          rotate_left 2
          · simp only [List.getElem?_toArray, List.getElem?_cons_succ, List.getElem?_cons_zero]; exact rfl
          · rfl
          · intro w hSw; (try dsimp only at hSw); go_simp; try with_reducible rfl
          try simp only [Act.put]
          try simp only [List.setIfInBounds_toArray, List.set_cons_zero, List.set_cons_succ]
          refine reg_take 28 ?_ ?_ ?_ (by kernel_rfl) (by kernel_rfl) (by kernel_rfl) (fun _ _ _ h => h) ?_ ?_ (by assumption) ?_
          rotate_left 2
          · simp only [List.getElem?_toArray, List.getElem?_cons_succ, List.getElem?_cons_zero]; exact rfl
          · rfl
          · intro w hSw; (try dsimp only at hSw); go_simp; try with_reducible rfl
          try simp only [Act.put]
          try simp only [List.setIfInBounds_toArray, List.set_cons_zero, List.set_cons_succ]
          refine reg_take 29 ?_ ?_ ?_ (by kernel_rfl) (by kernel_rfl) (by kernel_rfl) (fun _ _ _ h => h) ?_ ?_ (by assumption) ?_
          rotate_left 2
          · simp only [List.getElem?_toArray, List.getElem?_cons_succ, List.getElem?_cons_zero]; exact rfl
          · rfl
          · intro w hSw; (try dsimp only at hSw); go_simp; try with_reducible rfl
          try simp only [Act.put]
          try simp only [List.setIfInBounds_toArray, List.set_cons_zero, List.set_cons_succ]
          refine reg_take 30 ?_ ?_ ?_ (by kernel_rfl) (by kernel_rfl) (by kernel_rfl) (fun _ _ _ h => h) ?_ ?_ (by assumption) ?_
          rotate_left 2
          · simp only [List.getElem?_toArray, List.getElem?_cons_succ, List.getElem?_cons_zero]; exact rfl
          · rfl
          · intro w hSw; (try dsimp only at hSw); go_simp; try with_reducible rfl
          try simp only [Act.put]
          try simp only [List.setIfInBounds_toArray, List.set_cons_zero, List.set_cons_succ]
          refine reg_take 31 ?_ ?_ ?_ (by kernel_rfl) (by kernel_rfl) (by kernel_rfl) (fun _ _ _ h => h) ?_ ?_ (by assumption) ?_
          rotate_left 2
          · simp only [List.getElem?_toArray, List.getElem?_cons_succ, List.getElem?_cons_zero]; exact rfl
          · rfl
          · intro w hSw; (try dsimp only at hSw); go_simp; try with_reducible rfl
          try simp only [Act.put]
          try simp only [List.setIfInBounds_toArray, List.set_cons_zero, List.set_cons_succ]
          refine reg_take 32 ?_ ?_ ?_ (by kernel_rfl) (by kernel_rfl) (by kernel_rfl) (fun _ _ _ h => h) ?_ ?_ (by assumption) ?_
          rotate_left 2
          · simp only [List.getElem?_toArray, List.getElem?_cons_succ, List.getElem?_cons_zero]; exact rfl
          · rfl
          · intro w hSw; (try dsimp only at hSw); go_simp; try with_reducible rfl
          try simp only [Act.put]
          try simp only [List.setIfInBounds_toArray, List.set_cons_zero, List.set_cons_succ]
          refine reg_take 33 ?_ ?_ ?_ (by kernel_rfl) (by kernel_rfl) (by kernel_rfl) (fun _ _ _ h => h) ?_ ?_ (by assumption) ?_
          rotate_left 2
          · simp only [List.getElem?_toArray, List.getElem?_cons_succ, List.getElem?_cons_zero]; exact rfl
          · rfl
          · intro w hSw; (try dsimp only at hSw); go_simp; try with_reducible rfl
          try simp only [Act.put]
          try simp only [List.setIfInBounds_toArray, List.set_cons_zero, List.set_cons_succ]
          refine reg_take 34 ?_ ?_ ?_ (by kernel_rfl) (by kernel_rfl) (by kernel_rfl) (fun _ _ _ h => h) ?_ ?_ (by assumption) ?_
          rotate_left 2
          · simp only [List.getElem?_toArray, List.getElem?_cons_succ, List.getElem?_cons_zero]; exact rfl
          · rfl
          · intro w hSw; (try dsimp only at hSw); go_simp; try with_reducible rfl
          try simp only [Act.put]
          try simp only [List.setIfInBounds_toArray, List.set_cons_zero, List.set_cons_succ]
          refine reg_take 38 ?_ ?_ ?_ (by kernel_rfl) (by kernel_rfl) (by kernel_rfl) (fun _ _ _ h => h) ?_ ?_ (by assumption) ?_
          rotate_left 2
          · simp only [List.getElem?_toArray, List.getElem?_cons_succ, List.getElem?_cons_zero]; exact rfl
          · rfl
          · intro w hSw; (try dsimp only at hSw); go_simp; try with_reducible rfl
          try simp only [Act.put]
          try simp only [List.setIfInBounds_toArray, List.set_cons_zero, List.set_cons_succ]
          refine reg_take 39 ?_ ?_ ?_ (by kernel_rfl) (by kernel_rfl) (by kernel_rfl) (fun _ _ _ h => h) ?_ ?_ (by assumption) ?_
          rotate_left 2
          · simp only [List.getElem?_toArray, List.getElem?_cons_succ, List.getElem?_cons_zero]; exact rfl
          · rfl
          · intro w hSw; (try dsimp only at hSw); go_simp; try with_reducible rfl
          try simp only [Act.put]
          try simp only [List.setIfInBounds_toArray, List.set_cons_zero, List.set_cons_succ]
          refine reg_take 42 ?_ ?_ ?_ (by kernel_rfl) (by kernel_rfl) (by kernel_rfl) (fun _ _ _ h => h) ?_ ?_ (by assumption) ?_
          rotate_left 2
          · simp only [List.getElem?_toArray, List.getElem?_cons_succ, List.getElem?_cons_zero]; exact rfl
          · rfl
          · intro w hSw; (try dsimp only at hSw); go_simp; try with_reducible rfl
          try simp only [Act.put]
          try simp only [List.setIfInBounds_toArray, List.set_cons_zero, List.set_cons_succ]
          refine reg_call 35 ?_ (by kernel_rfl) ?_ (fun K hK => ?_)
          rotate_left 1
          · simp only [List.getElem?_toArray, List.getElem?_cons_succ, List.getElem?_cons_zero]; exact rfl
          go_simp
          refine (HHA.out _).mono ?_
          rintro e v1 ⟨rfl, hbv⟩
          have hf1 := hf0.trans (hbv.mono hf0.size)
          clear hbv
          go_wp2_with fail
          refine hK.out _ _ (CF.out _ hf1) (fun hHeld => ?_)
          clear hK K
          try simp only [Act.put]
          try simp only [List.setIfInBounds_toArray, List.set_cons_zero, List.set_cons_succ]
          refine reg_take 36 ?_ ?_ ?_ (by kernel_rfl) (by kernel_rfl) (by kernel_rfl) (fun _ _ _ h => h) ?_ ?_ (by assumption) ?_
          rotate_left 2
          · simp only [List.getElem?_toArray, List.getElem?_cons_succ, List.getElem?_cons_zero]; exact rfl
          · rfl
          · intro w hSw; (try dsimp only at hSw); go_simp; try with_reducible rfl
          try simp only [Act.put]
          try simp only [List.setIfInBounds_toArray, List.set_cons_zero, List.set_cons_succ]
          refine reg_take 37 ?_ ?_ ?_ (by kernel_rfl) (by kernel_rfl) (by kernel_rfl) (fun _ _ _ h => h) ?_ ?_ (by assumption) ?_
          rotate_left 2
          · simp only [List.getElem?_toArray, List.getElem?_cons_succ, List.getElem?_cons_zero]; exact rfl
          · rfl
          · intro w hSw; (try dsimp only at hSw); go_simp; try with_reducible rfl
          try simp only [Act.put]
          try simp only [List.setIfInBounds_toArray, List.set_cons_zero, List.set_cons_succ]
          refine reg_take 40 ?_ ?_ ?_ (by kernel_rfl) (by kernel_rfl) (by kernel_rfl) (fun _ _ _ h => h) ?_ ?_ (by assumption) ?_
          rotate_left 2
          · simp only [List.getElem?_toArray, List.getElem?_cons_succ, List.getElem?_cons_zero]; exact rfl
          · rfl
          · intro w hSw; (try dsimp only at hSw); go_simp; try with_reducible rfl
          try simp only [Act.put]
          try simp only [List.setIfInBounds_toArray, List.set_cons_zero, List.set_cons_succ]
          refine reg_take 41 ?_ ?_ ?_ (by kernel_rfl) (by kernel_rfl) (by kernel_rfl) (fun _ _ _ h => h) ?_ ?_ (by assumption) ?_
          rotate_left 2
          · simp only [List.getElem?_toArray, List.getElem?_cons_succ, List.getElem?_cons_zero]; exact rfl
          · rfl
          · intro w hSw; (try dsimp only at hSw); go_simp; try with_reducible rfl
          try simp only [Act.put]
          try simp only [List.setIfInBounds_toArray, List.set_cons_zero, List.set_cons_succ]
          refine reg_take 43 ?_ ?_ ?_ (by kernel_rfl) (by kernel_rfl) (by kernel_rfl) (fun _ _ _ h => h) ?_ ?_ (by assumption) ?_
          rotate_left 2
          · simp only [List.getElem?_toArray, List.getElem?_cons_succ, List.getElem?_cons_zero]; exact rfl
          · rfl
          · intro w hSw; (try dsimp only at hSw); go_simp; try with_reducible rfl
          try simp only [Act.put]
          try simp only [List.setIfInBounds_toArray, List.set_cons_zero, List.set_cons_succ]
          refine reg_take 44 ?_ ?_ ?_ (by kernel_rfl) (by kernel_rfl) (by kernel_rfl) (fun _ _ _ h => h) ?_ ?_ (by assumption) ?_
          rotate_left 2
          · simp only [List.getElem?_toArray, List.getElem?_cons_succ, List.getElem?_cons_zero]; exact rfl
          · rfl
          · intro w hSw; (try dsimp only at hSw); go_simp; try with_reducible rfl
          try simp only [Act.put]
          try simp only [List.setIfInBounds_toArray, List.set_cons_zero, List.set_cons_succ]
          refine reg_take 45 ?_ ?_ ?_ (by kernel_rfl) (by kernel_rfl) (by kernel_rfl) (fun _ _ _ h => h) ?_ ?_ (by assumption) ?_
          rotate_left 2
          · simp only [List.getElem?_toArray, List.getElem?_cons_succ, List.getElem?_cons_zero]; exact rfl
          · rfl
          · intro w hSw; (try dsimp only at hSw); go_simp; try with_reducible rfl
          try simp only [Act.put]
          try simp only [List.setIfInBounds_toArray, List.set_cons_zero, List.set_cons_succ]
          refine wpAnyH_done (by kernel_rfl) ?_ _
          refine OnlyN.normal ?_
          obtain ⟨W2, hW2⟩ : ∃ x, v1 = x := ⟨_, rfl⟩
          rw [hW2] at hf1 ⊢
          have bf2 : Boxed W2 fb 3 (.int .i64 (f' : Int)) := (hf1.block fb (by omega)).trans HBF.out
          have f0_ := bf2.cell
          have bl2 : Boxed W2 lb 3 (.int .i64 (y : Int)) := (hf1.block lb (by omega)).trans HBL.out
          have mp2 : MapB Try.prog 3 W2 mpb ((seenP pq).map encG) := HMP.out.below hf1
          have hk2 : KeepB Pb W W2 := KeepB.of_below hf1 (fun b hb => by have := hltW b hb; omega)
          have hkf2 : KeepsFrom w13.heap.size W W2 := (keepsOthers_below9 hf1).from _
          have hbw2 : Below wq.heap.size wq W2 := HBWW.out.trans (hf1.mono HBWW.out.size)
          have hp2 : W2.cell? ⟨mpx, 0, none⟩ = some (.map (some mpb)) := (hk2.cell hPx).trans HCP.out
          obtain ⟨W3, hrun3, htu3, mp3⟩ := set_store mp2 (t := t) (by omega) HIN.out
          rw [← seenP_app (x := (t, k)) HIN.out] at mp3
          have bl3 : Boxed W3 lb 3 (.int .i64 (y : Int)) := (htu3.block lb (by omega)).trans bl2
          have bf3 : Boxed W3 fb 3 (.int .i64 (f' : Int)) := (htu3.block fb (by omega)).trans bf2
          have l0_ := bl3.cell; have l1_ := bl3.frozen
          obtain ⟨W4, hW4⟩ : ∃ x, W3.setCell ⟨lb, 0, none⟩ (.int .i64 (t : Int)) = x := ⟨_, rfl⟩
          have bl4 : Boxed W4 lb 3 (.int .i64 (t : Int)) := by rw [← hW4]; exact bl3.set _
          have bf4 : Boxed W4 fb 3 (.int .i64 (f' : Int)) := by rw [← hW4]; exact bf3.other (by omega) _
          have mp4 := mp3.block (w' := W4) (by rw [← hW4]; exact heap_set_far _ _ _ _ _ (by omega))
          have hk4 : KeepB Pb W W4 := by rw [← hW4]; exact keepB_set9 (fun b hb => (htu3.block b (fun e => hnm (by rw [← e]; exact hb))).trans (hk2 b hb)) hnl _
          have hkf4 : KeepsFrom w13.heap.size W W4 := by rw [← hW4]; exact (hkf2.trans (KeepsFrom.turned htu3 (by omega))).trans ((KeepsOthers.setCell _ _ _).from _)
          have hbw4 : Below wq.heap.size wq W4 := by rw [← hW4]; exact (hbw2.trans (htu3.below (by omega))).setCell (p := ⟨lb, 0, none⟩) (by simp only []; omega) _
          have HEND := Lib.hid (And.intro hkf4 (And.intro hk4 (And.intro bl4 (And.intro bf4 (And.intro mp4 hbw4)))))
          clear hkf4 hk4 bl4 bf4 mp4 hbw4 mp3 bl3 bf3 htu3 bf2 bl2 mp2 hk2 hkf2 hbw2
          gi_wp2
          refine ⟨HEND.out.1, HEND.out.2.1, HKB.out.trans HEND.out.2.1, ?_, ?_, ?_, HEND.out.2.2.2.2.2⟩
          · rw [HPX.out _ (by rfl), lastZ_app]; exact HEND.out.2.2.1
          · rw [HPX.out _ (by rfl), firstZ_app, HFI.out]; first | exact HEND.out.2.2.2.1 | (rw [if_neg (by omega)]; exact HEND.out.2.2.2.1) | (rw [if_pos (by omega)]; exact HEND.out.2.2.2.1)
          · rw [HPX.out _ (by rfl)]; exact HEND.out.2.2.2.2.1
    case done =>
      as_aux_lemma =>
        rintro D xs W hD hS ⟨hKB, -, hbf, hmp, hBW⟩ hK
        obtain ⟨t0, ht0, htl0, hstar⟩ := grid_star HGI.out.built HGI.out.hW HGI.out.hH HGI.out.hb (v := v) (by rw [← HNL.out]; exact hlt)
        have hall : ∀ (q : Nat) (X : TriM), S[q]? = some X → (q ∈ seenP (xs.map (·.1)) ↔ placeT X (v : Int) ≠ -1) := by
          intro q X hX
          rw [seenP_mem, hS]
          constructor
          · intro h
            obtain ⟨z, hz, e⟩ := List.mem_map.1 h
            obtain ⟨X', h1, h2, h3⟩ := hstar.at_ z hz
            rw [e, hX] at h1
            cases h1
            have := (HGI.out.built.surf.place hX h2).1
            rw [h3] at this
            omega
          · intro h
            rcases placeT_cases X (v : Int) with h1 | h1 | h1 | h1
            · exact absurd h1 h
            all_goals
              have hvv : ∃ k, k < 3 ∧ X.v k = (v : Int) := by
                unfold placeT at h1
                split at h1
                · rename_i e; exact ⟨0, by omega, e.symm⟩
                split at h1
                · rename_i e; exact ⟨1, by omega, e.symm⟩
                split at h1
                · rename_i e; exact ⟨2, by omega, e.symm⟩
                · omega
              obtain ⟨k, hk, hv'⟩ := hvv
              exact List.mem_map.2 ⟨(q, k), hstar.all q k X hX hk hv', rfl⟩
        have hfz : firstZ (xs.map (·.1)) = (t0 : Int) := by
          obtain ⟨X, hX⟩ : ∃ X, S[t0]? = some X := ⟨_, List.getElem?_eq_getElem htl0⟩
          cases hys : xs.map (·.1) with
          | cons y r =>
            have h0 : (walkM S (v : Int) (atM S (v : Int)) S.length (atM S (v : Int)))[0]? = some y := by rw [← hS, hys]; rfl
            have := walk_head h0
            show (y.1 : Int) = _
            rw [this]; exact ht0
          | nil =>
            exfalso
            rw [hys] at hS
            have hno := hstar.all
            rw [← hS] at hno
            have hpl : placeM S (atM S (v : Int)) (v : Int) = -1 := by
              cases hl : S.length with
              | zero => omega
              | succ n =>
                rw [hl] at hS
                unfold walkM at hS
                by_cases hp : placeM S (atM S (v : Int)) (v : Int) = -1
                · exact hp
                · rw [if_neg hp] at hS; cases hS
            have h2 : firstM S (v : Int) = (t0 : Int) := by
              have := ht0
              unfold atM at this
              rw [if_neg (by omega)] at this; exact this
            rw [ht0] at hpl
            unfold firstM at h2
            cases hf : (List.range S.length).find? (fun t : Nat => placeM S (t : Int) (v : Int) != -1) with
            | none => rw [hf] at h2; simp only [] at h2; omega
            | some z =>
              rw [hf] at h2
              simp only [] at h2
              have := List.find?_some hf
              have hz : z = t0 := by omega
              rw [hz, hpl] at this
              simp at this
        rw [hfz] at hbf
        obtain ⟨D0, hD0⟩ : ∃ D0, seenP (xs.map (·.1)) = D0 := ⟨_, rfl⟩
        rw [hD0] at hmp hall
        have hW13 : w13.heap.size ≤ W.heap.size := by
          have hx2 := (hKB (w12.heap.size + 1 + 1) hP2).trans x2
          have := (Array.getElem?_eq_some_iff.1 hx2).1
          omega
        have hDl : D < W.heap.size := (Array.getElem?_eq_some_iff.1 hK).1
        have HGW := Lib.hid (HGI.out.below (HBW.out.trans (hBW.mono HBW.out.size)))
        have HMPW := Lib.hid hmp; have HALL := Lib.hid hall; have HKD := Lib.hid hK; have HBWW := Lib.hid hBW
        have HFB := Lib.hid hbf
        have HVB := Lib.hid (show Boxed W vb 3 (.int .i64 (v : Int)) from (hKB vb hPv).trans bv13)
        have HXB := Lib.hid (show Boxed W mpx 52 (.map (some mpb)) from (hKB mpx hPx).trans bm13)
        have HMB := Lib.hid (show ∀ w', Below W.heap.size W w' → w'.cell? ⟨mbx, 0, none⟩ = some (.pointer (some ⟨mb, 0, none⟩)) from fun w' hb => ((PM5.out.below (HBW.out.trans (HBWW.out.mono HBW.out.size))).below hb).c0)
        have CH := Lib.hid (show ∀ w', Below W.heap.size W w' → w'.cell? ⟨fb, 0, none⟩ = some (.int .i64 (t0 : Int)) ∧ w'.cell? ⟨mbx, 0, none⟩ = some (.pointer (some ⟨mb, 0, none⟩)) ∧ w'.cell? ⟨vb, 0, none⟩ = some (.int .i64 (v : Int)) from fun w' hb =>
          ⟨(hb.cell (World.block_lt_of_cell? _ _ HFB.out.cell)).trans HFB.out.cell, HMB.out w' hb, (hb.cell (World.block_lt_of_cell? _ _ HVB.out.cell)).trans HVB.out.cell⟩)
        have HAT := Lib.hid (show ∀ w', Below W.heap.size W w' → Calls Try.prog 15 #[.pointer (some ⟨mb, 0, none⟩), .int .i64 (v : Int)] w' fun e w'' => e = .returned (.int .i64 (t0 : Int)) ∧ w' = w'' from fun w' hb => by
          have h := At_any (v : Int) w' (HGW.out.read.below hb)
          rw [ht0] at h; exact h)
        rw [ha0]
        clear hKB hbf hmp hBW hK hS hall hfz hD0 hstar ht0
        gi_wp2
        go_wp2
        refine wp_region_noPanic ?_
        refine wp_region_held_drew (S := fun w' => w'.cell? ⟨fb, 0, none⟩ = some (.int .i64 (t0 : Int)) ∧ w'.cell? ⟨mbx, 0, none⟩ = some (.pointer (some ⟨mb, 0, none⟩)) ∧ w'.cell? ⟨vb, 0, none⟩ = some (.int .i64 (v : Int))) (by kernel_rfl) (CH.out _ (Below.refl _ _).drew') (fun hHeld => ?_)
        refine reg_take 0 ?_ ?_ ?_ (by kernel_rfl) (by kernel_rfl) (by kernel_rfl) (fun _ _ _ h => h) ?_ ?_ (by assumption) ?_
        rotate_left 2
        · simp only [List.getElem?_toArray, List.getElem?_cons_zero]; exact rfl
        · rfl
        · intro w hSw; (try dsimp only at hSw); go_simp; try with_reducible rfl
        try simp only [Act.put]
        try simp only [List.setIfInBounds_toArray, List.set_cons_zero, List.set_cons_succ]
        refine reg_take 1 ?_ ?_ ?_ (by kernel_rfl) (by kernel_rfl) (by kernel_rfl) (fun _ _ _ h => h) ?_ ?_ (by assumption) ?_
        rotate_left 2
        · simp only [List.getElem?_toArray, List.getElem?_cons_succ, List.getElem?_cons_zero]; exact rfl
        · rfl
        · intro w hSw; (try dsimp only at hSw); go_simp; try with_reducible rfl
        try simp only [Act.put]
        try simp only [List.setIfInBounds_toArray, List.set_cons_zero, List.set_cons_succ]
        refine reg_take 2 ?_ ?_ ?_ (by kernel_rfl) (by kernel_rfl) (by kernel_rfl) (fun _ _ _ h => h) ?_ ?_ (by assumption) ?_
        rotate_left 2
        · simp only [List.getElem?_toArray, List.getElem?_cons_succ, List.getElem?_cons_zero]; exact rfl
        · rfl
        · intro w hSw; (try dsimp only at hSw); go_simp; try with_reducible rfl
        try simp only [Act.put]
        try simp only [List.setIfInBounds_toArray, List.set_cons_zero, List.set_cons_succ]
        refine reg_call 3 ?_ (by kernel_rfl) ?_ (fun K hK => ?_)
        rotate_left 1
        · simp only [List.getElem?_toArray, List.getElem?_cons_succ, List.getElem?_cons_zero]; exact rfl
        go_simp
        refine (HAT.out _ (Below.refl _ _).drew').mono ?_
        rintro e wz ⟨rfl, rfl⟩
        go_wp2_with fail
        refine hK.out _ _ (CH.out _ (Below.refl _ _).drew') (fun hHeld => ?_)
        clear hK K
        try simp only [Act.put]
        try simp only [List.setIfInBounds_toArray, List.set_cons_zero, List.set_cons_succ]
        refine reg_take 4 ?_ ?_ ?_ (by kernel_rfl) (by kernel_rfl) (by kernel_rfl) (fun _ _ _ h => h) ?_ ?_ (by assumption) ?_
        rotate_left 2
        · simp only [List.getElem?_toArray, List.getElem?_cons_succ, List.getElem?_cons_zero]; exact rfl
        · rfl
        · intro w hSw; (try dsimp only at hSw); go_simp; try with_reducible rfl
        try simp only [Act.put]
        try simp only [List.setIfInBounds_toArray, List.set_cons_zero, List.set_cons_succ]
        refine wpAnyH_done (by kernel_rfl) ?_ _
        refine NoPanic.normal ?_
        obtain ⟨W1, hW1⟩ : ∃ x, W.drew = x := ⟨_, rfl⟩
        have hbd : Below W.heap.size W W1 := by rw [← hW1]; exact (Below.refl _ _).drew'
        rw [hW1]
        clear hW1
        have b1_ := (HGW.out.read.below hbd).box.c1
        rw [HSL.out] at b1_
        have m0_ := HMB.out _ hbd
        have HBD := Lib.hid hbd
        clear hbd
        go_wp2
        clear b1_ m0_
        go_loopw [13, 14, 104] (fun _ _ iv wr => ∃ q : Nat, q ≤ SL ∧ iv = .int .i64 (q : Int) ∧ Below W.heap.size W wr) (fun _ _ iv _ => SL - (intOf iv).toNat)
        case atStart => exact ⟨0, Nat.zero_le _, rfl, HBD.out⟩
        case round =>
          obtain ⟨q, hq, rfl, hbr⟩ := hrel
          by_cases hql : q < SL
          · have hye : decide ((q : Int) < (SL : Int)) = true := decide_eq_true (by omega)
            obtain ⟨X, hX⟩ : ∃ X, S[q]? = some X := ⟨_, List.getElem?_eq_getElem (by rw [HSL.out]; exact hql)⟩
            obtain ⟨tb', htb, -, h9⟩ := (HGW.out.read.below hbr).tris.get hX
            simp only [Option.some.injEq, Addr.mk.injEq, and_true] at htb
            subst htb
            have hsq := HALL.out q X hX
            have HHA := Lib.hid (fun W' => has_any X (v : Int) W')
            obtain ⟨pz, hpz⟩ : ∃ z, placeT X (v : Int) = z := ⟨_, rfl⟩
            have hpc : pz = -1 ∨ 0 ≤ pz := by rcases placeT_cases X (v : Int) with h | h | h | h <;> omega
            rw [hpz] at HHA hsq
            obtain ⟨l0, l1, l2, n0, n1, n2, f0, f1, f2⟩ := X
            obtain ⟨d0, d1, d2, d3, d4, d5, d6, d7, d8⟩ := h9
            simp only [] at d0 d1 d2 d3 d4 d5 d6 d7 d8
            unfold triV at HHA
            simp only [] at HHA
            obtain ⟨xb, hxb⟩ : ∃ x, wr.heap.size = x := ⟨_, rfl⟩
            obtain ⟨w8', hw8', px8, hbx8, hsx8⟩ := new_box wr _ rfl [.int .i64 l0, .int .i64 l1, .int .i64 l2, .int .i64 n0, .int .i64 n1, .int .i64 n2, .bool f0, .bool f1, .bool f2] 49
            rw [hxb] at px8
            have hb8 : Below W.heap.size W w8' := hbr.trans (hbx8.mono hbr.size)
            have i1 : (0 : Int) ≤ (q : Int) := by omega
            have i2 : (q : Int) < (SL : Int) := by omega
            have HPX8 := Lib.hid px8; have HB8 := Lib.hid hb8
            clear hX hbx8 hsx8 px8 hb8 hbr
            rcases hpc with hp1 | hp1
            · have hnot : q ∉ D0 := fun h => (hsq.1 h) hp1
              have CI := Lib.hid (show ∀ w', Below w8'.heap.size w8' w' → (Instr.lookup 52 (.map (some mpb)) (.int .i64 (q : Int)) false).run Try.prog w' = .ok (.int .i64 0) w' ∧ w'.cell? ⟨mpx, 0, none⟩ = some (.map (some mpb)) ∧ w'.cell? ⟨vb, 0, none⟩ = some (.int .i64 (v : Int)) ∧ w'.cell? ⟨xb, 0, none⟩ = some (.int .i64 l0) ∧ w'.cell? ⟨xb, 1, none⟩ = some (.int .i64 l1) ∧ w'.cell? ⟨xb, 2, none⟩ = some (.int .i64 l2) ∧ w'.cell? ⟨xb, 3, none⟩ = some (.int .i64 n0) ∧ w'.cell? ⟨xb, 4, none⟩ = some (.int .i64 n1) ∧ w'.cell? ⟨xb, 5, none⟩ = some (.int .i64 n2) ∧ w'.cell? ⟨xb, 6, none⟩ = some (.bool f0) ∧ w'.cell? ⟨xb, 7, none⟩ = some (.bool f1) ∧ w'.cell? ⟨xb, 8, none⟩ = some (.bool f2) from fun w' hb => by
                have hbb := HB8.out.trans (hb.mono HB8.out.size)
                have hl := set_look (HMPW.out.below hbb) (t := q) (by omega)
                rw [if_neg hnot] at hl
                have pw := HPX8.out.below hb
                exact ⟨hl, (hbb.cell (World.block_lt_of_cell? _ _ HXB.out.cell)).trans HXB.out.cell, (hbb.cell (World.block_lt_of_cell? _ _ HVB.out.cell)).trans HVB.out.cell, pw.c 0 _ rfl, pw.c 1 _ rfl, pw.c 2 _ rfl, pw.c 3 _ rfl, pw.c 4 _ rfl, pw.c 5 _ rfl, pw.c 6 _ rfl, pw.c 7 _ rfl, pw.c 8 _ rfl⟩)
              subst hp1
              clear hsq hnot
              go_wp2
              refine wp_region_noPanic ?_
              refine wp_region_held_drew (S := fun w' => (Instr.lookup 52 (.map (some mpb)) (.int .i64 (q : Int)) false).run Try.prog w' = .ok (.int .i64 0) w' ∧ w'.cell? ⟨mpx, 0, none⟩ = some (.map (some mpb)) ∧ w'.cell? ⟨vb, 0, none⟩ = some (.int .i64 (v : Int)) ∧ w'.cell? ⟨xb, 0, none⟩ = some (.int .i64 l0) ∧ w'.cell? ⟨xb, 1, none⟩ = some (.int .i64 l1) ∧ w'.cell? ⟨xb, 2, none⟩ = some (.int .i64 l2) ∧ w'.cell? ⟨xb, 3, none⟩ = some (.int .i64 n0) ∧ w'.cell? ⟨xb, 4, none⟩ = some (.int .i64 n1) ∧ w'.cell? ⟨xb, 5, none⟩ = some (.int .i64 n2) ∧ w'.cell? ⟨xb, 6, none⟩ = some (.bool f0) ∧ w'.cell? ⟨xb, 7, none⟩ = some (.bool f1) ∧ w'.cell? ⟨xb, 8, none⟩ = some (.bool f2)) (by kernel_rfl) (CI.out _ (Below.refl _ _).drew') (fun hHeld => ?_)
              refine reg_take 0 ?_ ?_ ?_ (by kernel_rfl) (by kernel_rfl) (by kernel_rfl) (fun _ _ _ h => h) ?_ ?_ (by assumption) ?_
              rotate_left 2
              · simp only [List.getElem?_toArray, List.getElem?_cons_zero]; exact rfl
              · rfl
              · intro w hSw; (try dsimp only at hSw); go_simp; try with_reducible rfl
              try simp only [Act.put]
              try simp only [List.setIfInBounds_toArray, List.set_cons_zero, List.set_cons_succ]
              refine reg_take 1 ?_ ?_ ?_ (by kernel_rfl) (by kernel_rfl) (by kernel_rfl) (fun _ _ _ h => h) ?_ ?_ (by assumption) ?_
              rotate_left 2
              · simp only [List.getElem?_toArray, List.getElem?_cons_succ, List.getElem?_cons_zero]; exact rfl
              · rfl
              · intro w hSw; (try dsimp only at hSw); go_simp; try with_reducible rfl
              try simp only [Act.put]
              try simp only [List.setIfInBounds_toArray, List.set_cons_zero, List.set_cons_succ]
              refine reg_take 2 ?_ ?_ ?_ (by kernel_rfl) (by kernel_rfl) (by kernel_rfl) (fun _ _ _ h => h) ?_ ?_ (by assumption) ?_
              rotate_left 2
              · simp only [List.getElem?_toArray, List.getElem?_cons_succ, List.getElem?_cons_zero]; exact rfl
              · rfl
              · intro w hSw; (try dsimp only at hSw); go_simp; try with_reducible rfl
              try simp only [Act.put]
              try simp only [List.setIfInBounds_toArray, List.set_cons_zero, List.set_cons_succ]
              refine reg_take 3 ?_ ?_ ?_ (by kernel_rfl) (by kernel_rfl) (by kernel_rfl) (fun _ _ _ h => h) ?_ ?_ (by assumption) ?_
              rotate_left 2
              · simp only [List.getElem?_toArray, List.getElem?_cons_succ, List.getElem?_cons_zero]; exact rfl
              · rfl
              · intro w hSw; (try dsimp only at hSw); go_simp; try with_reducible rfl
              try simp only [Act.put]
              try simp only [List.setIfInBounds_toArray, List.set_cons_zero, List.set_cons_succ]
              refine reg_take 4 ?_ ?_ ?_ (by kernel_rfl) (by kernel_rfl) (by kernel_rfl) (fun _ _ _ h => h) ?_ ?_ (by assumption) ?_
              rotate_left 2
              · simp only [List.getElem?_toArray, List.getElem?_cons_succ, List.getElem?_cons_zero]; exact rfl
              · rfl
              · intro w hSw; (try dsimp only at hSw); go_simp; try with_reducible rfl
              try simp only [Act.put]
              try simp only [List.setIfInBounds_toArray, List.set_cons_zero, List.set_cons_succ]
              refine reg_take 5 ?_ ?_ ?_ (by kernel_rfl) (by kernel_rfl) (by kernel_rfl) (fun _ _ _ h => h) ?_ ?_ (by assumption) ?_
              rotate_left 2
              · simp only [List.getElem?_toArray, List.getElem?_cons_succ, List.getElem?_cons_zero]; exact rfl
              · rfl
              · intro w hSw; (try dsimp only at hSw); go_simp; try with_reducible rfl
              try simp only [Act.put]
              try simp only [List.setIfInBounds_toArray, List.set_cons_zero, List.set_cons_succ]
              refine reg_call 6 ?_ (by kernel_rfl) ?_ (fun K hK => ?_)
              rotate_left 1
              · simp only [List.getElem?_toArray, List.getElem?_cons_succ, List.getElem?_cons_zero]; exact rfl
              have hh := (Below.refl w8'.heap.size w8').drew'
              go_simp
              refine (HHA.out _).mono ?_
              rintro e wz ⟨rfl, hbz⟩
              have hh := hh.trans (hbz.mono hh.size)
              clear hbz
              go_wp2_with fail
              refine hK.out _ _ (CI.out _ hh) (fun hHeld => ?_)
              clear hK K
              try simp only [Act.put]
              try simp only [List.setIfInBounds_toArray, List.set_cons_zero, List.set_cons_succ]
              refine reg_take 7 ?_ ?_ ?_ (by kernel_rfl) (by kernel_rfl) (by kernel_rfl) (fun _ _ _ h => h) ?_ ?_ (by assumption) ?_
              rotate_left 2
              · simp only [List.getElem?_toArray, List.getElem?_cons_succ, List.getElem?_cons_zero]; exact rfl
              · rfl
              · intro w hSw; (try dsimp only at hSw); go_simp; try with_reducible rfl
              try simp only [Act.put]
              try simp only [List.setIfInBounds_toArray, List.set_cons_zero, List.set_cons_succ]
              refine reg_take 8 ?_ ?_ ?_ (by kernel_rfl) (by kernel_rfl) (by kernel_rfl) (fun _ _ _ h => h) ?_ ?_ (by assumption) ?_
              rotate_left 2
              · simp only [List.getElem?_toArray, List.getElem?_cons_succ, List.getElem?_cons_zero]; exact rfl
              · rfl
              · intro w hSw; (try dsimp only at hSw); go_simp; try with_reducible rfl
              try simp only [Act.put]
              try simp only [List.setIfInBounds_toArray, List.set_cons_zero, List.set_cons_succ]
              refine wpAnyH_done (by kernel_rfl) ?_ _
              refine NoPanic.normal ?_
              go_wp2
              exact ⟨⟨q + 1, by omega, by go_num, HB8.out.trans (hh.mono HB8.out.size)⟩, by simp [intOf]; omega⟩
            · have hyes : q ∈ D0 := hsq.2 (by omega)
              have CI := Lib.hid (show ∀ w', Below w8'.heap.size w8' w' → (Instr.lookup 52 (.map (some mpb)) (.int .i64 (q : Int)) false).run Try.prog w' = .ok (.int .i64 1) w' ∧ w'.cell? ⟨mpx, 0, none⟩ = some (.map (some mpb)) ∧ w'.cell? ⟨vb, 0, none⟩ = some (.int .i64 (v : Int)) ∧ w'.cell? ⟨xb, 0, none⟩ = some (.int .i64 l0) ∧ w'.cell? ⟨xb, 1, none⟩ = some (.int .i64 l1) ∧ w'.cell? ⟨xb, 2, none⟩ = some (.int .i64 l2) ∧ w'.cell? ⟨xb, 3, none⟩ = some (.int .i64 n0) ∧ w'.cell? ⟨xb, 4, none⟩ = some (.int .i64 n1) ∧ w'.cell? ⟨xb, 5, none⟩ = some (.int .i64 n2) ∧ w'.cell? ⟨xb, 6, none⟩ = some (.bool f0) ∧ w'.cell? ⟨xb, 7, none⟩ = some (.bool f1) ∧ w'.cell? ⟨xb, 8, none⟩ = some (.bool f2) from fun w' hb => by
                have hbb := HB8.out.trans (hb.mono HB8.out.size)
                have hl := set_look (HMPW.out.below hbb) (t := q) (by omega)
                rw [if_pos hyes] at hl
                have pw := HPX8.out.below hb
                exact ⟨hl, (hbb.cell (World.block_lt_of_cell? _ _ HXB.out.cell)).trans HXB.out.cell, (hbb.cell (World.block_lt_of_cell? _ _ HVB.out.cell)).trans HVB.out.cell, pw.c 0 _ rfl, pw.c 1 _ rfl, pw.c 2 _ rfl, pw.c 3 _ rfl, pw.c 4 _ rfl, pw.c 5 _ rfl, pw.c 6 _ rfl, pw.c 7 _ rfl, pw.c 8 _ rfl⟩)
              clear hsq hyes hpz
              have hp1' : (pz : Int) ≥ 0 := hp1
              go_wp2
              refine wp_region_noPanic ?_
              refine wp_region_held_drew (S := fun w' => (Instr.lookup 52 (.map (some mpb)) (.int .i64 (q : Int)) false).run Try.prog w' = .ok (.int .i64 1) w' ∧ w'.cell? ⟨mpx, 0, none⟩ = some (.map (some mpb)) ∧ w'.cell? ⟨vb, 0, none⟩ = some (.int .i64 (v : Int)) ∧ w'.cell? ⟨xb, 0, none⟩ = some (.int .i64 l0) ∧ w'.cell? ⟨xb, 1, none⟩ = some (.int .i64 l1) ∧ w'.cell? ⟨xb, 2, none⟩ = some (.int .i64 l2) ∧ w'.cell? ⟨xb, 3, none⟩ = some (.int .i64 n0) ∧ w'.cell? ⟨xb, 4, none⟩ = some (.int .i64 n1) ∧ w'.cell? ⟨xb, 5, none⟩ = some (.int .i64 n2) ∧ w'.cell? ⟨xb, 6, none⟩ = some (.bool f0) ∧ w'.cell? ⟨xb, 7, none⟩ = some (.bool f1) ∧ w'.cell? ⟨xb, 8, none⟩ = some (.bool f2)) (by kernel_rfl) (CI.out _ (Below.refl _ _).drew') (fun hHeld => ?_)
              refine reg_take 0 ?_ ?_ ?_ (by kernel_rfl) (by kernel_rfl) (by kernel_rfl) (fun _ _ _ h => h) ?_ ?_ (by assumption) ?_
              rotate_left 2
              · simp only [List.getElem?_toArray, List.getElem?_cons_zero]; exact rfl
              · rfl
              · intro w hSw; (try dsimp only at hSw); go_simp; try with_reducible rfl
              try simp only [Act.put]
              try simp only [List.setIfInBounds_toArray, List.set_cons_zero, List.set_cons_succ]
              refine reg_take 1 ?_ ?_ ?_ (by kernel_rfl) (by kernel_rfl) (by kernel_rfl) (fun _ _ _ h => h) ?_ ?_ (by assumption) ?_
              rotate_left 2
              · simp only [List.getElem?_toArray, List.getElem?_cons_succ, List.getElem?_cons_zero]; exact rfl
              · rfl
              · intro w hSw; (try dsimp only at hSw); go_simp; try with_reducible rfl
              try simp only [Act.put]
              try simp only [List.setIfInBounds_toArray, List.set_cons_zero, List.set_cons_succ]
              refine reg_take 2 ?_ ?_ ?_ (by kernel_rfl) (by kernel_rfl) (by kernel_rfl) (fun _ _ _ h => h) ?_ ?_ (by assumption) ?_
              rotate_left 2
              · simp only [List.getElem?_toArray, List.getElem?_cons_succ, List.getElem?_cons_zero]; exact rfl
              · rfl
              · intro w hSw; (try dsimp only at hSw); go_simp; try with_reducible rfl
              try simp only [Act.put]
              try simp only [List.setIfInBounds_toArray, List.set_cons_zero, List.set_cons_succ]
              refine reg_take 3 ?_ ?_ ?_ (by kernel_rfl) (by kernel_rfl) (by kernel_rfl) (fun _ _ _ h => h) ?_ ?_ (by assumption) ?_
              rotate_left 2
              · simp only [List.getElem?_toArray, List.getElem?_cons_succ, List.getElem?_cons_zero]; exact rfl
              · rfl
              · intro w hSw; (try dsimp only at hSw); go_simp; try with_reducible rfl
              try simp only [Act.put]
              try simp only [List.setIfInBounds_toArray, List.set_cons_zero, List.set_cons_succ]
              refine reg_take 4 ?_ ?_ ?_ (by kernel_rfl) (by kernel_rfl) (by kernel_rfl) (fun _ _ _ h => h) ?_ ?_ (by assumption) ?_
              rotate_left 2
              · simp only [List.getElem?_toArray, List.getElem?_cons_succ, List.getElem?_cons_zero]; exact rfl
              · rfl
              · intro w hSw; (try dsimp only at hSw); go_simp; try with_reducible rfl
              try simp only [Act.put]
              try simp only [List.setIfInBounds_toArray, List.set_cons_zero, List.set_cons_succ]
              refine reg_take 5 ?_ ?_ ?_ (by kernel_rfl) (by kernel_rfl) (by kernel_rfl) (fun _ _ _ h => h) ?_ ?_ (by assumption) ?_
              rotate_left 2
              · simp only [List.getElem?_toArray, List.getElem?_cons_succ, List.getElem?_cons_zero]; exact rfl
              · rfl
              · intro w hSw; (try dsimp only at hSw); go_simp; try with_reducible rfl
              try simp only [Act.put]
              try simp only [List.setIfInBounds_toArray, List.set_cons_zero, List.set_cons_succ]
              refine reg_call 6 ?_ (by kernel_rfl) ?_ (fun K hK => ?_)
              rotate_left 1
              · simp only [List.getElem?_toArray, List.getElem?_cons_succ, List.getElem?_cons_zero]; exact rfl
              have hh := (Below.refl w8'.heap.size w8').drew'
              go_simp
              refine (HHA.out _).mono ?_
              rintro e wz ⟨rfl, hbz⟩
              have hh := hh.trans (hbz.mono hh.size)
              clear hbz
              go_wp2_with fail
              refine hK.out _ _ (CI.out _ hh) (fun hHeld => ?_)
              clear hK K
              try simp only [Act.put]
              try simp only [List.setIfInBounds_toArray, List.set_cons_zero, List.set_cons_succ]
              refine reg_take 7 ?_ ?_ ?_ (by kernel_rfl) (by kernel_rfl) (by kernel_rfl) (fun _ _ _ h => h) ?_ ?_ (by assumption) ?_
              rotate_left 2
              · simp only [List.getElem?_toArray, List.getElem?_cons_succ, List.getElem?_cons_zero]; exact rfl
              · rfl
              · intro w hSw; (try dsimp only at hSw); go_simp; try with_reducible rfl
              try simp only [Act.put]
              try simp only [List.setIfInBounds_toArray, List.set_cons_zero, List.set_cons_succ]
              refine reg_take 8 ?_ ?_ ?_ (by kernel_rfl) (by kernel_rfl) (by kernel_rfl) (fun _ _ _ h => h) ?_ ?_ (by assumption) ?_
              rotate_left 2
              · simp only [List.getElem?_toArray, List.getElem?_cons_succ, List.getElem?_cons_zero]; exact rfl
              · rfl
              · intro w hSw; (try dsimp only at hSw); go_simp; try with_reducible rfl
              try simp only [Act.put]
              try simp only [List.setIfInBounds_toArray, List.set_cons_zero, List.set_cons_succ]
              refine wpAnyH_done (by kernel_rfl) ?_ _
              refine NoPanic.normal ?_
              go_wp2
              exact ⟨⟨q + 1, by omega, by go_num, HB8.out.trans (hh.mono HB8.out.size)⟩, by simp [intOf]; omega⟩
          · have hqe : q = SL := by omega
            subst hqe
            have m0_ := HMB.out _ hbr
            have v0_ : wr.cell? ⟨vb, 0, none⟩ = some (.int .i64 (v : Int)) := (hbr.cell (World.block_lt_of_cell? _ _ HVB.out.cell)).trans HVB.out.cell
            have HAR2 := Lib.hid (Around_any mb (v : Int) wr)
            have HBR := Lib.hid hbr
            have hWr : W.heap.size ≤ wr.heap.size := hbr.size
            clear hbr
            go_wp2_with fail
            refine HAR2.out.mono ?_
            rintro e w14 ⟨rfl, hw14⟩
            have HW14 := Lib.hid hw14
            clear hw14 m0_ v0_
            go_wp2
            obtain ⟨s0, s1, s2, hs14, hb14⟩ := three_boxes wr (.pointer (some ⟨mb, 0, none⟩)) (.int .i64 (v : Int)) (.func (.func 15) #[.pointer (some ⟨mb, 0, none⟩)] #[]) 25 3 57
            rw [← HW14.out] at s0 s1 s2 hs14 hb14
            have hs14a : wr.heap.size + 3 ≤ w14.heap.size := by omega
            clear hs14
            have hbW14 := HBR.out.trans (hb14.mono HBR.out.size)
            have hg14 := HGW.out.below hbW14
            obtain ⟨Pc, hPc⟩ : ∃ Pc : Nat → Prop, ∀ b, Pc b ↔ b < w14.heap.size := ⟨_, fun _ => Iff.rfl⟩
            have hW5 : w5.heap.size ≤ W.heap.size := by omega
            have hin14 : MeshIn Pc mb pb (some ⟨tb, 0, none⟩) := ⟨(hPc _).2 (by omega), (hPc _).2 (by omega), fun b hb => by cases hb; exact (hPc _).2 (by omega)⟩
            rw [← wpIn_wide (n := 20)]
            refine range_start9 (fun a1_ ha1 => ?_)
            refine wpIn_rangeFunc_ownH rfl (by omega) (gf := 50) (lb := #[.pointer (some ⟨wr.heap.size + 1 + 1, 0, none⟩), .pointer (some ⟨wr.heap.size + 1, 0, none⟩), .pointer (some ⟨wr.heap.size, 0, none⟩)]) (by rw [ha1]; rfl) trivial (enters_of Try.func50 (by kernel_rfl) rfl)
              (round_stops_at 19 (by omega) _ _ _ Pc (v : Int) w14 hg14.read hin14 s2.cell s1.cell s0.cell ((hPc _).2 (by omega)) ((hPc _).2 (by omega))) (fun h k => KeepB.trans h k) ?kc (Below.refl _ _) (fun _ => rfl)
              (fun (_ : List (RB S)) W' => Below w14.heap.size w14 W')
              (fun c (_ : List (RB S)) W' => c = .exit 6 ∧ Below w14.heap.size w14 W')
              (ownFrom_below (Nat.le_refl _) (Nat.le_refl _))
              (fun c => OwnFrom.and (ownFrom_pure _ (fun _ : List (RB S) => c = .exit 6)) (ownFrom_below (Nat.le_refl _) (Nat.le_refl _)))
              (Below.refl _ _)
              (fun x a' W => a' = { tmps := ((#[122, 123].zip (encR x)).foldl (fun t (p, v) => t.setIfInBounds p v) a1_.tmps), defers := [] })
              ?own2 ?assign2 ?body2 ?done2 ?stop2
            case kc =>
              intro W' l o o' hl _ _ _ b hb
              exact World.putObj_heap_other (fun e => by have := (hPc _).1 hb; omega)
            case own2 =>
              intro x a' s A B row hs _ _
              exact hs
            case assign2 =>
              intro l pre x W' K hI hK
              rw [ha1] at hK ⊢
              dsimp only [encR] at hK ⊢
              gi_wp2
              exact hK _ _ (KeepsFrom.refl _ _) (KeepB.refl _ _) hI (by kernel_rfl)
            case body2 =>
              rintro l pre x a' W' hWl - hI rfl hlen
              rw [ha1]
              dsimp only [encR]
              gi_wp2
              exact ⟨KeepsFrom.refl _ _, rfl, hI⟩
            all_goals
              have hend : ∀ (D2 : Nat) (W' : World), w14.heap.size ≤ D2 → Below w14.heap.size w14 W' → W'.heap[D2]? = some (.deferred (some [])) → Below w5.heap.size w5 W' ∧ MarksOk W' ({ target := .collected D2, args := #[] } :: { target := .collected D, args := #[] } :: dl) ∧ (∀ d, d ∈ ({ target := .collected D2, args := #[] } :: { target := .collected D, args := #[] } :: dl : List Deferred) → ∀ r, d.target = .collected r → w5.heap.size ≤ r) := by
                intro D2 W' hD2 hI hK2
                have h1 : Below W.heap.size W W' := hbW14.trans (hI.mono hbW14.size)
                have h2 : Below wq.heap.size wq W' := HBWW.out.trans (h1.mono HBWW.out.size)
                have h3 := HBW.out.trans (h2.mono HBW.out.size)
                have m1 : MarksOk W' ({ target := .collected D, args := #[] } :: dl) := .cons ((h1.block D hDl).trans HKD.out) (HMK.out.old (by omega)) (HMK.out.keep h2)
                refine ⟨h3, .cons hK2 (fun d hd => ?_) m1, fun d hd r hr => ?_⟩
                · rcases List.mem_cons.1 hd with rfl | hd
                  · intro e; simp only [Target.collected.injEq] at e; omega
                  · exact HMK.out.old (by omega) d hd
                · rcases List.mem_cons.1 hd with rfl | hd
                  · simp only [Target.collected.injEq] at hr; omega
                  · rcases List.mem_cons.1 hd with rfl | hd
                    · simp only [Target.collected.injEq] at hr; omega
                    · exact HFR.out d hd r hr
            case done2 =>
              rintro D2 xs2 W' hD2 hS2 hI hK2
              obtain ⟨g1, g2, g3⟩ := hend D2 W' hD2 hI hK2
              rw [ha1]
              gi_wp2
              go_wp2
              exact ⟨⟨v + 1, _, ⟨by omega, g1, g2, g3⟩, frameA_ok⟩, by simp [intOf]; omega⟩
            case stop2 =>
              rintro D2 c pre W' hD2 hS2 ⟨rfl, hI⟩ hK2
              obtain ⟨g1, g2, g3⟩ := hend D2 W' hD2 hI hK2
              rw [ha1]
              gi_wp2
              go_wp2
              exact ⟨⟨v + 1, _, ⟨by omega, g1, g2, g3⟩, frameA_ok⟩, by simp [intOf]; omega⟩
    case stop =>
      rintro D c pre W _ hSp ⟨rfl, q, x, hqx, hbad⟩ _
      obtain ⟨t0, ht0, htl0, hstar⟩ := grid_star HGI.out.built HGI.out.hW HGI.out.hH HGI.out.hb (v := v) (by rw [← HNL.out]; exact hlt)
      rw [hqx] at hSp
      exact absurd hbad (not_bad rfl hstar (fun t k T hT hk hv' => by have := (HGI.out.built.surf.place hT hk).1; rw [hv'] at this; exact this) hSp)
  · have hve : v = N := by omega
    have hyd : decide ((v : Int) < (N : Int)) = false := decide_eq_false (by omega)
    have prq := PR5.out.below hbw
    obtain ⟨q0, q1⟩ := prq.open1
    have PZQ := Lib.hid (prq.set 0 (.bool true))
    have HFIN := Lib.hid ((HB5.out.trans (hbw.mono HB5.out.size)).setCell (p := ⟨w.heap.size + 1, 0, none⟩) (by simp only []; omega) (.bool true))
    have HMK := Lib.hid (show MarksOk (wq.setCell ⟨w.heap.size + 1, 0, none⟩ (.bool true)) dl from by
      clear hfr
      induction hmk with
      | nil => exact .nil
      | @cons r ds h hn t ih => exact .cons (((KeepsOthers.setCell wq ⟨w.heap.size + 1, 0, none⟩ (.bool true)).same r _ h rfl)) hn ih)
    have HFR := Lib.hid hfr
    clear prq hmk hfr hbw
    go_wp2
    clear q0 q1
    refine leaves_marks dl _ HMK.out (fun W' g1 g2 g3 g4 g5 => ?_)
    have hrb : W'.heap[w.heap.size + 1]? = (wq.setCell ⟨w.heap.size + 1, 0, none⟩ (.bool true)).heap[w.heap.size + 1]? := g5 _ (fun d hd e => by have := HFR.out d hd _ e; omega)
    have z0 : W'.cell? ⟨w.heap.size + 1, 0, none⟩ = some (.bool true) := (World.cell?_of_block (a := ⟨w.heap.size + 1, 0, none⟩) hrb).trans PZQ.out.c0
    have hBf : Below w.heap.size (wq.setCell ⟨w.heap.size + 1, 0, none⟩ (.bool true)) W' := ⟨g1, g2, g3, by rw [g4]; exact Nat.le_refl _, fun k hk => g5 k (fun d hd e => by have := HFR.out d hd _ e; omega)⟩
    refine ⟨.bool true, ?_, rfl, HFIN.out.trans hBf⟩
    simp [results, Try.results4, go_sem, z0]
end Go.Proofs.Ytecnnpkpgbbfkaa
