/- The calls of wide: Mul, Det. -/
import Derived.Test.YtkigfccbhkcedaaParti
import Derived.Test.YtkigfccbhkcedaaParth
namespace Go.Proofs.Ytkigfccbhkcedaa
open Go.RowKit Go.MagM
theorem mul64_is (x y H L : Nat) (w : World) (hx : x < B) (hy : y < B) (h1 : x * y / B = H) (h2 : x * y % B = L) :
    Calls Try.prog 41 #[.int .u64 ((x : Nat) : Int), .int .u64 ((y : Nat) : Int)] w fun e w' => e = .returned (.tuple #[.int .u64 ((H : Nat) : Int), .int .u64 ((L : Nat) : Int)]) ∧ Below w.heap.size w w' := by
  subst h1; subst h2
  exact (mul64_any x y w hx hy).mono fun e w' h => by obtain ⟨h1, rfl⟩ := h; exact ⟨h1, Below.refl _ _⟩
theorem inW_int {n : Int} (h : -9223372036854775808 ≤ n) (h1 : n < 9223372036854775808) : InW n := by unfold InW; omega
set_option maxHeartbeats 4000000 in
theorem wMul_w_tt (a b : Int) (ha1 : -9223372036854775808 ≤ a) (ha2 : a < 9223372036854775808) (hb1 : -9223372036854775808 ≤ b) (hb2 : b < 9223372036854775808) (H L H' L' : Nat) (sa : a < 0) (sb : b < 0) (cm : ∀ w, Calls Try.prog 41 #[.int .u64 ((wl ((a.natAbs : Int)) : Nat) : Int), .int .u64 ((wl ((b.natAbs : Int)) : Nat) : Int)] w fun e w' => e = .returned (.tuple #[.int .u64 ((H : Nat) : Int), .int .u64 ((L : Nat) : Int)]) ∧ Below w.heap.size w w') (hac : ∀ w, Calls Try.prog 34 #[.agg #[.int .u64 ((H : Nat) : Int), .int .u64 ((L : Nat) : Int)]] w fun e w' => e = .returned (.agg #[.int .u64 ((H' : Nat) : Int), .int .u64 ((L' : Nat) : Int)]) ∧ Below w.heap.size w w') (w : World) :
    Calls Try.prog 19 #[.int .i64 a, .int .i64 b] w fun e w' => e = .returned (.agg #[.int .u64 ((H : Nat) : Int), .int .u64 ((L : Nat) : Int)]) ∧ Below w.heap.size w w' := by
  have hB_0 := Below.refl w.heap.size w
  have CM := Lib.hid cm; have CA := Lib.hid hac; have IA := Lib.hid (inW_int ha1 ha2); have IB := Lib.hid (inW_int hb1 hb2); have HA1 := Lib.hid ha1; have HA2 := Lib.hid ha2; have HB1 := Lib.hid hb1; have HB2 := Lib.hid hb2
  clear cm hac ha1 ha2 hb1 hb2
  have qa : decide (a < 0) = true := by simp [sa]
  have qb : decide (b < 0) = true := by simp [sb]
  clear sa sb
  have hfa : ∀ w : World, (Instr.field 24 (.agg #[.int .u64 ((wh ((a.natAbs : Int)) : Nat) : Int), .int .u64 ((wl ((a.natAbs : Int)) : Nat) : Int)]) 1).run Try.prog w = .ok (.int .u64 ((wl ((a.natAbs : Int)) : Nat) : Int)) w := fun _ => by kernel_rfl
  have hfb : ∀ w : World, (Instr.field 24 (.agg #[.int .u64 ((wh ((b.natAbs : Int)) : Nat) : Int), .int .u64 ((wl ((b.natAbs : Int)) : Nat) : Int)]) 1).run Try.prog w = .ok (.int .u64 ((wl ((b.natAbs : Int)) : Nat) : Int)) w := fun _ => by kernel_rfl
  obtain ⟨w1, hw1, pr_0, hb1, hs1⟩ := new_box w (w.heap.size) rfl [.int .u64 0, .int .u64 0] 24
  have hb1' : Below w.heap.size w w1 := hb1.mono (by omega)
  clear hb1
  have hB_1 := hB_0.trans (hb1'.mono hB_0.size)
  clear hb1' hB_0
  go_enter Try.func19, Try.ntmps19
  obtain ⟨pre0, pre1, pre2, pre3⟩ := pr_0.open2
  go_wp2_with fail
  refine (wOf_any a HA1.out HA2.out _).mono ?_
  rintro e w2 ⟨rfl, hb2⟩
  clear pre0 pre1 pre2 pre3
  have hB_2 := hB_1.trans (hb2.mono hB_1.size)
  have pr_1 := pr_0.below hb2
  clear hb2 hB_1 pr_0
  obtain ⟨pre0, pre1, pre2, pre3⟩ := pr_1.open2
  go_wp2_with fail
  refine (size_any a _ IA.out).mono ?_
  rintro e w3 ⟨rfl, hb3⟩
  clear pre0 pre1 pre2 pre3
  have hB_3 := hB_2.trans (hb3.mono hB_2.size)
  have pr_2 := pr_1.below hb3
  clear hb3 hB_2 pr_1
  obtain ⟨pre0, pre1, pre2, pre3⟩ := pr_2.open2
  go_wp2_with fail
  refine (wOf_any b HB1.out HB2.out _).mono ?_
  rintro e w4 ⟨rfl, hb4⟩
  clear pre0 pre1 pre2 pre3
  have hB_4 := hB_3.trans (hb4.mono hB_3.size)
  have pr_3 := pr_2.below hb4
  clear hb4 hB_3 pr_2
  obtain ⟨pre0, pre1, pre2, pre3⟩ := pr_3.open2
  go_wp2_with fail
  refine (size_any b _ IB.out).mono ?_
  rintro e w5 ⟨rfl, hb5⟩
  clear pre0 pre1 pre2 pre3
  have hB_5 := hB_4.trans (hb5.mono hB_4.size)
  have pr_4 := pr_3.below hb5
  clear hb5 hB_4 pr_3
  obtain ⟨pre0, pre1, pre2, pre3⟩ := pr_4.open2
  go_wp2_with fail
  refine (CM.out _).mono ?_
  rintro e w6 ⟨rfl, hb6⟩
  clear pre0 pre1 pre2 pre3
  have hB_6 := hB_5.trans (hb6.mono hB_5.size)
  have pr_5 := pr_4.below hb6
  clear hb6 hB_5 pr_4
  obtain ⟨pre0, pre1, pre2, pre3⟩ := pr_5.open2
  clear pre0 pre1 pre2 pre3
  have hl1pr := pr_5.lt
  have hl1B := hB_6.size
  obtain ⟨w7, hw7, pp_0, hb7, hs7⟩ := new_box w6 (w6.heap.size) rfl [.int .u64 ((H : Nat) : Int), .int .u64 ((L : Nat) : Int)] 24
  have hb7' : Below w6.heap.size w6 w7 := hb7.mono (by omega)
  clear hb7
  have hB_7 := hB_6.trans (hb7'.mono hB_6.size)
  have pr_6 := pr_5.below hb7'
  clear hb7' hB_6 pr_5
  obtain ⟨pre0, pre1, pre2, pre3⟩ := pr_6.open2
  obtain ⟨ppe0, ppe1, ppe2, ppe3⟩ := pp_0.open2
  obtain ⟨sf1a, sf1b, sf1c, sf1d⟩ := pr_6.open2
  obtain ⟨sg1a, sg1b⟩ := Box.put2 pr_6 (.int .u64 ((H : Nat) : Int))
  go_wp2
  clear pre0 pre1 pre2 pre3 ppe0 ppe1 ppe2 ppe3 sf1a sf1b sf1c sf1d sg1a sg1b
  have hB_8 := below_setAll hB_7 (g := w.heap.size) (by omega) [.int .u64 ((H : Nat) : Int), .int .u64 ((L : Nat) : Int)]
  have pp_1 := pp_0.farAll (g' := w.heap.size) (by omega) [.int .u64 ((H : Nat) : Int), .int .u64 ((L : Nat) : Int)]
  have pr_7 := pr_6.setAll [.int .u64 ((H : Nat) : Int), .int .u64 ((L : Nat) : Int)] rfl
  simp only [setAll, Nat.zero_add] at hB_8 pr_7 pp_1
  clear hB_7 pp_0 pr_6
  generalize (World.setCell (World.setCell w7 ⟨w.heap.size, 0, none⟩ (.int .u64 ((H : Nat) : Int))) ⟨w.heap.size, 1, none⟩ (.int .u64 ((L : Nat) : Int))) = w8 at *
  go_wp2
  obtain ⟨pre0, pre1, pre2, pre3⟩ := pr_7.open2
  exact bodyPost_ret (v := .agg #[.int .u64 ((H : Nat) : Int), .int .u64 ((L : Nat) : Int)]) (by simp [results, Try.results19, go_sem, pre0, pre1]) rfl ⟨rfl, hB_8⟩
set_option maxHeartbeats 4000000 in
theorem wMul_w_tf (a b : Int) (ha1 : -9223372036854775808 ≤ a) (ha2 : a < 9223372036854775808) (hb1 : -9223372036854775808 ≤ b) (hb2 : b < 9223372036854775808) (H L H' L' : Nat) (sa : a < 0) (sb : ¬ b < 0) (cm : ∀ w, Calls Try.prog 41 #[.int .u64 ((wl ((a.natAbs : Int)) : Nat) : Int), .int .u64 ((wl ((b.natAbs : Int)) : Nat) : Int)] w fun e w' => e = .returned (.tuple #[.int .u64 ((H : Nat) : Int), .int .u64 ((L : Nat) : Int)]) ∧ Below w.heap.size w w') (hac : ∀ w, Calls Try.prog 34 #[.agg #[.int .u64 ((H : Nat) : Int), .int .u64 ((L : Nat) : Int)]] w fun e w' => e = .returned (.agg #[.int .u64 ((H' : Nat) : Int), .int .u64 ((L' : Nat) : Int)]) ∧ Below w.heap.size w w') (w : World) :
    Calls Try.prog 19 #[.int .i64 a, .int .i64 b] w fun e w' => e = .returned (.agg #[.int .u64 ((H' : Nat) : Int), .int .u64 ((L' : Nat) : Int)]) ∧ Below w.heap.size w w' := by
  have hB_0 := Below.refl w.heap.size w
  have CM := Lib.hid cm; have CA := Lib.hid hac; have IA := Lib.hid (inW_int ha1 ha2); have IB := Lib.hid (inW_int hb1 hb2); have HA1 := Lib.hid ha1; have HA2 := Lib.hid ha2; have HB1 := Lib.hid hb1; have HB2 := Lib.hid hb2
  clear cm hac ha1 ha2 hb1 hb2
  have qa : decide (a < 0) = true := by simp [sa]
  have qb : decide (b < 0) = false := by simp [sb]
  clear sa sb
  have hfa : ∀ w : World, (Instr.field 24 (.agg #[.int .u64 ((wh ((a.natAbs : Int)) : Nat) : Int), .int .u64 ((wl ((a.natAbs : Int)) : Nat) : Int)]) 1).run Try.prog w = .ok (.int .u64 ((wl ((a.natAbs : Int)) : Nat) : Int)) w := fun _ => by kernel_rfl
  have hfb : ∀ w : World, (Instr.field 24 (.agg #[.int .u64 ((wh ((b.natAbs : Int)) : Nat) : Int), .int .u64 ((wl ((b.natAbs : Int)) : Nat) : Int)]) 1).run Try.prog w = .ok (.int .u64 ((wl ((b.natAbs : Int)) : Nat) : Int)) w := fun _ => by kernel_rfl
  obtain ⟨w1, hw1, pr_0, hb1, hs1⟩ := new_box w (w.heap.size) rfl [.int .u64 0, .int .u64 0] 24
  have hb1' : Below w.heap.size w w1 := hb1.mono (by omega)
  clear hb1
  have hB_1 := hB_0.trans (hb1'.mono hB_0.size)
  clear hb1' hB_0
  go_enter Try.func19, Try.ntmps19
  obtain ⟨pre0, pre1, pre2, pre3⟩ := pr_0.open2
  go_wp2_with fail
  refine (wOf_any a HA1.out HA2.out _).mono ?_
  rintro e w2 ⟨rfl, hb2⟩
  clear pre0 pre1 pre2 pre3
  have hB_2 := hB_1.trans (hb2.mono hB_1.size)
  have pr_1 := pr_0.below hb2
  clear hb2 hB_1 pr_0
  obtain ⟨pre0, pre1, pre2, pre3⟩ := pr_1.open2
  go_wp2_with fail
  refine (size_any a _ IA.out).mono ?_
  rintro e w3 ⟨rfl, hb3⟩
  clear pre0 pre1 pre2 pre3
  have hB_3 := hB_2.trans (hb3.mono hB_2.size)
  have pr_2 := pr_1.below hb3
  clear hb3 hB_2 pr_1
  obtain ⟨pre0, pre1, pre2, pre3⟩ := pr_2.open2
  go_wp2_with fail
  refine (wOf_any b HB1.out HB2.out _).mono ?_
  rintro e w4 ⟨rfl, hb4⟩
  clear pre0 pre1 pre2 pre3
  have hB_4 := hB_3.trans (hb4.mono hB_3.size)
  have pr_3 := pr_2.below hb4
  clear hb4 hB_3 pr_2
  obtain ⟨pre0, pre1, pre2, pre3⟩ := pr_3.open2
  go_wp2_with fail
  refine (size_any b _ IB.out).mono ?_
  rintro e w5 ⟨rfl, hb5⟩
  clear pre0 pre1 pre2 pre3
  have hB_5 := hB_4.trans (hb5.mono hB_4.size)
  have pr_4 := pr_3.below hb5
  clear hb5 hB_4 pr_3
  obtain ⟨pre0, pre1, pre2, pre3⟩ := pr_4.open2
  go_wp2_with fail
  refine (CM.out _).mono ?_
  rintro e w6 ⟨rfl, hb6⟩
  clear pre0 pre1 pre2 pre3
  have hB_6 := hB_5.trans (hb6.mono hB_5.size)
  have pr_5 := pr_4.below hb6
  clear hb6 hB_5 pr_4
  obtain ⟨pre0, pre1, pre2, pre3⟩ := pr_5.open2
  clear pre0 pre1 pre2 pre3
  have hl1pr := pr_5.lt
  have hl1B := hB_6.size
  obtain ⟨w7, hw7, pp_0, hb7, hs7⟩ := new_box w6 (w6.heap.size) rfl [.int .u64 ((H : Nat) : Int), .int .u64 ((L : Nat) : Int)] 24
  have hb7' : Below w6.heap.size w6 w7 := hb7.mono (by omega)
  clear hb7
  have hB_7 := hB_6.trans (hb7'.mono hB_6.size)
  have pr_6 := pr_5.below hb7'
  clear hb7' hB_6 pr_5
  obtain ⟨pre0, pre1, pre2, pre3⟩ := pr_6.open2
  obtain ⟨ppe0, ppe1, ppe2, ppe3⟩ := pp_0.open2
  go_wp2_with fail
  refine (CA.out _).mono ?_
  rintro e w8 ⟨rfl, hb8⟩
  clear pre0 pre1 pre2 pre3 ppe0 ppe1 ppe2 ppe3
  have hB_8 := hB_7.trans (hb8.mono hB_7.size)
  have pr_7 := pr_6.below hb8
  have pp_1 := pp_0.below hb8
  clear hb8 hB_7 pr_6 pp_0
  obtain ⟨pre0, pre1, pre2, pre3⟩ := pr_7.open2
  obtain ⟨ppe0, ppe1, ppe2, ppe3⟩ := pp_1.open2
  obtain ⟨sf1a, sf1b, sf1c, sf1d⟩ := pr_7.open2
  obtain ⟨sg1a, sg1b⟩ := Box.put2 pr_7 (.int .u64 ((H' : Nat) : Int))
  go_wp2
  clear pre0 pre1 pre2 pre3 ppe0 ppe1 ppe2 ppe3 sf1a sf1b sf1c sf1d sg1a sg1b
  have hB_9 := below_setAll hB_8 (g := w.heap.size) (by omega) [.int .u64 ((H' : Nat) : Int), .int .u64 ((L' : Nat) : Int)]
  have pp_2 := pp_1.farAll (g' := w.heap.size) (by omega) [.int .u64 ((H' : Nat) : Int), .int .u64 ((L' : Nat) : Int)]
  have pr_8 := pr_7.setAll [.int .u64 ((H' : Nat) : Int), .int .u64 ((L' : Nat) : Int)] rfl
  simp only [setAll, Nat.zero_add] at hB_9 pr_8 pp_2
  clear hB_8 pp_1 pr_7
  generalize (World.setCell (World.setCell w8 ⟨w.heap.size, 0, none⟩ (.int .u64 ((H' : Nat) : Int))) ⟨w.heap.size, 1, none⟩ (.int .u64 ((L' : Nat) : Int))) = w9 at *
  go_wp2
  obtain ⟨pre0, pre1, pre2, pre3⟩ := pr_8.open2
  exact bodyPost_ret (v := .agg #[.int .u64 ((H' : Nat) : Int), .int .u64 ((L' : Nat) : Int)]) (by simp [results, Try.results19, go_sem, pre0, pre1]) rfl ⟨rfl, hB_9⟩
set_option maxHeartbeats 4000000 in
theorem wMul_w_ft (a b : Int) (ha1 : -9223372036854775808 ≤ a) (ha2 : a < 9223372036854775808) (hb1 : -9223372036854775808 ≤ b) (hb2 : b < 9223372036854775808) (H L H' L' : Nat) (sa : ¬ a < 0) (sb : b < 0) (cm : ∀ w, Calls Try.prog 41 #[.int .u64 ((wl ((a.natAbs : Int)) : Nat) : Int), .int .u64 ((wl ((b.natAbs : Int)) : Nat) : Int)] w fun e w' => e = .returned (.tuple #[.int .u64 ((H : Nat) : Int), .int .u64 ((L : Nat) : Int)]) ∧ Below w.heap.size w w') (hac : ∀ w, Calls Try.prog 34 #[.agg #[.int .u64 ((H : Nat) : Int), .int .u64 ((L : Nat) : Int)]] w fun e w' => e = .returned (.agg #[.int .u64 ((H' : Nat) : Int), .int .u64 ((L' : Nat) : Int)]) ∧ Below w.heap.size w w') (w : World) :
    Calls Try.prog 19 #[.int .i64 a, .int .i64 b] w fun e w' => e = .returned (.agg #[.int .u64 ((H' : Nat) : Int), .int .u64 ((L' : Nat) : Int)]) ∧ Below w.heap.size w w' := by
  have hB_0 := Below.refl w.heap.size w
  have CM := Lib.hid cm; have CA := Lib.hid hac; have IA := Lib.hid (inW_int ha1 ha2); have IB := Lib.hid (inW_int hb1 hb2); have HA1 := Lib.hid ha1; have HA2 := Lib.hid ha2; have HB1 := Lib.hid hb1; have HB2 := Lib.hid hb2
  clear cm hac ha1 ha2 hb1 hb2
  have qa : decide (a < 0) = false := by simp [sa]
  have qb : decide (b < 0) = true := by simp [sb]
  clear sa sb
  have hfa : ∀ w : World, (Instr.field 24 (.agg #[.int .u64 ((wh ((a.natAbs : Int)) : Nat) : Int), .int .u64 ((wl ((a.natAbs : Int)) : Nat) : Int)]) 1).run Try.prog w = .ok (.int .u64 ((wl ((a.natAbs : Int)) : Nat) : Int)) w := fun _ => by kernel_rfl
  have hfb : ∀ w : World, (Instr.field 24 (.agg #[.int .u64 ((wh ((b.natAbs : Int)) : Nat) : Int), .int .u64 ((wl ((b.natAbs : Int)) : Nat) : Int)]) 1).run Try.prog w = .ok (.int .u64 ((wl ((b.natAbs : Int)) : Nat) : Int)) w := fun _ => by kernel_rfl
  obtain ⟨w1, hw1, pr_0, hb1, hs1⟩ := new_box w (w.heap.size) rfl [.int .u64 0, .int .u64 0] 24
  have hb1' : Below w.heap.size w w1 := hb1.mono (by omega)
  clear hb1
  have hB_1 := hB_0.trans (hb1'.mono hB_0.size)
  clear hb1' hB_0
  go_enter Try.func19, Try.ntmps19
  obtain ⟨pre0, pre1, pre2, pre3⟩ := pr_0.open2
  go_wp2_with fail
  refine (wOf_any a HA1.out HA2.out _).mono ?_
  rintro e w2 ⟨rfl, hb2⟩
  clear pre0 pre1 pre2 pre3
  have hB_2 := hB_1.trans (hb2.mono hB_1.size)
  have pr_1 := pr_0.below hb2
  clear hb2 hB_1 pr_0
  obtain ⟨pre0, pre1, pre2, pre3⟩ := pr_1.open2
  go_wp2_with fail
  refine (size_any a _ IA.out).mono ?_
  rintro e w3 ⟨rfl, hb3⟩
  clear pre0 pre1 pre2 pre3
  have hB_3 := hB_2.trans (hb3.mono hB_2.size)
  have pr_2 := pr_1.below hb3
  clear hb3 hB_2 pr_1
  obtain ⟨pre0, pre1, pre2, pre3⟩ := pr_2.open2
  go_wp2_with fail
  refine (wOf_any b HB1.out HB2.out _).mono ?_
  rintro e w4 ⟨rfl, hb4⟩
  clear pre0 pre1 pre2 pre3
  have hB_4 := hB_3.trans (hb4.mono hB_3.size)
  have pr_3 := pr_2.below hb4
  clear hb4 hB_3 pr_2
  obtain ⟨pre0, pre1, pre2, pre3⟩ := pr_3.open2
  go_wp2_with fail
  refine (size_any b _ IB.out).mono ?_
  rintro e w5 ⟨rfl, hb5⟩
  clear pre0 pre1 pre2 pre3
  have hB_5 := hB_4.trans (hb5.mono hB_4.size)
  have pr_4 := pr_3.below hb5
  clear hb5 hB_4 pr_3
  obtain ⟨pre0, pre1, pre2, pre3⟩ := pr_4.open2
  go_wp2_with fail
  refine (CM.out _).mono ?_
  rintro e w6 ⟨rfl, hb6⟩
  clear pre0 pre1 pre2 pre3
  have hB_6 := hB_5.trans (hb6.mono hB_5.size)
  have pr_5 := pr_4.below hb6
  clear hb6 hB_5 pr_4
  obtain ⟨pre0, pre1, pre2, pre3⟩ := pr_5.open2
  clear pre0 pre1 pre2 pre3
  have hl1pr := pr_5.lt
  have hl1B := hB_6.size
  obtain ⟨w7, hw7, pp_0, hb7, hs7⟩ := new_box w6 (w6.heap.size) rfl [.int .u64 ((H : Nat) : Int), .int .u64 ((L : Nat) : Int)] 24
  have hb7' : Below w6.heap.size w6 w7 := hb7.mono (by omega)
  clear hb7
  have hB_7 := hB_6.trans (hb7'.mono hB_6.size)
  have pr_6 := pr_5.below hb7'
  clear hb7' hB_6 pr_5
  obtain ⟨pre0, pre1, pre2, pre3⟩ := pr_6.open2
  obtain ⟨ppe0, ppe1, ppe2, ppe3⟩ := pp_0.open2
  go_wp2_with fail
  refine (CA.out _).mono ?_
  rintro e w8 ⟨rfl, hb8⟩
  clear pre0 pre1 pre2 pre3 ppe0 ppe1 ppe2 ppe3
  have hB_8 := hB_7.trans (hb8.mono hB_7.size)
  have pr_7 := pr_6.below hb8
  have pp_1 := pp_0.below hb8
  clear hb8 hB_7 pr_6 pp_0
  obtain ⟨pre0, pre1, pre2, pre3⟩ := pr_7.open2
  obtain ⟨ppe0, ppe1, ppe2, ppe3⟩ := pp_1.open2
  obtain ⟨sf1a, sf1b, sf1c, sf1d⟩ := pr_7.open2
  obtain ⟨sg1a, sg1b⟩ := Box.put2 pr_7 (.int .u64 ((H' : Nat) : Int))
  go_wp2
  clear pre0 pre1 pre2 pre3 ppe0 ppe1 ppe2 ppe3 sf1a sf1b sf1c sf1d sg1a sg1b
  have hB_9 := below_setAll hB_8 (g := w.heap.size) (by omega) [.int .u64 ((H' : Nat) : Int), .int .u64 ((L' : Nat) : Int)]
  have pp_2 := pp_1.farAll (g' := w.heap.size) (by omega) [.int .u64 ((H' : Nat) : Int), .int .u64 ((L' : Nat) : Int)]
  have pr_8 := pr_7.setAll [.int .u64 ((H' : Nat) : Int), .int .u64 ((L' : Nat) : Int)] rfl
  simp only [setAll, Nat.zero_add] at hB_9 pr_8 pp_2
  clear hB_8 pp_1 pr_7
  generalize (World.setCell (World.setCell w8 ⟨w.heap.size, 0, none⟩ (.int .u64 ((H' : Nat) : Int))) ⟨w.heap.size, 1, none⟩ (.int .u64 ((L' : Nat) : Int))) = w9 at *
  go_wp2
  obtain ⟨pre0, pre1, pre2, pre3⟩ := pr_8.open2
  exact bodyPost_ret (v := .agg #[.int .u64 ((H' : Nat) : Int), .int .u64 ((L' : Nat) : Int)]) (by simp [results, Try.results19, go_sem, pre0, pre1]) rfl ⟨rfl, hB_9⟩
set_option maxHeartbeats 4000000 in
theorem wMul_w_ff (a b : Int) (ha1 : -9223372036854775808 ≤ a) (ha2 : a < 9223372036854775808) (hb1 : -9223372036854775808 ≤ b) (hb2 : b < 9223372036854775808) (H L H' L' : Nat) (sa : ¬ a < 0) (sb : ¬ b < 0) (cm : ∀ w, Calls Try.prog 41 #[.int .u64 ((wl ((a.natAbs : Int)) : Nat) : Int), .int .u64 ((wl ((b.natAbs : Int)) : Nat) : Int)] w fun e w' => e = .returned (.tuple #[.int .u64 ((H : Nat) : Int), .int .u64 ((L : Nat) : Int)]) ∧ Below w.heap.size w w') (hac : ∀ w, Calls Try.prog 34 #[.agg #[.int .u64 ((H : Nat) : Int), .int .u64 ((L : Nat) : Int)]] w fun e w' => e = .returned (.agg #[.int .u64 ((H' : Nat) : Int), .int .u64 ((L' : Nat) : Int)]) ∧ Below w.heap.size w w') (w : World) :
    Calls Try.prog 19 #[.int .i64 a, .int .i64 b] w fun e w' => e = .returned (.agg #[.int .u64 ((H : Nat) : Int), .int .u64 ((L : Nat) : Int)]) ∧ Below w.heap.size w w' := by
  have hB_0 := Below.refl w.heap.size w
  have CM := Lib.hid cm; have CA := Lib.hid hac; have IA := Lib.hid (inW_int ha1 ha2); have IB := Lib.hid (inW_int hb1 hb2); have HA1 := Lib.hid ha1; have HA2 := Lib.hid ha2; have HB1 := Lib.hid hb1; have HB2 := Lib.hid hb2
  clear cm hac ha1 ha2 hb1 hb2
  have qa : decide (a < 0) = false := by simp [sa]
  have qb : decide (b < 0) = false := by simp [sb]
  clear sa sb
  have hfa : ∀ w : World, (Instr.field 24 (.agg #[.int .u64 ((wh ((a.natAbs : Int)) : Nat) : Int), .int .u64 ((wl ((a.natAbs : Int)) : Nat) : Int)]) 1).run Try.prog w = .ok (.int .u64 ((wl ((a.natAbs : Int)) : Nat) : Int)) w := fun _ => by kernel_rfl
  have hfb : ∀ w : World, (Instr.field 24 (.agg #[.int .u64 ((wh ((b.natAbs : Int)) : Nat) : Int), .int .u64 ((wl ((b.natAbs : Int)) : Nat) : Int)]) 1).run Try.prog w = .ok (.int .u64 ((wl ((b.natAbs : Int)) : Nat) : Int)) w := fun _ => by kernel_rfl
  obtain ⟨w1, hw1, pr_0, hb1, hs1⟩ := new_box w (w.heap.size) rfl [.int .u64 0, .int .u64 0] 24
  have hb1' : Below w.heap.size w w1 := hb1.mono (by omega)
  clear hb1
  have hB_1 := hB_0.trans (hb1'.mono hB_0.size)
  clear hb1' hB_0
  go_enter Try.func19, Try.ntmps19
  obtain ⟨pre0, pre1, pre2, pre3⟩ := pr_0.open2
  go_wp2_with fail
  refine (wOf_any a HA1.out HA2.out _).mono ?_
  rintro e w2 ⟨rfl, hb2⟩
  clear pre0 pre1 pre2 pre3
  have hB_2 := hB_1.trans (hb2.mono hB_1.size)
  have pr_1 := pr_0.below hb2
  clear hb2 hB_1 pr_0
  obtain ⟨pre0, pre1, pre2, pre3⟩ := pr_1.open2
  go_wp2_with fail
  refine (size_any a _ IA.out).mono ?_
  rintro e w3 ⟨rfl, hb3⟩
  clear pre0 pre1 pre2 pre3
  have hB_3 := hB_2.trans (hb3.mono hB_2.size)
  have pr_2 := pr_1.below hb3
  clear hb3 hB_2 pr_1
  obtain ⟨pre0, pre1, pre2, pre3⟩ := pr_2.open2
  go_wp2_with fail
  refine (wOf_any b HB1.out HB2.out _).mono ?_
  rintro e w4 ⟨rfl, hb4⟩
  clear pre0 pre1 pre2 pre3
  have hB_4 := hB_3.trans (hb4.mono hB_3.size)
  have pr_3 := pr_2.below hb4
  clear hb4 hB_3 pr_2
  obtain ⟨pre0, pre1, pre2, pre3⟩ := pr_3.open2
  go_wp2_with fail
  refine (size_any b _ IB.out).mono ?_
  rintro e w5 ⟨rfl, hb5⟩
  clear pre0 pre1 pre2 pre3
  have hB_5 := hB_4.trans (hb5.mono hB_4.size)
  have pr_4 := pr_3.below hb5
  clear hb5 hB_4 pr_3
  obtain ⟨pre0, pre1, pre2, pre3⟩ := pr_4.open2
  go_wp2_with fail
  refine (CM.out _).mono ?_
  rintro e w6 ⟨rfl, hb6⟩
  clear pre0 pre1 pre2 pre3
  have hB_6 := hB_5.trans (hb6.mono hB_5.size)
  have pr_5 := pr_4.below hb6
  clear hb6 hB_5 pr_4
  obtain ⟨pre0, pre1, pre2, pre3⟩ := pr_5.open2
  clear pre0 pre1 pre2 pre3
  have hl1pr := pr_5.lt
  have hl1B := hB_6.size
  obtain ⟨w7, hw7, pp_0, hb7, hs7⟩ := new_box w6 (w6.heap.size) rfl [.int .u64 ((H : Nat) : Int), .int .u64 ((L : Nat) : Int)] 24
  have hb7' : Below w6.heap.size w6 w7 := hb7.mono (by omega)
  clear hb7
  have hB_7 := hB_6.trans (hb7'.mono hB_6.size)
  have pr_6 := pr_5.below hb7'
  clear hb7' hB_6 pr_5
  obtain ⟨pre0, pre1, pre2, pre3⟩ := pr_6.open2
  obtain ⟨ppe0, ppe1, ppe2, ppe3⟩ := pp_0.open2
  obtain ⟨sf1a, sf1b, sf1c, sf1d⟩ := pr_6.open2
  obtain ⟨sg1a, sg1b⟩ := Box.put2 pr_6 (.int .u64 ((H : Nat) : Int))
  go_wp2
  clear pre0 pre1 pre2 pre3 ppe0 ppe1 ppe2 ppe3 sf1a sf1b sf1c sf1d sg1a sg1b
  have hB_8 := below_setAll hB_7 (g := w.heap.size) (by omega) [.int .u64 ((H : Nat) : Int), .int .u64 ((L : Nat) : Int)]
  have pp_1 := pp_0.farAll (g' := w.heap.size) (by omega) [.int .u64 ((H : Nat) : Int), .int .u64 ((L : Nat) : Int)]
  have pr_7 := pr_6.setAll [.int .u64 ((H : Nat) : Int), .int .u64 ((L : Nat) : Int)] rfl
  simp only [setAll, Nat.zero_add] at hB_8 pr_7 pp_1
  clear hB_7 pp_0 pr_6
  generalize (World.setCell (World.setCell w7 ⟨w.heap.size, 0, none⟩ (.int .u64 ((H : Nat) : Int))) ⟨w.heap.size, 1, none⟩ (.int .u64 ((L : Nat) : Int))) = w8 at *
  go_wp2
  obtain ⟨pre0, pre1, pre2, pre3⟩ := pr_7.open2
  exact bodyPost_ret (v := .agg #[.int .u64 ((H : Nat) : Int), .int .u64 ((L : Nat) : Int)]) (by simp [results, Try.results19, go_sem, pre0, pre1]) rfl ⟨rfl, hB_8⟩
theorem wMul_any (a b : Int) (ha1 : -9223372036854775808 ≤ a) (ha2 : a < 9223372036854775808) (hb1 : -9223372036854775808 ≤ b) (hb2 : b < 9223372036854775808) (w : World) :
    Calls Try.prog 19 #[.int .i64 a, .int .i64 b] w fun e w' => AnsW w w' e (a * b) := by
  obtain ⟨ea, la⟩ := w_abs_int ha1 ha2
  obtain ⟨eb, lb⟩ := w_abs_int hb1 hb2
  obtain ⟨x, hx⟩ : ∃ x : Int, x = ((a.natAbs * b.natAbs : Nat) : Int) := ⟨_, rfl⟩
  have hlt : a.natAbs * b.natAbs < B * B := Nat.mul_lt_mul'' la lb
  have hw := w_mod x
  have h1 := wh_lt x; have h2 := wl_lt x
  have q1 : a.natAbs * b.natAbs / B = wh x := by
    simp only [B_eq] at *; omega
  have q2 : a.natAbs * b.natAbs % B = wl x := by
    simp only [B_eq] at *; omega
  have cm := fun w => mul64_is a.natAbs b.natAbs (wh x) (wl x) w la lb q1 q2
  rw [← ea, ← eb] at cm
  have hac := fun w => across_any x w
  have hm : ((a.natAbs * b.natAbs : Nat) : Int) = (a.natAbs : Int) * (b.natAbs : Int) := Int.natCast_mul _ _
  by_cases sa : a < 0 <;> by_cases sb : b < 0
  · have e : a * b = x := by
      rw [hx, hm, show (a.natAbs : Int) = -a by omega, show (b.natAbs : Int) = -b by omega]; simp [Int.neg_mul, Int.mul_neg]
    rw [e]; exact wMul_w_tt a b ha1 ha2 hb1 hb2 _ _ _ _ sa sb cm hac w
  · have e : a * b = -x := by
      rw [hx, hm, show (a.natAbs : Int) = -a by omega, show (b.natAbs : Int) = b by omega]; simp [Int.neg_mul]
    rw [e]; exact wMul_w_tf a b ha1 ha2 hb1 hb2 _ _ _ _ sa sb cm hac w
  · have e : a * b = -x := by
      rw [hx, hm, show (a.natAbs : Int) = a by omega, show (b.natAbs : Int) = -b by omega]; simp [Int.mul_neg]
    rw [e]; exact wMul_w_ft a b ha1 ha2 hb1 hb2 _ _ _ _ sa sb cm hac w
  · have e : a * b = x := by
      rw [hx, hm, show (a.natAbs : Int) = a by omega, show (b.natAbs : Int) = b by omega]
    rw [e]; exact wMul_w_ff a b ha1 ha2 hb1 hb2 _ _ _ _ sa sb cm hac w
set_option maxHeartbeats 4000000 in
theorem wDet_w (a b c d x y : Int) (c1 : ∀ w, Calls Try.prog 19 #[.int .i64 a, .int .i64 d] w fun e w' => AnsW w w' e x) (c2 : ∀ w, Calls Try.prog 19 #[.int .i64 b, .int .i64 c] w fun e w' => AnsW w w' e y) (w : World) :
    Calls Try.prog 28 #[.int .i64 a, .int .i64 b, .int .i64 c, .int .i64 d] w fun e w' => AnsW w w' e (x - y) := by
  have hB_0 := Below.refl w.heap.size w
  have C1 := Lib.hid c1; have C2 := Lib.hid c2
  clear c1 c2
  obtain ⟨w1, hw1, pr_0, hb1, hs1⟩ := new_box w (w.heap.size) rfl [.int .u64 0, .int .u64 0] 24
  have hb1' : Below w.heap.size w w1 := hb1.mono (by omega)
  clear hb1
  have hB_1 := hB_0.trans (hb1'.mono hB_0.size)
  clear hb1' hB_0
  go_enter Try.func28, Try.ntmps28
  obtain ⟨pre0, pre1, pre2, pre3⟩ := pr_0.open2
  go_wp2_with fail
  refine (C1.out _).mono ?_
  rintro e w2 ⟨rfl, hb2⟩
  clear pre0 pre1 pre2 pre3
  have hB_2 := hB_1.trans (hb2.mono hB_1.size)
  have pr_1 := pr_0.below hb2
  clear hb2 hB_1 pr_0
  obtain ⟨pre0, pre1, pre2, pre3⟩ := pr_1.open2
  go_wp2_with fail
  refine (C2.out _).mono ?_
  rintro e w3 ⟨rfl, hb3⟩
  clear pre0 pre1 pre2 pre3
  have hB_3 := hB_2.trans (hb3.mono hB_2.size)
  have pr_2 := pr_1.below hb3
  clear hb3 hB_2 pr_1
  obtain ⟨pre0, pre1, pre2, pre3⟩ := pr_2.open2
  go_wp2_with fail
  refine (less_any x y _).mono ?_
  rintro e w4 ⟨rfl, hb4⟩
  clear pre0 pre1 pre2 pre3
  have hB_4 := hB_3.trans (hb4.mono hB_3.size)
  have pr_3 := pr_2.below hb4
  clear hb4 hB_3 pr_2
  obtain ⟨pre0, pre1, pre2, pre3⟩ := pr_3.open2
  obtain ⟨sf1a, sf1b, sf1c, sf1d⟩ := pr_3.open2
  obtain ⟨sg1a, sg1b⟩ := Box.put2 pr_3 (.int .u64 ((wh (x - y) : Nat) : Int))
  go_wp2
  clear pre0 pre1 pre2 pre3 sf1a sf1b sf1c sf1d sg1a sg1b
  have hB_5 := below_setAll hB_4 (g := w.heap.size) (by omega) [.int .u64 ((wh (x - y) : Nat) : Int), .int .u64 ((wl (x - y) : Nat) : Int)]
  have pr_4 := pr_3.setAll [.int .u64 ((wh (x - y) : Nat) : Int), .int .u64 ((wl (x - y) : Nat) : Int)] rfl
  simp only [setAll, Nat.zero_add] at hB_5 pr_4
  clear hB_4 pr_3
  generalize (World.setCell (World.setCell w4 ⟨w.heap.size, 0, none⟩ (.int .u64 ((wh (x - y) : Nat) : Int))) ⟨w.heap.size, 1, none⟩ (.int .u64 ((wl (x - y) : Nat) : Int))) = w5 at *
  go_wp2
  obtain ⟨pre0, pre1, pre2, pre3⟩ := pr_4.open2
  exact bodyPost_ret (v := .agg #[.int .u64 ((wh (x - y) : Nat) : Int), .int .u64 ((wl (x - y) : Nat) : Int)]) (by simp [results, Try.results28, go_sem, pre0, pre1]) rfl ⟨rfl, hB_5⟩
theorem wDet_any (a b c d : Int) (ha1 : -9223372036854775808 ≤ a) (ha2 : a < 9223372036854775808) (hb1 : -9223372036854775808 ≤ b) (hb2 : b < 9223372036854775808) (hc1 : -9223372036854775808 ≤ c) (hc2 : c < 9223372036854775808) (hd1 : -9223372036854775808 ≤ d) (hd2 : d < 9223372036854775808) (w : World) :
    Calls Try.prog 28 #[.int .i64 a, .int .i64 b, .int .i64 c, .int .i64 d] w fun e w' => AnsW w w' e (a * d - b * c) :=
  wDet_w a b c d _ _ (fun w => wMul_any a d ha1 ha2 hd1 hd2 w) (fun w => wMul_any b c hb1 hb2 hc1 hc2 w) w
end Go.Proofs.Ytkigfccbhkcedaa
/- The calls of wide, walked: Times. -/
namespace Go.Proofs.Ytkigfccbhkcedaa
open Go.RowKit Go.MagM
set_option maxHeartbeats 8000000 in
theorem wTimes_w_over (x n : Int) (hx : InW x) (hn1 : -9223372036854775808 ≤ n) (hn2 : n < 9223372036854775808) (hi lo mid cy ov mo : Nat) (m1 : ∀ w, Calls Try.prog 41 #[.int .u64 ((wl ((x.natAbs : Int)) : Nat) : Int), .int .u64 ((wl ((n.natAbs : Int)) : Nat) : Int)] w fun e w' => e = .returned (.tuple #[.int .u64 ((cy : Nat) : Int), .int .u64 ((lo : Nat) : Int)]) ∧ Below w.heap.size w w') (m2 : ∀ w, Calls Try.prog 41 #[.int .u64 ((wh ((x.natAbs : Int)) : Nat) : Int), .int .u64 ((wl ((n.natAbs : Int)) : Nat) : Int)] w fun e w' => e = .returned (.tuple #[.int .u64 ((ov : Nat) : Int), .int .u64 ((mid : Nat) : Int)]) ∧ Below w.heap.size w w') (hrun : ∀ w, (callFunc 32 #[.int .u64 ((mid : Nat) : Int), .int .u64 ((cy : Nat) : Int), .int .u64 0]).run Try.prog w = .ok (.value (.tuple #[.int .u64 ((hi : Nat) : Int), .int .u64 ((mo : Nat) : Int)])) w) (h0 : ¬ ov = 0) (w : World) :
    Calls Try.prog 20 #[.agg #[.int .u64 ((wh (x) : Nat) : Int), .int .u64 ((wl (x) : Nat) : Int)], .int .i64 n] w fun e w' => e = .returned (.tuple #[.agg #[.int .u64 0, .int .u64 0], .bool false]) ∧ Below w.heap.size w w' := by
  have hB_0 := Below.refl w.heap.size w
  have HX := Lib.hid hx; have HN1 := Lib.hid hn1; have HN2 := Lib.hid hn2; have M1 := Lib.hid m1; have M2 := Lib.hid m2
  clear hx hn1 hn2 m1 m2
  have hfn : ∀ w : World, (Instr.field 24 (.agg #[.int .u64 ((wh ((n.natAbs : Int)) : Nat) : Int), .int .u64 ((wl ((n.natAbs : Int)) : Nat) : Int)]) 1).run Try.prog w = .ok (.int .u64 ((wl ((n.natAbs : Int)) : Nat) : Int)) w := fun _ => by kernel_rfl
  obtain ⟨w1, hw1, pa_0, hb1, hs1⟩ := new_box w (w.heap.size) rfl [.int .u64 ((wh (x) : Nat) : Int), .int .u64 ((wl (x) : Nat) : Int)] 24
  have hb1' : Below w.heap.size w w1 := hb1.mono (by omega)
  clear hb1
  have hB_1 := hB_0.trans (hb1'.mono hB_0.size)
  clear hb1' hB_0
  obtain ⟨w2, hw2, pr_0, hb2, hs2⟩ := new_box w1 (w.heap.size + 1) hs1 [.int .u64 0, .int .u64 0] 24
  have hb2' : Below w1.heap.size w1 w2 := hb2.mono (by omega)
  clear hb2
  have hB_2 := hB_1.trans (hb2'.mono hB_1.size)
  have pa_1 := pa_0.below hb2'
  clear hb2' hB_1 pa_0
  go_enter Try.func20, Try.ntmps20
  obtain ⟨pae0, pae1, pae2, pae3⟩ := pa_1.open2
  obtain ⟨pre0, pre1, pre2, pre3⟩ := pr_0.open2
  go_wp2_with fail
  refine (size_any x _ HX.out).mono ?_
  rintro e w3 ⟨rfl, hb3⟩
  clear pae0 pae1 pae2 pae3 pre0 pre1 pre2 pre3
  have hB_3 := hB_2.trans (hb3.mono hB_2.size)
  have pa_2 := pa_1.below hb3
  have pr_1 := pr_0.below hb3
  clear hb3 hB_2 pa_1 pr_0
  obtain ⟨pae0, pae1, pae2, pae3⟩ := pa_2.open2
  obtain ⟨pre0, pre1, pre2, pre3⟩ := pr_1.open2
  go_wp2_with fail
  refine (wOf_any n HN1.out HN2.out _).mono ?_
  rintro e w4 ⟨rfl, hb4⟩
  clear pae0 pae1 pae2 pae3 pre0 pre1 pre2 pre3
  have hB_4 := hB_3.trans (hb4.mono hB_3.size)
  have pa_3 := pa_2.below hb4
  have pr_2 := pr_1.below hb4
  clear hb4 hB_3 pa_2 pr_1
  obtain ⟨pae0, pae1, pae2, pae3⟩ := pa_3.open2
  obtain ⟨pre0, pre1, pre2, pre3⟩ := pr_2.open2
  go_wp2_with fail
  refine (size_any n _ (inW_int HN1.out HN2.out)).mono ?_
  rintro e w5 ⟨rfl, hb5⟩
  clear pae0 pae1 pae2 pae3 pre0 pre1 pre2 pre3
  have hB_5 := hB_4.trans (hb5.mono hB_4.size)
  have pa_4 := pa_3.below hb5
  have pr_3 := pr_2.below hb5
  clear hb5 hB_4 pa_3 pr_2
  obtain ⟨pae0, pae1, pae2, pae3⟩ := pa_4.open2
  obtain ⟨pre0, pre1, pre2, pre3⟩ := pr_3.open2
  clear pae0 pae1 pae2 pae3 pre0 pre1 pre2 pre3
  have hl1pa := pa_4.lt
  have hl1pr := pr_3.lt
  have hl1B := hB_5.size
  obtain ⟨w6, hw6, ps_0, hb6, hs6⟩ := new_box w5 (w5.heap.size) rfl [.int .u64 ((wh ((x.natAbs : Int)) : Nat) : Int), .int .u64 ((wl ((x.natAbs : Int)) : Nat) : Int)] 24
  have hb6' : Below w5.heap.size w5 w6 := hb6.mono (by omega)
  clear hb6
  have hB_6 := hB_5.trans (hb6'.mono hB_5.size)
  have pa_5 := pa_4.below hb6'
  have pr_4 := pr_3.below hb6'
  clear hb6' hB_5 pa_4 pr_3
  obtain ⟨pae0, pae1, pae2, pae3⟩ := pa_5.open2
  obtain ⟨pre0, pre1, pre2, pre3⟩ := pr_4.open2
  obtain ⟨pse0, pse1, pse2, pse3⟩ := ps_0.open2
  go_wp2_with fail
  refine (M1.out _).mono ?_
  rintro e w7 ⟨rfl, hb7⟩
  clear pae0 pae1 pae2 pae3 pre0 pre1 pre2 pre3 pse0 pse1 pse2 pse3
  have hB_7 := hB_6.trans (hb7.mono hB_6.size)
  have pa_6 := pa_5.below hb7
  have pr_5 := pr_4.below hb7
  have ps_1 := ps_0.below hb7
  clear hb7 hB_6 pa_5 pr_4 ps_0
  obtain ⟨pae0, pae1, pae2, pae3⟩ := pa_6.open2
  obtain ⟨pre0, pre1, pre2, pre3⟩ := pr_5.open2
  obtain ⟨pse0, pse1, pse2, pse3⟩ := ps_1.open2
  go_wp2_with fail
  refine (M2.out _).mono ?_
  rintro e w8 ⟨rfl, hb8⟩
  clear pae0 pae1 pae2 pae3 pre0 pre1 pre2 pre3 pse0 pse1 pse2 pse3
  have hB_8 := hB_7.trans (hb8.mono hB_7.size)
  have pa_7 := pa_6.below hb8
  have pr_6 := pr_5.below hb8
  have ps_2 := ps_1.below hb8
  clear hb8 hB_7 pa_6 pr_5 ps_1
  obtain ⟨pae0, pae1, pae2, pae3⟩ := pa_7.open2
  obtain ⟨pre0, pre1, pre2, pre3⟩ := pr_6.open2
  obtain ⟨pse0, pse1, pse2, pse3⟩ := ps_2.open2
  obtain ⟨sf1a, sf1b, sf1c, sf1d⟩ := pr_6.open2
  obtain ⟨sg1a, sg1b⟩ := Box.put2 pr_6 (.int .u64 0)
  go_wp2
  clear pae0 pae1 pae2 pae3 pre0 pre1 pre2 pre3 pse0 pse1 pse2 pse3 sf1a sf1b sf1c sf1d sg1a sg1b
  have hB_9 := below_setAll hB_8 (g := w.heap.size + 1) (by omega) [.int .u64 0, .int .u64 0]
  have pa_8 := pa_7.farAll (g' := w.heap.size + 1) (by omega) [.int .u64 0, .int .u64 0]
  have ps_3 := ps_2.farAll (g' := w.heap.size + 1) (by omega) [.int .u64 0, .int .u64 0]
  have pr_7 := pr_6.setAll [.int .u64 0, .int .u64 0] rfl
  simp only [setAll, Nat.zero_add] at hB_9 pa_8 pr_7 ps_3
  clear hB_8 pa_7 ps_2 pr_6
  generalize (World.setCell (World.setCell w8 ⟨w.heap.size + 1, 0, none⟩ (.int .u64 0)) ⟨w.heap.size + 1, 1, none⟩ (.int .u64 0)) = w9 at *
  go_wp2
  obtain ⟨pre0, pre1, pre2, pre3⟩ := pr_7.open2
  exact bodyPost_ret (v := .tuple #[.agg #[.int .u64 0, .int .u64 0], .bool false]) (by simp [results, Try.results20, go_sem, pre0, pre1]) rfl ⟨rfl, hB_9⟩
set_option maxHeartbeats 8000000 in
theorem wTimes_w_more (x n : Int) (hx : InW x) (hn1 : -9223372036854775808 ≤ n) (hn2 : n < 9223372036854775808) (hi lo mid cy mo : Nat) (m1 : ∀ w, Calls Try.prog 41 #[.int .u64 ((wl ((x.natAbs : Int)) : Nat) : Int), .int .u64 ((wl ((n.natAbs : Int)) : Nat) : Int)] w fun e w' => e = .returned (.tuple #[.int .u64 ((cy : Nat) : Int), .int .u64 ((lo : Nat) : Int)]) ∧ Below w.heap.size w w') (m2 : ∀ w, Calls Try.prog 41 #[.int .u64 ((wh ((x.natAbs : Int)) : Nat) : Int), .int .u64 ((wl ((n.natAbs : Int)) : Nat) : Int)] w fun e w' => e = .returned (.tuple #[.int .u64 0, .int .u64 ((mid : Nat) : Int)]) ∧ Below w.heap.size w w') (hrun : ∀ w, (callFunc 32 #[.int .u64 ((mid : Nat) : Int), .int .u64 ((cy : Nat) : Int), .int .u64 0]).run Try.prog w = .ok (.value (.tuple #[.int .u64 ((hi : Nat) : Int), .int .u64 ((mo : Nat) : Int)])) w) (h0 : ¬ mo = 0) (w : World) :
    Calls Try.prog 20 #[.agg #[.int .u64 ((wh (x) : Nat) : Int), .int .u64 ((wl (x) : Nat) : Int)], .int .i64 n] w fun e w' => e = .returned (.tuple #[.agg #[.int .u64 0, .int .u64 0], .bool false]) ∧ Below w.heap.size w w' := by
  have hB_0 := Below.refl w.heap.size w
  have HX := Lib.hid hx; have HN1 := Lib.hid hn1; have HN2 := Lib.hid hn2; have M1 := Lib.hid m1; have M2 := Lib.hid m2
  clear hx hn1 hn2 m1 m2
  have hfn : ∀ w : World, (Instr.field 24 (.agg #[.int .u64 ((wh ((n.natAbs : Int)) : Nat) : Int), .int .u64 ((wl ((n.natAbs : Int)) : Nat) : Int)]) 1).run Try.prog w = .ok (.int .u64 ((wl ((n.natAbs : Int)) : Nat) : Int)) w := fun _ => by kernel_rfl
  obtain ⟨w1, hw1, pa_0, hb1, hs1⟩ := new_box w (w.heap.size) rfl [.int .u64 ((wh (x) : Nat) : Int), .int .u64 ((wl (x) : Nat) : Int)] 24
  have hb1' : Below w.heap.size w w1 := hb1.mono (by omega)
  clear hb1
  have hB_1 := hB_0.trans (hb1'.mono hB_0.size)
  clear hb1' hB_0
  obtain ⟨w2, hw2, pr_0, hb2, hs2⟩ := new_box w1 (w.heap.size + 1) hs1 [.int .u64 0, .int .u64 0] 24
  have hb2' : Below w1.heap.size w1 w2 := hb2.mono (by omega)
  clear hb2
  have hB_2 := hB_1.trans (hb2'.mono hB_1.size)
  have pa_1 := pa_0.below hb2'
  clear hb2' hB_1 pa_0
  go_enter Try.func20, Try.ntmps20
  obtain ⟨pae0, pae1, pae2, pae3⟩ := pa_1.open2
  obtain ⟨pre0, pre1, pre2, pre3⟩ := pr_0.open2
  go_wp2_with fail
  refine (size_any x _ HX.out).mono ?_
  rintro e w3 ⟨rfl, hb3⟩
  clear pae0 pae1 pae2 pae3 pre0 pre1 pre2 pre3
  have hB_3 := hB_2.trans (hb3.mono hB_2.size)
  have pa_2 := pa_1.below hb3
  have pr_1 := pr_0.below hb3
  clear hb3 hB_2 pa_1 pr_0
  obtain ⟨pae0, pae1, pae2, pae3⟩ := pa_2.open2
  obtain ⟨pre0, pre1, pre2, pre3⟩ := pr_1.open2
  go_wp2_with fail
  refine (wOf_any n HN1.out HN2.out _).mono ?_
  rintro e w4 ⟨rfl, hb4⟩
  clear pae0 pae1 pae2 pae3 pre0 pre1 pre2 pre3
  have hB_4 := hB_3.trans (hb4.mono hB_3.size)
  have pa_3 := pa_2.below hb4
  have pr_2 := pr_1.below hb4
  clear hb4 hB_3 pa_2 pr_1
  obtain ⟨pae0, pae1, pae2, pae3⟩ := pa_3.open2
  obtain ⟨pre0, pre1, pre2, pre3⟩ := pr_2.open2
  go_wp2_with fail
  refine (size_any n _ (inW_int HN1.out HN2.out)).mono ?_
  rintro e w5 ⟨rfl, hb5⟩
  clear pae0 pae1 pae2 pae3 pre0 pre1 pre2 pre3
  have hB_5 := hB_4.trans (hb5.mono hB_4.size)
  have pa_4 := pa_3.below hb5
  have pr_3 := pr_2.below hb5
  clear hb5 hB_4 pa_3 pr_2
  obtain ⟨pae0, pae1, pae2, pae3⟩ := pa_4.open2
  obtain ⟨pre0, pre1, pre2, pre3⟩ := pr_3.open2
  clear pae0 pae1 pae2 pae3 pre0 pre1 pre2 pre3
  have hl1pa := pa_4.lt
  have hl1pr := pr_3.lt
  have hl1B := hB_5.size
  obtain ⟨w6, hw6, ps_0, hb6, hs6⟩ := new_box w5 (w5.heap.size) rfl [.int .u64 ((wh ((x.natAbs : Int)) : Nat) : Int), .int .u64 ((wl ((x.natAbs : Int)) : Nat) : Int)] 24
  have hb6' : Below w5.heap.size w5 w6 := hb6.mono (by omega)
  clear hb6
  have hB_6 := hB_5.trans (hb6'.mono hB_5.size)
  have pa_5 := pa_4.below hb6'
  have pr_4 := pr_3.below hb6'
  clear hb6' hB_5 pa_4 pr_3
  obtain ⟨pae0, pae1, pae2, pae3⟩ := pa_5.open2
  obtain ⟨pre0, pre1, pre2, pre3⟩ := pr_4.open2
  obtain ⟨pse0, pse1, pse2, pse3⟩ := ps_0.open2
  go_wp2_with fail
  refine (M1.out _).mono ?_
  rintro e w7 ⟨rfl, hb7⟩
  clear pae0 pae1 pae2 pae3 pre0 pre1 pre2 pre3 pse0 pse1 pse2 pse3
  have hB_7 := hB_6.trans (hb7.mono hB_6.size)
  have pa_6 := pa_5.below hb7
  have pr_5 := pr_4.below hb7
  have ps_1 := ps_0.below hb7
  clear hb7 hB_6 pa_5 pr_4 ps_0
  obtain ⟨pae0, pae1, pae2, pae3⟩ := pa_6.open2
  obtain ⟨pre0, pre1, pre2, pre3⟩ := pr_5.open2
  obtain ⟨pse0, pse1, pse2, pse3⟩ := ps_1.open2
  go_wp2_with fail
  refine (M2.out _).mono ?_
  rintro e w8 ⟨rfl, hb8⟩
  clear pae0 pae1 pae2 pae3 pre0 pre1 pre2 pre3 pse0 pse1 pse2 pse3
  have hB_8 := hB_7.trans (hb8.mono hB_7.size)
  have pa_7 := pa_6.below hb8
  have pr_6 := pr_5.below hb8
  have ps_2 := ps_1.below hb8
  clear hb8 hB_7 pa_6 pr_5 ps_1
  obtain ⟨pae0, pae1, pae2, pae3⟩ := pa_7.open2
  obtain ⟨pre0, pre1, pre2, pre3⟩ := pr_6.open2
  obtain ⟨pse0, pse1, pse2, pse3⟩ := ps_2.open2
  obtain ⟨sf1a, sf1b, sf1c, sf1d⟩ := pr_6.open2
  obtain ⟨sg1a, sg1b⟩ := Box.put2 pr_6 (.int .u64 0)
  go_wp2
  clear pae0 pae1 pae2 pae3 pre0 pre1 pre2 pre3 pse0 pse1 pse2 pse3 sf1a sf1b sf1c sf1d sg1a sg1b
  have hB_9 := below_setAll hB_8 (g := w.heap.size + 1) (by omega) [.int .u64 0, .int .u64 0]
  have pa_8 := pa_7.farAll (g' := w.heap.size + 1) (by omega) [.int .u64 0, .int .u64 0]
  have ps_3 := ps_2.farAll (g' := w.heap.size + 1) (by omega) [.int .u64 0, .int .u64 0]
  have pr_7 := pr_6.setAll [.int .u64 0, .int .u64 0] rfl
  simp only [setAll, Nat.zero_add] at hB_9 pa_8 pr_7 ps_3
  clear hB_8 pa_7 ps_2 pr_6
  generalize (World.setCell (World.setCell w8 ⟨w.heap.size + 1, 0, none⟩ (.int .u64 0)) ⟨w.heap.size + 1, 1, none⟩ (.int .u64 0)) = w9 at *
  go_wp2
  obtain ⟨pre0, pre1, pre2, pre3⟩ := pr_7.open2
  exact bodyPost_ret (v := .tuple #[.agg #[.int .u64 0, .int .u64 0], .bool false]) (by simp [results, Try.results20, go_sem, pre0, pre1]) rfl ⟨rfl, hB_9⟩
end Go.Proofs.Ytkigfccbhkcedaa
/- The calls of wide, walked: Times. -/
namespace Go.Proofs.Ytkigfccbhkcedaa
open Go.RowKit Go.MagM
set_option maxHeartbeats 8000000 in
theorem wTimes_w_nn (x n : Int) (hx : InW x) (hn1 : -9223372036854775808 ≤ n) (hn2 : n < 9223372036854775808) (hi lo mid cy : Nat) (m1 : ∀ w, Calls Try.prog 41 #[.int .u64 ((wl ((x.natAbs : Int)) : Nat) : Int), .int .u64 ((wl ((n.natAbs : Int)) : Nat) : Int)] w fun e w' => e = .returned (.tuple #[.int .u64 ((cy : Nat) : Int), .int .u64 ((lo : Nat) : Int)]) ∧ Below w.heap.size w w') (m2 : ∀ w, Calls Try.prog 41 #[.int .u64 ((wh ((x.natAbs : Int)) : Nat) : Int), .int .u64 ((wl ((n.natAbs : Int)) : Nat) : Int)] w fun e w' => e = .returned (.tuple #[.int .u64 0, .int .u64 ((mid : Nat) : Int)]) ∧ Below w.heap.size w w') (hrun : ∀ w, (callFunc 32 #[.int .u64 ((mid : Nat) : Int), .int .u64 ((cy : Nat) : Int), .int .u64 0]).run Try.prog w = .ok (.value (.tuple #[.int .u64 ((hi : Nat) : Int), .int .u64 0])) w) (sx sn : Int) (c1 : ∀ w, Calls Try.prog 26 #[.agg #[.int .u64 ((wh (x) : Nat) : Int), .int .u64 ((wl (x) : Nat) : Int)]] w fun e w' => e = .returned (.int .i64 (sx)) ∧ Below w.heap.size w w') (c2 : ∀ w, Calls Try.prog 26 #[.agg #[.int .u64 ((wh (n) : Nat) : Int), .int .u64 ((wl (n) : Nat) : Int)]] w fun e w' => e = .returned (.int .i64 (sn)) ∧ Below w.heap.size w w') (hside : IntKind.i64.wrap (sx * sn) = -1) (hi' lo' : Nat) (c4 : ∀ w, Calls Try.prog 34 #[.agg #[.int .u64 ((hi : Nat) : Int), .int .u64 ((lo : Nat) : Int)]] w fun e w' => e = .returned (.agg #[.int .u64 ((hi' : Nat) : Int), .int .u64 ((lo' : Nat) : Int)]) ∧ Below w.heap.size w w') (c3 : ∀ w, Calls Try.prog 26 #[.agg #[.int .u64 ((hi' : Nat) : Int), .int .u64 ((lo' : Nat) : Int)]] w fun e w' => e = .returned (.int .i64 (-1)) ∧ Below w.heap.size w w') (w : World) :
    Calls Try.prog 20 #[.agg #[.int .u64 ((wh (x) : Nat) : Int), .int .u64 ((wl (x) : Nat) : Int)], .int .i64 n] w fun e w' => e = .returned (.tuple #[.agg #[.int .u64 ((hi' : Nat) : Int), .int .u64 ((lo' : Nat) : Int)], .bool true]) ∧ Below w.heap.size w w' := by
  have hB_0 := Below.refl w.heap.size w
  have HX := Lib.hid hx; have HN1 := Lib.hid hn1; have HN2 := Lib.hid hn2; have M1 := Lib.hid m1; have M2 := Lib.hid m2; have C1 := Lib.hid c1; have C2 := Lib.hid c2; have C3 := Lib.hid c3; have C4 := Lib.hid c4
  clear hx hn1 hn2 m1 m2 c1 c2 c3 c4
  have hfn : ∀ w : World, (Instr.field 24 (.agg #[.int .u64 ((wh ((n.natAbs : Int)) : Nat) : Int), .int .u64 ((wl ((n.natAbs : Int)) : Nat) : Int)]) 1).run Try.prog w = .ok (.int .u64 ((wl ((n.natAbs : Int)) : Nat) : Int)) w := fun _ => by kernel_rfl
  obtain ⟨w1, hw1, pa_0, hb1, hs1⟩ := new_box w (w.heap.size) rfl [.int .u64 ((wh (x) : Nat) : Int), .int .u64 ((wl (x) : Nat) : Int)] 24
  have hb1' : Below w.heap.size w w1 := hb1.mono (by omega)
  clear hb1
  have hB_1 := hB_0.trans (hb1'.mono hB_0.size)
  clear hb1' hB_0
  obtain ⟨w2, hw2, pr_0, hb2, hs2⟩ := new_box w1 (w.heap.size + 1) hs1 [.int .u64 0, .int .u64 0] 24
  have hb2' : Below w1.heap.size w1 w2 := hb2.mono (by omega)
  clear hb2
  have hB_2 := hB_1.trans (hb2'.mono hB_1.size)
  have pa_1 := pa_0.below hb2'
  clear hb2' hB_1 pa_0
  go_enter Try.func20, Try.ntmps20
  obtain ⟨pae0, pae1, pae2, pae3⟩ := pa_1.open2
  obtain ⟨pre0, pre1, pre2, pre3⟩ := pr_0.open2
  go_wp2_with fail
  refine (size_any x _ HX.out).mono ?_
  rintro e w3 ⟨rfl, hb3⟩
  clear pae0 pae1 pae2 pae3 pre0 pre1 pre2 pre3
  have hB_3 := hB_2.trans (hb3.mono hB_2.size)
  have pa_2 := pa_1.below hb3
  have pr_1 := pr_0.below hb3
  clear hb3 hB_2 pa_1 pr_0
  obtain ⟨pae0, pae1, pae2, pae3⟩ := pa_2.open2
  obtain ⟨pre0, pre1, pre2, pre3⟩ := pr_1.open2
  go_wp2_with fail
  refine (wOf_any n HN1.out HN2.out _).mono ?_
  rintro e w4 ⟨rfl, hb4⟩
  clear pae0 pae1 pae2 pae3 pre0 pre1 pre2 pre3
  have hB_4 := hB_3.trans (hb4.mono hB_3.size)
  have pa_3 := pa_2.below hb4
  have pr_2 := pr_1.below hb4
  clear hb4 hB_3 pa_2 pr_1
  obtain ⟨pae0, pae1, pae2, pae3⟩ := pa_3.open2
  obtain ⟨pre0, pre1, pre2, pre3⟩ := pr_2.open2
  go_wp2_with fail
  refine (size_any n _ (inW_int HN1.out HN2.out)).mono ?_
  rintro e w5 ⟨rfl, hb5⟩
  clear pae0 pae1 pae2 pae3 pre0 pre1 pre2 pre3
  have hB_5 := hB_4.trans (hb5.mono hB_4.size)
  have pa_4 := pa_3.below hb5
  have pr_3 := pr_2.below hb5
  clear hb5 hB_4 pa_3 pr_2
  obtain ⟨pae0, pae1, pae2, pae3⟩ := pa_4.open2
  obtain ⟨pre0, pre1, pre2, pre3⟩ := pr_3.open2
  clear pae0 pae1 pae2 pae3 pre0 pre1 pre2 pre3
  have hl1pa := pa_4.lt
  have hl1pr := pr_3.lt
  have hl1B := hB_5.size
  obtain ⟨w6, hw6, ps_0, hb6, hs6⟩ := new_box w5 (w5.heap.size) rfl [.int .u64 ((wh ((x.natAbs : Int)) : Nat) : Int), .int .u64 ((wl ((x.natAbs : Int)) : Nat) : Int)] 24
  have hb6' : Below w5.heap.size w5 w6 := hb6.mono (by omega)
  clear hb6
  have hB_6 := hB_5.trans (hb6'.mono hB_5.size)
  have pa_5 := pa_4.below hb6'
  have pr_4 := pr_3.below hb6'
  clear hb6' hB_5 pa_4 pr_3
  obtain ⟨pae0, pae1, pae2, pae3⟩ := pa_5.open2
  obtain ⟨pre0, pre1, pre2, pre3⟩ := pr_4.open2
  obtain ⟨pse0, pse1, pse2, pse3⟩ := ps_0.open2
  go_wp2_with fail
  refine (M1.out _).mono ?_
  rintro e w7 ⟨rfl, hb7⟩
  clear pae0 pae1 pae2 pae3 pre0 pre1 pre2 pre3 pse0 pse1 pse2 pse3
  have hB_7 := hB_6.trans (hb7.mono hB_6.size)
  have pa_6 := pa_5.below hb7
  have pr_5 := pr_4.below hb7
  have ps_1 := ps_0.below hb7
  clear hb7 hB_6 pa_5 pr_4 ps_0
  obtain ⟨pae0, pae1, pae2, pae3⟩ := pa_6.open2
  obtain ⟨pre0, pre1, pre2, pre3⟩ := pr_5.open2
  obtain ⟨pse0, pse1, pse2, pse3⟩ := ps_1.open2
  go_wp2_with fail
  refine (M2.out _).mono ?_
  rintro e w8 ⟨rfl, hb8⟩
  clear pae0 pae1 pae2 pae3 pre0 pre1 pre2 pre3 pse0 pse1 pse2 pse3
  have hB_8 := hB_7.trans (hb8.mono hB_7.size)
  have pa_7 := pa_6.below hb8
  have pr_6 := pr_5.below hb8
  have ps_2 := ps_1.below hb8
  clear hb8 hB_7 pa_6 pr_5 ps_1
  obtain ⟨pae0, pae1, pae2, pae3⟩ := pa_7.open2
  obtain ⟨pre0, pre1, pre2, pre3⟩ := pr_6.open2
  obtain ⟨pse0, pse1, pse2, pse3⟩ := ps_2.open2
  go_wp2_with fail
  refine (C1.out _).mono ?_
  rintro e w9 ⟨rfl, hb9⟩
  clear pae0 pae1 pae2 pae3 pre0 pre1 pre2 pre3 pse0 pse1 pse2 pse3
  have hB_9 := hB_8.trans (hb9.mono hB_8.size)
  have pa_8 := pa_7.below hb9
  have pr_7 := pr_6.below hb9
  have ps_3 := ps_2.below hb9
  clear hb9 hB_8 pa_7 pr_6 ps_2
  obtain ⟨pae0, pae1, pae2, pae3⟩ := pa_8.open2
  obtain ⟨pre0, pre1, pre2, pre3⟩ := pr_7.open2
  go_wp2_with fail
  refine (wOf_any n HN1.out HN2.out _).mono ?_
  rintro e w10 ⟨rfl, hb10⟩
  clear pae0 pae1 pae2 pae3 pre0 pre1 pre2 pre3
  have hB_10 := hB_9.trans (hb10.mono hB_9.size)
  have pa_9 := pa_8.below hb10
  have pr_8 := pr_7.below hb10
  have ps_4 := ps_3.below hb10
  clear hb10 hB_9 pa_8 pr_7 ps_3
  obtain ⟨pae0, pae1, pae2, pae3⟩ := pa_9.open2
  obtain ⟨pre0, pre1, pre2, pre3⟩ := pr_8.open2
  go_wp2_with fail
  refine (C2.out _).mono ?_
  rintro e w11 ⟨rfl, hb11⟩
  clear pae0 pae1 pae2 pae3 pre0 pre1 pre2 pre3
  have hB_11 := hB_10.trans (hb11.mono hB_10.size)
  have pa_10 := pa_9.below hb11
  have pr_9 := pr_8.below hb11
  have ps_5 := ps_4.below hb11
  clear hb11 hB_10 pa_9 pr_8 ps_4
  obtain ⟨pae0, pae1, pae2, pae3⟩ := pa_10.open2
  obtain ⟨pre0, pre1, pre2, pre3⟩ := pr_9.open2
  clear pae0 pae1 pae2 pae3 pre0 pre1 pre2 pre3
  have hl2pa := pa_10.lt
  have hl2pr := pr_9.lt
  have hl2ps := ps_5.lt
  have hl2B := hB_11.size
  obtain ⟨w12, hw12, pp_0, hb12, hs12⟩ := new_box w11 (w11.heap.size) rfl [.int .u64 ((hi : Nat) : Int), .int .u64 ((lo : Nat) : Int)] 24
  have hb12' : Below w11.heap.size w11 w12 := hb12.mono (by omega)
  clear hb12
  have hB_12 := hB_11.trans (hb12'.mono hB_11.size)
  have pa_11 := pa_10.below hb12'
  have pr_10 := pr_9.below hb12'
  have ps_6 := ps_5.below hb12'
  clear hb12' hB_11 pa_10 pr_9 ps_5
  obtain ⟨ppe0, ppe1, ppe2, ppe3⟩ := pp_0.open2
  obtain ⟨pre0, pre1, pre2, pre3⟩ := pr_10.open2
  go_wp2_with fail
  refine (C4.out _).mono ?_
  rintro e w13 ⟨rfl, hb13⟩
  clear ppe0 ppe1 ppe2 ppe3 pre0 pre1 pre2 pre3
  have hB_13 := hB_12.trans (hb13.mono hB_12.size)
  have pa_12 := pa_11.below hb13
  have pr_11 := pr_10.below hb13
  have ps_7 := ps_6.below hb13
  have pp_1 := pp_0.below hb13
  clear hb13 hB_12 pa_11 pr_10 ps_6 pp_0
  obtain ⟨ppe0, ppe1, ppe2, ppe3⟩ := pp_1.open2
  obtain ⟨pre0, pre1, pre2, pre3⟩ := pr_11.open2
  clear ppe0 ppe1 ppe2 ppe3 pre0 pre1 pre2 pre3
  obtain ⟨sf1a, sf1b, sf1c, sf1d⟩ := pp_1.open2
  obtain ⟨sg1a, sg1b⟩ := Box.put2 pp_1 (.int .u64 ((hi' : Nat) : Int))
  have hB_14 := below_setAll hB_13 (g := w11.heap.size) (by omega) [.int .u64 ((hi' : Nat) : Int), .int .u64 ((lo' : Nat) : Int)]
  have pa_13 := pa_12.farAll (g' := w11.heap.size) (by omega) [.int .u64 ((hi' : Nat) : Int), .int .u64 ((lo' : Nat) : Int)]
  have pr_12 := pr_11.farAll (g' := w11.heap.size) (by omega) [.int .u64 ((hi' : Nat) : Int), .int .u64 ((lo' : Nat) : Int)]
  have ps_8 := ps_7.farAll (g' := w11.heap.size) (by omega) [.int .u64 ((hi' : Nat) : Int), .int .u64 ((lo' : Nat) : Int)]
  have pp_2 := pp_1.setAll [.int .u64 ((hi' : Nat) : Int), .int .u64 ((lo' : Nat) : Int)] rfl
  simp only [setAll, Nat.zero_add] at hB_14 pa_13 pr_12 ps_8 pp_2
  obtain ⟨ppe0, ppe1, ppe2, ppe3⟩ := pp_2.open2
  obtain ⟨pre0, pre1, pre2, pre3⟩ := pr_12.open2
  go_wp2_with fail
  clear sf1a sf1b sf1c sf1d sg1a sg1b hB_13 pa_12 pr_11 ps_7 pp_1
  generalize (World.setCell (World.setCell w13 ⟨w11.heap.size, 0, none⟩ (.int .u64 ((hi' : Nat) : Int))) ⟨w11.heap.size, 1, none⟩ (.int .u64 ((lo' : Nat) : Int))) = w14 at *
  go_wp2_with fail
  refine (C3.out _).mono ?_
  rintro e w15 ⟨rfl, hb15⟩
  clear ppe0 ppe1 ppe2 ppe3 pre0 pre1 pre2 pre3
  have hB_15 := hB_14.trans (hb15.mono hB_14.size)
  have pa_14 := pa_13.below hb15
  have pr_13 := pr_12.below hb15
  have ps_9 := ps_8.below hb15
  have pp_3 := pp_2.below hb15
  clear hb15 hB_14 pa_13 pr_12 ps_8 pp_2
  obtain ⟨ppe0, ppe1, ppe2, ppe3⟩ := pp_3.open2
  obtain ⟨pre0, pre1, pre2, pre3⟩ := pr_13.open2
  obtain ⟨sf2a, sf2b, sf2c, sf2d⟩ := pr_13.open2
  obtain ⟨sg2a, sg2b⟩ := Box.put2 pr_13 (.int .u64 ((hi' : Nat) : Int))
  go_wp2
  clear ppe0 ppe1 ppe2 ppe3 pre0 pre1 pre2 pre3 sf2a sf2b sf2c sf2d sg2a sg2b
  have hB_16 := below_setAll hB_15 (g := w.heap.size + 1) (by omega) [.int .u64 ((hi' : Nat) : Int), .int .u64 ((lo' : Nat) : Int)]
  have pa_15 := pa_14.farAll (g' := w.heap.size + 1) (by omega) [.int .u64 ((hi' : Nat) : Int), .int .u64 ((lo' : Nat) : Int)]
  have ps_10 := ps_9.farAll (g' := w.heap.size + 1) (by omega) [.int .u64 ((hi' : Nat) : Int), .int .u64 ((lo' : Nat) : Int)]
  have pp_4 := pp_3.farAll (g' := w.heap.size + 1) (by omega) [.int .u64 ((hi' : Nat) : Int), .int .u64 ((lo' : Nat) : Int)]
  have pr_14 := pr_13.setAll [.int .u64 ((hi' : Nat) : Int), .int .u64 ((lo' : Nat) : Int)] rfl
  simp only [setAll, Nat.zero_add] at hB_16 pa_15 pr_14 ps_10 pp_4
  clear hB_15 pa_14 ps_9 pp_3 pr_13
  generalize (World.setCell (World.setCell w15 ⟨w.heap.size + 1, 0, none⟩ (.int .u64 ((hi' : Nat) : Int))) ⟨w.heap.size + 1, 1, none⟩ (.int .u64 ((lo' : Nat) : Int))) = w16 at *
  go_wp2
  obtain ⟨pre0, pre1, pre2, pre3⟩ := pr_14.open2
  exact bodyPost_ret (v := .tuple #[.agg #[.int .u64 ((hi' : Nat) : Int), .int .u64 ((lo' : Nat) : Int)], .bool true]) (by simp [results, Try.results20, go_sem, pre0, pre1]) rfl ⟨rfl, hB_16⟩
set_option maxHeartbeats 8000000 in
theorem wTimes_w_np (x n : Int) (hx : InW x) (hn1 : -9223372036854775808 ≤ n) (hn2 : n < 9223372036854775808) (hi lo mid cy : Nat) (m1 : ∀ w, Calls Try.prog 41 #[.int .u64 ((wl ((x.natAbs : Int)) : Nat) : Int), .int .u64 ((wl ((n.natAbs : Int)) : Nat) : Int)] w fun e w' => e = .returned (.tuple #[.int .u64 ((cy : Nat) : Int), .int .u64 ((lo : Nat) : Int)]) ∧ Below w.heap.size w w') (m2 : ∀ w, Calls Try.prog 41 #[.int .u64 ((wh ((x.natAbs : Int)) : Nat) : Int), .int .u64 ((wl ((n.natAbs : Int)) : Nat) : Int)] w fun e w' => e = .returned (.tuple #[.int .u64 0, .int .u64 ((mid : Nat) : Int)]) ∧ Below w.heap.size w w') (hrun : ∀ w, (callFunc 32 #[.int .u64 ((mid : Nat) : Int), .int .u64 ((cy : Nat) : Int), .int .u64 0]).run Try.prog w = .ok (.value (.tuple #[.int .u64 ((hi : Nat) : Int), .int .u64 0])) w) (sx sn : Int) (c1 : ∀ w, Calls Try.prog 26 #[.agg #[.int .u64 ((wh (x) : Nat) : Int), .int .u64 ((wl (x) : Nat) : Int)]] w fun e w' => e = .returned (.int .i64 (sx)) ∧ Below w.heap.size w w') (c2 : ∀ w, Calls Try.prog 26 #[.agg #[.int .u64 ((wh (n) : Nat) : Int), .int .u64 ((wl (n) : Nat) : Int)]] w fun e w' => e = .returned (.int .i64 (sn)) ∧ Below w.heap.size w w') (hside : IntKind.i64.wrap (sx * sn) = -1) (hi' lo' : Nat) (c4 : ∀ w, Calls Try.prog 34 #[.agg #[.int .u64 ((hi : Nat) : Int), .int .u64 ((lo : Nat) : Int)]] w fun e w' => e = .returned (.agg #[.int .u64 ((hi' : Nat) : Int), .int .u64 ((lo' : Nat) : Int)]) ∧ Below w.heap.size w w') (c3 : ∀ w, Calls Try.prog 26 #[.agg #[.int .u64 ((hi' : Nat) : Int), .int .u64 ((lo' : Nat) : Int)]] w fun e w' => e = .returned (.int .i64 (1)) ∧ Below w.heap.size w w') (w : World) :
    Calls Try.prog 20 #[.agg #[.int .u64 ((wh (x) : Nat) : Int), .int .u64 ((wl (x) : Nat) : Int)], .int .i64 n] w fun e w' => e = .returned (.tuple #[.agg #[.int .u64 0, .int .u64 0], .bool false]) ∧ Below w.heap.size w w' := by
  have hB_0 := Below.refl w.heap.size w
  have HX := Lib.hid hx; have HN1 := Lib.hid hn1; have HN2 := Lib.hid hn2; have M1 := Lib.hid m1; have M2 := Lib.hid m2; have C1 := Lib.hid c1; have C2 := Lib.hid c2; have C3 := Lib.hid c3; have C4 := Lib.hid c4
  clear hx hn1 hn2 m1 m2 c1 c2 c3 c4
  have hfn : ∀ w : World, (Instr.field 24 (.agg #[.int .u64 ((wh ((n.natAbs : Int)) : Nat) : Int), .int .u64 ((wl ((n.natAbs : Int)) : Nat) : Int)]) 1).run Try.prog w = .ok (.int .u64 ((wl ((n.natAbs : Int)) : Nat) : Int)) w := fun _ => by kernel_rfl
  obtain ⟨w1, hw1, pa_0, hb1, hs1⟩ := new_box w (w.heap.size) rfl [.int .u64 ((wh (x) : Nat) : Int), .int .u64 ((wl (x) : Nat) : Int)] 24
  have hb1' : Below w.heap.size w w1 := hb1.mono (by omega)
  clear hb1
  have hB_1 := hB_0.trans (hb1'.mono hB_0.size)
  clear hb1' hB_0
  obtain ⟨w2, hw2, pr_0, hb2, hs2⟩ := new_box w1 (w.heap.size + 1) hs1 [.int .u64 0, .int .u64 0] 24
  have hb2' : Below w1.heap.size w1 w2 := hb2.mono (by omega)
  clear hb2
  have hB_2 := hB_1.trans (hb2'.mono hB_1.size)
  have pa_1 := pa_0.below hb2'
  clear hb2' hB_1 pa_0
  go_enter Try.func20, Try.ntmps20
  obtain ⟨pae0, pae1, pae2, pae3⟩ := pa_1.open2
  obtain ⟨pre0, pre1, pre2, pre3⟩ := pr_0.open2
  go_wp2_with fail
  refine (size_any x _ HX.out).mono ?_
  rintro e w3 ⟨rfl, hb3⟩
  clear pae0 pae1 pae2 pae3 pre0 pre1 pre2 pre3
  have hB_3 := hB_2.trans (hb3.mono hB_2.size)
  have pa_2 := pa_1.below hb3
  have pr_1 := pr_0.below hb3
  clear hb3 hB_2 pa_1 pr_0
  obtain ⟨pae0, pae1, pae2, pae3⟩ := pa_2.open2
  obtain ⟨pre0, pre1, pre2, pre3⟩ := pr_1.open2
  go_wp2_with fail
  refine (wOf_any n HN1.out HN2.out _).mono ?_
  rintro e w4 ⟨rfl, hb4⟩
  clear pae0 pae1 pae2 pae3 pre0 pre1 pre2 pre3
  have hB_4 := hB_3.trans (hb4.mono hB_3.size)
  have pa_3 := pa_2.below hb4
  have pr_2 := pr_1.below hb4
  clear hb4 hB_3 pa_2 pr_1
  obtain ⟨pae0, pae1, pae2, pae3⟩ := pa_3.open2
  obtain ⟨pre0, pre1, pre2, pre3⟩ := pr_2.open2
  go_wp2_with fail
  refine (size_any n _ (inW_int HN1.out HN2.out)).mono ?_
  rintro e w5 ⟨rfl, hb5⟩
  clear pae0 pae1 pae2 pae3 pre0 pre1 pre2 pre3
  have hB_5 := hB_4.trans (hb5.mono hB_4.size)
  have pa_4 := pa_3.below hb5
  have pr_3 := pr_2.below hb5
  clear hb5 hB_4 pa_3 pr_2
  obtain ⟨pae0, pae1, pae2, pae3⟩ := pa_4.open2
  obtain ⟨pre0, pre1, pre2, pre3⟩ := pr_3.open2
  clear pae0 pae1 pae2 pae3 pre0 pre1 pre2 pre3
  have hl1pa := pa_4.lt
  have hl1pr := pr_3.lt
  have hl1B := hB_5.size
  obtain ⟨w6, hw6, ps_0, hb6, hs6⟩ := new_box w5 (w5.heap.size) rfl [.int .u64 ((wh ((x.natAbs : Int)) : Nat) : Int), .int .u64 ((wl ((x.natAbs : Int)) : Nat) : Int)] 24
  have hb6' : Below w5.heap.size w5 w6 := hb6.mono (by omega)
  clear hb6
  have hB_6 := hB_5.trans (hb6'.mono hB_5.size)
  have pa_5 := pa_4.below hb6'
  have pr_4 := pr_3.below hb6'
  clear hb6' hB_5 pa_4 pr_3
  obtain ⟨pae0, pae1, pae2, pae3⟩ := pa_5.open2
  obtain ⟨pre0, pre1, pre2, pre3⟩ := pr_4.open2
  obtain ⟨pse0, pse1, pse2, pse3⟩ := ps_0.open2
  go_wp2_with fail
  refine (M1.out _).mono ?_
  rintro e w7 ⟨rfl, hb7⟩
  clear pae0 pae1 pae2 pae3 pre0 pre1 pre2 pre3 pse0 pse1 pse2 pse3
  have hB_7 := hB_6.trans (hb7.mono hB_6.size)
  have pa_6 := pa_5.below hb7
  have pr_5 := pr_4.below hb7
  have ps_1 := ps_0.below hb7
  clear hb7 hB_6 pa_5 pr_4 ps_0
  obtain ⟨pae0, pae1, pae2, pae3⟩ := pa_6.open2
  obtain ⟨pre0, pre1, pre2, pre3⟩ := pr_5.open2
  obtain ⟨pse0, pse1, pse2, pse3⟩ := ps_1.open2
  go_wp2_with fail
  refine (M2.out _).mono ?_
  rintro e w8 ⟨rfl, hb8⟩
  clear pae0 pae1 pae2 pae3 pre0 pre1 pre2 pre3 pse0 pse1 pse2 pse3
  have hB_8 := hB_7.trans (hb8.mono hB_7.size)
  have pa_7 := pa_6.below hb8
  have pr_6 := pr_5.below hb8
  have ps_2 := ps_1.below hb8
  clear hb8 hB_7 pa_6 pr_5 ps_1
  obtain ⟨pae0, pae1, pae2, pae3⟩ := pa_7.open2
  obtain ⟨pre0, pre1, pre2, pre3⟩ := pr_6.open2
  obtain ⟨pse0, pse1, pse2, pse3⟩ := ps_2.open2
  go_wp2_with fail
  refine (C1.out _).mono ?_
  rintro e w9 ⟨rfl, hb9⟩
  clear pae0 pae1 pae2 pae3 pre0 pre1 pre2 pre3 pse0 pse1 pse2 pse3
  have hB_9 := hB_8.trans (hb9.mono hB_8.size)
  have pa_8 := pa_7.below hb9
  have pr_7 := pr_6.below hb9
  have ps_3 := ps_2.below hb9
  clear hb9 hB_8 pa_7 pr_6 ps_2
  obtain ⟨pae0, pae1, pae2, pae3⟩ := pa_8.open2
  obtain ⟨pre0, pre1, pre2, pre3⟩ := pr_7.open2
  go_wp2_with fail
  refine (wOf_any n HN1.out HN2.out _).mono ?_
  rintro e w10 ⟨rfl, hb10⟩
  clear pae0 pae1 pae2 pae3 pre0 pre1 pre2 pre3
  have hB_10 := hB_9.trans (hb10.mono hB_9.size)
  have pa_9 := pa_8.below hb10
  have pr_8 := pr_7.below hb10
  have ps_4 := ps_3.below hb10
  clear hb10 hB_9 pa_8 pr_7 ps_3
  obtain ⟨pae0, pae1, pae2, pae3⟩ := pa_9.open2
  obtain ⟨pre0, pre1, pre2, pre3⟩ := pr_8.open2
  go_wp2_with fail
  refine (C2.out _).mono ?_
  rintro e w11 ⟨rfl, hb11⟩
  clear pae0 pae1 pae2 pae3 pre0 pre1 pre2 pre3
  have hB_11 := hB_10.trans (hb11.mono hB_10.size)
  have pa_10 := pa_9.below hb11
  have pr_9 := pr_8.below hb11
  have ps_5 := ps_4.below hb11
  clear hb11 hB_10 pa_9 pr_8 ps_4
  obtain ⟨pae0, pae1, pae2, pae3⟩ := pa_10.open2
  obtain ⟨pre0, pre1, pre2, pre3⟩ := pr_9.open2
  clear pae0 pae1 pae2 pae3 pre0 pre1 pre2 pre3
  have hl2pa := pa_10.lt
  have hl2pr := pr_9.lt
  have hl2ps := ps_5.lt
  have hl2B := hB_11.size
  obtain ⟨w12, hw12, pp_0, hb12, hs12⟩ := new_box w11 (w11.heap.size) rfl [.int .u64 ((hi : Nat) : Int), .int .u64 ((lo : Nat) : Int)] 24
  have hb12' : Below w11.heap.size w11 w12 := hb12.mono (by omega)
  clear hb12
  have hB_12 := hB_11.trans (hb12'.mono hB_11.size)
  have pa_11 := pa_10.below hb12'
  have pr_10 := pr_9.below hb12'
  have ps_6 := ps_5.below hb12'
  clear hb12' hB_11 pa_10 pr_9 ps_5
  obtain ⟨ppe0, ppe1, ppe2, ppe3⟩ := pp_0.open2
  obtain ⟨pre0, pre1, pre2, pre3⟩ := pr_10.open2
  go_wp2_with fail
  refine (C4.out _).mono ?_
  rintro e w13 ⟨rfl, hb13⟩
  clear ppe0 ppe1 ppe2 ppe3 pre0 pre1 pre2 pre3
  have hB_13 := hB_12.trans (hb13.mono hB_12.size)
  have pa_12 := pa_11.below hb13
  have pr_11 := pr_10.below hb13
  have ps_7 := ps_6.below hb13
  have pp_1 := pp_0.below hb13
  clear hb13 hB_12 pa_11 pr_10 ps_6 pp_0
  obtain ⟨ppe0, ppe1, ppe2, ppe3⟩ := pp_1.open2
  obtain ⟨pre0, pre1, pre2, pre3⟩ := pr_11.open2
  clear ppe0 ppe1 ppe2 ppe3 pre0 pre1 pre2 pre3
  obtain ⟨sf1a, sf1b, sf1c, sf1d⟩ := pp_1.open2
  obtain ⟨sg1a, sg1b⟩ := Box.put2 pp_1 (.int .u64 ((hi' : Nat) : Int))
  have hB_14 := below_setAll hB_13 (g := w11.heap.size) (by omega) [.int .u64 ((hi' : Nat) : Int), .int .u64 ((lo' : Nat) : Int)]
  have pa_13 := pa_12.farAll (g' := w11.heap.size) (by omega) [.int .u64 ((hi' : Nat) : Int), .int .u64 ((lo' : Nat) : Int)]
  have pr_12 := pr_11.farAll (g' := w11.heap.size) (by omega) [.int .u64 ((hi' : Nat) : Int), .int .u64 ((lo' : Nat) : Int)]
  have ps_8 := ps_7.farAll (g' := w11.heap.size) (by omega) [.int .u64 ((hi' : Nat) : Int), .int .u64 ((lo' : Nat) : Int)]
  have pp_2 := pp_1.setAll [.int .u64 ((hi' : Nat) : Int), .int .u64 ((lo' : Nat) : Int)] rfl
  simp only [setAll, Nat.zero_add] at hB_14 pa_13 pr_12 ps_8 pp_2
  obtain ⟨ppe0, ppe1, ppe2, ppe3⟩ := pp_2.open2
  obtain ⟨pre0, pre1, pre2, pre3⟩ := pr_12.open2
  go_wp2_with fail
  clear sf1a sf1b sf1c sf1d sg1a sg1b hB_13 pa_12 pr_11 ps_7 pp_1
  generalize (World.setCell (World.setCell w13 ⟨w11.heap.size, 0, none⟩ (.int .u64 ((hi' : Nat) : Int))) ⟨w11.heap.size, 1, none⟩ (.int .u64 ((lo' : Nat) : Int))) = w14 at *
  go_wp2_with fail
  refine (C3.out _).mono ?_
  rintro e w15 ⟨rfl, hb15⟩
  clear ppe0 ppe1 ppe2 ppe3 pre0 pre1 pre2 pre3
  have hB_15 := hB_14.trans (hb15.mono hB_14.size)
  have pa_14 := pa_13.below hb15
  have pr_13 := pr_12.below hb15
  have ps_9 := ps_8.below hb15
  have pp_3 := pp_2.below hb15
  clear hb15 hB_14 pa_13 pr_12 ps_8 pp_2
  obtain ⟨ppe0, ppe1, ppe2, ppe3⟩ := pp_3.open2
  obtain ⟨pre0, pre1, pre2, pre3⟩ := pr_13.open2
  obtain ⟨sf2a, sf2b, sf2c, sf2d⟩ := pr_13.open2
  obtain ⟨sg2a, sg2b⟩ := Box.put2 pr_13 (.int .u64 0)
  go_wp2
  clear ppe0 ppe1 ppe2 ppe3 pre0 pre1 pre2 pre3 sf2a sf2b sf2c sf2d sg2a sg2b
  have hB_16 := below_setAll hB_15 (g := w.heap.size + 1) (by omega) [.int .u64 0, .int .u64 0]
  have pa_15 := pa_14.farAll (g' := w.heap.size + 1) (by omega) [.int .u64 0, .int .u64 0]
  have ps_10 := ps_9.farAll (g' := w.heap.size + 1) (by omega) [.int .u64 0, .int .u64 0]
  have pp_4 := pp_3.farAll (g' := w.heap.size + 1) (by omega) [.int .u64 0, .int .u64 0]
  have pr_14 := pr_13.setAll [.int .u64 0, .int .u64 0] rfl
  simp only [setAll, Nat.zero_add] at hB_16 pa_15 pr_14 ps_10 pp_4
  clear hB_15 pa_14 ps_9 pp_3 pr_13
  generalize (World.setCell (World.setCell w15 ⟨w.heap.size + 1, 0, none⟩ (.int .u64 0)) ⟨w.heap.size + 1, 1, none⟩ (.int .u64 0)) = w16 at *
  go_wp2
  obtain ⟨pre0, pre1, pre2, pre3⟩ := pr_14.open2
  exact bodyPost_ret (v := .tuple #[.agg #[.int .u64 0, .int .u64 0], .bool false]) (by simp [results, Try.results20, go_sem, pre0, pre1]) rfl ⟨rfl, hB_16⟩
end Go.Proofs.Ytkigfccbhkcedaa
/- The calls of wide, walked: Times. -/
namespace Go.Proofs.Ytkigfccbhkcedaa
open Go.RowKit Go.MagM
set_option maxHeartbeats 8000000 in
theorem wTimes_w_pp (x n : Int) (hx : InW x) (hn1 : -9223372036854775808 ≤ n) (hn2 : n < 9223372036854775808) (hi lo mid cy : Nat) (m1 : ∀ w, Calls Try.prog 41 #[.int .u64 ((wl ((x.natAbs : Int)) : Nat) : Int), .int .u64 ((wl ((n.natAbs : Int)) : Nat) : Int)] w fun e w' => e = .returned (.tuple #[.int .u64 ((cy : Nat) : Int), .int .u64 ((lo : Nat) : Int)]) ∧ Below w.heap.size w w') (m2 : ∀ w, Calls Try.prog 41 #[.int .u64 ((wh ((x.natAbs : Int)) : Nat) : Int), .int .u64 ((wl ((n.natAbs : Int)) : Nat) : Int)] w fun e w' => e = .returned (.tuple #[.int .u64 0, .int .u64 ((mid : Nat) : Int)]) ∧ Below w.heap.size w w') (hrun : ∀ w, (callFunc 32 #[.int .u64 ((mid : Nat) : Int), .int .u64 ((cy : Nat) : Int), .int .u64 0]).run Try.prog w = .ok (.value (.tuple #[.int .u64 ((hi : Nat) : Int), .int .u64 0])) w) (sx sn : Int) (c1 : ∀ w, Calls Try.prog 26 #[.agg #[.int .u64 ((wh (x) : Nat) : Int), .int .u64 ((wl (x) : Nat) : Int)]] w fun e w' => e = .returned (.int .i64 (sx)) ∧ Below w.heap.size w w') (c2 : ∀ w, Calls Try.prog 26 #[.agg #[.int .u64 ((wh (n) : Nat) : Int), .int .u64 ((wl (n) : Nat) : Int)]] w fun e w' => e = .returned (.int .i64 (sn)) ∧ Below w.heap.size w w') (hside : IntKind.i64.wrap (sx * sn) = 1) (c3 : ∀ w, Calls Try.prog 26 #[.agg #[.int .u64 ((hi : Nat) : Int), .int .u64 ((lo : Nat) : Int)]] w fun e w' => e = .returned (.int .i64 (1)) ∧ Below w.heap.size w w') (w : World) :
    Calls Try.prog 20 #[.agg #[.int .u64 ((wh (x) : Nat) : Int), .int .u64 ((wl (x) : Nat) : Int)], .int .i64 n] w fun e w' => e = .returned (.tuple #[.agg #[.int .u64 ((hi : Nat) : Int), .int .u64 ((lo : Nat) : Int)], .bool true]) ∧ Below w.heap.size w w' := by
  have hB_0 := Below.refl w.heap.size w
  have HX := Lib.hid hx; have HN1 := Lib.hid hn1; have HN2 := Lib.hid hn2; have M1 := Lib.hid m1; have M2 := Lib.hid m2; have C1 := Lib.hid c1; have C2 := Lib.hid c2; have C3 := Lib.hid c3
  clear hx hn1 hn2 m1 m2 c1 c2 c3
  have hfn : ∀ w : World, (Instr.field 24 (.agg #[.int .u64 ((wh ((n.natAbs : Int)) : Nat) : Int), .int .u64 ((wl ((n.natAbs : Int)) : Nat) : Int)]) 1).run Try.prog w = .ok (.int .u64 ((wl ((n.natAbs : Int)) : Nat) : Int)) w := fun _ => by kernel_rfl
  obtain ⟨w1, hw1, pa_0, hb1, hs1⟩ := new_box w (w.heap.size) rfl [.int .u64 ((wh (x) : Nat) : Int), .int .u64 ((wl (x) : Nat) : Int)] 24
  have hb1' : Below w.heap.size w w1 := hb1.mono (by omega)
  clear hb1
  have hB_1 := hB_0.trans (hb1'.mono hB_0.size)
  clear hb1' hB_0
  obtain ⟨w2, hw2, pr_0, hb2, hs2⟩ := new_box w1 (w.heap.size + 1) hs1 [.int .u64 0, .int .u64 0] 24
  have hb2' : Below w1.heap.size w1 w2 := hb2.mono (by omega)
  clear hb2
  have hB_2 := hB_1.trans (hb2'.mono hB_1.size)
  have pa_1 := pa_0.below hb2'
  clear hb2' hB_1 pa_0
  go_enter Try.func20, Try.ntmps20
  obtain ⟨pae0, pae1, pae2, pae3⟩ := pa_1.open2
  obtain ⟨pre0, pre1, pre2, pre3⟩ := pr_0.open2
  go_wp2_with fail
  refine (size_any x _ HX.out).mono ?_
  rintro e w3 ⟨rfl, hb3⟩
  clear pae0 pae1 pae2 pae3 pre0 pre1 pre2 pre3
  have hB_3 := hB_2.trans (hb3.mono hB_2.size)
  have pa_2 := pa_1.below hb3
  have pr_1 := pr_0.below hb3
  clear hb3 hB_2 pa_1 pr_0
  obtain ⟨pae0, pae1, pae2, pae3⟩ := pa_2.open2
  obtain ⟨pre0, pre1, pre2, pre3⟩ := pr_1.open2
  go_wp2_with fail
  refine (wOf_any n HN1.out HN2.out _).mono ?_
  rintro e w4 ⟨rfl, hb4⟩
  clear pae0 pae1 pae2 pae3 pre0 pre1 pre2 pre3
  have hB_4 := hB_3.trans (hb4.mono hB_3.size)
  have pa_3 := pa_2.below hb4
  have pr_2 := pr_1.below hb4
  clear hb4 hB_3 pa_2 pr_1
  obtain ⟨pae0, pae1, pae2, pae3⟩ := pa_3.open2
  obtain ⟨pre0, pre1, pre2, pre3⟩ := pr_2.open2
  go_wp2_with fail
  refine (size_any n _ (inW_int HN1.out HN2.out)).mono ?_
  rintro e w5 ⟨rfl, hb5⟩
  clear pae0 pae1 pae2 pae3 pre0 pre1 pre2 pre3
  have hB_5 := hB_4.trans (hb5.mono hB_4.size)
  have pa_4 := pa_3.below hb5
  have pr_3 := pr_2.below hb5
  clear hb5 hB_4 pa_3 pr_2
  obtain ⟨pae0, pae1, pae2, pae3⟩ := pa_4.open2
  obtain ⟨pre0, pre1, pre2, pre3⟩ := pr_3.open2
  clear pae0 pae1 pae2 pae3 pre0 pre1 pre2 pre3
  have hl1pa := pa_4.lt
  have hl1pr := pr_3.lt
  have hl1B := hB_5.size
  obtain ⟨w6, hw6, ps_0, hb6, hs6⟩ := new_box w5 (w5.heap.size) rfl [.int .u64 ((wh ((x.natAbs : Int)) : Nat) : Int), .int .u64 ((wl ((x.natAbs : Int)) : Nat) : Int)] 24
  have hb6' : Below w5.heap.size w5 w6 := hb6.mono (by omega)
  clear hb6
  have hB_6 := hB_5.trans (hb6'.mono hB_5.size)
  have pa_5 := pa_4.below hb6'
  have pr_4 := pr_3.below hb6'
  clear hb6' hB_5 pa_4 pr_3
  obtain ⟨pae0, pae1, pae2, pae3⟩ := pa_5.open2
  obtain ⟨pre0, pre1, pre2, pre3⟩ := pr_4.open2
  obtain ⟨pse0, pse1, pse2, pse3⟩ := ps_0.open2
  go_wp2_with fail
  refine (M1.out _).mono ?_
  rintro e w7 ⟨rfl, hb7⟩
  clear pae0 pae1 pae2 pae3 pre0 pre1 pre2 pre3 pse0 pse1 pse2 pse3
  have hB_7 := hB_6.trans (hb7.mono hB_6.size)
  have pa_6 := pa_5.below hb7
  have pr_5 := pr_4.below hb7
  have ps_1 := ps_0.below hb7
  clear hb7 hB_6 pa_5 pr_4 ps_0
  obtain ⟨pae0, pae1, pae2, pae3⟩ := pa_6.open2
  obtain ⟨pre0, pre1, pre2, pre3⟩ := pr_5.open2
  obtain ⟨pse0, pse1, pse2, pse3⟩ := ps_1.open2
  go_wp2_with fail
  refine (M2.out _).mono ?_
  rintro e w8 ⟨rfl, hb8⟩
  clear pae0 pae1 pae2 pae3 pre0 pre1 pre2 pre3 pse0 pse1 pse2 pse3
  have hB_8 := hB_7.trans (hb8.mono hB_7.size)
  have pa_7 := pa_6.below hb8
  have pr_6 := pr_5.below hb8
  have ps_2 := ps_1.below hb8
  clear hb8 hB_7 pa_6 pr_5 ps_1
  obtain ⟨pae0, pae1, pae2, pae3⟩ := pa_7.open2
  obtain ⟨pre0, pre1, pre2, pre3⟩ := pr_6.open2
  obtain ⟨pse0, pse1, pse2, pse3⟩ := ps_2.open2
  go_wp2_with fail
  refine (C1.out _).mono ?_
  rintro e w9 ⟨rfl, hb9⟩
  clear pae0 pae1 pae2 pae3 pre0 pre1 pre2 pre3 pse0 pse1 pse2 pse3
  have hB_9 := hB_8.trans (hb9.mono hB_8.size)
  have pa_8 := pa_7.below hb9
  have pr_7 := pr_6.below hb9
  have ps_3 := ps_2.below hb9
  clear hb9 hB_8 pa_7 pr_6 ps_2
  obtain ⟨pae0, pae1, pae2, pae3⟩ := pa_8.open2
  obtain ⟨pre0, pre1, pre2, pre3⟩ := pr_7.open2
  go_wp2_with fail
  refine (wOf_any n HN1.out HN2.out _).mono ?_
  rintro e w10 ⟨rfl, hb10⟩
  clear pae0 pae1 pae2 pae3 pre0 pre1 pre2 pre3
  have hB_10 := hB_9.trans (hb10.mono hB_9.size)
  have pa_9 := pa_8.below hb10
  have pr_8 := pr_7.below hb10
  have ps_4 := ps_3.below hb10
  clear hb10 hB_9 pa_8 pr_7 ps_3
  obtain ⟨pae0, pae1, pae2, pae3⟩ := pa_9.open2
  obtain ⟨pre0, pre1, pre2, pre3⟩ := pr_8.open2
  go_wp2_with fail
  refine (C2.out _).mono ?_
  rintro e w11 ⟨rfl, hb11⟩
  clear pae0 pae1 pae2 pae3 pre0 pre1 pre2 pre3
  have hB_11 := hB_10.trans (hb11.mono hB_10.size)
  have pa_10 := pa_9.below hb11
  have pr_9 := pr_8.below hb11
  have ps_5 := ps_4.below hb11
  clear hb11 hB_10 pa_9 pr_8 ps_4
  obtain ⟨pae0, pae1, pae2, pae3⟩ := pa_10.open2
  obtain ⟨pre0, pre1, pre2, pre3⟩ := pr_9.open2
  clear pae0 pae1 pae2 pae3 pre0 pre1 pre2 pre3
  have hl2pa := pa_10.lt
  have hl2pr := pr_9.lt
  have hl2ps := ps_5.lt
  have hl2B := hB_11.size
  obtain ⟨w12, hw12, pp_0, hb12, hs12⟩ := new_box w11 (w11.heap.size) rfl [.int .u64 ((hi : Nat) : Int), .int .u64 ((lo : Nat) : Int)] 24
  have hb12' : Below w11.heap.size w11 w12 := hb12.mono (by omega)
  clear hb12
  have hB_12 := hB_11.trans (hb12'.mono hB_11.size)
  have pa_11 := pa_10.below hb12'
  have pr_10 := pr_9.below hb12'
  have ps_6 := ps_5.below hb12'
  clear hb12' hB_11 pa_10 pr_9 ps_5
  obtain ⟨ppe0, ppe1, ppe2, ppe3⟩ := pp_0.open2
  obtain ⟨pre0, pre1, pre2, pre3⟩ := pr_10.open2
  go_wp2_with fail
  refine (C3.out _).mono ?_
  rintro e w13 ⟨rfl, hb13⟩
  clear ppe0 ppe1 ppe2 ppe3 pre0 pre1 pre2 pre3
  have hB_13 := hB_12.trans (hb13.mono hB_12.size)
  have pa_12 := pa_11.below hb13
  have pr_11 := pr_10.below hb13
  have ps_7 := ps_6.below hb13
  have pp_1 := pp_0.below hb13
  clear hb13 hB_12 pa_11 pr_10 ps_6 pp_0
  obtain ⟨ppe0, ppe1, ppe2, ppe3⟩ := pp_1.open2
  obtain ⟨pre0, pre1, pre2, pre3⟩ := pr_11.open2
  obtain ⟨sf1a, sf1b, sf1c, sf1d⟩ := pr_11.open2
  obtain ⟨sg1a, sg1b⟩ := Box.put2 pr_11 (.int .u64 ((hi : Nat) : Int))
  go_wp2
  clear ppe0 ppe1 ppe2 ppe3 pre0 pre1 pre2 pre3 sf1a sf1b sf1c sf1d sg1a sg1b
  have hB_14 := below_setAll hB_13 (g := w.heap.size + 1) (by omega) [.int .u64 ((hi : Nat) : Int), .int .u64 ((lo : Nat) : Int)]
  have pa_13 := pa_12.farAll (g' := w.heap.size + 1) (by omega) [.int .u64 ((hi : Nat) : Int), .int .u64 ((lo : Nat) : Int)]
  have ps_8 := ps_7.farAll (g' := w.heap.size + 1) (by omega) [.int .u64 ((hi : Nat) : Int), .int .u64 ((lo : Nat) : Int)]
  have pp_2 := pp_1.farAll (g' := w.heap.size + 1) (by omega) [.int .u64 ((hi : Nat) : Int), .int .u64 ((lo : Nat) : Int)]
  have pr_12 := pr_11.setAll [.int .u64 ((hi : Nat) : Int), .int .u64 ((lo : Nat) : Int)] rfl
  simp only [setAll, Nat.zero_add] at hB_14 pa_13 pr_12 ps_8 pp_2
  clear hB_13 pa_12 ps_7 pp_1 pr_11
  generalize (World.setCell (World.setCell w13 ⟨w.heap.size + 1, 0, none⟩ (.int .u64 ((hi : Nat) : Int))) ⟨w.heap.size + 1, 1, none⟩ (.int .u64 ((lo : Nat) : Int))) = w14 at *
  go_wp2
  obtain ⟨pre0, pre1, pre2, pre3⟩ := pr_12.open2
  exact bodyPost_ret (v := .tuple #[.agg #[.int .u64 ((hi : Nat) : Int), .int .u64 ((lo : Nat) : Int)], .bool true]) (by simp [results, Try.results20, go_sem, pre0, pre1]) rfl ⟨rfl, hB_14⟩
set_option maxHeartbeats 8000000 in
theorem wTimes_w_pn (x n : Int) (hx : InW x) (hn1 : -9223372036854775808 ≤ n) (hn2 : n < 9223372036854775808) (hi lo mid cy : Nat) (m1 : ∀ w, Calls Try.prog 41 #[.int .u64 ((wl ((x.natAbs : Int)) : Nat) : Int), .int .u64 ((wl ((n.natAbs : Int)) : Nat) : Int)] w fun e w' => e = .returned (.tuple #[.int .u64 ((cy : Nat) : Int), .int .u64 ((lo : Nat) : Int)]) ∧ Below w.heap.size w w') (m2 : ∀ w, Calls Try.prog 41 #[.int .u64 ((wh ((x.natAbs : Int)) : Nat) : Int), .int .u64 ((wl ((n.natAbs : Int)) : Nat) : Int)] w fun e w' => e = .returned (.tuple #[.int .u64 0, .int .u64 ((mid : Nat) : Int)]) ∧ Below w.heap.size w w') (hrun : ∀ w, (callFunc 32 #[.int .u64 ((mid : Nat) : Int), .int .u64 ((cy : Nat) : Int), .int .u64 0]).run Try.prog w = .ok (.value (.tuple #[.int .u64 ((hi : Nat) : Int), .int .u64 0])) w) (sx sn : Int) (c1 : ∀ w, Calls Try.prog 26 #[.agg #[.int .u64 ((wh (x) : Nat) : Int), .int .u64 ((wl (x) : Nat) : Int)]] w fun e w' => e = .returned (.int .i64 (sx)) ∧ Below w.heap.size w w') (c2 : ∀ w, Calls Try.prog 26 #[.agg #[.int .u64 ((wh (n) : Nat) : Int), .int .u64 ((wl (n) : Nat) : Int)]] w fun e w' => e = .returned (.int .i64 (sn)) ∧ Below w.heap.size w w') (hside : IntKind.i64.wrap (sx * sn) = 1) (c3 : ∀ w, Calls Try.prog 26 #[.agg #[.int .u64 ((hi : Nat) : Int), .int .u64 ((lo : Nat) : Int)]] w fun e w' => e = .returned (.int .i64 (-1)) ∧ Below w.heap.size w w') (w : World) :
    Calls Try.prog 20 #[.agg #[.int .u64 ((wh (x) : Nat) : Int), .int .u64 ((wl (x) : Nat) : Int)], .int .i64 n] w fun e w' => e = .returned (.tuple #[.agg #[.int .u64 0, .int .u64 0], .bool false]) ∧ Below w.heap.size w w' := by
  have hB_0 := Below.refl w.heap.size w
  have HX := Lib.hid hx; have HN1 := Lib.hid hn1; have HN2 := Lib.hid hn2; have M1 := Lib.hid m1; have M2 := Lib.hid m2; have C1 := Lib.hid c1; have C2 := Lib.hid c2; have C3 := Lib.hid c3
  clear hx hn1 hn2 m1 m2 c1 c2 c3
  have hfn : ∀ w : World, (Instr.field 24 (.agg #[.int .u64 ((wh ((n.natAbs : Int)) : Nat) : Int), .int .u64 ((wl ((n.natAbs : Int)) : Nat) : Int)]) 1).run Try.prog w = .ok (.int .u64 ((wl ((n.natAbs : Int)) : Nat) : Int)) w := fun _ => by kernel_rfl
  obtain ⟨w1, hw1, pa_0, hb1, hs1⟩ := new_box w (w.heap.size) rfl [.int .u64 ((wh (x) : Nat) : Int), .int .u64 ((wl (x) : Nat) : Int)] 24
  have hb1' : Below w.heap.size w w1 := hb1.mono (by omega)
  clear hb1
  have hB_1 := hB_0.trans (hb1'.mono hB_0.size)
  clear hb1' hB_0
  obtain ⟨w2, hw2, pr_0, hb2, hs2⟩ := new_box w1 (w.heap.size + 1) hs1 [.int .u64 0, .int .u64 0] 24
  have hb2' : Below w1.heap.size w1 w2 := hb2.mono (by omega)
  clear hb2
  have hB_2 := hB_1.trans (hb2'.mono hB_1.size)
  have pa_1 := pa_0.below hb2'
  clear hb2' hB_1 pa_0
  go_enter Try.func20, Try.ntmps20
  obtain ⟨pae0, pae1, pae2, pae3⟩ := pa_1.open2
  obtain ⟨pre0, pre1, pre2, pre3⟩ := pr_0.open2
  go_wp2_with fail
  refine (size_any x _ HX.out).mono ?_
  rintro e w3 ⟨rfl, hb3⟩
  clear pae0 pae1 pae2 pae3 pre0 pre1 pre2 pre3
  have hB_3 := hB_2.trans (hb3.mono hB_2.size)
  have pa_2 := pa_1.below hb3
  have pr_1 := pr_0.below hb3
  clear hb3 hB_2 pa_1 pr_0
  obtain ⟨pae0, pae1, pae2, pae3⟩ := pa_2.open2
  obtain ⟨pre0, pre1, pre2, pre3⟩ := pr_1.open2
  go_wp2_with fail
  refine (wOf_any n HN1.out HN2.out _).mono ?_
  rintro e w4 ⟨rfl, hb4⟩
  clear pae0 pae1 pae2 pae3 pre0 pre1 pre2 pre3
  have hB_4 := hB_3.trans (hb4.mono hB_3.size)
  have pa_3 := pa_2.below hb4
  have pr_2 := pr_1.below hb4
  clear hb4 hB_3 pa_2 pr_1
  obtain ⟨pae0, pae1, pae2, pae3⟩ := pa_3.open2
  obtain ⟨pre0, pre1, pre2, pre3⟩ := pr_2.open2
  go_wp2_with fail
  refine (size_any n _ (inW_int HN1.out HN2.out)).mono ?_
  rintro e w5 ⟨rfl, hb5⟩
  clear pae0 pae1 pae2 pae3 pre0 pre1 pre2 pre3
  have hB_5 := hB_4.trans (hb5.mono hB_4.size)
  have pa_4 := pa_3.below hb5
  have pr_3 := pr_2.below hb5
  clear hb5 hB_4 pa_3 pr_2
  obtain ⟨pae0, pae1, pae2, pae3⟩ := pa_4.open2
  obtain ⟨pre0, pre1, pre2, pre3⟩ := pr_3.open2
  clear pae0 pae1 pae2 pae3 pre0 pre1 pre2 pre3
  have hl1pa := pa_4.lt
  have hl1pr := pr_3.lt
  have hl1B := hB_5.size
  obtain ⟨w6, hw6, ps_0, hb6, hs6⟩ := new_box w5 (w5.heap.size) rfl [.int .u64 ((wh ((x.natAbs : Int)) : Nat) : Int), .int .u64 ((wl ((x.natAbs : Int)) : Nat) : Int)] 24
  have hb6' : Below w5.heap.size w5 w6 := hb6.mono (by omega)
  clear hb6
  have hB_6 := hB_5.trans (hb6'.mono hB_5.size)
  have pa_5 := pa_4.below hb6'
  have pr_4 := pr_3.below hb6'
  clear hb6' hB_5 pa_4 pr_3
  obtain ⟨pae0, pae1, pae2, pae3⟩ := pa_5.open2
  obtain ⟨pre0, pre1, pre2, pre3⟩ := pr_4.open2
  obtain ⟨pse0, pse1, pse2, pse3⟩ := ps_0.open2
  go_wp2_with fail
  refine (M1.out _).mono ?_
  rintro e w7 ⟨rfl, hb7⟩
  clear pae0 pae1 pae2 pae3 pre0 pre1 pre2 pre3 pse0 pse1 pse2 pse3
  have hB_7 := hB_6.trans (hb7.mono hB_6.size)
  have pa_6 := pa_5.below hb7
  have pr_5 := pr_4.below hb7
  have ps_1 := ps_0.below hb7
  clear hb7 hB_6 pa_5 pr_4 ps_0
  obtain ⟨pae0, pae1, pae2, pae3⟩ := pa_6.open2
  obtain ⟨pre0, pre1, pre2, pre3⟩ := pr_5.open2
  obtain ⟨pse0, pse1, pse2, pse3⟩ := ps_1.open2
  go_wp2_with fail
  refine (M2.out _).mono ?_
  rintro e w8 ⟨rfl, hb8⟩
  clear pae0 pae1 pae2 pae3 pre0 pre1 pre2 pre3 pse0 pse1 pse2 pse3
  have hB_8 := hB_7.trans (hb8.mono hB_7.size)
  have pa_7 := pa_6.below hb8
  have pr_6 := pr_5.below hb8
  have ps_2 := ps_1.below hb8
  clear hb8 hB_7 pa_6 pr_5 ps_1
  obtain ⟨pae0, pae1, pae2, pae3⟩ := pa_7.open2
  obtain ⟨pre0, pre1, pre2, pre3⟩ := pr_6.open2
  obtain ⟨pse0, pse1, pse2, pse3⟩ := ps_2.open2
  go_wp2_with fail
  refine (C1.out _).mono ?_
  rintro e w9 ⟨rfl, hb9⟩
  clear pae0 pae1 pae2 pae3 pre0 pre1 pre2 pre3 pse0 pse1 pse2 pse3
  have hB_9 := hB_8.trans (hb9.mono hB_8.size)
  have pa_8 := pa_7.below hb9
  have pr_7 := pr_6.below hb9
  have ps_3 := ps_2.below hb9
  clear hb9 hB_8 pa_7 pr_6 ps_2
  obtain ⟨pae0, pae1, pae2, pae3⟩ := pa_8.open2
  obtain ⟨pre0, pre1, pre2, pre3⟩ := pr_7.open2
  go_wp2_with fail
  refine (wOf_any n HN1.out HN2.out _).mono ?_
  rintro e w10 ⟨rfl, hb10⟩
  clear pae0 pae1 pae2 pae3 pre0 pre1 pre2 pre3
  have hB_10 := hB_9.trans (hb10.mono hB_9.size)
  have pa_9 := pa_8.below hb10
  have pr_8 := pr_7.below hb10
  have ps_4 := ps_3.below hb10
  clear hb10 hB_9 pa_8 pr_7 ps_3
  obtain ⟨pae0, pae1, pae2, pae3⟩ := pa_9.open2
  obtain ⟨pre0, pre1, pre2, pre3⟩ := pr_8.open2
  go_wp2_with fail
  refine (C2.out _).mono ?_
  rintro e w11 ⟨rfl, hb11⟩
  clear pae0 pae1 pae2 pae3 pre0 pre1 pre2 pre3
  have hB_11 := hB_10.trans (hb11.mono hB_10.size)
  have pa_10 := pa_9.below hb11
  have pr_9 := pr_8.below hb11
  have ps_5 := ps_4.below hb11
  clear hb11 hB_10 pa_9 pr_8 ps_4
  obtain ⟨pae0, pae1, pae2, pae3⟩ := pa_10.open2
  obtain ⟨pre0, pre1, pre2, pre3⟩ := pr_9.open2
  clear pae0 pae1 pae2 pae3 pre0 pre1 pre2 pre3
  have hl2pa := pa_10.lt
  have hl2pr := pr_9.lt
  have hl2ps := ps_5.lt
  have hl2B := hB_11.size
  obtain ⟨w12, hw12, pp_0, hb12, hs12⟩ := new_box w11 (w11.heap.size) rfl [.int .u64 ((hi : Nat) : Int), .int .u64 ((lo : Nat) : Int)] 24
  have hb12' : Below w11.heap.size w11 w12 := hb12.mono (by omega)
  clear hb12
  have hB_12 := hB_11.trans (hb12'.mono hB_11.size)
  have pa_11 := pa_10.below hb12'
  have pr_10 := pr_9.below hb12'
  have ps_6 := ps_5.below hb12'
  clear hb12' hB_11 pa_10 pr_9 ps_5
  obtain ⟨ppe0, ppe1, ppe2, ppe3⟩ := pp_0.open2
  obtain ⟨pre0, pre1, pre2, pre3⟩ := pr_10.open2
  go_wp2_with fail
  refine (C3.out _).mono ?_
  rintro e w13 ⟨rfl, hb13⟩
  clear ppe0 ppe1 ppe2 ppe3 pre0 pre1 pre2 pre3
  have hB_13 := hB_12.trans (hb13.mono hB_12.size)
  have pa_12 := pa_11.below hb13
  have pr_11 := pr_10.below hb13
  have ps_7 := ps_6.below hb13
  have pp_1 := pp_0.below hb13
  clear hb13 hB_12 pa_11 pr_10 ps_6 pp_0
  obtain ⟨ppe0, ppe1, ppe2, ppe3⟩ := pp_1.open2
  obtain ⟨pre0, pre1, pre2, pre3⟩ := pr_11.open2
  obtain ⟨sf1a, sf1b, sf1c, sf1d⟩ := pr_11.open2
  obtain ⟨sg1a, sg1b⟩ := Box.put2 pr_11 (.int .u64 0)
  go_wp2
  clear ppe0 ppe1 ppe2 ppe3 pre0 pre1 pre2 pre3 sf1a sf1b sf1c sf1d sg1a sg1b
  have hB_14 := below_setAll hB_13 (g := w.heap.size + 1) (by omega) [.int .u64 0, .int .u64 0]
  have pa_13 := pa_12.farAll (g' := w.heap.size + 1) (by omega) [.int .u64 0, .int .u64 0]
  have ps_8 := ps_7.farAll (g' := w.heap.size + 1) (by omega) [.int .u64 0, .int .u64 0]
  have pp_2 := pp_1.farAll (g' := w.heap.size + 1) (by omega) [.int .u64 0, .int .u64 0]
  have pr_12 := pr_11.setAll [.int .u64 0, .int .u64 0] rfl
  simp only [setAll, Nat.zero_add] at hB_14 pa_13 pr_12 ps_8 pp_2
  clear hB_13 pa_12 ps_7 pp_1 pr_11
  generalize (World.setCell (World.setCell w13 ⟨w.heap.size + 1, 0, none⟩ (.int .u64 0)) ⟨w.heap.size + 1, 1, none⟩ (.int .u64 0)) = w14 at *
  go_wp2
  obtain ⟨pre0, pre1, pre2, pre3⟩ := pr_12.open2
  exact bodyPost_ret (v := .tuple #[.agg #[.int .u64 0, .int .u64 0], .bool false]) (by simp [results, Try.results20, go_sem, pre0, pre1]) rfl ⟨rfl, hB_14⟩
end Go.Proofs.Ytkigfccbhkcedaa
/- The calls of wide, walked: Times. -/
namespace Go.Proofs.Ytkigfccbhkcedaa
open Go.RowKit Go.MagM
set_option maxHeartbeats 8000000 in
theorem wTimes_w_zz (x n : Int) (hx : InW x) (hn1 : -9223372036854775808 ≤ n) (hn2 : n < 9223372036854775808) (hi lo mid cy : Nat) (m1 : ∀ w, Calls Try.prog 41 #[.int .u64 ((wl ((x.natAbs : Int)) : Nat) : Int), .int .u64 ((wl ((n.natAbs : Int)) : Nat) : Int)] w fun e w' => e = .returned (.tuple #[.int .u64 ((cy : Nat) : Int), .int .u64 ((lo : Nat) : Int)]) ∧ Below w.heap.size w w') (m2 : ∀ w, Calls Try.prog 41 #[.int .u64 ((wh ((x.natAbs : Int)) : Nat) : Int), .int .u64 ((wl ((n.natAbs : Int)) : Nat) : Int)] w fun e w' => e = .returned (.tuple #[.int .u64 0, .int .u64 ((mid : Nat) : Int)]) ∧ Below w.heap.size w w') (hrun : ∀ w, (callFunc 32 #[.int .u64 ((mid : Nat) : Int), .int .u64 ((cy : Nat) : Int), .int .u64 0]).run Try.prog w = .ok (.value (.tuple #[.int .u64 ((hi : Nat) : Int), .int .u64 0])) w) (sx sn : Int) (c1 : ∀ w, Calls Try.prog 26 #[.agg #[.int .u64 ((wh (x) : Nat) : Int), .int .u64 ((wl (x) : Nat) : Int)]] w fun e w' => e = .returned (.int .i64 (sx)) ∧ Below w.heap.size w w') (c2 : ∀ w, Calls Try.prog 26 #[.agg #[.int .u64 ((wh (n) : Nat) : Int), .int .u64 ((wl (n) : Nat) : Int)]] w fun e w' => e = .returned (.int .i64 (sn)) ∧ Below w.heap.size w w') (hside : IntKind.i64.wrap (sx * sn) = 0) (c3 : ∀ w, Calls Try.prog 26 #[.agg #[.int .u64 ((hi : Nat) : Int), .int .u64 ((lo : Nat) : Int)]] w fun e w' => e = .returned (.int .i64 (0)) ∧ Below w.heap.size w w') (w : World) :
    Calls Try.prog 20 #[.agg #[.int .u64 ((wh (x) : Nat) : Int), .int .u64 ((wl (x) : Nat) : Int)], .int .i64 n] w fun e w' => e = .returned (.tuple #[.agg #[.int .u64 ((hi : Nat) : Int), .int .u64 ((lo : Nat) : Int)], .bool true]) ∧ Below w.heap.size w w' := by
  have hB_0 := Below.refl w.heap.size w
  have HX := Lib.hid hx; have HN1 := Lib.hid hn1; have HN2 := Lib.hid hn2; have M1 := Lib.hid m1; have M2 := Lib.hid m2; have C1 := Lib.hid c1; have C2 := Lib.hid c2; have C3 := Lib.hid c3
  clear hx hn1 hn2 m1 m2 c1 c2 c3
  have hfn : ∀ w : World, (Instr.field 24 (.agg #[.int .u64 ((wh ((n.natAbs : Int)) : Nat) : Int), .int .u64 ((wl ((n.natAbs : Int)) : Nat) : Int)]) 1).run Try.prog w = .ok (.int .u64 ((wl ((n.natAbs : Int)) : Nat) : Int)) w := fun _ => by kernel_rfl
  obtain ⟨w1, hw1, pa_0, hb1, hs1⟩ := new_box w (w.heap.size) rfl [.int .u64 ((wh (x) : Nat) : Int), .int .u64 ((wl (x) : Nat) : Int)] 24
  have hb1' : Below w.heap.size w w1 := hb1.mono (by omega)
  clear hb1
  have hB_1 := hB_0.trans (hb1'.mono hB_0.size)
  clear hb1' hB_0
  obtain ⟨w2, hw2, pr_0, hb2, hs2⟩ := new_box w1 (w.heap.size + 1) hs1 [.int .u64 0, .int .u64 0] 24
  have hb2' : Below w1.heap.size w1 w2 := hb2.mono (by omega)
  clear hb2
  have hB_2 := hB_1.trans (hb2'.mono hB_1.size)
  have pa_1 := pa_0.below hb2'
  clear hb2' hB_1 pa_0
  go_enter Try.func20, Try.ntmps20
  obtain ⟨pae0, pae1, pae2, pae3⟩ := pa_1.open2
  obtain ⟨pre0, pre1, pre2, pre3⟩ := pr_0.open2
  go_wp2_with fail
  refine (size_any x _ HX.out).mono ?_
  rintro e w3 ⟨rfl, hb3⟩
  clear pae0 pae1 pae2 pae3 pre0 pre1 pre2 pre3
  have hB_3 := hB_2.trans (hb3.mono hB_2.size)
  have pa_2 := pa_1.below hb3
  have pr_1 := pr_0.below hb3
  clear hb3 hB_2 pa_1 pr_0
  obtain ⟨pae0, pae1, pae2, pae3⟩ := pa_2.open2
  obtain ⟨pre0, pre1, pre2, pre3⟩ := pr_1.open2
  go_wp2_with fail
  refine (wOf_any n HN1.out HN2.out _).mono ?_
  rintro e w4 ⟨rfl, hb4⟩
  clear pae0 pae1 pae2 pae3 pre0 pre1 pre2 pre3
  have hB_4 := hB_3.trans (hb4.mono hB_3.size)
  have pa_3 := pa_2.below hb4
  have pr_2 := pr_1.below hb4
  clear hb4 hB_3 pa_2 pr_1
  obtain ⟨pae0, pae1, pae2, pae3⟩ := pa_3.open2
  obtain ⟨pre0, pre1, pre2, pre3⟩ := pr_2.open2
  go_wp2_with fail
  refine (size_any n _ (inW_int HN1.out HN2.out)).mono ?_
  rintro e w5 ⟨rfl, hb5⟩
  clear pae0 pae1 pae2 pae3 pre0 pre1 pre2 pre3
  have hB_5 := hB_4.trans (hb5.mono hB_4.size)
  have pa_4 := pa_3.below hb5
  have pr_3 := pr_2.below hb5
  clear hb5 hB_4 pa_3 pr_2
  obtain ⟨pae0, pae1, pae2, pae3⟩ := pa_4.open2
  obtain ⟨pre0, pre1, pre2, pre3⟩ := pr_3.open2
  clear pae0 pae1 pae2 pae3 pre0 pre1 pre2 pre3
  have hl1pa := pa_4.lt
  have hl1pr := pr_3.lt
  have hl1B := hB_5.size
  obtain ⟨w6, hw6, ps_0, hb6, hs6⟩ := new_box w5 (w5.heap.size) rfl [.int .u64 ((wh ((x.natAbs : Int)) : Nat) : Int), .int .u64 ((wl ((x.natAbs : Int)) : Nat) : Int)] 24
  have hb6' : Below w5.heap.size w5 w6 := hb6.mono (by omega)
  clear hb6
  have hB_6 := hB_5.trans (hb6'.mono hB_5.size)
  have pa_5 := pa_4.below hb6'
  have pr_4 := pr_3.below hb6'
  clear hb6' hB_5 pa_4 pr_3
  obtain ⟨pae0, pae1, pae2, pae3⟩ := pa_5.open2
  obtain ⟨pre0, pre1, pre2, pre3⟩ := pr_4.open2
  obtain ⟨pse0, pse1, pse2, pse3⟩ := ps_0.open2
  go_wp2_with fail
  refine (M1.out _).mono ?_
  rintro e w7 ⟨rfl, hb7⟩
  clear pae0 pae1 pae2 pae3 pre0 pre1 pre2 pre3 pse0 pse1 pse2 pse3
  have hB_7 := hB_6.trans (hb7.mono hB_6.size)
  have pa_6 := pa_5.below hb7
  have pr_5 := pr_4.below hb7
  have ps_1 := ps_0.below hb7
  clear hb7 hB_6 pa_5 pr_4 ps_0
  obtain ⟨pae0, pae1, pae2, pae3⟩ := pa_6.open2
  obtain ⟨pre0, pre1, pre2, pre3⟩ := pr_5.open2
  obtain ⟨pse0, pse1, pse2, pse3⟩ := ps_1.open2
  go_wp2_with fail
  refine (M2.out _).mono ?_
  rintro e w8 ⟨rfl, hb8⟩
  clear pae0 pae1 pae2 pae3 pre0 pre1 pre2 pre3 pse0 pse1 pse2 pse3
  have hB_8 := hB_7.trans (hb8.mono hB_7.size)
  have pa_7 := pa_6.below hb8
  have pr_6 := pr_5.below hb8
  have ps_2 := ps_1.below hb8
  clear hb8 hB_7 pa_6 pr_5 ps_1
  obtain ⟨pae0, pae1, pae2, pae3⟩ := pa_7.open2
  obtain ⟨pre0, pre1, pre2, pre3⟩ := pr_6.open2
  obtain ⟨pse0, pse1, pse2, pse3⟩ := ps_2.open2
  go_wp2_with fail
  refine (C1.out _).mono ?_
  rintro e w9 ⟨rfl, hb9⟩
  clear pae0 pae1 pae2 pae3 pre0 pre1 pre2 pre3 pse0 pse1 pse2 pse3
  have hB_9 := hB_8.trans (hb9.mono hB_8.size)
  have pa_8 := pa_7.below hb9
  have pr_7 := pr_6.below hb9
  have ps_3 := ps_2.below hb9
  clear hb9 hB_8 pa_7 pr_6 ps_2
  obtain ⟨pae0, pae1, pae2, pae3⟩ := pa_8.open2
  obtain ⟨pre0, pre1, pre2, pre3⟩ := pr_7.open2
  go_wp2_with fail
  refine (wOf_any n HN1.out HN2.out _).mono ?_
  rintro e w10 ⟨rfl, hb10⟩
  clear pae0 pae1 pae2 pae3 pre0 pre1 pre2 pre3
  have hB_10 := hB_9.trans (hb10.mono hB_9.size)
  have pa_9 := pa_8.below hb10
  have pr_8 := pr_7.below hb10
  have ps_4 := ps_3.below hb10
  clear hb10 hB_9 pa_8 pr_7 ps_3
  obtain ⟨pae0, pae1, pae2, pae3⟩ := pa_9.open2
  obtain ⟨pre0, pre1, pre2, pre3⟩ := pr_8.open2
  go_wp2_with fail
  refine (C2.out _).mono ?_
  rintro e w11 ⟨rfl, hb11⟩
  clear pae0 pae1 pae2 pae3 pre0 pre1 pre2 pre3
  have hB_11 := hB_10.trans (hb11.mono hB_10.size)
  have pa_10 := pa_9.below hb11
  have pr_9 := pr_8.below hb11
  have ps_5 := ps_4.below hb11
  clear hb11 hB_10 pa_9 pr_8 ps_4
  obtain ⟨pae0, pae1, pae2, pae3⟩ := pa_10.open2
  obtain ⟨pre0, pre1, pre2, pre3⟩ := pr_9.open2
  clear pae0 pae1 pae2 pae3 pre0 pre1 pre2 pre3
  have hl2pa := pa_10.lt
  have hl2pr := pr_9.lt
  have hl2ps := ps_5.lt
  have hl2B := hB_11.size
  obtain ⟨w12, hw12, pp_0, hb12, hs12⟩ := new_box w11 (w11.heap.size) rfl [.int .u64 ((hi : Nat) : Int), .int .u64 ((lo : Nat) : Int)] 24
  have hb12' : Below w11.heap.size w11 w12 := hb12.mono (by omega)
  clear hb12
  have hB_12 := hB_11.trans (hb12'.mono hB_11.size)
  have pa_11 := pa_10.below hb12'
  have pr_10 := pr_9.below hb12'
  have ps_6 := ps_5.below hb12'
  clear hb12' hB_11 pa_10 pr_9 ps_5
  obtain ⟨ppe0, ppe1, ppe2, ppe3⟩ := pp_0.open2
  obtain ⟨pre0, pre1, pre2, pre3⟩ := pr_10.open2
  go_wp2_with fail
  refine (C3.out _).mono ?_
  rintro e w13 ⟨rfl, hb13⟩
  clear ppe0 ppe1 ppe2 ppe3 pre0 pre1 pre2 pre3
  have hB_13 := hB_12.trans (hb13.mono hB_12.size)
  have pa_12 := pa_11.below hb13
  have pr_11 := pr_10.below hb13
  have ps_7 := ps_6.below hb13
  have pp_1 := pp_0.below hb13
  clear hb13 hB_12 pa_11 pr_10 ps_6 pp_0
  obtain ⟨ppe0, ppe1, ppe2, ppe3⟩ := pp_1.open2
  obtain ⟨pre0, pre1, pre2, pre3⟩ := pr_11.open2
  obtain ⟨sf1a, sf1b, sf1c, sf1d⟩ := pr_11.open2
  obtain ⟨sg1a, sg1b⟩ := Box.put2 pr_11 (.int .u64 ((hi : Nat) : Int))
  go_wp2
  clear ppe0 ppe1 ppe2 ppe3 pre0 pre1 pre2 pre3 sf1a sf1b sf1c sf1d sg1a sg1b
  have hB_14 := below_setAll hB_13 (g := w.heap.size + 1) (by omega) [.int .u64 ((hi : Nat) : Int), .int .u64 ((lo : Nat) : Int)]
  have pa_13 := pa_12.farAll (g' := w.heap.size + 1) (by omega) [.int .u64 ((hi : Nat) : Int), .int .u64 ((lo : Nat) : Int)]
  have ps_8 := ps_7.farAll (g' := w.heap.size + 1) (by omega) [.int .u64 ((hi : Nat) : Int), .int .u64 ((lo : Nat) : Int)]
  have pp_2 := pp_1.farAll (g' := w.heap.size + 1) (by omega) [.int .u64 ((hi : Nat) : Int), .int .u64 ((lo : Nat) : Int)]
  have pr_12 := pr_11.setAll [.int .u64 ((hi : Nat) : Int), .int .u64 ((lo : Nat) : Int)] rfl
  simp only [setAll, Nat.zero_add] at hB_14 pa_13 pr_12 ps_8 pp_2
  clear hB_13 pa_12 ps_7 pp_1 pr_11
  generalize (World.setCell (World.setCell w13 ⟨w.heap.size + 1, 0, none⟩ (.int .u64 ((hi : Nat) : Int))) ⟨w.heap.size + 1, 1, none⟩ (.int .u64 ((lo : Nat) : Int))) = w14 at *
  go_wp2
  obtain ⟨pre0, pre1, pre2, pre3⟩ := pr_12.open2
  exact bodyPost_ret (v := .tuple #[.agg #[.int .u64 ((hi : Nat) : Int), .int .u64 ((lo : Nat) : Int)], .bool true]) (by simp [results, Try.results20, go_sem, pre0, pre1]) rfl ⟨rfl, hB_14⟩
end Go.Proofs.Ytkigfccbhkcedaa
/- The calls of wide: Times. -/
namespace Go.Proofs.Ytkigfccbhkcedaa
open Go.RowKit Go.MagM
theorem sg_is {z : Int} {r : Int} (h : (wrapW z).sign = r) : ∀ w, Calls Try.prog 26 #[.agg #[.int .u64 ((wh (z) : Nat) : Int), .int .u64 ((wl (z) : Nat) : Int)]] w fun e w' => e = .returned (.int .i64 r) ∧ Below w.heap.size w w' := by
  intro w; subst h; exact wSign_all z w
theorem side_wrap (x y : Int) : IntKind.i64.wrap (x.sign * y.sign) = x.sign * y.sign := by
  rcases Int.lt_trichotomy x 0 with h | h | h <;> rcases Int.lt_trichotomy y 0 with k | k | k <;>
    simp [h, k, Int.sign_eq_neg_one_of_neg, Int.sign_eq_one_of_pos, IntKind.wrap_i64]
theorem add64_zero (mid cy hi more : Nat) (h1 : (mid + cy + 0) % B = hi) (h2 : (mid + cy + 0) / B = more) :
    ∀ w, (callFunc 32 #[.int .u64 ((mid : Nat) : Int), .int .u64 ((cy : Nat) : Int), .int .u64 0]).run Try.prog w = .ok (.value (.tuple #[.int .u64 ((hi : Nat) : Int), .int .u64 ((more : Nat) : Int)])) w := by
  intro w; subst h1; subst h2; exact add64_run mid cy 0 (by omega) w
theorem wTimes_any (x n : Int) (hx : InW x) (hn1 : -9223372036854775808 ≤ n) (hn2 : n < 9223372036854775808) (w : World) :
    Calls Try.prog 20 #[.agg #[.int .u64 ((wh (x) : Nat) : Int), .int .u64 ((wl (x) : Nat) : Int)], .int .i64 n] w fun e w' => AnsWB w w' e (fitW (x * n)) (decide (InW (x * n))) := by
  obtain ⟨en, ln⟩ := w_abs_int hn1 hn2
  have hsz := w_size hx
  have hhB := wh_lt (x.natAbs : Int); have hlB := wl_lt (x.natAbs : Int)
  have hP : ((x * n).natAbs : Int) = (x.natAbs : Int) * (n.natAbs : Int) := by rw [Int.natAbs_mul, Int.natCast_mul]
  have mul_n : ∀ a : Nat, ∀ c : Nat, c < B → wl (n.natAbs : Int) < B → ∃ H L : Nat, H < B ∧ L < B ∧ H * B + L = c * wl (n.natAbs : Int) ∧ (∀ w, Calls Try.prog 41 #[.int .u64 ((c : Nat) : Int), .int .u64 ((wl (n.natAbs : Int) : Nat) : Int)] w fun e w' => e = .returned (.tuple #[.int .u64 ((H : Nat) : Int), .int .u64 ((L : Nat) : Int)]) ∧ Below w.heap.size w w') := by
    intro _ c hc hn
    refine ⟨_, _, Nat.div_lt_of_lt_mul (Nat.mul_lt_mul'' hc hn), mod_lt _, ?_, fun w => mul64_is c _ _ _ w hc hn rfl rfl⟩
    have := Nat.div_add_mod (c * wl (n.natAbs : Int)) B; rw [Nat.mul_comm] at this; exact this
  obtain ⟨cy, lo, hcy, hlo, e1, m1⟩ := mul_n 0 _ hlB (wl_lt _)
  obtain ⟨ov, mid, hov, hmid, e2, m2⟩ := mul_n 0 _ hhB (wl_lt _)
  clear mul_n
  rw [en] at e1 e2
  have hr0 := add64_zero mid cy _ _ rfl rfl
  have hmore : (mid + cy + 0) / B ≤ 1 := by simp only [B_eq] at *; omega
  have hhi : (mid + cy + 0) % B < B := mod_lt _
  have hsum : (mid + cy + 0) / B * B + (mid + cy + 0) % B = mid + cy := by have := Nat.div_add_mod (mid + cy + 0) B; rw [Nat.mul_comm] at this; omega
  generalize (mid + cy + 0) / B = more at *
  generalize (mid + cy + 0) % B = hi at *
  have hv : ((x * n).natAbs : Int) = (ov : Int) * 340282366920938463463374607431768211456 + (more : Int) * 340282366920938463463374607431768211456 + (hi : Int) * 18446744073709551616 + (lo : Int) := by
    rw [hP, ← hsz, Int.add_mul, Int.mul_right_comm]
    have a1 : ((wl (x.natAbs : Int) : Nat) : Int) * (n.natAbs : Int) = ((cy * B + lo : Nat) : Int) := by rw [e1, Int.natCast_mul]
    have a2 : ((wh (x.natAbs : Int) : Nat) : Int) * (n.natAbs : Int) = ((ov * B + mid : Nat) : Int) := by rw [e2, Int.natCast_mul]
    rw [a1, a2]
    simp only [B_eq] at *
    omega
  have hzero : ∀ m : Nat, m = 0 → (Value.int IntKind.u64 ((m : Nat) : Int)) = .int .u64 0 := by rintro _ rfl; rfl
  by_cases h0 : ov = 0
  · rw [hzero ov h0] at m2
    subst h0
    by_cases h1 : more = 0
    · rw [hzero more h1] at hr0
      subst h1
      obtain ⟨P, hPe⟩ : ∃ P : Int, P = ((x * n).natAbs : Int) := ⟨_, rfl⟩
      rw [← hPe] at hv
      obtain ⟨q1, q2⟩ := w_of (z := P) hhi hlo 0 (by omega)
      have cs1 := sg_is (z := x) (r := x.sign) (by rw [wrapW_self hx])
      have cs2 := sg_is (z := n) (r := n.sign) (by rw [wrapW_self (inW_int hn1 hn2)])
      have hsd : IntKind.i64.wrap (x.sign * n.sign) = (x * n).sign := by rw [Int.sign_mul]; exact side_wrap x n
      have hPlt : P < 340282366920938463463374607431768211456 := by simp only [B_eq] at *; omega
      rcases Int.lt_trichotomy (x * n) 0 with c | c | c
      · have hPn : x * n = -P := by omega
        rw [Int.sign_eq_neg_one_of_neg c] at hsd
        have hac := fun w => across_any P w
        rw [← q1, ← q2] at hac
        by_cases hin : InW (x * n)
        · have c3 := sg_is (z := -P) (r := -1) (by rw [← hPn, wrapW_self hin]; exact Int.sign_eq_neg_one_of_neg c)
          refine (wTimes_w_nn x n hx hn1 hn2 hi lo mid cy m1 m2 hr0 _ _ cs1 cs2 hsd _ _ hac c3 w).mono fun e w' h => ?_
          rw [← hPn] at h
          exact answb_yes hin h
        · have c3 := sg_is (z := -P) (r := 1) (by apply Int.sign_eq_one_of_pos; unfold wrapW; unfold InW at hin; omega)
          exact (wTimes_w_np x n hx hn1 hn2 hi lo mid cy m1 m2 hr0 _ _ cs1 cs2 hsd _ _ hac c3 w).mono fun e w' h => answb_no hin h
      · have hin : InW (x * n) := by rw [c]; unfold InW; omega
        have hP0 : P = 0 := by omega
        have c3 := sg_is (z := P) (r := 0) (by rw [hP0]; rfl)
        rw [c, Int.sign_zero] at hsd
        rw [← q1, ← q2] at c3
        refine (wTimes_w_zz x n hx hn1 hn2 hi lo mid cy m1 m2 hr0 _ _ cs1 cs2 hsd c3 w).mono fun e w' h => ?_
        rw [q1, q2, hP0, ← c] at h
        exact answb_yes hin h
      · have hPp : x * n = P := by omega
        rw [Int.sign_eq_one_of_pos c] at hsd
        by_cases hin : InW (x * n)
        · have c3 := sg_is (z := P) (r := 1) (by rw [← hPp, wrapW_self hin]; exact Int.sign_eq_one_of_pos c)
          rw [← q1, ← q2] at c3
          refine (wTimes_w_pp x n hx hn1 hn2 hi lo mid cy m1 m2 hr0 _ _ cs1 cs2 hsd c3 w).mono fun e w' h => ?_
          rw [q1, q2, ← hPp] at h
          exact answb_yes hin h
        · have c3 := sg_is (z := P) (r := -1) (by apply Int.sign_eq_neg_one_of_neg; unfold wrapW; unfold InW at hin; omega)
          rw [← q1, ← q2] at c3
          exact (wTimes_w_pn x n hx hn1 hn2 hi lo mid cy m1 m2 hr0 _ _ cs1 cs2 hsd c3 w).mono fun e w' h => answb_no hin h
    · have hin : ¬ InW (x * n) := by unfold InW; omega
      exact (wTimes_w_more x n hx hn1 hn2 hi lo mid cy more m1 m2 hr0 h1 w).mono fun e w' h => answb_no hin h
  · have hin : ¬ InW (x * n) := by unfold InW; omega
    exact (wTimes_w_over x n hx hn1 hn2 hi lo mid cy ov more m1 m2 hr0 h0 w).mono fun e w' h => answb_no hin h
end Go.Proofs.Ytkigfccbhkcedaa
/- The document's small determinant. -/
namespace Go.Proofs.Ytkigfccbhkcedaa
open Go.RowKit Go.MagM
theorem wCmp_is (x y c : Int) (hx : InW x) (hy : InW y) (h : icmp x y = c) (w : World) : Calls Try.prog 25 #[.agg #[.int .u64 ((wh (x) : Nat) : Int), .int .u64 ((wl (x) : Nat) : Int)], .agg #[.int .u64 ((wh (y) : Nat) : Int), .int .u64 ((wl (y) : Nat) : Int)]] w fun e w' => e = .returned (.int .i64 c) ∧ Below w.heap.size w w' := by
  subst h; exact wCmp_any x y hx hy w
set_option maxHeartbeats 4000000 in
theorem wfit_any (w : World) :
    Calls Try.prog 8 #[] w fun e w' => e = .returned (.bool true) ∧ Below w.heap.size w w' := by
  have hB_0 := Below.refl w.heap.size w
  have d1 : ∀ w, Calls Try.prog 28 #[.int .i64 1, .int .i64 2, .int .i64 3, .int .i64 4] w fun e w' => AnsW w w' e (-2) := fun w => wDet_any 1 2 3 4 (by omega) (by omega) (by omega) (by omega) (by omega) (by omega) (by omega) (by omega) w
  have D1 := Lib.hid d1; clear d1
  go_enter Try.func8, Try.ntmps8
  go_wp2_with fail
  refine (D1.out _).mono ?_
  rintro e w1 ⟨rfl, hb1⟩
  have hB_1 := hB_0.trans (hb1.mono hB_0.size)
  clear hb1 hB_0
  have hl1B := hB_1.size
  obtain ⟨w2, hw2, pd_0, hb2, hs2⟩ := new_box w1 (w1.heap.size) rfl [.int .u64 ((wh (-2) : Nat) : Int), .int .u64 ((wl (-2) : Nat) : Int)] 24
  have hb2' : Below w1.heap.size w1 w2 := hb2.mono (by omega)
  clear hb2
  have hB_2 := hB_1.trans (hb2'.mono hB_1.size)
  clear hb2' hB_1
  obtain ⟨pde0, pde1, pde2, pde3⟩ := pd_0.open2
  go_wp2
  clear pde0 pde1 pde2 pde3
  have hB_3 := hB_2.drew'
  have pd_1 := pd_0.drew
  clear hB_2 pd_0
  go_region_held3 (fun w' => w'.cell? ⟨w1.heap.size, 0, none⟩ = some (.int .u64 ((wh (-2) : Nat) : Int)) ∧ w'.cell? ⟨w1.heap.size, 1, none⟩ = some (.int .u64 ((wl (-2) : Nat) : Int)))
    (first | with_reducible exact ⟨pd_1.c0, pd_1.c1⟩ | with_reducible exact ⟨pd_2.c0, pd_2.c1⟩ | with_reducible exact ⟨pd_3.c0, pd_3.c1⟩ | with_reducible exact ⟨pd_4.c0, pd_4.c1⟩ | with_reducible exact ⟨pd_5.c0, pd_5.c1⟩ | with_reducible exact ⟨pd_6.c0, pd_6.c1⟩ | with_reducible exact ⟨pd_7.c0, pd_7.c1⟩ | fail)
    (first
      | (go_at_call 26; (with_reducible refine (sg_is (z := -2) (r := -1) rfl _).mono ?_); rintro e w3 ⟨rfl, hb3⟩; have hB_4 := hB_3.trans (hb3.mono hB_3.size); have pd_2 := pd_1.below hb3; clear hb3 hB_3 pd_1)
      | (go_at_call 9; (with_reducible refine (wNum_any (-2) (by unfold InW; omega) _).mono ?_); rintro e w4 ⟨m1, o1, n1, c1, rfl, f1_0, hb4⟩; have hB_5 := hB_4.trans (hb4.mono hB_4.size); have pd_3 := pd_2.below hb4; clear hb4 hB_4 pd_2)
      | (go_at_call 23; (with_reducible refine (nOf_any (-2) (by omega) (by omega) _).mono ?_); rintro e w5 ⟨m2, o2, n2, c2, rfl, f2_0, hb5⟩; have hB_6 := hB_5.trans (hb5.mono hB_5.size); have pd_4 := pd_3.below hb5; have f1_1 := f1_0.below hb5; clear hb5 hB_5 pd_3 f1_0)
      | (go_at_call 21; (with_reducible refine (wnCmp_is _ _ 2 1 (-2) (-2) 0 _ (by omega) (by omega) f1_1.num f2_0.num rfl).mono ?_); rintro e w6 ⟨rfl, hb6⟩; have hB_7 := hB_6.trans (hb6.mono hB_6.size); have pd_5 := pd_4.below hb6; have f1_2 := f1_1.below hb6; have f2_1 := f2_0.below hb6; clear hb6 hB_6 pd_4 f1_1 f2_0)
      | (go_at_call 24; (with_reducible refine (wOf_any (-2) (by omega) (by omega) _).mono ?_); rintro e w7 ⟨rfl, hb7⟩; have hB_8 := hB_7.trans (hb7.mono hB_7.size); have pd_6 := pd_5.below hb7; have f1_3 := f1_2.below hb7; have f2_2 := f2_1.below hb7; clear hb7 hB_7 pd_5 f1_2 f2_1)
      | (go_at_call 25; (with_reducible refine (wCmp_is (-2) (-2) 0 (by unfold InW; omega) (by unfold InW; omega) rfl _).mono ?_); rintro e w8 ⟨rfl, hb8⟩; have hB_9 := hB_8.trans (hb8.mono hB_8.size); have pd_7 := pd_6.below hb8; have f1_4 := f1_3.below hb8; have f2_3 := f2_2.below hb8; clear hb8 hB_8 pd_6 f1_3 f2_2))
  go_wp2
  go_ret
  exact ⟨rfl, hB_9⟩
end Go.Proofs.Ytkigfccbhkcedaa
/- The statement WideCmps, walked. -/
namespace Go.Proofs.Ytkigfccbhkcedaa
open Go.RowKit Go.MagM
set_option maxRecDepth 100000 in
set_option maxHeartbeats 16000000 in
theorem WideCmps_w_same (ah al : Nat) (x y s : Int) (cx : ∀ w, Calls Try.prog 9 #[.agg #[.int .u64 ((ah : Nat) : Int), .int .u64 ((al : Nat) : Int)]] w fun e w' => AnsNum w w' e 2 x) (cy : ∀ w, Calls Try.prog 9 #[.agg #[.int .u64 ((ah : Nat) : Int), .int .u64 ((al : Nat) : Int)]] w fun e w' => AnsNum w w' e 2 y) (cc : ∀ w, Calls Try.prog 25 #[.agg #[.int .u64 ((ah : Nat) : Int), .int .u64 ((al : Nat) : Int)], .agg #[.int .u64 ((ah : Nat) : Int), .int .u64 ((al : Nat) : Int)]] w fun e w' => e = .returned (.int .i64 0) ∧ Below w.heap.size w w') (cs : ∀ w, Calls Try.prog 26 #[.agg #[.int .u64 ((ah : Nat) : Int), .int .u64 ((al : Nat) : Int)]] w fun e w' => e = .returned (.int .i64 s) ∧ Below w.heap.size w w') (hic : icmp x y = 0) (his : x.sign = s) (w : World) :
    Calls Try.prog 5 #[.agg #[.int .u64 ((ah : Nat) : Int), .int .u64 ((al : Nat) : Int)], .agg #[.int .u64 ((ah : Nat) : Int), .int .u64 ((al : Nat) : Int)]] w fun e w' => e = .returned (.bool true) ∧ Below w.heap.size w w' := by
  have hB_0 := Below.refl w.heap.size w
  have CX := Lib.hid cx; have CY := Lib.hid cy; have CC := Lib.hid cc; have CS := Lib.hid cs; have HIC := Lib.hid hic; have HIS := Lib.hid his
  clear cx cy cc cs hic his
  obtain ⟨w1, hw1, pa_0, hb1, hs1⟩ := new_box w (w.heap.size) rfl [.int .u64 ((ah : Nat) : Int), .int .u64 ((al : Nat) : Int)] 24
  have hb1' : Below w.heap.size w w1 := hb1.mono (by omega)
  clear hb1
  have hB_1 := hB_0.trans (hb1'.mono hB_0.size)
  clear hb1' hB_0
  obtain ⟨w2, hw2, pb_0, hb2, hs2⟩ := new_box w1 (w.heap.size + 1) hs1 [.int .u64 ((ah : Nat) : Int), .int .u64 ((al : Nat) : Int)] 24
  have hb2' : Below w1.heap.size w1 w2 := hb2.mono (by omega)
  clear hb2
  have hB_2 := hB_1.trans (hb2'.mono hB_1.size)
  have pa_1 := pa_0.below hb2'
  clear hb2' hB_1 pa_0
  go_enter Try.func5, Try.ntmps5
  obtain ⟨pae0, pae1, pae2, pae3⟩ := pa_1.open2
  obtain ⟨pbe0, pbe1, pbe2, pbe3⟩ := pb_0.open2
  go_wp2_with fail
  refine (wfit_any _).mono ?_
  rintro e w3 ⟨rfl, hb3⟩
  clear pae0 pae1 pae2 pae3 pbe0 pbe1 pbe2 pbe3
  have hB_3 := hB_2.trans (hb3.mono hB_2.size)
  have pa_2 := pa_1.below hb3
  have pb_1 := pb_0.below hb3
  clear hb3 hB_2 pa_1 pb_0
  obtain ⟨pae0, pae1, pae2, pae3⟩ := pa_2.open2
  obtain ⟨pbe0, pbe1, pbe2, pbe3⟩ := pb_1.open2
  go_wp2
  clear pae0 pae1 pae2 pae3 pbe0 pbe1 pbe2 pbe3
  have hWq_0 := Below.refl w3.heap.size w3
  have hsq : w.heap.size ≤ w3.heap.size := hB_3.size
  have hlqpa := pa_2.lt
  have hlqpb := pb_1.lt
  have hB_4 := hB_3.drew'
  have pa_3 := pa_2.drew
  have pb_2 := pb_1.drew
  have hWq_1 := hWq_0.drew'
  clear hB_3 pa_2 pb_1 hWq_0
  refine wp_region_noPanic ?_
  refine wp_region_held_drew (S := fun w' => w'.cell? ⟨w.heap.size, 0, none⟩ = some (.int .u64 ((ah : Nat) : Int)) ∧ w'.cell? ⟨w.heap.size, 1, none⟩ = some (.int .u64 ((al : Nat) : Int)) ∧ w'.cell? ⟨w.heap.size + 1, 0, none⟩ = some (.int .u64 ((ah : Nat) : Int)) ∧ w'.cell? ⟨w.heap.size + 1, 1, none⟩ = some (.int .u64 ((al : Nat) : Int))) (by kernel_rfl) (⟨pa_3.c0, pa_3.c1, pb_2.c0, pb_2.c1⟩) (fun hHeld => ?_)
  refine reg_take 0 ?_ ?_ ?_ (by kernel_rfl) (by kernel_rfl) (by kernel_rfl) (fun _ _ _ h => h) ?_ ?_ (by assumption) ?_
  rotate_left 2
  · simp only [List.getElem?_toArray, List.getElem?_cons_zero]; exact rfl
  · rfl
  · intro w hSw; (try dsimp only at hSw); go_simp; try with_reducible rfl
  try simp only [Act.put]
  try simp only [List.setIfInBounds_toArray, List.set_cons_zero, List.set_cons_succ]
  refine reg_take 2 ?_ ?_ ?_ (by kernel_rfl) (by kernel_rfl) (by kernel_rfl) (fun _ _ _ h => h) ?_ ?_ (by assumption) ?_
  rotate_left 2
  · simp only [List.getElem?_toArray, List.getElem?_cons_succ, List.getElem?_cons_zero]; exact rfl
  · rfl
  · intro w hSw; (try dsimp only at hSw); go_simp; try with_reducible rfl
  try simp only [Act.put]
  try simp only [List.setIfInBounds_toArray, List.set_cons_zero, List.set_cons_succ]
  refine reg_grab (fun WWq aq hWW hAA => ?_)
  have HWq := Lib.hid hWW; have HAq := Lib.hid hAA; clear hWW hAA hHeld
  have stq_2tt : ∀ (w' : World) (m1 : Bool) (o1 : Option Addr) (n1 : Nat) (c1 : Nat) (m2 : Bool) (o2 : Option Addr) (n2 : Nat) (c2 : Nat) (gpx : Nat) (gpy : Nat), Below w.heap.size w w' → Box w' (w.heap.size) [.int .u64 ((ah : Nat) : Int), .int .u64 ((al : Nat) : Int)] → Box w' (w.heap.size + 1) [.int .u64 ((ah : Nat) : Int), .int .u64 ((al : Nat) : Int)] → Below w3.heap.size w3 w' → RNum w' (.agg #[.bool m1, .slice o1 n1 c1]) (2) (x) → RNum w' (.agg #[.bool m2, .slice o2 n2 c2]) (2) (y) → Box w' gpx [.bool false, .slice none 0 0] → Box w' gpy [.bool false, .slice none 0 0] → w3.heap.size ≤ gpx → w3.heap.size ≤ gpy → gpx ≠ gpy → WWq 2 #[true, true, true, true, true, true, false, false] ((((aq.put (some 10) (.agg #[.bool m1, .slice o1 n1 c1])).put (some 12) (.agg #[.bool m2, .slice o2 n2 c2])).put (some 5) (.pointer (some ⟨gpx, 0, none⟩))).put (some 6) (.pointer (some ⟨gpy, 0, none⟩))) w' := by
    intro w4 m1 o1 n1 c1 m2 o2 n2 c2 gpx gpy hB_0 pa_0 pb_0 hWq_0 f1_0 f2_0 px_0 py_0 hgpx hgpy hnpxpy
    rw [HWq.out, HAq.out]
    try simp only [Act.put]
    try simp only [List.setIfInBounds_toArray, List.set_cons_zero, List.set_cons_succ]
    clear hWq_0
    obtain ⟨sf1a, sf1b, sf1c, sf1d⟩ := px_0.open2
    obtain ⟨sg1a, sg1b⟩ := Box.put2 px_0 (.bool m1)
    refine reg_call 6 ?_ (by kernel_rfl) ?_ (fun K hK => ?_)
    rotate_left 1
    · simp only [List.getElem?_toArray, List.getElem?_cons_succ, List.getElem?_cons_zero]; exact rfl
    go_simp
    have hB_1 := below_setAll hB_0 (g := gpx) (by omega) [.bool m1, .slice o1 n1 c1]
    have pa_1 := pa_0.farAll (g' := gpx) (by omega) [.bool m1, .slice o1 n1 c1]
    have pb_1 := pb_0.farAll (g' := gpx) (by omega) [.bool m1, .slice o1 n1 c1]
    have f1_1 := f1_0.setAll px_0 (noWord2 _ _ _ _) [.bool m1, .slice o1 n1 c1] rfl
    have f2_1 := f2_0.setAll px_0 (noWord2 _ _ _ _) [.bool m1, .slice o1 n1 c1] rfl
    have py_1 := py_0.farAll (g' := gpx) (by omega) [.bool m1, .slice o1 n1 c1]
    have px_1 := px_0.setAll [.bool m1, .slice o1 n1 c1] rfl
    simp only [setAll, Nat.zero_add] at hB_1 pa_1 pb_1 f1_1 f2_1 px_1 py_1
    clear sf1a sf1b sf1c sf1d sg1a sg1b
    clear hB_0 pa_0 pb_0 f1_0 f2_0 py_0 px_0
    refine hK.out _ _ ⟨pa_1.c0, pa_1.c1, pb_1.c0, pb_1.c1⟩ (fun hHeld => ?_)
    clear hK K
    try simp only [Act.put]
    try simp only [List.setIfInBounds_toArray, List.set_cons_zero, List.set_cons_succ]
    generalize (World.setCell (World.setCell w4 ⟨gpx, 0, none⟩ (.bool m1)) ⟨gpx, 1, none⟩ (.slice o1 n1 c1)) = w5 at *
    obtain ⟨sf2a, sf2b, sf2c, sf2d⟩ := py_1.open2
    obtain ⟨sg2a, sg2b⟩ := Box.put2 py_1 (.bool m2)
    refine reg_call 7 ?_ (by kernel_rfl) ?_ (fun K hK => ?_)
    rotate_left 1
    · simp only [List.getElem?_toArray, List.getElem?_cons_succ, List.getElem?_cons_zero]; exact rfl
    go_simp
    have hB_2 := below_setAll hB_1 (g := gpy) (by omega) [.bool m2, .slice o2 n2 c2]
    have pa_2 := pa_1.farAll (g' := gpy) (by omega) [.bool m2, .slice o2 n2 c2]
    have pb_2 := pb_1.farAll (g' := gpy) (by omega) [.bool m2, .slice o2 n2 c2]
    have f1_2 := f1_1.setAll py_1 (noWord2 _ _ _ _) [.bool m2, .slice o2 n2 c2] rfl
    have f2_2 := f2_1.setAll py_1 (noWord2 _ _ _ _) [.bool m2, .slice o2 n2 c2] rfl
    have px_2 := px_1.farAll (g' := gpy) (by omega) [.bool m2, .slice o2 n2 c2]
    have py_2 := py_1.setAll [.bool m2, .slice o2 n2 c2] rfl
    simp only [setAll, Nat.zero_add] at hB_2 pa_2 pb_2 f1_2 f2_2 px_2 py_2
    clear sf2a sf2b sf2c sf2d sg2a sg2b
    clear hB_1 pa_1 pb_1 f1_1 f2_1 px_1 py_1
    refine hK.out _ _ ⟨pa_2.c0, pa_2.c1, pb_2.c0, pb_2.c1⟩ (fun hHeld => ?_)
    clear hK K
    try simp only [Act.put]
    try simp only [List.setIfInBounds_toArray, List.set_cons_zero, List.set_cons_succ]
    generalize (World.setCell (World.setCell w5 ⟨gpy, 0, none⟩ (.bool m2)) ⟨gpy, 1, none⟩ (.slice o2 n2 c2)) = w6 at *
    refine wpAnyH_done (by kernel_rfl) ?_ _
    refine NoPanic.normal ?_
    go_wp2
    have hB_3 := hB_2.drew'
    have pa_3 := pa_2.drew
    have pb_3 := pb_2.drew
    have f1_3 := f1_2.drew
    have f2_3 := f2_2.drew
    have px_3 := px_2.drew
    have py_3 := py_2.drew
    clear hB_2 pa_2 pb_2 f1_2 f2_2 px_2 py_2
    go_region_held3 (fun w' => w'.cell? ⟨w.heap.size, 0, none⟩ = some (.int .u64 ((ah : Nat) : Int)) ∧ w'.cell? ⟨w.heap.size, 1, none⟩ = some (.int .u64 ((al : Nat) : Int)) ∧ w'.cell? ⟨w.heap.size + 1, 0, none⟩ = some (.int .u64 ((ah : Nat) : Int)) ∧ w'.cell? ⟨w.heap.size + 1, 1, none⟩ = some (.int .u64 ((al : Nat) : Int)) ∧ w'.cell? ⟨gpx, 0, none⟩ = some (.bool m1) ∧ w'.cell? ⟨gpx, 1, none⟩ = some (.slice o1 n1 c1) ∧ w'.cell? ⟨gpy, 0, none⟩ = some (.bool m2) ∧ w'.cell? ⟨gpy, 1, none⟩ = some (.slice o2 n2 c2))
      (first | with_reducible exact ⟨pa_3.c0, pa_3.c1, pb_3.c0, pb_3.c1, px_3.c0, px_3.c1, py_3.c0, py_3.c1⟩ | with_reducible exact ⟨pa_4.c0, pa_4.c1, pb_4.c0, pb_4.c1, px_4.c0, px_4.c1, py_4.c0, py_4.c1⟩ | with_reducible exact ⟨pa_5.c0, pa_5.c1, pb_5.c0, pb_5.c1, px_5.c0, px_5.c1, py_5.c0, py_5.c1⟩ | with_reducible exact ⟨pa_6.c0, pa_6.c1, pb_6.c0, pb_6.c1, px_6.c0, px_6.c1, py_6.c0, py_6.c1⟩ | with_reducible exact ⟨pa_7.c0, pa_7.c1, pb_7.c0, pb_7.c1, px_7.c0, px_7.c1, py_7.c0, py_7.c1⟩ | with_reducible exact ⟨pa_8.c0, pa_8.c1, pb_8.c0, pb_8.c1, px_8.c0, px_8.c1, py_8.c0, py_8.c1⟩ | fail)
      (first
        | (go_at_call 25; (with_reducible refine (CC.out _).mono ?_); rintro e w7 ⟨rfl, hb7⟩; have hB_4 := hB_3.trans (hb7.mono hB_3.size); have pa_4 := pa_3.below hb7; have pb_4 := pb_3.below hb7; have f1_4 := f1_3.below hb7; have f2_4 := f2_3.below hb7; have px_4 := px_3.below hb7; have py_4 := py_3.below hb7; clear hb7 hB_3 pa_3 pb_3 f1_3 f2_3 px_3 py_3)
        | (go_at_call 21; (with_reducible refine (wnCmp_is _ _ 2 2 x y 0 _ (by omega) (by omega) f1_4.num f2_4.num HIC.out).mono ?_); rintro e w8 ⟨rfl, hb8⟩; have hB_5 := hB_4.trans (hb8.mono hB_4.size); have pa_5 := pa_4.below hb8; have pb_5 := pb_4.below hb8; have f1_5 := f1_4.below hb8; have f2_5 := f2_4.below hb8; have px_5 := px_4.below hb8; have py_5 := py_4.below hb8; clear hb8 hB_4 pa_4 pb_4 f1_4 f2_4 px_4 py_4)
        | (go_at_call 26; (with_reducible refine (CS.out _).mono ?_); rintro e w9 ⟨rfl, hb9⟩; have hB_6 := hB_5.trans (hb9.mono hB_5.size); have pa_6 := pa_5.below hb9; have pb_6 := pb_5.below hb9; have f1_6 := f1_5.below hb9; have f2_6 := f2_5.below hb9; have px_6 := px_5.below hb9; have py_6 := py_5.below hb9; clear hb9 hB_5 pa_5 pb_5 f1_5 f2_5 px_5 py_5)
        | (go_at_call 27; (with_reducible refine (wnSign_is _ 2 x s _ (by omega) f1_6.num HIS.out).mono ?_); rintro e w10 ⟨rfl, hb10⟩; have hB_7 := hB_6.trans (hb10.mono hB_6.size); have pa_7 := pa_6.below hb10; have pb_7 := pb_6.below hb10; have f1_7 := f1_6.below hb10; have f2_7 := f2_6.below hb10; have px_7 := px_6.below hb10; have py_7 := py_6.below hb10; clear hb10 hB_6 pa_6 pb_6 f1_6 f2_6 px_6 py_6)
        | (go_at_call 25; (with_reducible refine (CC.out _).mono ?_); rintro e w11 ⟨rfl, hb11⟩; have hB_8 := hB_7.trans (hb11.mono hB_7.size); have pa_8 := pa_7.below hb11; have pb_8 := pb_7.below hb11; have f1_8 := f1_7.below hb11; have f2_8 := f2_7.below hb11; have px_8 := px_7.below hb11; have py_8 := py_7.below hb11; clear hb11 hB_7 pa_7 pb_7 f1_7 f2_7 px_7 py_7))
    all_goals (try go_wp2)
    all_goals (go_ret; exact ⟨rfl, by assumption⟩)
  simp only [HAq.out, Act.put, List.setIfInBounds_toArray, List.set_cons_zero, List.set_cons_succ] at stq_2tt
  have stq_2tf : ∀ (w' : World) (m1 : Bool) (o1 : Option Addr) (n1 : Nat) (c1 : Nat) (m2 : Bool) (o2 : Option Addr) (n2 : Nat) (c2 : Nat) (gpx : Nat), Below w.heap.size w w' → Box w' (w.heap.size) [.int .u64 ((ah : Nat) : Int), .int .u64 ((al : Nat) : Int)] → Box w' (w.heap.size + 1) [.int .u64 ((ah : Nat) : Int), .int .u64 ((al : Nat) : Int)] → Below w3.heap.size w3 w' → RNum w' (.agg #[.bool m1, .slice o1 n1 c1]) (2) (x) → RNum w' (.agg #[.bool m2, .slice o2 n2 c2]) (2) (y) → Box w' gpx [.bool false, .slice none 0 0] → w3.heap.size ≤ gpx → WWq 3 #[true, true, true, true, true, false, false, false] (((aq.put (some 10) (.agg #[.bool m1, .slice o1 n1 c1])).put (some 12) (.agg #[.bool m2, .slice o2 n2 c2])).put (some 5) (.pointer (some ⟨gpx, 0, none⟩))) w' := by
    intro w12 m1 o1 n1 c1 m2 o2 n2 c2 gpx hB_0 pa_0 pb_0 hWq_0 f1_0 f2_0 px_0 hgpx
    rw [HWq.out, HAq.out]
    try simp only [Act.put]
    try simp only [List.setIfInBounds_toArray, List.set_cons_zero, List.set_cons_succ]
    refine reg_all1 5 ?_ (by kernel_rfl) ?_ (fun K hK => ?_)
    rotate_left 1
    · simp only [List.getElem?_toArray, List.getElem?_cons_succ, List.getElem?_cons_zero]; exact rfl
    · go_simp
      have hgn : w3.heap.size ≤ w12.heap.size := hWq_0.size
      have hlpx := px_0.lt
      obtain ⟨w13, hww13, py_0, hb13, -⟩ := new_box w12 _ rfl [.bool false, .slice none 0 0] 29
      rw [hww13]
      have hB_1 := hB_0.trans (hb13.mono hB_0.size)
      have pa_1 := pa_0.below hb13
      have pb_1 := pb_0.below hb13
      have hWq_1 := hWq_0.trans (hb13.mono hWq_0.size)
      have f1_1 := f1_0.below hb13
      have f2_1 := f2_0.below hb13
      have px_1 := px_0.below hb13
      clear hb13 hB_0 pa_0 pb_0 hWq_0 f1_0 f2_0 px_0
      refine hK.out _ _ ⟨pa_1.c0, pa_1.c1, pb_1.c0, pb_1.c1⟩ (fun hHeld => ?_)
      clear hK K
      try simp only [Act.put]
      try simp only [List.setIfInBounds_toArray, List.set_cons_zero, List.set_cons_succ]
      rw [← HWq.out]
      exact stq_2tt _ m1 o1 n1 c1 m2 o2 n2 c2 gpx w12.heap.size hB_1 pa_1 pb_1 hWq_1 f1_1 f2_1 px_1 py_0 (by omega) (by omega) (by omega)
  try simp only [HAq.out, Act.put, List.setIfInBounds_toArray, List.set_cons_zero, List.set_cons_succ] at stq_2tf
  have stq_2ft : ∀ (w' : World) (m1 : Bool) (o1 : Option Addr) (n1 : Nat) (c1 : Nat) (m2 : Bool) (o2 : Option Addr) (n2 : Nat) (c2 : Nat) (gpy : Nat), Below w.heap.size w w' → Box w' (w.heap.size) [.int .u64 ((ah : Nat) : Int), .int .u64 ((al : Nat) : Int)] → Box w' (w.heap.size + 1) [.int .u64 ((ah : Nat) : Int), .int .u64 ((al : Nat) : Int)] → Below w3.heap.size w3 w' → RNum w' (.agg #[.bool m1, .slice o1 n1 c1]) (2) (x) → RNum w' (.agg #[.bool m2, .slice o2 n2 c2]) (2) (y) → Box w' gpy [.bool false, .slice none 0 0] → w3.heap.size ≤ gpy → WWq 3 #[true, true, true, true, false, true, false, false] (((aq.put (some 10) (.agg #[.bool m1, .slice o1 n1 c1])).put (some 12) (.agg #[.bool m2, .slice o2 n2 c2])).put (some 6) (.pointer (some ⟨gpy, 0, none⟩))) w' := by
    intro w14 m1 o1 n1 c1 m2 o2 n2 c2 gpy hB_0 pa_0 pb_0 hWq_0 f1_0 f2_0 py_0 hgpy
    rw [HWq.out, HAq.out]
    try simp only [Act.put]
    try simp only [List.setIfInBounds_toArray, List.set_cons_zero, List.set_cons_succ]
    refine reg_all1 4 ?_ (by kernel_rfl) ?_ (fun K hK => ?_)
    rotate_left 1
    · simp only [List.getElem?_toArray, List.getElem?_cons_succ, List.getElem?_cons_zero]; exact rfl
    · go_simp
      have hgn : w3.heap.size ≤ w14.heap.size := hWq_0.size
      have hlpy := py_0.lt
      obtain ⟨w15, hww15, px_0, hb15, -⟩ := new_box w14 _ rfl [.bool false, .slice none 0 0] 29
      rw [hww15]
      have hB_1 := hB_0.trans (hb15.mono hB_0.size)
      have pa_1 := pa_0.below hb15
      have pb_1 := pb_0.below hb15
      have hWq_1 := hWq_0.trans (hb15.mono hWq_0.size)
      have f1_1 := f1_0.below hb15
      have f2_1 := f2_0.below hb15
      have py_1 := py_0.below hb15
      clear hb15 hB_0 pa_0 pb_0 hWq_0 f1_0 f2_0 py_0
      refine hK.out _ _ ⟨pa_1.c0, pa_1.c1, pb_1.c0, pb_1.c1⟩ (fun hHeld => ?_)
      clear hK K
      try simp only [Act.put]
      try simp only [List.setIfInBounds_toArray, List.set_cons_zero, List.set_cons_succ]
      rw [← HWq.out]
      exact stq_2tt _ m1 o1 n1 c1 m2 o2 n2 c2 w14.heap.size gpy hB_1 pa_1 pb_1 hWq_1 f1_1 f2_1 px_0 py_1 (by omega) (by omega) (by omega)
  try simp only [HAq.out, Act.put, List.setIfInBounds_toArray, List.set_cons_zero, List.set_cons_succ] at stq_2ft
  have stq_1tt : ∀ (w' : World) (m1 : Bool) (o1 : Option Addr) (n1 : Nat) (c1 : Nat) (gpx : Nat) (gpy : Nat), Below w.heap.size w w' → Box w' (w.heap.size) [.int .u64 ((ah : Nat) : Int), .int .u64 ((al : Nat) : Int)] → Box w' (w.heap.size + 1) [.int .u64 ((ah : Nat) : Int), .int .u64 ((al : Nat) : Int)] → Below w3.heap.size w3 w' → RNum w' (.agg #[.bool m1, .slice o1 n1 c1]) (2) (x) → Box w' gpx [.bool false, .slice none 0 0] → Box w' gpy [.bool false, .slice none 0 0] → w3.heap.size ≤ gpx → w3.heap.size ≤ gpy → gpx ≠ gpy → WWq 3 #[true, true, true, false, true, true, false, false] (((aq.put (some 10) (.agg #[.bool m1, .slice o1 n1 c1])).put (some 5) (.pointer (some ⟨gpx, 0, none⟩))).put (some 6) (.pointer (some ⟨gpy, 0, none⟩))) w' := by
    intro w16 m1 o1 n1 c1 gpx gpy hB_0 pa_0 pb_0 hWq_0 f1_0 px_0 py_0 hgpx hgpy hnpxpy
    rw [HWq.out, HAq.out]
    try simp only [Act.put]
    try simp only [List.setIfInBounds_toArray, List.set_cons_zero, List.set_cons_succ]
    refine reg_all1 3 ?_ (by kernel_rfl) ?_ (fun K hK => ?_)
    rotate_left 1
    · simp only [List.getElem?_toArray, List.getElem?_cons_succ, List.getElem?_cons_zero]; exact rfl
    · go_simp
      refine (CY.out _).mono ?_
      rintro e w17 ⟨m2, o2, n2, c2, rfl, f2_0, hb17⟩
      have hB_1 := hB_0.trans (hb17.mono hB_0.size)
      have pa_1 := pa_0.below hb17
      have pb_1 := pb_0.below hb17
      have hWq_1 := hWq_0.trans (hb17.mono hWq_0.size)
      have f1_1 := f1_0.below hb17
      have px_1 := px_0.below hb17
      have py_1 := py_0.below hb17
      clear hb17 hB_0 pa_0 pb_0 hWq_0 f1_0 px_0 py_0
      go_wp2_with fail
      refine hK.out _ _ ⟨pa_1.c0, pa_1.c1, pb_1.c0, pb_1.c1⟩ (fun hHeld => ?_)
      clear hK K
      try simp only [Act.put]
      try simp only [List.setIfInBounds_toArray, List.set_cons_zero, List.set_cons_succ]
      rw [← HWq.out]
      exact stq_2tt _ m1 o1 n1 c1 m2 o2 n2 c2 gpx gpy hB_1 pa_1 pb_1 hWq_1 f1_1 f2_0 px_1 py_1 (by omega) (by omega) (by omega)
  try simp only [HAq.out, Act.put, List.setIfInBounds_toArray, List.set_cons_zero, List.set_cons_succ] at stq_1tt
  have stq_2ff : ∀ (w' : World) (m1 : Bool) (o1 : Option Addr) (n1 : Nat) (c1 : Nat) (m2 : Bool) (o2 : Option Addr) (n2 : Nat) (c2 : Nat), Below w.heap.size w w' → Box w' (w.heap.size) [.int .u64 ((ah : Nat) : Int), .int .u64 ((al : Nat) : Int)] → Box w' (w.heap.size + 1) [.int .u64 ((ah : Nat) : Int), .int .u64 ((al : Nat) : Int)] → Below w3.heap.size w3 w' → RNum w' (.agg #[.bool m1, .slice o1 n1 c1]) (2) (x) → RNum w' (.agg #[.bool m2, .slice o2 n2 c2]) (2) (y) → WWq 4 #[true, true, true, true, false, false, false, false] ((aq.put (some 10) (.agg #[.bool m1, .slice o1 n1 c1])).put (some 12) (.agg #[.bool m2, .slice o2 n2 c2])) w' := by
    intro w18 m1 o1 n1 c1 m2 o2 n2 c2 hB_0 pa_0 pb_0 hWq_0 f1_0 f2_0
    rw [HWq.out, HAq.out]
    try simp only [Act.put]
    try simp only [List.setIfInBounds_toArray, List.set_cons_zero, List.set_cons_succ]
    refine reg_all2 4 5 ?_ ?_ (by kernel_rfl) ?_ ?_ (fun K hK => ?_) (fun K hK => ?_)
    rotate_left 2
    · simp only [List.getElem?_toArray, List.getElem?_cons_succ, List.getElem?_cons_zero]; exact rfl
    · simp only [List.getElem?_toArray, List.getElem?_cons_succ, List.getElem?_cons_zero]; exact rfl
    · go_simp
      have hgn : w3.heap.size ≤ w18.heap.size := hWq_0.size
      obtain ⟨w19, hww19, px_0, hb19, -⟩ := new_box w18 _ rfl [.bool false, .slice none 0 0] 29
      rw [hww19]
      have hB_1 := hB_0.trans (hb19.mono hB_0.size)
      have pa_1 := pa_0.below hb19
      have pb_1 := pb_0.below hb19
      have hWq_1 := hWq_0.trans (hb19.mono hWq_0.size)
      have f1_1 := f1_0.below hb19
      have f2_1 := f2_0.below hb19
      clear hb19 hB_0 pa_0 pb_0 hWq_0 f1_0 f2_0
      refine hK.out _ _ ⟨pa_1.c0, pa_1.c1, pb_1.c0, pb_1.c1⟩ (fun hHeld => ?_)
      clear hK K
      try simp only [Act.put]
      try simp only [List.setIfInBounds_toArray, List.set_cons_zero, List.set_cons_succ]
      rw [← HWq.out]
      exact stq_2tf _ m1 o1 n1 c1 m2 o2 n2 c2 w18.heap.size hB_1 pa_1 pb_1 hWq_1 f1_1 f2_1 px_0 (by omega)
    · go_simp
      have hgn : w3.heap.size ≤ w18.heap.size := hWq_0.size
      obtain ⟨w20, hww20, py_0, hb20, -⟩ := new_box w18 _ rfl [.bool false, .slice none 0 0] 29
      rw [hww20]
      have hB_1 := hB_0.trans (hb20.mono hB_0.size)
      have pa_1 := pa_0.below hb20
      have pb_1 := pb_0.below hb20
      have hWq_1 := hWq_0.trans (hb20.mono hWq_0.size)
      have f1_1 := f1_0.below hb20
      have f2_1 := f2_0.below hb20
      clear hb20 hB_0 pa_0 pb_0 hWq_0 f1_0 f2_0
      refine hK.out _ _ ⟨pa_1.c0, pa_1.c1, pb_1.c0, pb_1.c1⟩ (fun hHeld => ?_)
      clear hK K
      try simp only [Act.put]
      try simp only [List.setIfInBounds_toArray, List.set_cons_zero, List.set_cons_succ]
      rw [← HWq.out]
      exact stq_2ft _ m1 o1 n1 c1 m2 o2 n2 c2 w18.heap.size hB_1 pa_1 pb_1 hWq_1 f1_1 f2_1 py_0 (by omega)
  try simp only [HAq.out, Act.put, List.setIfInBounds_toArray, List.set_cons_zero, List.set_cons_succ] at stq_2ff
  have stq_1tf : ∀ (w' : World) (m1 : Bool) (o1 : Option Addr) (n1 : Nat) (c1 : Nat) (gpx : Nat), Below w.heap.size w w' → Box w' (w.heap.size) [.int .u64 ((ah : Nat) : Int), .int .u64 ((al : Nat) : Int)] → Box w' (w.heap.size + 1) [.int .u64 ((ah : Nat) : Int), .int .u64 ((al : Nat) : Int)] → Below w3.heap.size w3 w' → RNum w' (.agg #[.bool m1, .slice o1 n1 c1]) (2) (x) → Box w' gpx [.bool false, .slice none 0 0] → w3.heap.size ≤ gpx → WWq 4 #[true, true, true, false, true, false, false, false] ((aq.put (some 10) (.agg #[.bool m1, .slice o1 n1 c1])).put (some 5) (.pointer (some ⟨gpx, 0, none⟩))) w' := by
    intro w21 m1 o1 n1 c1 gpx hB_0 pa_0 pb_0 hWq_0 f1_0 px_0 hgpx
    rw [HWq.out, HAq.out]
    try simp only [Act.put]
    try simp only [List.setIfInBounds_toArray, List.set_cons_zero, List.set_cons_succ]
    refine reg_all2 3 5 ?_ ?_ (by kernel_rfl) ?_ ?_ (fun K hK => ?_) (fun K hK => ?_)
    rotate_left 2
    · simp only [List.getElem?_toArray, List.getElem?_cons_succ, List.getElem?_cons_zero]; exact rfl
    · simp only [List.getElem?_toArray, List.getElem?_cons_succ, List.getElem?_cons_zero]; exact rfl
    · go_simp
      refine (CY.out _).mono ?_
      rintro e w22 ⟨m2, o2, n2, c2, rfl, f2_0, hb22⟩
      have hB_1 := hB_0.trans (hb22.mono hB_0.size)
      have pa_1 := pa_0.below hb22
      have pb_1 := pb_0.below hb22
      have hWq_1 := hWq_0.trans (hb22.mono hWq_0.size)
      have f1_1 := f1_0.below hb22
      have px_1 := px_0.below hb22
      clear hb22 hB_0 pa_0 pb_0 hWq_0 f1_0 px_0
      go_wp2_with fail
      refine hK.out _ _ ⟨pa_1.c0, pa_1.c1, pb_1.c0, pb_1.c1⟩ (fun hHeld => ?_)
      clear hK K
      try simp only [Act.put]
      try simp only [List.setIfInBounds_toArray, List.set_cons_zero, List.set_cons_succ]
      rw [← HWq.out]
      exact stq_2tf _ m1 o1 n1 c1 m2 o2 n2 c2 gpx hB_1 pa_1 pb_1 hWq_1 f1_1 f2_0 px_1 (by omega)
    · go_simp
      have hgn : w3.heap.size ≤ w21.heap.size := hWq_0.size
      have hlpx := px_0.lt
      obtain ⟨w23, hww23, py_0, hb23, -⟩ := new_box w21 _ rfl [.bool false, .slice none 0 0] 29
      rw [hww23]
      have hB_1 := hB_0.trans (hb23.mono hB_0.size)
      have pa_1 := pa_0.below hb23
      have pb_1 := pb_0.below hb23
      have hWq_1 := hWq_0.trans (hb23.mono hWq_0.size)
      have f1_1 := f1_0.below hb23
      have px_1 := px_0.below hb23
      clear hb23 hB_0 pa_0 pb_0 hWq_0 f1_0 px_0
      refine hK.out _ _ ⟨pa_1.c0, pa_1.c1, pb_1.c0, pb_1.c1⟩ (fun hHeld => ?_)
      clear hK K
      try simp only [Act.put]
      try simp only [List.setIfInBounds_toArray, List.set_cons_zero, List.set_cons_succ]
      rw [← HWq.out]
      exact stq_1tt _ m1 o1 n1 c1 gpx w21.heap.size hB_1 pa_1 pb_1 hWq_1 f1_1 px_1 py_0 (by omega) (by omega) (by omega)
  try simp only [HAq.out, Act.put, List.setIfInBounds_toArray, List.set_cons_zero, List.set_cons_succ] at stq_1tf
  have stq_1ft : ∀ (w' : World) (m1 : Bool) (o1 : Option Addr) (n1 : Nat) (c1 : Nat) (gpy : Nat), Below w.heap.size w w' → Box w' (w.heap.size) [.int .u64 ((ah : Nat) : Int), .int .u64 ((al : Nat) : Int)] → Box w' (w.heap.size + 1) [.int .u64 ((ah : Nat) : Int), .int .u64 ((al : Nat) : Int)] → Below w3.heap.size w3 w' → RNum w' (.agg #[.bool m1, .slice o1 n1 c1]) (2) (x) → Box w' gpy [.bool false, .slice none 0 0] → w3.heap.size ≤ gpy → WWq 4 #[true, true, true, false, false, true, false, false] ((aq.put (some 10) (.agg #[.bool m1, .slice o1 n1 c1])).put (some 6) (.pointer (some ⟨gpy, 0, none⟩))) w' := by
    intro w24 m1 o1 n1 c1 gpy hB_0 pa_0 pb_0 hWq_0 f1_0 py_0 hgpy
    rw [HWq.out, HAq.out]
    try simp only [Act.put]
    try simp only [List.setIfInBounds_toArray, List.set_cons_zero, List.set_cons_succ]
    refine reg_all2 3 4 ?_ ?_ (by kernel_rfl) ?_ ?_ (fun K hK => ?_) (fun K hK => ?_)
    rotate_left 2
    · simp only [List.getElem?_toArray, List.getElem?_cons_succ, List.getElem?_cons_zero]; exact rfl
    · simp only [List.getElem?_toArray, List.getElem?_cons_succ, List.getElem?_cons_zero]; exact rfl
    · go_simp
      refine (CY.out _).mono ?_
      rintro e w25 ⟨m2, o2, n2, c2, rfl, f2_0, hb25⟩
      have hB_1 := hB_0.trans (hb25.mono hB_0.size)
      have pa_1 := pa_0.below hb25
      have pb_1 := pb_0.below hb25
      have hWq_1 := hWq_0.trans (hb25.mono hWq_0.size)
      have f1_1 := f1_0.below hb25
      have py_1 := py_0.below hb25
      clear hb25 hB_0 pa_0 pb_0 hWq_0 f1_0 py_0
      go_wp2_with fail
      refine hK.out _ _ ⟨pa_1.c0, pa_1.c1, pb_1.c0, pb_1.c1⟩ (fun hHeld => ?_)
      clear hK K
      try simp only [Act.put]
      try simp only [List.setIfInBounds_toArray, List.set_cons_zero, List.set_cons_succ]
      rw [← HWq.out]
      exact stq_2ft _ m1 o1 n1 c1 m2 o2 n2 c2 gpy hB_1 pa_1 pb_1 hWq_1 f1_1 f2_0 py_1 (by omega)
    · go_simp
      have hgn : w3.heap.size ≤ w24.heap.size := hWq_0.size
      have hlpy := py_0.lt
      obtain ⟨w26, hww26, px_0, hb26, -⟩ := new_box w24 _ rfl [.bool false, .slice none 0 0] 29
      rw [hww26]
      have hB_1 := hB_0.trans (hb26.mono hB_0.size)
      have pa_1 := pa_0.below hb26
      have pb_1 := pb_0.below hb26
      have hWq_1 := hWq_0.trans (hb26.mono hWq_0.size)
      have f1_1 := f1_0.below hb26
      have py_1 := py_0.below hb26
      clear hb26 hB_0 pa_0 pb_0 hWq_0 f1_0 py_0
      refine hK.out _ _ ⟨pa_1.c0, pa_1.c1, pb_1.c0, pb_1.c1⟩ (fun hHeld => ?_)
      clear hK K
      try simp only [Act.put]
      try simp only [List.setIfInBounds_toArray, List.set_cons_zero, List.set_cons_succ]
      rw [← HWq.out]
      exact stq_1tt _ m1 o1 n1 c1 w24.heap.size gpy hB_1 pa_1 pb_1 hWq_1 f1_1 px_0 py_1 (by omega) (by omega) (by omega)
  try simp only [HAq.out, Act.put, List.setIfInBounds_toArray, List.set_cons_zero, List.set_cons_succ] at stq_1ft
  have stq_0tt : ∀ (w' : World) (gpx : Nat) (gpy : Nat), Below w.heap.size w w' → Box w' (w.heap.size) [.int .u64 ((ah : Nat) : Int), .int .u64 ((al : Nat) : Int)] → Box w' (w.heap.size + 1) [.int .u64 ((ah : Nat) : Int), .int .u64 ((al : Nat) : Int)] → Below w3.heap.size w3 w' → Box w' gpx [.bool false, .slice none 0 0] → Box w' gpy [.bool false, .slice none 0 0] → w3.heap.size ≤ gpx → w3.heap.size ≤ gpy → gpx ≠ gpy → WWq 4 #[true, false, true, false, true, true, false, false] ((aq.put (some 5) (.pointer (some ⟨gpx, 0, none⟩))).put (some 6) (.pointer (some ⟨gpy, 0, none⟩))) w' := by
    intro w27 gpx gpy hB_0 pa_0 pb_0 hWq_0 px_0 py_0 hgpx hgpy hnpxpy
    rw [HWq.out, HAq.out]
    try simp only [Act.put]
    try simp only [List.setIfInBounds_toArray, List.set_cons_zero, List.set_cons_succ]
    refine reg_all1 1 ?_ (by kernel_rfl) ?_ (fun K hK => ?_)
    rotate_left 1
    · simp only [List.getElem?_toArray, List.getElem?_cons_succ, List.getElem?_cons_zero]; exact rfl
    · go_simp
      refine (CX.out _).mono ?_
      rintro e w28 ⟨m1, o1, n1, c1, rfl, f1_0, hb28⟩
      have hB_1 := hB_0.trans (hb28.mono hB_0.size)
      have pa_1 := pa_0.below hb28
      have pb_1 := pb_0.below hb28
      have hWq_1 := hWq_0.trans (hb28.mono hWq_0.size)
      have px_1 := px_0.below hb28
      have py_1 := py_0.below hb28
      clear hb28 hB_0 pa_0 pb_0 hWq_0 px_0 py_0
      go_wp2_with fail
      refine hK.out _ _ ⟨pa_1.c0, pa_1.c1, pb_1.c0, pb_1.c1⟩ (fun hHeld => ?_)
      clear hK K
      try simp only [Act.put]
      try simp only [List.setIfInBounds_toArray, List.set_cons_zero, List.set_cons_succ]
      rw [← HWq.out]
      exact stq_1tt _ m1 o1 n1 c1 gpx gpy hB_1 pa_1 pb_1 hWq_1 f1_0 px_1 py_1 (by omega) (by omega) (by omega)
  try simp only [HAq.out, Act.put, List.setIfInBounds_toArray, List.set_cons_zero, List.set_cons_succ] at stq_0tt
  have stq_1ff : ∀ (w' : World) (m1 : Bool) (o1 : Option Addr) (n1 : Nat) (c1 : Nat), Below w.heap.size w w' → Box w' (w.heap.size) [.int .u64 ((ah : Nat) : Int), .int .u64 ((al : Nat) : Int)] → Box w' (w.heap.size + 1) [.int .u64 ((ah : Nat) : Int), .int .u64 ((al : Nat) : Int)] → Below w3.heap.size w3 w' → RNum w' (.agg #[.bool m1, .slice o1 n1 c1]) (2) (x) → WWq 5 #[true, true, true, false, false, false, false, false] (aq.put (some 10) (.agg #[.bool m1, .slice o1 n1 c1])) w' := by
    intro w29 m1 o1 n1 c1 hB_0 pa_0 pb_0 hWq_0 f1_0
    rw [HWq.out, HAq.out]
    try simp only [Act.put]
    try simp only [List.setIfInBounds_toArray, List.set_cons_zero, List.set_cons_succ]
    refine reg_all3 3 4 5 ?_ ?_ ?_ (by kernel_rfl) ?_ ?_ ?_ (fun K hK => ?_) (fun K hK => ?_) (fun K hK => ?_)
    rotate_left 3
    · simp only [List.getElem?_toArray, List.getElem?_cons_succ, List.getElem?_cons_zero]; exact rfl
    · simp only [List.getElem?_toArray, List.getElem?_cons_succ, List.getElem?_cons_zero]; exact rfl
    · simp only [List.getElem?_toArray, List.getElem?_cons_succ, List.getElem?_cons_zero]; exact rfl
    · go_simp
      refine (CY.out _).mono ?_
      rintro e w30 ⟨m2, o2, n2, c2, rfl, f2_0, hb30⟩
      have hB_1 := hB_0.trans (hb30.mono hB_0.size)
      have pa_1 := pa_0.below hb30
      have pb_1 := pb_0.below hb30
      have hWq_1 := hWq_0.trans (hb30.mono hWq_0.size)
      have f1_1 := f1_0.below hb30
      clear hb30 hB_0 pa_0 pb_0 hWq_0 f1_0
      go_wp2_with fail
      refine hK.out _ _ ⟨pa_1.c0, pa_1.c1, pb_1.c0, pb_1.c1⟩ (fun hHeld => ?_)
      clear hK K
      try simp only [Act.put]
      try simp only [List.setIfInBounds_toArray, List.set_cons_zero, List.set_cons_succ]
      rw [← HWq.out]
      exact stq_2ff _ m1 o1 n1 c1 m2 o2 n2 c2 hB_1 pa_1 pb_1 hWq_1 f1_1 f2_0
    · go_simp
      have hgn : w3.heap.size ≤ w29.heap.size := hWq_0.size
      obtain ⟨w31, hww31, px_0, hb31, -⟩ := new_box w29 _ rfl [.bool false, .slice none 0 0] 29
      rw [hww31]
      have hB_1 := hB_0.trans (hb31.mono hB_0.size)
      have pa_1 := pa_0.below hb31
      have pb_1 := pb_0.below hb31
      have hWq_1 := hWq_0.trans (hb31.mono hWq_0.size)
      have f1_1 := f1_0.below hb31
      clear hb31 hB_0 pa_0 pb_0 hWq_0 f1_0
      refine hK.out _ _ ⟨pa_1.c0, pa_1.c1, pb_1.c0, pb_1.c1⟩ (fun hHeld => ?_)
      clear hK K
      try simp only [Act.put]
      try simp only [List.setIfInBounds_toArray, List.set_cons_zero, List.set_cons_succ]
      rw [← HWq.out]
      exact stq_1tf _ m1 o1 n1 c1 w29.heap.size hB_1 pa_1 pb_1 hWq_1 f1_1 px_0 (by omega)
    · go_simp
      have hgn : w3.heap.size ≤ w29.heap.size := hWq_0.size
      obtain ⟨w32, hww32, py_0, hb32, -⟩ := new_box w29 _ rfl [.bool false, .slice none 0 0] 29
      rw [hww32]
      have hB_1 := hB_0.trans (hb32.mono hB_0.size)
      have pa_1 := pa_0.below hb32
      have pb_1 := pb_0.below hb32
      have hWq_1 := hWq_0.trans (hb32.mono hWq_0.size)
      have f1_1 := f1_0.below hb32
      clear hb32 hB_0 pa_0 pb_0 hWq_0 f1_0
      refine hK.out _ _ ⟨pa_1.c0, pa_1.c1, pb_1.c0, pb_1.c1⟩ (fun hHeld => ?_)
      clear hK K
      try simp only [Act.put]
      try simp only [List.setIfInBounds_toArray, List.set_cons_zero, List.set_cons_succ]
      rw [← HWq.out]
      exact stq_1ft _ m1 o1 n1 c1 w29.heap.size hB_1 pa_1 pb_1 hWq_1 f1_1 py_0 (by omega)
  try simp only [HAq.out, Act.put, List.setIfInBounds_toArray, List.set_cons_zero, List.set_cons_succ] at stq_1ff
  have stq_0tf : ∀ (w' : World) (gpx : Nat), Below w.heap.size w w' → Box w' (w.heap.size) [.int .u64 ((ah : Nat) : Int), .int .u64 ((al : Nat) : Int)] → Box w' (w.heap.size + 1) [.int .u64 ((ah : Nat) : Int), .int .u64 ((al : Nat) : Int)] → Below w3.heap.size w3 w' → Box w' gpx [.bool false, .slice none 0 0] → w3.heap.size ≤ gpx → WWq 5 #[true, false, true, false, true, false, false, false] (aq.put (some 5) (.pointer (some ⟨gpx, 0, none⟩))) w' := by
    intro w33 gpx hB_0 pa_0 pb_0 hWq_0 px_0 hgpx
    rw [HWq.out, HAq.out]
    try simp only [Act.put]
    try simp only [List.setIfInBounds_toArray, List.set_cons_zero, List.set_cons_succ]
    refine reg_all2 1 5 ?_ ?_ (by kernel_rfl) ?_ ?_ (fun K hK => ?_) (fun K hK => ?_)
    rotate_left 2
    · simp only [List.getElem?_toArray, List.getElem?_cons_succ, List.getElem?_cons_zero]; exact rfl
    · simp only [List.getElem?_toArray, List.getElem?_cons_succ, List.getElem?_cons_zero]; exact rfl
    · go_simp
      refine (CX.out _).mono ?_
      rintro e w34 ⟨m1, o1, n1, c1, rfl, f1_0, hb34⟩
      have hB_1 := hB_0.trans (hb34.mono hB_0.size)
      have pa_1 := pa_0.below hb34
      have pb_1 := pb_0.below hb34
      have hWq_1 := hWq_0.trans (hb34.mono hWq_0.size)
      have px_1 := px_0.below hb34
      clear hb34 hB_0 pa_0 pb_0 hWq_0 px_0
      go_wp2_with fail
      refine hK.out _ _ ⟨pa_1.c0, pa_1.c1, pb_1.c0, pb_1.c1⟩ (fun hHeld => ?_)
      clear hK K
      try simp only [Act.put]
      try simp only [List.setIfInBounds_toArray, List.set_cons_zero, List.set_cons_succ]
      rw [← HWq.out]
      exact stq_1tf _ m1 o1 n1 c1 gpx hB_1 pa_1 pb_1 hWq_1 f1_0 px_1 (by omega)
    · go_simp
      have hgn : w3.heap.size ≤ w33.heap.size := hWq_0.size
      have hlpx := px_0.lt
      obtain ⟨w35, hww35, py_0, hb35, -⟩ := new_box w33 _ rfl [.bool false, .slice none 0 0] 29
      rw [hww35]
      have hB_1 := hB_0.trans (hb35.mono hB_0.size)
      have pa_1 := pa_0.below hb35
      have pb_1 := pb_0.below hb35
      have hWq_1 := hWq_0.trans (hb35.mono hWq_0.size)
      have px_1 := px_0.below hb35
      clear hb35 hB_0 pa_0 pb_0 hWq_0 px_0
      refine hK.out _ _ ⟨pa_1.c0, pa_1.c1, pb_1.c0, pb_1.c1⟩ (fun hHeld => ?_)
      clear hK K
      try simp only [Act.put]
      try simp only [List.setIfInBounds_toArray, List.set_cons_zero, List.set_cons_succ]
      rw [← HWq.out]
      exact stq_0tt _ gpx w33.heap.size hB_1 pa_1 pb_1 hWq_1 px_1 py_0 (by omega) (by omega) (by omega)
  try simp only [HAq.out, Act.put, List.setIfInBounds_toArray, List.set_cons_zero, List.set_cons_succ] at stq_0tf
  have stq_0ft : ∀ (w' : World) (gpy : Nat), Below w.heap.size w w' → Box w' (w.heap.size) [.int .u64 ((ah : Nat) : Int), .int .u64 ((al : Nat) : Int)] → Box w' (w.heap.size + 1) [.int .u64 ((ah : Nat) : Int), .int .u64 ((al : Nat) : Int)] → Below w3.heap.size w3 w' → Box w' gpy [.bool false, .slice none 0 0] → w3.heap.size ≤ gpy → WWq 5 #[true, false, true, false, false, true, false, false] (aq.put (some 6) (.pointer (some ⟨gpy, 0, none⟩))) w' := by
    intro w36 gpy hB_0 pa_0 pb_0 hWq_0 py_0 hgpy
    rw [HWq.out, HAq.out]
    try simp only [Act.put]
    try simp only [List.setIfInBounds_toArray, List.set_cons_zero, List.set_cons_succ]
    refine reg_all2 1 4 ?_ ?_ (by kernel_rfl) ?_ ?_ (fun K hK => ?_) (fun K hK => ?_)
    rotate_left 2
    · simp only [List.getElem?_toArray, List.getElem?_cons_succ, List.getElem?_cons_zero]; exact rfl
    · simp only [List.getElem?_toArray, List.getElem?_cons_succ, List.getElem?_cons_zero]; exact rfl
    · go_simp
      refine (CX.out _).mono ?_
      rintro e w37 ⟨m1, o1, n1, c1, rfl, f1_0, hb37⟩
      have hB_1 := hB_0.trans (hb37.mono hB_0.size)
      have pa_1 := pa_0.below hb37
      have pb_1 := pb_0.below hb37
      have hWq_1 := hWq_0.trans (hb37.mono hWq_0.size)
      have py_1 := py_0.below hb37
      clear hb37 hB_0 pa_0 pb_0 hWq_0 py_0
      go_wp2_with fail
      refine hK.out _ _ ⟨pa_1.c0, pa_1.c1, pb_1.c0, pb_1.c1⟩ (fun hHeld => ?_)
      clear hK K
      try simp only [Act.put]
      try simp only [List.setIfInBounds_toArray, List.set_cons_zero, List.set_cons_succ]
      rw [← HWq.out]
      exact stq_1ft _ m1 o1 n1 c1 gpy hB_1 pa_1 pb_1 hWq_1 f1_0 py_1 (by omega)
    · go_simp
      have hgn : w3.heap.size ≤ w36.heap.size := hWq_0.size
      have hlpy := py_0.lt
      obtain ⟨w38, hww38, px_0, hb38, -⟩ := new_box w36 _ rfl [.bool false, .slice none 0 0] 29
      rw [hww38]
      have hB_1 := hB_0.trans (hb38.mono hB_0.size)
      have pa_1 := pa_0.below hb38
      have pb_1 := pb_0.below hb38
      have hWq_1 := hWq_0.trans (hb38.mono hWq_0.size)
      have py_1 := py_0.below hb38
      clear hb38 hB_0 pa_0 pb_0 hWq_0 py_0
      refine hK.out _ _ ⟨pa_1.c0, pa_1.c1, pb_1.c0, pb_1.c1⟩ (fun hHeld => ?_)
      clear hK K
      try simp only [Act.put]
      try simp only [List.setIfInBounds_toArray, List.set_cons_zero, List.set_cons_succ]
      rw [← HWq.out]
      exact stq_0tt _ w36.heap.size gpy hB_1 pa_1 pb_1 hWq_1 px_0 py_1 (by omega) (by omega) (by omega)
  try simp only [HAq.out, Act.put, List.setIfInBounds_toArray, List.set_cons_zero, List.set_cons_succ] at stq_0ft
  have stq_0ff : ∀ (w' : World), Below w.heap.size w w' → Box w' (w.heap.size) [.int .u64 ((ah : Nat) : Int), .int .u64 ((al : Nat) : Int)] → Box w' (w.heap.size + 1) [.int .u64 ((ah : Nat) : Int), .int .u64 ((al : Nat) : Int)] → Below w3.heap.size w3 w' → WWq 6 #[true, false, true, false, false, false, false, false] aq w' := by
    intro w39 hB_0 pa_0 pb_0 hWq_0
    rw [HWq.out, HAq.out]
    try simp only [Act.put]
    try simp only [List.setIfInBounds_toArray, List.set_cons_zero, List.set_cons_succ]
    refine reg_all3 1 4 5 ?_ ?_ ?_ (by kernel_rfl) ?_ ?_ ?_ (fun K hK => ?_) (fun K hK => ?_) (fun K hK => ?_)
    rotate_left 3
    · simp only [List.getElem?_toArray, List.getElem?_cons_succ, List.getElem?_cons_zero]; exact rfl
    · simp only [List.getElem?_toArray, List.getElem?_cons_succ, List.getElem?_cons_zero]; exact rfl
    · simp only [List.getElem?_toArray, List.getElem?_cons_succ, List.getElem?_cons_zero]; exact rfl
    · go_simp
      refine (CX.out _).mono ?_
      rintro e w40 ⟨m1, o1, n1, c1, rfl, f1_0, hb40⟩
      have hB_1 := hB_0.trans (hb40.mono hB_0.size)
      have pa_1 := pa_0.below hb40
      have pb_1 := pb_0.below hb40
      have hWq_1 := hWq_0.trans (hb40.mono hWq_0.size)
      clear hb40 hB_0 pa_0 pb_0 hWq_0
      go_wp2_with fail
      refine hK.out _ _ ⟨pa_1.c0, pa_1.c1, pb_1.c0, pb_1.c1⟩ (fun hHeld => ?_)
      clear hK K
      try simp only [Act.put]
      try simp only [List.setIfInBounds_toArray, List.set_cons_zero, List.set_cons_succ]
      rw [← HWq.out]
      exact stq_1ff _ m1 o1 n1 c1 hB_1 pa_1 pb_1 hWq_1 f1_0
    · go_simp
      have hgn : w3.heap.size ≤ w39.heap.size := hWq_0.size
      obtain ⟨w41, hww41, px_0, hb41, -⟩ := new_box w39 _ rfl [.bool false, .slice none 0 0] 29
      rw [hww41]
      have hB_1 := hB_0.trans (hb41.mono hB_0.size)
      have pa_1 := pa_0.below hb41
      have pb_1 := pb_0.below hb41
      have hWq_1 := hWq_0.trans (hb41.mono hWq_0.size)
      clear hb41 hB_0 pa_0 pb_0 hWq_0
      refine hK.out _ _ ⟨pa_1.c0, pa_1.c1, pb_1.c0, pb_1.c1⟩ (fun hHeld => ?_)
      clear hK K
      try simp only [Act.put]
      try simp only [List.setIfInBounds_toArray, List.set_cons_zero, List.set_cons_succ]
      rw [← HWq.out]
      exact stq_0tf _ w39.heap.size hB_1 pa_1 pb_1 hWq_1 px_0 (by omega)
    · go_simp
      have hgn : w3.heap.size ≤ w39.heap.size := hWq_0.size
      obtain ⟨w42, hww42, py_0, hb42, -⟩ := new_box w39 _ rfl [.bool false, .slice none 0 0] 29
      rw [hww42]
      have hB_1 := hB_0.trans (hb42.mono hB_0.size)
      have pa_1 := pa_0.below hb42
      have pb_1 := pb_0.below hb42
      have hWq_1 := hWq_0.trans (hb42.mono hWq_0.size)
      clear hb42 hB_0 pa_0 pb_0 hWq_0
      refine hK.out _ _ ⟨pa_1.c0, pa_1.c1, pb_1.c0, pb_1.c1⟩ (fun hHeld => ?_)
      clear hK K
      try simp only [Act.put]
      try simp only [List.setIfInBounds_toArray, List.set_cons_zero, List.set_cons_succ]
      rw [← HWq.out]
      exact stq_0ft _ w39.heap.size hB_1 pa_1 pb_1 hWq_1 py_0 (by omega)
  exact stq_0ff _ hB_4 pa_3 pb_2 hWq_1
set_option maxRecDepth 100000 in
set_option maxHeartbeats 16000000 in
theorem WideCmps_w_low (ah al bl : Nat) (h0 : ¬ al = bl) (x y s : Int) (c : Int) (hc0 : (c == 0) = false) (hc1 : ¬ c = 0) (cx : ∀ w, Calls Try.prog 9 #[.agg #[.int .u64 ((ah : Nat) : Int), .int .u64 ((al : Nat) : Int)]] w fun e w' => AnsNum w w' e 2 x) (cy : ∀ w, Calls Try.prog 9 #[.agg #[.int .u64 ((ah : Nat) : Int), .int .u64 ((bl : Nat) : Int)]] w fun e w' => AnsNum w w' e 2 y) (cc : ∀ w, Calls Try.prog 25 #[.agg #[.int .u64 ((ah : Nat) : Int), .int .u64 ((al : Nat) : Int)], .agg #[.int .u64 ((ah : Nat) : Int), .int .u64 ((bl : Nat) : Int)]] w fun e w' => e = .returned (.int .i64 c) ∧ Below w.heap.size w w') (cs : ∀ w, Calls Try.prog 26 #[.agg #[.int .u64 ((ah : Nat) : Int), .int .u64 ((al : Nat) : Int)]] w fun e w' => e = .returned (.int .i64 s) ∧ Below w.heap.size w w') (hic : icmp x y = c) (his : x.sign = s) (w : World) :
    Calls Try.prog 5 #[.agg #[.int .u64 ((ah : Nat) : Int), .int .u64 ((al : Nat) : Int)], .agg #[.int .u64 ((ah : Nat) : Int), .int .u64 ((bl : Nat) : Int)]] w fun e w' => e = .returned (.bool true) ∧ Below w.heap.size w w' := by
  have hB_0 := Below.refl w.heap.size w
  have CX := Lib.hid cx; have CY := Lib.hid cy; have CC := Lib.hid cc; have CS := Lib.hid cs; have HIC := Lib.hid hic; have HIS := Lib.hid his
  clear cx cy cc cs hic his
  obtain ⟨w1, hw1, pa_0, hb1, hs1⟩ := new_box w (w.heap.size) rfl [.int .u64 ((ah : Nat) : Int), .int .u64 ((al : Nat) : Int)] 24
  have hb1' : Below w.heap.size w w1 := hb1.mono (by omega)
  clear hb1
  have hB_1 := hB_0.trans (hb1'.mono hB_0.size)
  clear hb1' hB_0
  obtain ⟨w2, hw2, pb_0, hb2, hs2⟩ := new_box w1 (w.heap.size + 1) hs1 [.int .u64 ((ah : Nat) : Int), .int .u64 ((bl : Nat) : Int)] 24
  have hb2' : Below w1.heap.size w1 w2 := hb2.mono (by omega)
  clear hb2
  have hB_2 := hB_1.trans (hb2'.mono hB_1.size)
  have pa_1 := pa_0.below hb2'
  clear hb2' hB_1 pa_0
  go_enter Try.func5, Try.ntmps5
  obtain ⟨pae0, pae1, pae2, pae3⟩ := pa_1.open2
  obtain ⟨pbe0, pbe1, pbe2, pbe3⟩ := pb_0.open2
  go_wp2_with fail
  refine (wfit_any _).mono ?_
  rintro e w3 ⟨rfl, hb3⟩
  clear pae0 pae1 pae2 pae3 pbe0 pbe1 pbe2 pbe3
  have hB_3 := hB_2.trans (hb3.mono hB_2.size)
  have pa_2 := pa_1.below hb3
  have pb_1 := pb_0.below hb3
  clear hb3 hB_2 pa_1 pb_0
  obtain ⟨pae0, pae1, pae2, pae3⟩ := pa_2.open2
  obtain ⟨pbe0, pbe1, pbe2, pbe3⟩ := pb_1.open2
  go_wp2
  clear pae0 pae1 pae2 pae3 pbe0 pbe1 pbe2 pbe3
  have hWq_0 := Below.refl w3.heap.size w3
  have hsq : w.heap.size ≤ w3.heap.size := hB_3.size
  have hlqpa := pa_2.lt
  have hlqpb := pb_1.lt
  have hB_4 := hB_3.drew'
  have pa_3 := pa_2.drew
  have pb_2 := pb_1.drew
  have hWq_1 := hWq_0.drew'
  clear hB_3 pa_2 pb_1 hWq_0
  refine wp_region_noPanic ?_
  refine wp_region_held_drew (S := fun w' => w'.cell? ⟨w.heap.size, 0, none⟩ = some (.int .u64 ((ah : Nat) : Int)) ∧ w'.cell? ⟨w.heap.size, 1, none⟩ = some (.int .u64 ((al : Nat) : Int)) ∧ w'.cell? ⟨w.heap.size + 1, 0, none⟩ = some (.int .u64 ((ah : Nat) : Int)) ∧ w'.cell? ⟨w.heap.size + 1, 1, none⟩ = some (.int .u64 ((bl : Nat) : Int))) (by kernel_rfl) (⟨pa_3.c0, pa_3.c1, pb_2.c0, pb_2.c1⟩) (fun hHeld => ?_)
  refine reg_take 0 ?_ ?_ ?_ (by kernel_rfl) (by kernel_rfl) (by kernel_rfl) (fun _ _ _ h => h) ?_ ?_ (by assumption) ?_
  rotate_left 2
  · simp only [List.getElem?_toArray, List.getElem?_cons_zero]; exact rfl
  · rfl
  · intro w hSw; (try dsimp only at hSw); go_simp; try with_reducible rfl
  try simp only [Act.put]
  try simp only [List.setIfInBounds_toArray, List.set_cons_zero, List.set_cons_succ]
  refine reg_take 2 ?_ ?_ ?_ (by kernel_rfl) (by kernel_rfl) (by kernel_rfl) (fun _ _ _ h => h) ?_ ?_ (by assumption) ?_
  rotate_left 2
  · simp only [List.getElem?_toArray, List.getElem?_cons_succ, List.getElem?_cons_zero]; exact rfl
  · rfl
  · intro w hSw; (try dsimp only at hSw); go_simp; try with_reducible rfl
  try simp only [Act.put]
  try simp only [List.setIfInBounds_toArray, List.set_cons_zero, List.set_cons_succ]
  refine reg_grab (fun WWq aq hWW hAA => ?_)
  have HWq := Lib.hid hWW; have HAq := Lib.hid hAA; clear hWW hAA hHeld
  have stq_2tt : ∀ (w' : World) (m1 : Bool) (o1 : Option Addr) (n1 : Nat) (c1 : Nat) (m2 : Bool) (o2 : Option Addr) (n2 : Nat) (c2 : Nat) (gpx : Nat) (gpy : Nat), Below w.heap.size w w' → Box w' (w.heap.size) [.int .u64 ((ah : Nat) : Int), .int .u64 ((al : Nat) : Int)] → Box w' (w.heap.size + 1) [.int .u64 ((ah : Nat) : Int), .int .u64 ((bl : Nat) : Int)] → Below w3.heap.size w3 w' → RNum w' (.agg #[.bool m1, .slice o1 n1 c1]) (2) (x) → RNum w' (.agg #[.bool m2, .slice o2 n2 c2]) (2) (y) → Box w' gpx [.bool false, .slice none 0 0] → Box w' gpy [.bool false, .slice none 0 0] → w3.heap.size ≤ gpx → w3.heap.size ≤ gpy → gpx ≠ gpy → WWq 2 #[true, true, true, true, true, true, false, false] ((((aq.put (some 10) (.agg #[.bool m1, .slice o1 n1 c1])).put (some 12) (.agg #[.bool m2, .slice o2 n2 c2])).put (some 5) (.pointer (some ⟨gpx, 0, none⟩))).put (some 6) (.pointer (some ⟨gpy, 0, none⟩))) w' := by
    intro w4 m1 o1 n1 c1 m2 o2 n2 c2 gpx gpy hB_0 pa_0 pb_0 hWq_0 f1_0 f2_0 px_0 py_0 hgpx hgpy hnpxpy
    rw [HWq.out, HAq.out]
    try simp only [Act.put]
    try simp only [List.setIfInBounds_toArray, List.set_cons_zero, List.set_cons_succ]
    clear hWq_0
    obtain ⟨sf1a, sf1b, sf1c, sf1d⟩ := px_0.open2
    obtain ⟨sg1a, sg1b⟩ := Box.put2 px_0 (.bool m1)
    refine reg_call 6 ?_ (by kernel_rfl) ?_ (fun K hK => ?_)
    rotate_left 1
    · simp only [List.getElem?_toArray, List.getElem?_cons_succ, List.getElem?_cons_zero]; exact rfl
    go_simp
    have hB_1 := below_setAll hB_0 (g := gpx) (by omega) [.bool m1, .slice o1 n1 c1]
    have pa_1 := pa_0.farAll (g' := gpx) (by omega) [.bool m1, .slice o1 n1 c1]
    have pb_1 := pb_0.farAll (g' := gpx) (by omega) [.bool m1, .slice o1 n1 c1]
    have f1_1 := f1_0.setAll px_0 (noWord2 _ _ _ _) [.bool m1, .slice o1 n1 c1] rfl
    have f2_1 := f2_0.setAll px_0 (noWord2 _ _ _ _) [.bool m1, .slice o1 n1 c1] rfl
    have py_1 := py_0.farAll (g' := gpx) (by omega) [.bool m1, .slice o1 n1 c1]
    have px_1 := px_0.setAll [.bool m1, .slice o1 n1 c1] rfl
    simp only [setAll, Nat.zero_add] at hB_1 pa_1 pb_1 f1_1 f2_1 px_1 py_1
    clear sf1a sf1b sf1c sf1d sg1a sg1b
    clear hB_0 pa_0 pb_0 f1_0 f2_0 py_0 px_0
    refine hK.out _ _ ⟨pa_1.c0, pa_1.c1, pb_1.c0, pb_1.c1⟩ (fun hHeld => ?_)
    clear hK K
    try simp only [Act.put]
    try simp only [List.setIfInBounds_toArray, List.set_cons_zero, List.set_cons_succ]
    generalize (World.setCell (World.setCell w4 ⟨gpx, 0, none⟩ (.bool m1)) ⟨gpx, 1, none⟩ (.slice o1 n1 c1)) = w5 at *
    obtain ⟨sf2a, sf2b, sf2c, sf2d⟩ := py_1.open2
    obtain ⟨sg2a, sg2b⟩ := Box.put2 py_1 (.bool m2)
    refine reg_call 7 ?_ (by kernel_rfl) ?_ (fun K hK => ?_)
    rotate_left 1
    · simp only [List.getElem?_toArray, List.getElem?_cons_succ, List.getElem?_cons_zero]; exact rfl
    go_simp
    have hB_2 := below_setAll hB_1 (g := gpy) (by omega) [.bool m2, .slice o2 n2 c2]
    have pa_2 := pa_1.farAll (g' := gpy) (by omega) [.bool m2, .slice o2 n2 c2]
    have pb_2 := pb_1.farAll (g' := gpy) (by omega) [.bool m2, .slice o2 n2 c2]
    have f1_2 := f1_1.setAll py_1 (noWord2 _ _ _ _) [.bool m2, .slice o2 n2 c2] rfl
    have f2_2 := f2_1.setAll py_1 (noWord2 _ _ _ _) [.bool m2, .slice o2 n2 c2] rfl
    have px_2 := px_1.farAll (g' := gpy) (by omega) [.bool m2, .slice o2 n2 c2]
    have py_2 := py_1.setAll [.bool m2, .slice o2 n2 c2] rfl
    simp only [setAll, Nat.zero_add] at hB_2 pa_2 pb_2 f1_2 f2_2 px_2 py_2
    clear sf2a sf2b sf2c sf2d sg2a sg2b
    clear hB_1 pa_1 pb_1 f1_1 f2_1 px_1 py_1
    refine hK.out _ _ ⟨pa_2.c0, pa_2.c1, pb_2.c0, pb_2.c1⟩ (fun hHeld => ?_)
    clear hK K
    try simp only [Act.put]
    try simp only [List.setIfInBounds_toArray, List.set_cons_zero, List.set_cons_succ]
    generalize (World.setCell (World.setCell w5 ⟨gpy, 0, none⟩ (.bool m2)) ⟨gpy, 1, none⟩ (.slice o2 n2 c2)) = w6 at *
    refine wpAnyH_done (by kernel_rfl) ?_ _
    refine NoPanic.normal ?_
    go_wp2
    have g1 : decide (al = bl) = false := by simp [h0]
    have g2 : (((al : Nat) : Int) == ((bl : Nat) : Int)) = false := by simp; omega
    have g4 : decide (((al : Nat) : Int) = ((bl : Nat) : Int)) = false := by simp; omega
    have g5 : ¬ ((al : Nat) : Int) = ((bl : Nat) : Int) := by omega
    have hB_3 := hB_2.drew'
    have pa_3 := pa_2.drew
    have pb_3 := pb_2.drew
    have f1_3 := f1_2.drew
    have f2_3 := f2_2.drew
    have px_3 := px_2.drew
    have py_3 := py_2.drew
    clear hB_2 pa_2 pb_2 f1_2 f2_2 px_2 py_2
    go_region_held3 (fun w' => w'.cell? ⟨w.heap.size, 0, none⟩ = some (.int .u64 ((ah : Nat) : Int)) ∧ w'.cell? ⟨w.heap.size, 1, none⟩ = some (.int .u64 ((al : Nat) : Int)) ∧ w'.cell? ⟨w.heap.size + 1, 0, none⟩ = some (.int .u64 ((ah : Nat) : Int)) ∧ w'.cell? ⟨w.heap.size + 1, 1, none⟩ = some (.int .u64 ((bl : Nat) : Int)) ∧ w'.cell? ⟨gpx, 0, none⟩ = some (.bool m1) ∧ w'.cell? ⟨gpx, 1, none⟩ = some (.slice o1 n1 c1) ∧ w'.cell? ⟨gpy, 0, none⟩ = some (.bool m2) ∧ w'.cell? ⟨gpy, 1, none⟩ = some (.slice o2 n2 c2))
      (first | with_reducible exact ⟨pa_3.c0, pa_3.c1, pb_3.c0, pb_3.c1, px_3.c0, px_3.c1, py_3.c0, py_3.c1⟩ | with_reducible exact ⟨pa_4.c0, pa_4.c1, pb_4.c0, pb_4.c1, px_4.c0, px_4.c1, py_4.c0, py_4.c1⟩ | with_reducible exact ⟨pa_5.c0, pa_5.c1, pb_5.c0, pb_5.c1, px_5.c0, px_5.c1, py_5.c0, py_5.c1⟩ | with_reducible exact ⟨pa_6.c0, pa_6.c1, pb_6.c0, pb_6.c1, px_6.c0, px_6.c1, py_6.c0, py_6.c1⟩ | with_reducible exact ⟨pa_7.c0, pa_7.c1, pb_7.c0, pb_7.c1, px_7.c0, px_7.c1, py_7.c0, py_7.c1⟩ | with_reducible exact ⟨pa_8.c0, pa_8.c1, pb_8.c0, pb_8.c1, px_8.c0, px_8.c1, py_8.c0, py_8.c1⟩ | fail)
      (first
        | (go_at_call 25; (with_reducible refine (CC.out _).mono ?_); rintro e w7 ⟨rfl, hb7⟩; have hB_4 := hB_3.trans (hb7.mono hB_3.size); have pa_4 := pa_3.below hb7; have pb_4 := pb_3.below hb7; have f1_4 := f1_3.below hb7; have f2_4 := f2_3.below hb7; have px_4 := px_3.below hb7; have py_4 := py_3.below hb7; clear hb7 hB_3 pa_3 pb_3 f1_3 f2_3 px_3 py_3)
        | (go_at_call 21; (with_reducible refine (wnCmp_is _ _ 2 2 x y c _ (by omega) (by omega) f1_4.num f2_4.num HIC.out).mono ?_); rintro e w8 ⟨rfl, hb8⟩; have hB_5 := hB_4.trans (hb8.mono hB_4.size); have pa_5 := pa_4.below hb8; have pb_5 := pb_4.below hb8; have f1_5 := f1_4.below hb8; have f2_5 := f2_4.below hb8; have px_5 := px_4.below hb8; have py_5 := py_4.below hb8; clear hb8 hB_4 pa_4 pb_4 f1_4 f2_4 px_4 py_4)
        | (go_at_call 26; (with_reducible refine (CS.out _).mono ?_); rintro e w9 ⟨rfl, hb9⟩; have hB_6 := hB_5.trans (hb9.mono hB_5.size); have pa_6 := pa_5.below hb9; have pb_6 := pb_5.below hb9; have f1_6 := f1_5.below hb9; have f2_6 := f2_5.below hb9; have px_6 := px_5.below hb9; have py_6 := py_5.below hb9; clear hb9 hB_5 pa_5 pb_5 f1_5 f2_5 px_5 py_5)
        | (go_at_call 27; (with_reducible refine (wnSign_is _ 2 x s _ (by omega) f1_6.num HIS.out).mono ?_); rintro e w10 ⟨rfl, hb10⟩; have hB_7 := hB_6.trans (hb10.mono hB_6.size); have pa_7 := pa_6.below hb10; have pb_7 := pb_6.below hb10; have f1_7 := f1_6.below hb10; have f2_7 := f2_6.below hb10; have px_7 := px_6.below hb10; have py_7 := py_6.below hb10; clear hb10 hB_6 pa_6 pb_6 f1_6 f2_6 px_6 py_6)
        | (go_at_call 25; (with_reducible refine (CC.out _).mono ?_); rintro e w11 ⟨rfl, hb11⟩; have hB_8 := hB_7.trans (hb11.mono hB_7.size); have pa_8 := pa_7.below hb11; have pb_8 := pb_7.below hb11; have f1_8 := f1_7.below hb11; have f2_8 := f2_7.below hb11; have px_8 := px_7.below hb11; have py_8 := py_7.below hb11; clear hb11 hB_7 pa_7 pb_7 f1_7 f2_7 px_7 py_7))
    all_goals (try go_wp2)
    all_goals (go_ret; exact ⟨rfl, by assumption⟩)
  simp only [HAq.out, Act.put, List.setIfInBounds_toArray, List.set_cons_zero, List.set_cons_succ] at stq_2tt
  have stq_2tf : ∀ (w' : World) (m1 : Bool) (o1 : Option Addr) (n1 : Nat) (c1 : Nat) (m2 : Bool) (o2 : Option Addr) (n2 : Nat) (c2 : Nat) (gpx : Nat), Below w.heap.size w w' → Box w' (w.heap.size) [.int .u64 ((ah : Nat) : Int), .int .u64 ((al : Nat) : Int)] → Box w' (w.heap.size + 1) [.int .u64 ((ah : Nat) : Int), .int .u64 ((bl : Nat) : Int)] → Below w3.heap.size w3 w' → RNum w' (.agg #[.bool m1, .slice o1 n1 c1]) (2) (x) → RNum w' (.agg #[.bool m2, .slice o2 n2 c2]) (2) (y) → Box w' gpx [.bool false, .slice none 0 0] → w3.heap.size ≤ gpx → WWq 3 #[true, true, true, true, true, false, false, false] (((aq.put (some 10) (.agg #[.bool m1, .slice o1 n1 c1])).put (some 12) (.agg #[.bool m2, .slice o2 n2 c2])).put (some 5) (.pointer (some ⟨gpx, 0, none⟩))) w' := by
    intro w12 m1 o1 n1 c1 m2 o2 n2 c2 gpx hB_0 pa_0 pb_0 hWq_0 f1_0 f2_0 px_0 hgpx
    rw [HWq.out, HAq.out]
    try simp only [Act.put]
    try simp only [List.setIfInBounds_toArray, List.set_cons_zero, List.set_cons_succ]
    refine reg_all1 5 ?_ (by kernel_rfl) ?_ (fun K hK => ?_)
    rotate_left 1
    · simp only [List.getElem?_toArray, List.getElem?_cons_succ, List.getElem?_cons_zero]; exact rfl
    · go_simp
      have hgn : w3.heap.size ≤ w12.heap.size := hWq_0.size
      have hlpx := px_0.lt
      obtain ⟨w13, hww13, py_0, hb13, -⟩ := new_box w12 _ rfl [.bool false, .slice none 0 0] 29
      rw [hww13]
      have hB_1 := hB_0.trans (hb13.mono hB_0.size)
      have pa_1 := pa_0.below hb13
      have pb_1 := pb_0.below hb13
      have hWq_1 := hWq_0.trans (hb13.mono hWq_0.size)
      have f1_1 := f1_0.below hb13
      have f2_1 := f2_0.below hb13
      have px_1 := px_0.below hb13
      clear hb13 hB_0 pa_0 pb_0 hWq_0 f1_0 f2_0 px_0
      refine hK.out _ _ ⟨pa_1.c0, pa_1.c1, pb_1.c0, pb_1.c1⟩ (fun hHeld => ?_)
      clear hK K
      try simp only [Act.put]
      try simp only [List.setIfInBounds_toArray, List.set_cons_zero, List.set_cons_succ]
      rw [← HWq.out]
      exact stq_2tt _ m1 o1 n1 c1 m2 o2 n2 c2 gpx w12.heap.size hB_1 pa_1 pb_1 hWq_1 f1_1 f2_1 px_1 py_0 (by omega) (by omega) (by omega)
  try simp only [HAq.out, Act.put, List.setIfInBounds_toArray, List.set_cons_zero, List.set_cons_succ] at stq_2tf
  have stq_2ft : ∀ (w' : World) (m1 : Bool) (o1 : Option Addr) (n1 : Nat) (c1 : Nat) (m2 : Bool) (o2 : Option Addr) (n2 : Nat) (c2 : Nat) (gpy : Nat), Below w.heap.size w w' → Box w' (w.heap.size) [.int .u64 ((ah : Nat) : Int), .int .u64 ((al : Nat) : Int)] → Box w' (w.heap.size + 1) [.int .u64 ((ah : Nat) : Int), .int .u64 ((bl : Nat) : Int)] → Below w3.heap.size w3 w' → RNum w' (.agg #[.bool m1, .slice o1 n1 c1]) (2) (x) → RNum w' (.agg #[.bool m2, .slice o2 n2 c2]) (2) (y) → Box w' gpy [.bool false, .slice none 0 0] → w3.heap.size ≤ gpy → WWq 3 #[true, true, true, true, false, true, false, false] (((aq.put (some 10) (.agg #[.bool m1, .slice o1 n1 c1])).put (some 12) (.agg #[.bool m2, .slice o2 n2 c2])).put (some 6) (.pointer (some ⟨gpy, 0, none⟩))) w' := by
    intro w14 m1 o1 n1 c1 m2 o2 n2 c2 gpy hB_0 pa_0 pb_0 hWq_0 f1_0 f2_0 py_0 hgpy
    rw [HWq.out, HAq.out]
    try simp only [Act.put]
    try simp only [List.setIfInBounds_toArray, List.set_cons_zero, List.set_cons_succ]
    refine reg_all1 4 ?_ (by kernel_rfl) ?_ (fun K hK => ?_)
    rotate_left 1
    · simp only [List.getElem?_toArray, List.getElem?_cons_succ, List.getElem?_cons_zero]; exact rfl
    · go_simp
      have hgn : w3.heap.size ≤ w14.heap.size := hWq_0.size
      have hlpy := py_0.lt
      obtain ⟨w15, hww15, px_0, hb15, -⟩ := new_box w14 _ rfl [.bool false, .slice none 0 0] 29
      rw [hww15]
      have hB_1 := hB_0.trans (hb15.mono hB_0.size)
      have pa_1 := pa_0.below hb15
      have pb_1 := pb_0.below hb15
      have hWq_1 := hWq_0.trans (hb15.mono hWq_0.size)
      have f1_1 := f1_0.below hb15
      have f2_1 := f2_0.below hb15
      have py_1 := py_0.below hb15
      clear hb15 hB_0 pa_0 pb_0 hWq_0 f1_0 f2_0 py_0
      refine hK.out _ _ ⟨pa_1.c0, pa_1.c1, pb_1.c0, pb_1.c1⟩ (fun hHeld => ?_)
      clear hK K
      try simp only [Act.put]
      try simp only [List.setIfInBounds_toArray, List.set_cons_zero, List.set_cons_succ]
      rw [← HWq.out]
      exact stq_2tt _ m1 o1 n1 c1 m2 o2 n2 c2 w14.heap.size gpy hB_1 pa_1 pb_1 hWq_1 f1_1 f2_1 px_0 py_1 (by omega) (by omega) (by omega)
  try simp only [HAq.out, Act.put, List.setIfInBounds_toArray, List.set_cons_zero, List.set_cons_succ] at stq_2ft
  have stq_1tt : ∀ (w' : World) (m1 : Bool) (o1 : Option Addr) (n1 : Nat) (c1 : Nat) (gpx : Nat) (gpy : Nat), Below w.heap.size w w' → Box w' (w.heap.size) [.int .u64 ((ah : Nat) : Int), .int .u64 ((al : Nat) : Int)] → Box w' (w.heap.size + 1) [.int .u64 ((ah : Nat) : Int), .int .u64 ((bl : Nat) : Int)] → Below w3.heap.size w3 w' → RNum w' (.agg #[.bool m1, .slice o1 n1 c1]) (2) (x) → Box w' gpx [.bool false, .slice none 0 0] → Box w' gpy [.bool false, .slice none 0 0] → w3.heap.size ≤ gpx → w3.heap.size ≤ gpy → gpx ≠ gpy → WWq 3 #[true, true, true, false, true, true, false, false] (((aq.put (some 10) (.agg #[.bool m1, .slice o1 n1 c1])).put (some 5) (.pointer (some ⟨gpx, 0, none⟩))).put (some 6) (.pointer (some ⟨gpy, 0, none⟩))) w' := by
    intro w16 m1 o1 n1 c1 gpx gpy hB_0 pa_0 pb_0 hWq_0 f1_0 px_0 py_0 hgpx hgpy hnpxpy
    rw [HWq.out, HAq.out]
    try simp only [Act.put]
    try simp only [List.setIfInBounds_toArray, List.set_cons_zero, List.set_cons_succ]
    refine reg_all1 3 ?_ (by kernel_rfl) ?_ (fun K hK => ?_)
    rotate_left 1
    · simp only [List.getElem?_toArray, List.getElem?_cons_succ, List.getElem?_cons_zero]; exact rfl
    · go_simp
      refine (CY.out _).mono ?_
      rintro e w17 ⟨m2, o2, n2, c2, rfl, f2_0, hb17⟩
      have hB_1 := hB_0.trans (hb17.mono hB_0.size)
      have pa_1 := pa_0.below hb17
      have pb_1 := pb_0.below hb17
      have hWq_1 := hWq_0.trans (hb17.mono hWq_0.size)
      have f1_1 := f1_0.below hb17
      have px_1 := px_0.below hb17
      have py_1 := py_0.below hb17
      clear hb17 hB_0 pa_0 pb_0 hWq_0 f1_0 px_0 py_0
      go_wp2_with fail
      refine hK.out _ _ ⟨pa_1.c0, pa_1.c1, pb_1.c0, pb_1.c1⟩ (fun hHeld => ?_)
      clear hK K
      try simp only [Act.put]
      try simp only [List.setIfInBounds_toArray, List.set_cons_zero, List.set_cons_succ]
      rw [← HWq.out]
      exact stq_2tt _ m1 o1 n1 c1 m2 o2 n2 c2 gpx gpy hB_1 pa_1 pb_1 hWq_1 f1_1 f2_0 px_1 py_1 (by omega) (by omega) (by omega)
  try simp only [HAq.out, Act.put, List.setIfInBounds_toArray, List.set_cons_zero, List.set_cons_succ] at stq_1tt
  have stq_2ff : ∀ (w' : World) (m1 : Bool) (o1 : Option Addr) (n1 : Nat) (c1 : Nat) (m2 : Bool) (o2 : Option Addr) (n2 : Nat) (c2 : Nat), Below w.heap.size w w' → Box w' (w.heap.size) [.int .u64 ((ah : Nat) : Int), .int .u64 ((al : Nat) : Int)] → Box w' (w.heap.size + 1) [.int .u64 ((ah : Nat) : Int), .int .u64 ((bl : Nat) : Int)] → Below w3.heap.size w3 w' → RNum w' (.agg #[.bool m1, .slice o1 n1 c1]) (2) (x) → RNum w' (.agg #[.bool m2, .slice o2 n2 c2]) (2) (y) → WWq 4 #[true, true, true, true, false, false, false, false] ((aq.put (some 10) (.agg #[.bool m1, .slice o1 n1 c1])).put (some 12) (.agg #[.bool m2, .slice o2 n2 c2])) w' := by
    intro w18 m1 o1 n1 c1 m2 o2 n2 c2 hB_0 pa_0 pb_0 hWq_0 f1_0 f2_0
    rw [HWq.out, HAq.out]
    try simp only [Act.put]
    try simp only [List.setIfInBounds_toArray, List.set_cons_zero, List.set_cons_succ]
    refine reg_all2 4 5 ?_ ?_ (by kernel_rfl) ?_ ?_ (fun K hK => ?_) (fun K hK => ?_)
    rotate_left 2
    · simp only [List.getElem?_toArray, List.getElem?_cons_succ, List.getElem?_cons_zero]; exact rfl
    · simp only [List.getElem?_toArray, List.getElem?_cons_succ, List.getElem?_cons_zero]; exact rfl
    · go_simp
      have hgn : w3.heap.size ≤ w18.heap.size := hWq_0.size
      obtain ⟨w19, hww19, px_0, hb19, -⟩ := new_box w18 _ rfl [.bool false, .slice none 0 0] 29
      rw [hww19]
      have hB_1 := hB_0.trans (hb19.mono hB_0.size)
      have pa_1 := pa_0.below hb19
      have pb_1 := pb_0.below hb19
      have hWq_1 := hWq_0.trans (hb19.mono hWq_0.size)
      have f1_1 := f1_0.below hb19
      have f2_1 := f2_0.below hb19
      clear hb19 hB_0 pa_0 pb_0 hWq_0 f1_0 f2_0
      refine hK.out _ _ ⟨pa_1.c0, pa_1.c1, pb_1.c0, pb_1.c1⟩ (fun hHeld => ?_)
      clear hK K
      try simp only [Act.put]
      try simp only [List.setIfInBounds_toArray, List.set_cons_zero, List.set_cons_succ]
      rw [← HWq.out]
      exact stq_2tf _ m1 o1 n1 c1 m2 o2 n2 c2 w18.heap.size hB_1 pa_1 pb_1 hWq_1 f1_1 f2_1 px_0 (by omega)
    · go_simp
      have hgn : w3.heap.size ≤ w18.heap.size := hWq_0.size
      obtain ⟨w20, hww20, py_0, hb20, -⟩ := new_box w18 _ rfl [.bool false, .slice none 0 0] 29
      rw [hww20]
      have hB_1 := hB_0.trans (hb20.mono hB_0.size)
      have pa_1 := pa_0.below hb20
      have pb_1 := pb_0.below hb20
      have hWq_1 := hWq_0.trans (hb20.mono hWq_0.size)
      have f1_1 := f1_0.below hb20
      have f2_1 := f2_0.below hb20
      clear hb20 hB_0 pa_0 pb_0 hWq_0 f1_0 f2_0
      refine hK.out _ _ ⟨pa_1.c0, pa_1.c1, pb_1.c0, pb_1.c1⟩ (fun hHeld => ?_)
      clear hK K
      try simp only [Act.put]
      try simp only [List.setIfInBounds_toArray, List.set_cons_zero, List.set_cons_succ]
      rw [← HWq.out]
      exact stq_2ft _ m1 o1 n1 c1 m2 o2 n2 c2 w18.heap.size hB_1 pa_1 pb_1 hWq_1 f1_1 f2_1 py_0 (by omega)
  try simp only [HAq.out, Act.put, List.setIfInBounds_toArray, List.set_cons_zero, List.set_cons_succ] at stq_2ff
  have stq_1tf : ∀ (w' : World) (m1 : Bool) (o1 : Option Addr) (n1 : Nat) (c1 : Nat) (gpx : Nat), Below w.heap.size w w' → Box w' (w.heap.size) [.int .u64 ((ah : Nat) : Int), .int .u64 ((al : Nat) : Int)] → Box w' (w.heap.size + 1) [.int .u64 ((ah : Nat) : Int), .int .u64 ((bl : Nat) : Int)] → Below w3.heap.size w3 w' → RNum w' (.agg #[.bool m1, .slice o1 n1 c1]) (2) (x) → Box w' gpx [.bool false, .slice none 0 0] → w3.heap.size ≤ gpx → WWq 4 #[true, true, true, false, true, false, false, false] ((aq.put (some 10) (.agg #[.bool m1, .slice o1 n1 c1])).put (some 5) (.pointer (some ⟨gpx, 0, none⟩))) w' := by
    intro w21 m1 o1 n1 c1 gpx hB_0 pa_0 pb_0 hWq_0 f1_0 px_0 hgpx
    rw [HWq.out, HAq.out]
    try simp only [Act.put]
    try simp only [List.setIfInBounds_toArray, List.set_cons_zero, List.set_cons_succ]
    refine reg_all2 3 5 ?_ ?_ (by kernel_rfl) ?_ ?_ (fun K hK => ?_) (fun K hK => ?_)
    rotate_left 2
    · simp only [List.getElem?_toArray, List.getElem?_cons_succ, List.getElem?_cons_zero]; exact rfl
    · simp only [List.getElem?_toArray, List.getElem?_cons_succ, List.getElem?_cons_zero]; exact rfl
    · go_simp
      refine (CY.out _).mono ?_
      rintro e w22 ⟨m2, o2, n2, c2, rfl, f2_0, hb22⟩
      have hB_1 := hB_0.trans (hb22.mono hB_0.size)
      have pa_1 := pa_0.below hb22
      have pb_1 := pb_0.below hb22
      have hWq_1 := hWq_0.trans (hb22.mono hWq_0.size)
      have f1_1 := f1_0.below hb22
      have px_1 := px_0.below hb22
      clear hb22 hB_0 pa_0 pb_0 hWq_0 f1_0 px_0
      go_wp2_with fail
      refine hK.out _ _ ⟨pa_1.c0, pa_1.c1, pb_1.c0, pb_1.c1⟩ (fun hHeld => ?_)
      clear hK K
      try simp only [Act.put]
      try simp only [List.setIfInBounds_toArray, List.set_cons_zero, List.set_cons_succ]
      rw [← HWq.out]
      exact stq_2tf _ m1 o1 n1 c1 m2 o2 n2 c2 gpx hB_1 pa_1 pb_1 hWq_1 f1_1 f2_0 px_1 (by omega)
    · go_simp
      have hgn : w3.heap.size ≤ w21.heap.size := hWq_0.size
      have hlpx := px_0.lt
      obtain ⟨w23, hww23, py_0, hb23, -⟩ := new_box w21 _ rfl [.bool false, .slice none 0 0] 29
      rw [hww23]
      have hB_1 := hB_0.trans (hb23.mono hB_0.size)
      have pa_1 := pa_0.below hb23
      have pb_1 := pb_0.below hb23
      have hWq_1 := hWq_0.trans (hb23.mono hWq_0.size)
      have f1_1 := f1_0.below hb23
      have px_1 := px_0.below hb23
      clear hb23 hB_0 pa_0 pb_0 hWq_0 f1_0 px_0
      refine hK.out _ _ ⟨pa_1.c0, pa_1.c1, pb_1.c0, pb_1.c1⟩ (fun hHeld => ?_)
      clear hK K
      try simp only [Act.put]
      try simp only [List.setIfInBounds_toArray, List.set_cons_zero, List.set_cons_succ]
      rw [← HWq.out]
      exact stq_1tt _ m1 o1 n1 c1 gpx w21.heap.size hB_1 pa_1 pb_1 hWq_1 f1_1 px_1 py_0 (by omega) (by omega) (by omega)
  try simp only [HAq.out, Act.put, List.setIfInBounds_toArray, List.set_cons_zero, List.set_cons_succ] at stq_1tf
  have stq_1ft : ∀ (w' : World) (m1 : Bool) (o1 : Option Addr) (n1 : Nat) (c1 : Nat) (gpy : Nat), Below w.heap.size w w' → Box w' (w.heap.size) [.int .u64 ((ah : Nat) : Int), .int .u64 ((al : Nat) : Int)] → Box w' (w.heap.size + 1) [.int .u64 ((ah : Nat) : Int), .int .u64 ((bl : Nat) : Int)] → Below w3.heap.size w3 w' → RNum w' (.agg #[.bool m1, .slice o1 n1 c1]) (2) (x) → Box w' gpy [.bool false, .slice none 0 0] → w3.heap.size ≤ gpy → WWq 4 #[true, true, true, false, false, true, false, false] ((aq.put (some 10) (.agg #[.bool m1, .slice o1 n1 c1])).put (some 6) (.pointer (some ⟨gpy, 0, none⟩))) w' := by
    intro w24 m1 o1 n1 c1 gpy hB_0 pa_0 pb_0 hWq_0 f1_0 py_0 hgpy
    rw [HWq.out, HAq.out]
    try simp only [Act.put]
    try simp only [List.setIfInBounds_toArray, List.set_cons_zero, List.set_cons_succ]
    refine reg_all2 3 4 ?_ ?_ (by kernel_rfl) ?_ ?_ (fun K hK => ?_) (fun K hK => ?_)
    rotate_left 2
    · simp only [List.getElem?_toArray, List.getElem?_cons_succ, List.getElem?_cons_zero]; exact rfl
    · simp only [List.getElem?_toArray, List.getElem?_cons_succ, List.getElem?_cons_zero]; exact rfl
    · go_simp
      refine (CY.out _).mono ?_
      rintro e w25 ⟨m2, o2, n2, c2, rfl, f2_0, hb25⟩
      have hB_1 := hB_0.trans (hb25.mono hB_0.size)
      have pa_1 := pa_0.below hb25
      have pb_1 := pb_0.below hb25
      have hWq_1 := hWq_0.trans (hb25.mono hWq_0.size)
      have f1_1 := f1_0.below hb25
      have py_1 := py_0.below hb25
      clear hb25 hB_0 pa_0 pb_0 hWq_0 f1_0 py_0
      go_wp2_with fail
      refine hK.out _ _ ⟨pa_1.c0, pa_1.c1, pb_1.c0, pb_1.c1⟩ (fun hHeld => ?_)
      clear hK K
      try simp only [Act.put]
      try simp only [List.setIfInBounds_toArray, List.set_cons_zero, List.set_cons_succ]
      rw [← HWq.out]
      exact stq_2ft _ m1 o1 n1 c1 m2 o2 n2 c2 gpy hB_1 pa_1 pb_1 hWq_1 f1_1 f2_0 py_1 (by omega)
    · go_simp
      have hgn : w3.heap.size ≤ w24.heap.size := hWq_0.size
      have hlpy := py_0.lt
      obtain ⟨w26, hww26, px_0, hb26, -⟩ := new_box w24 _ rfl [.bool false, .slice none 0 0] 29
      rw [hww26]
      have hB_1 := hB_0.trans (hb26.mono hB_0.size)
      have pa_1 := pa_0.below hb26
      have pb_1 := pb_0.below hb26
      have hWq_1 := hWq_0.trans (hb26.mono hWq_0.size)
      have f1_1 := f1_0.below hb26
      have py_1 := py_0.below hb26
      clear hb26 hB_0 pa_0 pb_0 hWq_0 f1_0 py_0
      refine hK.out _ _ ⟨pa_1.c0, pa_1.c1, pb_1.c0, pb_1.c1⟩ (fun hHeld => ?_)
      clear hK K
      try simp only [Act.put]
      try simp only [List.setIfInBounds_toArray, List.set_cons_zero, List.set_cons_succ]
      rw [← HWq.out]
      exact stq_1tt _ m1 o1 n1 c1 w24.heap.size gpy hB_1 pa_1 pb_1 hWq_1 f1_1 px_0 py_1 (by omega) (by omega) (by omega)
  try simp only [HAq.out, Act.put, List.setIfInBounds_toArray, List.set_cons_zero, List.set_cons_succ] at stq_1ft
  have stq_0tt : ∀ (w' : World) (gpx : Nat) (gpy : Nat), Below w.heap.size w w' → Box w' (w.heap.size) [.int .u64 ((ah : Nat) : Int), .int .u64 ((al : Nat) : Int)] → Box w' (w.heap.size + 1) [.int .u64 ((ah : Nat) : Int), .int .u64 ((bl : Nat) : Int)] → Below w3.heap.size w3 w' → Box w' gpx [.bool false, .slice none 0 0] → Box w' gpy [.bool false, .slice none 0 0] → w3.heap.size ≤ gpx → w3.heap.size ≤ gpy → gpx ≠ gpy → WWq 4 #[true, false, true, false, true, true, false, false] ((aq.put (some 5) (.pointer (some ⟨gpx, 0, none⟩))).put (some 6) (.pointer (some ⟨gpy, 0, none⟩))) w' := by
    intro w27 gpx gpy hB_0 pa_0 pb_0 hWq_0 px_0 py_0 hgpx hgpy hnpxpy
    rw [HWq.out, HAq.out]
    try simp only [Act.put]
    try simp only [List.setIfInBounds_toArray, List.set_cons_zero, List.set_cons_succ]
    refine reg_all1 1 ?_ (by kernel_rfl) ?_ (fun K hK => ?_)
    rotate_left 1
    · simp only [List.getElem?_toArray, List.getElem?_cons_succ, List.getElem?_cons_zero]; exact rfl
    · go_simp
      refine (CX.out _).mono ?_
      rintro e w28 ⟨m1, o1, n1, c1, rfl, f1_0, hb28⟩
      have hB_1 := hB_0.trans (hb28.mono hB_0.size)
      have pa_1 := pa_0.below hb28
      have pb_1 := pb_0.below hb28
      have hWq_1 := hWq_0.trans (hb28.mono hWq_0.size)
      have px_1 := px_0.below hb28
      have py_1 := py_0.below hb28
      clear hb28 hB_0 pa_0 pb_0 hWq_0 px_0 py_0
      go_wp2_with fail
      refine hK.out _ _ ⟨pa_1.c0, pa_1.c1, pb_1.c0, pb_1.c1⟩ (fun hHeld => ?_)
      clear hK K
      try simp only [Act.put]
      try simp only [List.setIfInBounds_toArray, List.set_cons_zero, List.set_cons_succ]
      rw [← HWq.out]
      exact stq_1tt _ m1 o1 n1 c1 gpx gpy hB_1 pa_1 pb_1 hWq_1 f1_0 px_1 py_1 (by omega) (by omega) (by omega)
  try simp only [HAq.out, Act.put, List.setIfInBounds_toArray, List.set_cons_zero, List.set_cons_succ] at stq_0tt
  have stq_1ff : ∀ (w' : World) (m1 : Bool) (o1 : Option Addr) (n1 : Nat) (c1 : Nat), Below w.heap.size w w' → Box w' (w.heap.size) [.int .u64 ((ah : Nat) : Int), .int .u64 ((al : Nat) : Int)] → Box w' (w.heap.size + 1) [.int .u64 ((ah : Nat) : Int), .int .u64 ((bl : Nat) : Int)] → Below w3.heap.size w3 w' → RNum w' (.agg #[.bool m1, .slice o1 n1 c1]) (2) (x) → WWq 5 #[true, true, true, false, false, false, false, false] (aq.put (some 10) (.agg #[.bool m1, .slice o1 n1 c1])) w' := by
    intro w29 m1 o1 n1 c1 hB_0 pa_0 pb_0 hWq_0 f1_0
    rw [HWq.out, HAq.out]
    try simp only [Act.put]
    try simp only [List.setIfInBounds_toArray, List.set_cons_zero, List.set_cons_succ]
    refine reg_all3 3 4 5 ?_ ?_ ?_ (by kernel_rfl) ?_ ?_ ?_ (fun K hK => ?_) (fun K hK => ?_) (fun K hK => ?_)
    rotate_left 3
    · simp only [List.getElem?_toArray, List.getElem?_cons_succ, List.getElem?_cons_zero]; exact rfl
    · simp only [List.getElem?_toArray, List.getElem?_cons_succ, List.getElem?_cons_zero]; exact rfl
    · simp only [List.getElem?_toArray, List.getElem?_cons_succ, List.getElem?_cons_zero]; exact rfl
    · go_simp
      refine (CY.out _).mono ?_
      rintro e w30 ⟨m2, o2, n2, c2, rfl, f2_0, hb30⟩
      have hB_1 := hB_0.trans (hb30.mono hB_0.size)
      have pa_1 := pa_0.below hb30
      have pb_1 := pb_0.below hb30
      have hWq_1 := hWq_0.trans (hb30.mono hWq_0.size)
      have f1_1 := f1_0.below hb30
      clear hb30 hB_0 pa_0 pb_0 hWq_0 f1_0
      go_wp2_with fail
      refine hK.out _ _ ⟨pa_1.c0, pa_1.c1, pb_1.c0, pb_1.c1⟩ (fun hHeld => ?_)
      clear hK K
      try simp only [Act.put]
      try simp only [List.setIfInBounds_toArray, List.set_cons_zero, List.set_cons_succ]
      rw [← HWq.out]
      exact stq_2ff _ m1 o1 n1 c1 m2 o2 n2 c2 hB_1 pa_1 pb_1 hWq_1 f1_1 f2_0
    · go_simp
      have hgn : w3.heap.size ≤ w29.heap.size := hWq_0.size
      obtain ⟨w31, hww31, px_0, hb31, -⟩ := new_box w29 _ rfl [.bool false, .slice none 0 0] 29
      rw [hww31]
      have hB_1 := hB_0.trans (hb31.mono hB_0.size)
      have pa_1 := pa_0.below hb31
      have pb_1 := pb_0.below hb31
      have hWq_1 := hWq_0.trans (hb31.mono hWq_0.size)
      have f1_1 := f1_0.below hb31
      clear hb31 hB_0 pa_0 pb_0 hWq_0 f1_0
      refine hK.out _ _ ⟨pa_1.c0, pa_1.c1, pb_1.c0, pb_1.c1⟩ (fun hHeld => ?_)
      clear hK K
      try simp only [Act.put]
      try simp only [List.setIfInBounds_toArray, List.set_cons_zero, List.set_cons_succ]
      rw [← HWq.out]
      exact stq_1tf _ m1 o1 n1 c1 w29.heap.size hB_1 pa_1 pb_1 hWq_1 f1_1 px_0 (by omega)
    · go_simp
      have hgn : w3.heap.size ≤ w29.heap.size := hWq_0.size
      obtain ⟨w32, hww32, py_0, hb32, -⟩ := new_box w29 _ rfl [.bool false, .slice none 0 0] 29
      rw [hww32]
      have hB_1 := hB_0.trans (hb32.mono hB_0.size)
      have pa_1 := pa_0.below hb32
      have pb_1 := pb_0.below hb32
      have hWq_1 := hWq_0.trans (hb32.mono hWq_0.size)
      have f1_1 := f1_0.below hb32
      clear hb32 hB_0 pa_0 pb_0 hWq_0 f1_0
      refine hK.out _ _ ⟨pa_1.c0, pa_1.c1, pb_1.c0, pb_1.c1⟩ (fun hHeld => ?_)
      clear hK K
      try simp only [Act.put]
      try simp only [List.setIfInBounds_toArray, List.set_cons_zero, List.set_cons_succ]
      rw [← HWq.out]
      exact stq_1ft _ m1 o1 n1 c1 w29.heap.size hB_1 pa_1 pb_1 hWq_1 f1_1 py_0 (by omega)
  try simp only [HAq.out, Act.put, List.setIfInBounds_toArray, List.set_cons_zero, List.set_cons_succ] at stq_1ff
  have stq_0tf : ∀ (w' : World) (gpx : Nat), Below w.heap.size w w' → Box w' (w.heap.size) [.int .u64 ((ah : Nat) : Int), .int .u64 ((al : Nat) : Int)] → Box w' (w.heap.size + 1) [.int .u64 ((ah : Nat) : Int), .int .u64 ((bl : Nat) : Int)] → Below w3.heap.size w3 w' → Box w' gpx [.bool false, .slice none 0 0] → w3.heap.size ≤ gpx → WWq 5 #[true, false, true, false, true, false, false, false] (aq.put (some 5) (.pointer (some ⟨gpx, 0, none⟩))) w' := by
    intro w33 gpx hB_0 pa_0 pb_0 hWq_0 px_0 hgpx
    rw [HWq.out, HAq.out]
    try simp only [Act.put]
    try simp only [List.setIfInBounds_toArray, List.set_cons_zero, List.set_cons_succ]
    refine reg_all2 1 5 ?_ ?_ (by kernel_rfl) ?_ ?_ (fun K hK => ?_) (fun K hK => ?_)
    rotate_left 2
    · simp only [List.getElem?_toArray, List.getElem?_cons_succ, List.getElem?_cons_zero]; exact rfl
    · simp only [List.getElem?_toArray, List.getElem?_cons_succ, List.getElem?_cons_zero]; exact rfl
    · go_simp
      refine (CX.out _).mono ?_
      rintro e w34 ⟨m1, o1, n1, c1, rfl, f1_0, hb34⟩
      have hB_1 := hB_0.trans (hb34.mono hB_0.size)
      have pa_1 := pa_0.below hb34
      have pb_1 := pb_0.below hb34
      have hWq_1 := hWq_0.trans (hb34.mono hWq_0.size)
      have px_1 := px_0.below hb34
      clear hb34 hB_0 pa_0 pb_0 hWq_0 px_0
      go_wp2_with fail
      refine hK.out _ _ ⟨pa_1.c0, pa_1.c1, pb_1.c0, pb_1.c1⟩ (fun hHeld => ?_)
      clear hK K
      try simp only [Act.put]
      try simp only [List.setIfInBounds_toArray, List.set_cons_zero, List.set_cons_succ]
      rw [← HWq.out]
      exact stq_1tf _ m1 o1 n1 c1 gpx hB_1 pa_1 pb_1 hWq_1 f1_0 px_1 (by omega)
    · go_simp
      have hgn : w3.heap.size ≤ w33.heap.size := hWq_0.size
      have hlpx := px_0.lt
      obtain ⟨w35, hww35, py_0, hb35, -⟩ := new_box w33 _ rfl [.bool false, .slice none 0 0] 29
      rw [hww35]
      have hB_1 := hB_0.trans (hb35.mono hB_0.size)
      have pa_1 := pa_0.below hb35
      have pb_1 := pb_0.below hb35
      have hWq_1 := hWq_0.trans (hb35.mono hWq_0.size)
      have px_1 := px_0.below hb35
      clear hb35 hB_0 pa_0 pb_0 hWq_0 px_0
      refine hK.out _ _ ⟨pa_1.c0, pa_1.c1, pb_1.c0, pb_1.c1⟩ (fun hHeld => ?_)
      clear hK K
      try simp only [Act.put]
      try simp only [List.setIfInBounds_toArray, List.set_cons_zero, List.set_cons_succ]
      rw [← HWq.out]
      exact stq_0tt _ gpx w33.heap.size hB_1 pa_1 pb_1 hWq_1 px_1 py_0 (by omega) (by omega) (by omega)
  try simp only [HAq.out, Act.put, List.setIfInBounds_toArray, List.set_cons_zero, List.set_cons_succ] at stq_0tf
  have stq_0ft : ∀ (w' : World) (gpy : Nat), Below w.heap.size w w' → Box w' (w.heap.size) [.int .u64 ((ah : Nat) : Int), .int .u64 ((al : Nat) : Int)] → Box w' (w.heap.size + 1) [.int .u64 ((ah : Nat) : Int), .int .u64 ((bl : Nat) : Int)] → Below w3.heap.size w3 w' → Box w' gpy [.bool false, .slice none 0 0] → w3.heap.size ≤ gpy → WWq 5 #[true, false, true, false, false, true, false, false] (aq.put (some 6) (.pointer (some ⟨gpy, 0, none⟩))) w' := by
    intro w36 gpy hB_0 pa_0 pb_0 hWq_0 py_0 hgpy
    rw [HWq.out, HAq.out]
    try simp only [Act.put]
    try simp only [List.setIfInBounds_toArray, List.set_cons_zero, List.set_cons_succ]
    refine reg_all2 1 4 ?_ ?_ (by kernel_rfl) ?_ ?_ (fun K hK => ?_) (fun K hK => ?_)
    rotate_left 2
    · simp only [List.getElem?_toArray, List.getElem?_cons_succ, List.getElem?_cons_zero]; exact rfl
    · simp only [List.getElem?_toArray, List.getElem?_cons_succ, List.getElem?_cons_zero]; exact rfl
    · go_simp
      refine (CX.out _).mono ?_
      rintro e w37 ⟨m1, o1, n1, c1, rfl, f1_0, hb37⟩
      have hB_1 := hB_0.trans (hb37.mono hB_0.size)
      have pa_1 := pa_0.below hb37
      have pb_1 := pb_0.below hb37
      have hWq_1 := hWq_0.trans (hb37.mono hWq_0.size)
      have py_1 := py_0.below hb37
      clear hb37 hB_0 pa_0 pb_0 hWq_0 py_0
      go_wp2_with fail
      refine hK.out _ _ ⟨pa_1.c0, pa_1.c1, pb_1.c0, pb_1.c1⟩ (fun hHeld => ?_)
      clear hK K
      try simp only [Act.put]
      try simp only [List.setIfInBounds_toArray, List.set_cons_zero, List.set_cons_succ]
      rw [← HWq.out]
      exact stq_1ft _ m1 o1 n1 c1 gpy hB_1 pa_1 pb_1 hWq_1 f1_0 py_1 (by omega)
    · go_simp
      have hgn : w3.heap.size ≤ w36.heap.size := hWq_0.size
      have hlpy := py_0.lt
      obtain ⟨w38, hww38, px_0, hb38, -⟩ := new_box w36 _ rfl [.bool false, .slice none 0 0] 29
      rw [hww38]
      have hB_1 := hB_0.trans (hb38.mono hB_0.size)
      have pa_1 := pa_0.below hb38
      have pb_1 := pb_0.below hb38
      have hWq_1 := hWq_0.trans (hb38.mono hWq_0.size)
      have py_1 := py_0.below hb38
      clear hb38 hB_0 pa_0 pb_0 hWq_0 py_0
      refine hK.out _ _ ⟨pa_1.c0, pa_1.c1, pb_1.c0, pb_1.c1⟩ (fun hHeld => ?_)
      clear hK K
      try simp only [Act.put]
      try simp only [List.setIfInBounds_toArray, List.set_cons_zero, List.set_cons_succ]
      rw [← HWq.out]
      exact stq_0tt _ w36.heap.size gpy hB_1 pa_1 pb_1 hWq_1 px_0 py_1 (by omega) (by omega) (by omega)
  try simp only [HAq.out, Act.put, List.setIfInBounds_toArray, List.set_cons_zero, List.set_cons_succ] at stq_0ft
  have stq_0ff : ∀ (w' : World), Below w.heap.size w w' → Box w' (w.heap.size) [.int .u64 ((ah : Nat) : Int), .int .u64 ((al : Nat) : Int)] → Box w' (w.heap.size + 1) [.int .u64 ((ah : Nat) : Int), .int .u64 ((bl : Nat) : Int)] → Below w3.heap.size w3 w' → WWq 6 #[true, false, true, false, false, false, false, false] aq w' := by
    intro w39 hB_0 pa_0 pb_0 hWq_0
    rw [HWq.out, HAq.out]
    try simp only [Act.put]
    try simp only [List.setIfInBounds_toArray, List.set_cons_zero, List.set_cons_succ]
    refine reg_all3 1 4 5 ?_ ?_ ?_ (by kernel_rfl) ?_ ?_ ?_ (fun K hK => ?_) (fun K hK => ?_) (fun K hK => ?_)
    rotate_left 3
    · simp only [List.getElem?_toArray, List.getElem?_cons_succ, List.getElem?_cons_zero]; exact rfl
    · simp only [List.getElem?_toArray, List.getElem?_cons_succ, List.getElem?_cons_zero]; exact rfl
    · simp only [List.getElem?_toArray, List.getElem?_cons_succ, List.getElem?_cons_zero]; exact rfl
    · go_simp
      refine (CX.out _).mono ?_
      rintro e w40 ⟨m1, o1, n1, c1, rfl, f1_0, hb40⟩
      have hB_1 := hB_0.trans (hb40.mono hB_0.size)
      have pa_1 := pa_0.below hb40
      have pb_1 := pb_0.below hb40
      have hWq_1 := hWq_0.trans (hb40.mono hWq_0.size)
      clear hb40 hB_0 pa_0 pb_0 hWq_0
      go_wp2_with fail
      refine hK.out _ _ ⟨pa_1.c0, pa_1.c1, pb_1.c0, pb_1.c1⟩ (fun hHeld => ?_)
      clear hK K
      try simp only [Act.put]
      try simp only [List.setIfInBounds_toArray, List.set_cons_zero, List.set_cons_succ]
      rw [← HWq.out]
      exact stq_1ff _ m1 o1 n1 c1 hB_1 pa_1 pb_1 hWq_1 f1_0
    · go_simp
      have hgn : w3.heap.size ≤ w39.heap.size := hWq_0.size
      obtain ⟨w41, hww41, px_0, hb41, -⟩ := new_box w39 _ rfl [.bool false, .slice none 0 0] 29
      rw [hww41]
      have hB_1 := hB_0.trans (hb41.mono hB_0.size)
      have pa_1 := pa_0.below hb41
      have pb_1 := pb_0.below hb41
      have hWq_1 := hWq_0.trans (hb41.mono hWq_0.size)
      clear hb41 hB_0 pa_0 pb_0 hWq_0
      refine hK.out _ _ ⟨pa_1.c0, pa_1.c1, pb_1.c0, pb_1.c1⟩ (fun hHeld => ?_)
      clear hK K
      try simp only [Act.put]
      try simp only [List.setIfInBounds_toArray, List.set_cons_zero, List.set_cons_succ]
      rw [← HWq.out]
      exact stq_0tf _ w39.heap.size hB_1 pa_1 pb_1 hWq_1 px_0 (by omega)
    · go_simp
      have hgn : w3.heap.size ≤ w39.heap.size := hWq_0.size
      obtain ⟨w42, hww42, py_0, hb42, -⟩ := new_box w39 _ rfl [.bool false, .slice none 0 0] 29
      rw [hww42]
      have hB_1 := hB_0.trans (hb42.mono hB_0.size)
      have pa_1 := pa_0.below hb42
      have pb_1 := pb_0.below hb42
      have hWq_1 := hWq_0.trans (hb42.mono hWq_0.size)
      clear hb42 hB_0 pa_0 pb_0 hWq_0
      refine hK.out _ _ ⟨pa_1.c0, pa_1.c1, pb_1.c0, pb_1.c1⟩ (fun hHeld => ?_)
      clear hK K
      try simp only [Act.put]
      try simp only [List.setIfInBounds_toArray, List.set_cons_zero, List.set_cons_succ]
      rw [← HWq.out]
      exact stq_0ft _ w39.heap.size hB_1 pa_1 pb_1 hWq_1 py_0 (by omega)
  exact stq_0ff _ hB_4 pa_3 pb_2 hWq_1
set_option maxRecDepth 100000 in
set_option maxHeartbeats 16000000 in
theorem WideCmps_w_high (ah al bh bl : Nat) (h0 : ¬ ah = bh) (x y s : Int) (c : Int) (hc0 : (c == 0) = false) (hc1 : ¬ c = 0) (cx : ∀ w, Calls Try.prog 9 #[.agg #[.int .u64 ((ah : Nat) : Int), .int .u64 ((al : Nat) : Int)]] w fun e w' => AnsNum w w' e 2 x) (cy : ∀ w, Calls Try.prog 9 #[.agg #[.int .u64 ((bh : Nat) : Int), .int .u64 ((bl : Nat) : Int)]] w fun e w' => AnsNum w w' e 2 y) (cc : ∀ w, Calls Try.prog 25 #[.agg #[.int .u64 ((ah : Nat) : Int), .int .u64 ((al : Nat) : Int)], .agg #[.int .u64 ((bh : Nat) : Int), .int .u64 ((bl : Nat) : Int)]] w fun e w' => e = .returned (.int .i64 c) ∧ Below w.heap.size w w') (cs : ∀ w, Calls Try.prog 26 #[.agg #[.int .u64 ((ah : Nat) : Int), .int .u64 ((al : Nat) : Int)]] w fun e w' => e = .returned (.int .i64 s) ∧ Below w.heap.size w w') (hic : icmp x y = c) (his : x.sign = s) (w : World) :
    Calls Try.prog 5 #[.agg #[.int .u64 ((ah : Nat) : Int), .int .u64 ((al : Nat) : Int)], .agg #[.int .u64 ((bh : Nat) : Int), .int .u64 ((bl : Nat) : Int)]] w fun e w' => e = .returned (.bool true) ∧ Below w.heap.size w w' := by
  have hB_0 := Below.refl w.heap.size w
  have CX := Lib.hid cx; have CY := Lib.hid cy; have CC := Lib.hid cc; have CS := Lib.hid cs; have HIC := Lib.hid hic; have HIS := Lib.hid his
  clear cx cy cc cs hic his
  obtain ⟨w1, hw1, pa_0, hb1, hs1⟩ := new_box w (w.heap.size) rfl [.int .u64 ((ah : Nat) : Int), .int .u64 ((al : Nat) : Int)] 24
  have hb1' : Below w.heap.size w w1 := hb1.mono (by omega)
  clear hb1
  have hB_1 := hB_0.trans (hb1'.mono hB_0.size)
  clear hb1' hB_0
  obtain ⟨w2, hw2, pb_0, hb2, hs2⟩ := new_box w1 (w.heap.size + 1) hs1 [.int .u64 ((bh : Nat) : Int), .int .u64 ((bl : Nat) : Int)] 24
  have hb2' : Below w1.heap.size w1 w2 := hb2.mono (by omega)
  clear hb2
  have hB_2 := hB_1.trans (hb2'.mono hB_1.size)
  have pa_1 := pa_0.below hb2'
  clear hb2' hB_1 pa_0
  go_enter Try.func5, Try.ntmps5
  obtain ⟨pae0, pae1, pae2, pae3⟩ := pa_1.open2
  obtain ⟨pbe0, pbe1, pbe2, pbe3⟩ := pb_0.open2
  go_wp2_with fail
  refine (wfit_any _).mono ?_
  rintro e w3 ⟨rfl, hb3⟩
  clear pae0 pae1 pae2 pae3 pbe0 pbe1 pbe2 pbe3
  have hB_3 := hB_2.trans (hb3.mono hB_2.size)
  have pa_2 := pa_1.below hb3
  have pb_1 := pb_0.below hb3
  clear hb3 hB_2 pa_1 pb_0
  obtain ⟨pae0, pae1, pae2, pae3⟩ := pa_2.open2
  obtain ⟨pbe0, pbe1, pbe2, pbe3⟩ := pb_1.open2
  go_wp2
  clear pae0 pae1 pae2 pae3 pbe0 pbe1 pbe2 pbe3
  have hWq_0 := Below.refl w3.heap.size w3
  have hsq : w.heap.size ≤ w3.heap.size := hB_3.size
  have hlqpa := pa_2.lt
  have hlqpb := pb_1.lt
  have hB_4 := hB_3.drew'
  have pa_3 := pa_2.drew
  have pb_2 := pb_1.drew
  have hWq_1 := hWq_0.drew'
  clear hB_3 pa_2 pb_1 hWq_0
  refine wp_region_noPanic ?_
  refine wp_region_held_drew (S := fun w' => w'.cell? ⟨w.heap.size, 0, none⟩ = some (.int .u64 ((ah : Nat) : Int)) ∧ w'.cell? ⟨w.heap.size, 1, none⟩ = some (.int .u64 ((al : Nat) : Int)) ∧ w'.cell? ⟨w.heap.size + 1, 0, none⟩ = some (.int .u64 ((bh : Nat) : Int)) ∧ w'.cell? ⟨w.heap.size + 1, 1, none⟩ = some (.int .u64 ((bl : Nat) : Int))) (by kernel_rfl) (⟨pa_3.c0, pa_3.c1, pb_2.c0, pb_2.c1⟩) (fun hHeld => ?_)
  refine reg_take 0 ?_ ?_ ?_ (by kernel_rfl) (by kernel_rfl) (by kernel_rfl) (fun _ _ _ h => h) ?_ ?_ (by assumption) ?_
  rotate_left 2
  · simp only [List.getElem?_toArray, List.getElem?_cons_zero]; exact rfl
  · rfl
  · intro w hSw; (try dsimp only at hSw); go_simp; try with_reducible rfl
  try simp only [Act.put]
  try simp only [List.setIfInBounds_toArray, List.set_cons_zero, List.set_cons_succ]
  refine reg_take 2 ?_ ?_ ?_ (by kernel_rfl) (by kernel_rfl) (by kernel_rfl) (fun _ _ _ h => h) ?_ ?_ (by assumption) ?_
  rotate_left 2
  · simp only [List.getElem?_toArray, List.getElem?_cons_succ, List.getElem?_cons_zero]; exact rfl
  · rfl
  · intro w hSw; (try dsimp only at hSw); go_simp; try with_reducible rfl
  try simp only [Act.put]
  try simp only [List.setIfInBounds_toArray, List.set_cons_zero, List.set_cons_succ]
  refine reg_grab (fun WWq aq hWW hAA => ?_)
  have HWq := Lib.hid hWW; have HAq := Lib.hid hAA; clear hWW hAA hHeld
  have stq_2tt : ∀ (w' : World) (m1 : Bool) (o1 : Option Addr) (n1 : Nat) (c1 : Nat) (m2 : Bool) (o2 : Option Addr) (n2 : Nat) (c2 : Nat) (gpx : Nat) (gpy : Nat), Below w.heap.size w w' → Box w' (w.heap.size) [.int .u64 ((ah : Nat) : Int), .int .u64 ((al : Nat) : Int)] → Box w' (w.heap.size + 1) [.int .u64 ((bh : Nat) : Int), .int .u64 ((bl : Nat) : Int)] → Below w3.heap.size w3 w' → RNum w' (.agg #[.bool m1, .slice o1 n1 c1]) (2) (x) → RNum w' (.agg #[.bool m2, .slice o2 n2 c2]) (2) (y) → Box w' gpx [.bool false, .slice none 0 0] → Box w' gpy [.bool false, .slice none 0 0] → w3.heap.size ≤ gpx → w3.heap.size ≤ gpy → gpx ≠ gpy → WWq 2 #[true, true, true, true, true, true, false, false] ((((aq.put (some 10) (.agg #[.bool m1, .slice o1 n1 c1])).put (some 12) (.agg #[.bool m2, .slice o2 n2 c2])).put (some 5) (.pointer (some ⟨gpx, 0, none⟩))).put (some 6) (.pointer (some ⟨gpy, 0, none⟩))) w' := by
    intro w4 m1 o1 n1 c1 m2 o2 n2 c2 gpx gpy hB_0 pa_0 pb_0 hWq_0 f1_0 f2_0 px_0 py_0 hgpx hgpy hnpxpy
    rw [HWq.out, HAq.out]
    try simp only [Act.put]
    try simp only [List.setIfInBounds_toArray, List.set_cons_zero, List.set_cons_succ]
    clear hWq_0
    obtain ⟨sf1a, sf1b, sf1c, sf1d⟩ := px_0.open2
    obtain ⟨sg1a, sg1b⟩ := Box.put2 px_0 (.bool m1)
    refine reg_call 6 ?_ (by kernel_rfl) ?_ (fun K hK => ?_)
    rotate_left 1
    · simp only [List.getElem?_toArray, List.getElem?_cons_succ, List.getElem?_cons_zero]; exact rfl
    go_simp
    have hB_1 := below_setAll hB_0 (g := gpx) (by omega) [.bool m1, .slice o1 n1 c1]
    have pa_1 := pa_0.farAll (g' := gpx) (by omega) [.bool m1, .slice o1 n1 c1]
    have pb_1 := pb_0.farAll (g' := gpx) (by omega) [.bool m1, .slice o1 n1 c1]
    have f1_1 := f1_0.setAll px_0 (noWord2 _ _ _ _) [.bool m1, .slice o1 n1 c1] rfl
    have f2_1 := f2_0.setAll px_0 (noWord2 _ _ _ _) [.bool m1, .slice o1 n1 c1] rfl
    have py_1 := py_0.farAll (g' := gpx) (by omega) [.bool m1, .slice o1 n1 c1]
    have px_1 := px_0.setAll [.bool m1, .slice o1 n1 c1] rfl
    simp only [setAll, Nat.zero_add] at hB_1 pa_1 pb_1 f1_1 f2_1 px_1 py_1
    clear sf1a sf1b sf1c sf1d sg1a sg1b
    clear hB_0 pa_0 pb_0 f1_0 f2_0 py_0 px_0
    refine hK.out _ _ ⟨pa_1.c0, pa_1.c1, pb_1.c0, pb_1.c1⟩ (fun hHeld => ?_)
    clear hK K
    try simp only [Act.put]
    try simp only [List.setIfInBounds_toArray, List.set_cons_zero, List.set_cons_succ]
    generalize (World.setCell (World.setCell w4 ⟨gpx, 0, none⟩ (.bool m1)) ⟨gpx, 1, none⟩ (.slice o1 n1 c1)) = w5 at *
    obtain ⟨sf2a, sf2b, sf2c, sf2d⟩ := py_1.open2
    obtain ⟨sg2a, sg2b⟩ := Box.put2 py_1 (.bool m2)
    refine reg_call 7 ?_ (by kernel_rfl) ?_ (fun K hK => ?_)
    rotate_left 1
    · simp only [List.getElem?_toArray, List.getElem?_cons_succ, List.getElem?_cons_zero]; exact rfl
    go_simp
    have hB_2 := below_setAll hB_1 (g := gpy) (by omega) [.bool m2, .slice o2 n2 c2]
    have pa_2 := pa_1.farAll (g' := gpy) (by omega) [.bool m2, .slice o2 n2 c2]
    have pb_2 := pb_1.farAll (g' := gpy) (by omega) [.bool m2, .slice o2 n2 c2]
    have f1_2 := f1_1.setAll py_1 (noWord2 _ _ _ _) [.bool m2, .slice o2 n2 c2] rfl
    have f2_2 := f2_1.setAll py_1 (noWord2 _ _ _ _) [.bool m2, .slice o2 n2 c2] rfl
    have px_2 := px_1.farAll (g' := gpy) (by omega) [.bool m2, .slice o2 n2 c2]
    have py_2 := py_1.setAll [.bool m2, .slice o2 n2 c2] rfl
    simp only [setAll, Nat.zero_add] at hB_2 pa_2 pb_2 f1_2 f2_2 px_2 py_2
    clear sf2a sf2b sf2c sf2d sg2a sg2b
    clear hB_1 pa_1 pb_1 f1_1 f2_1 px_1 py_1
    refine hK.out _ _ ⟨pa_2.c0, pa_2.c1, pb_2.c0, pb_2.c1⟩ (fun hHeld => ?_)
    clear hK K
    try simp only [Act.put]
    try simp only [List.setIfInBounds_toArray, List.set_cons_zero, List.set_cons_succ]
    generalize (World.setCell (World.setCell w5 ⟨gpy, 0, none⟩ (.bool m2)) ⟨gpy, 1, none⟩ (.slice o2 n2 c2)) = w6 at *
    refine wpAnyH_done (by kernel_rfl) ?_ _
    refine NoPanic.normal ?_
    go_wp2
    have g1 : decide (ah = bh) = false := by simp [h0]
    have g2 : (((ah : Nat) : Int) == ((bh : Nat) : Int)) = false := by simp; omega
    have g4 : decide (((ah : Nat) : Int) = ((bh : Nat) : Int)) = false := by simp; omega
    have g5 : ¬ ((ah : Nat) : Int) = ((bh : Nat) : Int) := by omega
    have hB_3 := hB_2.drew'
    have pa_3 := pa_2.drew
    have pb_3 := pb_2.drew
    have f1_3 := f1_2.drew
    have f2_3 := f2_2.drew
    have px_3 := px_2.drew
    have py_3 := py_2.drew
    clear hB_2 pa_2 pb_2 f1_2 f2_2 px_2 py_2
    go_region_held3 (fun w' => w'.cell? ⟨w.heap.size, 0, none⟩ = some (.int .u64 ((ah : Nat) : Int)) ∧ w'.cell? ⟨w.heap.size, 1, none⟩ = some (.int .u64 ((al : Nat) : Int)) ∧ w'.cell? ⟨w.heap.size + 1, 0, none⟩ = some (.int .u64 ((bh : Nat) : Int)) ∧ w'.cell? ⟨w.heap.size + 1, 1, none⟩ = some (.int .u64 ((bl : Nat) : Int)) ∧ w'.cell? ⟨gpx, 0, none⟩ = some (.bool m1) ∧ w'.cell? ⟨gpx, 1, none⟩ = some (.slice o1 n1 c1) ∧ w'.cell? ⟨gpy, 0, none⟩ = some (.bool m2) ∧ w'.cell? ⟨gpy, 1, none⟩ = some (.slice o2 n2 c2))
      (first | with_reducible exact ⟨pa_3.c0, pa_3.c1, pb_3.c0, pb_3.c1, px_3.c0, px_3.c1, py_3.c0, py_3.c1⟩ | with_reducible exact ⟨pa_4.c0, pa_4.c1, pb_4.c0, pb_4.c1, px_4.c0, px_4.c1, py_4.c0, py_4.c1⟩ | with_reducible exact ⟨pa_5.c0, pa_5.c1, pb_5.c0, pb_5.c1, px_5.c0, px_5.c1, py_5.c0, py_5.c1⟩ | with_reducible exact ⟨pa_6.c0, pa_6.c1, pb_6.c0, pb_6.c1, px_6.c0, px_6.c1, py_6.c0, py_6.c1⟩ | with_reducible exact ⟨pa_7.c0, pa_7.c1, pb_7.c0, pb_7.c1, px_7.c0, px_7.c1, py_7.c0, py_7.c1⟩ | with_reducible exact ⟨pa_8.c0, pa_8.c1, pb_8.c0, pb_8.c1, px_8.c0, px_8.c1, py_8.c0, py_8.c1⟩ | fail)
      (first
        | (go_at_call 25; (with_reducible refine (CC.out _).mono ?_); rintro e w7 ⟨rfl, hb7⟩; have hB_4 := hB_3.trans (hb7.mono hB_3.size); have pa_4 := pa_3.below hb7; have pb_4 := pb_3.below hb7; have f1_4 := f1_3.below hb7; have f2_4 := f2_3.below hb7; have px_4 := px_3.below hb7; have py_4 := py_3.below hb7; clear hb7 hB_3 pa_3 pb_3 f1_3 f2_3 px_3 py_3)
        | (go_at_call 21; (with_reducible refine (wnCmp_is _ _ 2 2 x y c _ (by omega) (by omega) f1_4.num f2_4.num HIC.out).mono ?_); rintro e w8 ⟨rfl, hb8⟩; have hB_5 := hB_4.trans (hb8.mono hB_4.size); have pa_5 := pa_4.below hb8; have pb_5 := pb_4.below hb8; have f1_5 := f1_4.below hb8; have f2_5 := f2_4.below hb8; have px_5 := px_4.below hb8; have py_5 := py_4.below hb8; clear hb8 hB_4 pa_4 pb_4 f1_4 f2_4 px_4 py_4)
        | (go_at_call 26; (with_reducible refine (CS.out _).mono ?_); rintro e w9 ⟨rfl, hb9⟩; have hB_6 := hB_5.trans (hb9.mono hB_5.size); have pa_6 := pa_5.below hb9; have pb_6 := pb_5.below hb9; have f1_6 := f1_5.below hb9; have f2_6 := f2_5.below hb9; have px_6 := px_5.below hb9; have py_6 := py_5.below hb9; clear hb9 hB_5 pa_5 pb_5 f1_5 f2_5 px_5 py_5)
        | (go_at_call 27; (with_reducible refine (wnSign_is _ 2 x s _ (by omega) f1_6.num HIS.out).mono ?_); rintro e w10 ⟨rfl, hb10⟩; have hB_7 := hB_6.trans (hb10.mono hB_6.size); have pa_7 := pa_6.below hb10; have pb_7 := pb_6.below hb10; have f1_7 := f1_6.below hb10; have f2_7 := f2_6.below hb10; have px_7 := px_6.below hb10; have py_7 := py_6.below hb10; clear hb10 hB_6 pa_6 pb_6 f1_6 f2_6 px_6 py_6)
        | (go_at_call 25; (with_reducible refine (CC.out _).mono ?_); rintro e w11 ⟨rfl, hb11⟩; have hB_8 := hB_7.trans (hb11.mono hB_7.size); have pa_8 := pa_7.below hb11; have pb_8 := pb_7.below hb11; have f1_8 := f1_7.below hb11; have f2_8 := f2_7.below hb11; have px_8 := px_7.below hb11; have py_8 := py_7.below hb11; clear hb11 hB_7 pa_7 pb_7 f1_7 f2_7 px_7 py_7))
    all_goals (try go_wp2)
    all_goals (go_ret; exact ⟨rfl, by assumption⟩)
  simp only [HAq.out, Act.put, List.setIfInBounds_toArray, List.set_cons_zero, List.set_cons_succ] at stq_2tt
  have stq_2tf : ∀ (w' : World) (m1 : Bool) (o1 : Option Addr) (n1 : Nat) (c1 : Nat) (m2 : Bool) (o2 : Option Addr) (n2 : Nat) (c2 : Nat) (gpx : Nat), Below w.heap.size w w' → Box w' (w.heap.size) [.int .u64 ((ah : Nat) : Int), .int .u64 ((al : Nat) : Int)] → Box w' (w.heap.size + 1) [.int .u64 ((bh : Nat) : Int), .int .u64 ((bl : Nat) : Int)] → Below w3.heap.size w3 w' → RNum w' (.agg #[.bool m1, .slice o1 n1 c1]) (2) (x) → RNum w' (.agg #[.bool m2, .slice o2 n2 c2]) (2) (y) → Box w' gpx [.bool false, .slice none 0 0] → w3.heap.size ≤ gpx → WWq 3 #[true, true, true, true, true, false, false, false] (((aq.put (some 10) (.agg #[.bool m1, .slice o1 n1 c1])).put (some 12) (.agg #[.bool m2, .slice o2 n2 c2])).put (some 5) (.pointer (some ⟨gpx, 0, none⟩))) w' := by
    intro w12 m1 o1 n1 c1 m2 o2 n2 c2 gpx hB_0 pa_0 pb_0 hWq_0 f1_0 f2_0 px_0 hgpx
    rw [HWq.out, HAq.out]
    try simp only [Act.put]
    try simp only [List.setIfInBounds_toArray, List.set_cons_zero, List.set_cons_succ]
    refine reg_all1 5 ?_ (by kernel_rfl) ?_ (fun K hK => ?_)
    rotate_left 1
    · simp only [List.getElem?_toArray, List.getElem?_cons_succ, List.getElem?_cons_zero]; exact rfl
    · go_simp
      have hgn : w3.heap.size ≤ w12.heap.size := hWq_0.size
      have hlpx := px_0.lt
      obtain ⟨w13, hww13, py_0, hb13, -⟩ := new_box w12 _ rfl [.bool false, .slice none 0 0] 29
      rw [hww13]
      have hB_1 := hB_0.trans (hb13.mono hB_0.size)
      have pa_1 := pa_0.below hb13
      have pb_1 := pb_0.below hb13
      have hWq_1 := hWq_0.trans (hb13.mono hWq_0.size)
      have f1_1 := f1_0.below hb13
      have f2_1 := f2_0.below hb13
      have px_1 := px_0.below hb13
      clear hb13 hB_0 pa_0 pb_0 hWq_0 f1_0 f2_0 px_0
      refine hK.out _ _ ⟨pa_1.c0, pa_1.c1, pb_1.c0, pb_1.c1⟩ (fun hHeld => ?_)
      clear hK K
      try simp only [Act.put]
      try simp only [List.setIfInBounds_toArray, List.set_cons_zero, List.set_cons_succ]
      rw [← HWq.out]
      exact stq_2tt _ m1 o1 n1 c1 m2 o2 n2 c2 gpx w12.heap.size hB_1 pa_1 pb_1 hWq_1 f1_1 f2_1 px_1 py_0 (by omega) (by omega) (by omega)
  try simp only [HAq.out, Act.put, List.setIfInBounds_toArray, List.set_cons_zero, List.set_cons_succ] at stq_2tf
  have stq_2ft : ∀ (w' : World) (m1 : Bool) (o1 : Option Addr) (n1 : Nat) (c1 : Nat) (m2 : Bool) (o2 : Option Addr) (n2 : Nat) (c2 : Nat) (gpy : Nat), Below w.heap.size w w' → Box w' (w.heap.size) [.int .u64 ((ah : Nat) : Int), .int .u64 ((al : Nat) : Int)] → Box w' (w.heap.size + 1) [.int .u64 ((bh : Nat) : Int), .int .u64 ((bl : Nat) : Int)] → Below w3.heap.size w3 w' → RNum w' (.agg #[.bool m1, .slice o1 n1 c1]) (2) (x) → RNum w' (.agg #[.bool m2, .slice o2 n2 c2]) (2) (y) → Box w' gpy [.bool false, .slice none 0 0] → w3.heap.size ≤ gpy → WWq 3 #[true, true, true, true, false, true, false, false] (((aq.put (some 10) (.agg #[.bool m1, .slice o1 n1 c1])).put (some 12) (.agg #[.bool m2, .slice o2 n2 c2])).put (some 6) (.pointer (some ⟨gpy, 0, none⟩))) w' := by
    intro w14 m1 o1 n1 c1 m2 o2 n2 c2 gpy hB_0 pa_0 pb_0 hWq_0 f1_0 f2_0 py_0 hgpy
    rw [HWq.out, HAq.out]
    try simp only [Act.put]
    try simp only [List.setIfInBounds_toArray, List.set_cons_zero, List.set_cons_succ]
    refine reg_all1 4 ?_ (by kernel_rfl) ?_ (fun K hK => ?_)
    rotate_left 1
    · simp only [List.getElem?_toArray, List.getElem?_cons_succ, List.getElem?_cons_zero]; exact rfl
    · go_simp
      have hgn : w3.heap.size ≤ w14.heap.size := hWq_0.size
      have hlpy := py_0.lt
      obtain ⟨w15, hww15, px_0, hb15, -⟩ := new_box w14 _ rfl [.bool false, .slice none 0 0] 29
      rw [hww15]
      have hB_1 := hB_0.trans (hb15.mono hB_0.size)
      have pa_1 := pa_0.below hb15
      have pb_1 := pb_0.below hb15
      have hWq_1 := hWq_0.trans (hb15.mono hWq_0.size)
      have f1_1 := f1_0.below hb15
      have f2_1 := f2_0.below hb15
      have py_1 := py_0.below hb15
      clear hb15 hB_0 pa_0 pb_0 hWq_0 f1_0 f2_0 py_0
      refine hK.out _ _ ⟨pa_1.c0, pa_1.c1, pb_1.c0, pb_1.c1⟩ (fun hHeld => ?_)
      clear hK K
      try simp only [Act.put]
      try simp only [List.setIfInBounds_toArray, List.set_cons_zero, List.set_cons_succ]
      rw [← HWq.out]
      exact stq_2tt _ m1 o1 n1 c1 m2 o2 n2 c2 w14.heap.size gpy hB_1 pa_1 pb_1 hWq_1 f1_1 f2_1 px_0 py_1 (by omega) (by omega) (by omega)
  try simp only [HAq.out, Act.put, List.setIfInBounds_toArray, List.set_cons_zero, List.set_cons_succ] at stq_2ft
  have stq_1tt : ∀ (w' : World) (m1 : Bool) (o1 : Option Addr) (n1 : Nat) (c1 : Nat) (gpx : Nat) (gpy : Nat), Below w.heap.size w w' → Box w' (w.heap.size) [.int .u64 ((ah : Nat) : Int), .int .u64 ((al : Nat) : Int)] → Box w' (w.heap.size + 1) [.int .u64 ((bh : Nat) : Int), .int .u64 ((bl : Nat) : Int)] → Below w3.heap.size w3 w' → RNum w' (.agg #[.bool m1, .slice o1 n1 c1]) (2) (x) → Box w' gpx [.bool false, .slice none 0 0] → Box w' gpy [.bool false, .slice none 0 0] → w3.heap.size ≤ gpx → w3.heap.size ≤ gpy → gpx ≠ gpy → WWq 3 #[true, true, true, false, true, true, false, false] (((aq.put (some 10) (.agg #[.bool m1, .slice o1 n1 c1])).put (some 5) (.pointer (some ⟨gpx, 0, none⟩))).put (some 6) (.pointer (some ⟨gpy, 0, none⟩))) w' := by
    intro w16 m1 o1 n1 c1 gpx gpy hB_0 pa_0 pb_0 hWq_0 f1_0 px_0 py_0 hgpx hgpy hnpxpy
    rw [HWq.out, HAq.out]
    try simp only [Act.put]
    try simp only [List.setIfInBounds_toArray, List.set_cons_zero, List.set_cons_succ]
    refine reg_all1 3 ?_ (by kernel_rfl) ?_ (fun K hK => ?_)
    rotate_left 1
    · simp only [List.getElem?_toArray, List.getElem?_cons_succ, List.getElem?_cons_zero]; exact rfl
    · go_simp
      refine (CY.out _).mono ?_
      rintro e w17 ⟨m2, o2, n2, c2, rfl, f2_0, hb17⟩
      have hB_1 := hB_0.trans (hb17.mono hB_0.size)
      have pa_1 := pa_0.below hb17
      have pb_1 := pb_0.below hb17
      have hWq_1 := hWq_0.trans (hb17.mono hWq_0.size)
      have f1_1 := f1_0.below hb17
      have px_1 := px_0.below hb17
      have py_1 := py_0.below hb17
      clear hb17 hB_0 pa_0 pb_0 hWq_0 f1_0 px_0 py_0
      go_wp2_with fail
      refine hK.out _ _ ⟨pa_1.c0, pa_1.c1, pb_1.c0, pb_1.c1⟩ (fun hHeld => ?_)
      clear hK K
      try simp only [Act.put]
      try simp only [List.setIfInBounds_toArray, List.set_cons_zero, List.set_cons_succ]
      rw [← HWq.out]
      exact stq_2tt _ m1 o1 n1 c1 m2 o2 n2 c2 gpx gpy hB_1 pa_1 pb_1 hWq_1 f1_1 f2_0 px_1 py_1 (by omega) (by omega) (by omega)
  try simp only [HAq.out, Act.put, List.setIfInBounds_toArray, List.set_cons_zero, List.set_cons_succ] at stq_1tt
  have stq_2ff : ∀ (w' : World) (m1 : Bool) (o1 : Option Addr) (n1 : Nat) (c1 : Nat) (m2 : Bool) (o2 : Option Addr) (n2 : Nat) (c2 : Nat), Below w.heap.size w w' → Box w' (w.heap.size) [.int .u64 ((ah : Nat) : Int), .int .u64 ((al : Nat) : Int)] → Box w' (w.heap.size + 1) [.int .u64 ((bh : Nat) : Int), .int .u64 ((bl : Nat) : Int)] → Below w3.heap.size w3 w' → RNum w' (.agg #[.bool m1, .slice o1 n1 c1]) (2) (x) → RNum w' (.agg #[.bool m2, .slice o2 n2 c2]) (2) (y) → WWq 4 #[true, true, true, true, false, false, false, false] ((aq.put (some 10) (.agg #[.bool m1, .slice o1 n1 c1])).put (some 12) (.agg #[.bool m2, .slice o2 n2 c2])) w' := by
    intro w18 m1 o1 n1 c1 m2 o2 n2 c2 hB_0 pa_0 pb_0 hWq_0 f1_0 f2_0
    rw [HWq.out, HAq.out]
    try simp only [Act.put]
    try simp only [List.setIfInBounds_toArray, List.set_cons_zero, List.set_cons_succ]
    refine reg_all2 4 5 ?_ ?_ (by kernel_rfl) ?_ ?_ (fun K hK => ?_) (fun K hK => ?_)
    rotate_left 2
    · simp only [List.getElem?_toArray, List.getElem?_cons_succ, List.getElem?_cons_zero]; exact rfl
    · simp only [List.getElem?_toArray, List.getElem?_cons_succ, List.getElem?_cons_zero]; exact rfl
    · go_simp
      have hgn : w3.heap.size ≤ w18.heap.size := hWq_0.size
      obtain ⟨w19, hww19, px_0, hb19, -⟩ := new_box w18 _ rfl [.bool false, .slice none 0 0] 29
      rw [hww19]
      have hB_1 := hB_0.trans (hb19.mono hB_0.size)
      have pa_1 := pa_0.below hb19
      have pb_1 := pb_0.below hb19
      have hWq_1 := hWq_0.trans (hb19.mono hWq_0.size)
      have f1_1 := f1_0.below hb19
      have f2_1 := f2_0.below hb19
      clear hb19 hB_0 pa_0 pb_0 hWq_0 f1_0 f2_0
      refine hK.out _ _ ⟨pa_1.c0, pa_1.c1, pb_1.c0, pb_1.c1⟩ (fun hHeld => ?_)
      clear hK K
      try simp only [Act.put]
      try simp only [List.setIfInBounds_toArray, List.set_cons_zero, List.set_cons_succ]
      rw [← HWq.out]
      exact stq_2tf _ m1 o1 n1 c1 m2 o2 n2 c2 w18.heap.size hB_1 pa_1 pb_1 hWq_1 f1_1 f2_1 px_0 (by omega)
    · go_simp
      have hgn : w3.heap.size ≤ w18.heap.size := hWq_0.size
      obtain ⟨w20, hww20, py_0, hb20, -⟩ := new_box w18 _ rfl [.bool false, .slice none 0 0] 29
      rw [hww20]
      have hB_1 := hB_0.trans (hb20.mono hB_0.size)
      have pa_1 := pa_0.below hb20
      have pb_1 := pb_0.below hb20
      have hWq_1 := hWq_0.trans (hb20.mono hWq_0.size)
      have f1_1 := f1_0.below hb20
      have f2_1 := f2_0.below hb20
      clear hb20 hB_0 pa_0 pb_0 hWq_0 f1_0 f2_0
      refine hK.out _ _ ⟨pa_1.c0, pa_1.c1, pb_1.c0, pb_1.c1⟩ (fun hHeld => ?_)
      clear hK K
      try simp only [Act.put]
      try simp only [List.setIfInBounds_toArray, List.set_cons_zero, List.set_cons_succ]
      rw [← HWq.out]
      exact stq_2ft _ m1 o1 n1 c1 m2 o2 n2 c2 w18.heap.size hB_1 pa_1 pb_1 hWq_1 f1_1 f2_1 py_0 (by omega)
  try simp only [HAq.out, Act.put, List.setIfInBounds_toArray, List.set_cons_zero, List.set_cons_succ] at stq_2ff
  have stq_1tf : ∀ (w' : World) (m1 : Bool) (o1 : Option Addr) (n1 : Nat) (c1 : Nat) (gpx : Nat), Below w.heap.size w w' → Box w' (w.heap.size) [.int .u64 ((ah : Nat) : Int), .int .u64 ((al : Nat) : Int)] → Box w' (w.heap.size + 1) [.int .u64 ((bh : Nat) : Int), .int .u64 ((bl : Nat) : Int)] → Below w3.heap.size w3 w' → RNum w' (.agg #[.bool m1, .slice o1 n1 c1]) (2) (x) → Box w' gpx [.bool false, .slice none 0 0] → w3.heap.size ≤ gpx → WWq 4 #[true, true, true, false, true, false, false, false] ((aq.put (some 10) (.agg #[.bool m1, .slice o1 n1 c1])).put (some 5) (.pointer (some ⟨gpx, 0, none⟩))) w' := by
    intro w21 m1 o1 n1 c1 gpx hB_0 pa_0 pb_0 hWq_0 f1_0 px_0 hgpx
    rw [HWq.out, HAq.out]
    try simp only [Act.put]
    try simp only [List.setIfInBounds_toArray, List.set_cons_zero, List.set_cons_succ]
    refine reg_all2 3 5 ?_ ?_ (by kernel_rfl) ?_ ?_ (fun K hK => ?_) (fun K hK => ?_)
    rotate_left 2
    · simp only [List.getElem?_toArray, List.getElem?_cons_succ, List.getElem?_cons_zero]; exact rfl
    · simp only [List.getElem?_toArray, List.getElem?_cons_succ, List.getElem?_cons_zero]; exact rfl
    · go_simp
      refine (CY.out _).mono ?_
      rintro e w22 ⟨m2, o2, n2, c2, rfl, f2_0, hb22⟩
      have hB_1 := hB_0.trans (hb22.mono hB_0.size)
      have pa_1 := pa_0.below hb22
      have pb_1 := pb_0.below hb22
      have hWq_1 := hWq_0.trans (hb22.mono hWq_0.size)
      have f1_1 := f1_0.below hb22
      have px_1 := px_0.below hb22
      clear hb22 hB_0 pa_0 pb_0 hWq_0 f1_0 px_0
      go_wp2_with fail
      refine hK.out _ _ ⟨pa_1.c0, pa_1.c1, pb_1.c0, pb_1.c1⟩ (fun hHeld => ?_)
      clear hK K
      try simp only [Act.put]
      try simp only [List.setIfInBounds_toArray, List.set_cons_zero, List.set_cons_succ]
      rw [← HWq.out]
      exact stq_2tf _ m1 o1 n1 c1 m2 o2 n2 c2 gpx hB_1 pa_1 pb_1 hWq_1 f1_1 f2_0 px_1 (by omega)
    · go_simp
      have hgn : w3.heap.size ≤ w21.heap.size := hWq_0.size
      have hlpx := px_0.lt
      obtain ⟨w23, hww23, py_0, hb23, -⟩ := new_box w21 _ rfl [.bool false, .slice none 0 0] 29
      rw [hww23]
      have hB_1 := hB_0.trans (hb23.mono hB_0.size)
      have pa_1 := pa_0.below hb23
      have pb_1 := pb_0.below hb23
      have hWq_1 := hWq_0.trans (hb23.mono hWq_0.size)
      have f1_1 := f1_0.below hb23
      have px_1 := px_0.below hb23
      clear hb23 hB_0 pa_0 pb_0 hWq_0 f1_0 px_0
      refine hK.out _ _ ⟨pa_1.c0, pa_1.c1, pb_1.c0, pb_1.c1⟩ (fun hHeld => ?_)
      clear hK K
      try simp only [Act.put]
      try simp only [List.setIfInBounds_toArray, List.set_cons_zero, List.set_cons_succ]
      rw [← HWq.out]
      exact stq_1tt _ m1 o1 n1 c1 gpx w21.heap.size hB_1 pa_1 pb_1 hWq_1 f1_1 px_1 py_0 (by omega) (by omega) (by omega)
  try simp only [HAq.out, Act.put, List.setIfInBounds_toArray, List.set_cons_zero, List.set_cons_succ] at stq_1tf
  have stq_1ft : ∀ (w' : World) (m1 : Bool) (o1 : Option Addr) (n1 : Nat) (c1 : Nat) (gpy : Nat), Below w.heap.size w w' → Box w' (w.heap.size) [.int .u64 ((ah : Nat) : Int), .int .u64 ((al : Nat) : Int)] → Box w' (w.heap.size + 1) [.int .u64 ((bh : Nat) : Int), .int .u64 ((bl : Nat) : Int)] → Below w3.heap.size w3 w' → RNum w' (.agg #[.bool m1, .slice o1 n1 c1]) (2) (x) → Box w' gpy [.bool false, .slice none 0 0] → w3.heap.size ≤ gpy → WWq 4 #[true, true, true, false, false, true, false, false] ((aq.put (some 10) (.agg #[.bool m1, .slice o1 n1 c1])).put (some 6) (.pointer (some ⟨gpy, 0, none⟩))) w' := by
    intro w24 m1 o1 n1 c1 gpy hB_0 pa_0 pb_0 hWq_0 f1_0 py_0 hgpy
    rw [HWq.out, HAq.out]
    try simp only [Act.put]
    try simp only [List.setIfInBounds_toArray, List.set_cons_zero, List.set_cons_succ]
    refine reg_all2 3 4 ?_ ?_ (by kernel_rfl) ?_ ?_ (fun K hK => ?_) (fun K hK => ?_)
    rotate_left 2
    · simp only [List.getElem?_toArray, List.getElem?_cons_succ, List.getElem?_cons_zero]; exact rfl
    · simp only [List.getElem?_toArray, List.getElem?_cons_succ, List.getElem?_cons_zero]; exact rfl
    · go_simp
      refine (CY.out _).mono ?_
      rintro e w25 ⟨m2, o2, n2, c2, rfl, f2_0, hb25⟩
      have hB_1 := hB_0.trans (hb25.mono hB_0.size)
      have pa_1 := pa_0.below hb25
      have pb_1 := pb_0.below hb25
      have hWq_1 := hWq_0.trans (hb25.mono hWq_0.size)
      have f1_1 := f1_0.below hb25
      have py_1 := py_0.below hb25
      clear hb25 hB_0 pa_0 pb_0 hWq_0 f1_0 py_0
      go_wp2_with fail
      refine hK.out _ _ ⟨pa_1.c0, pa_1.c1, pb_1.c0, pb_1.c1⟩ (fun hHeld => ?_)
      clear hK K
      try simp only [Act.put]
      try simp only [List.setIfInBounds_toArray, List.set_cons_zero, List.set_cons_succ]
      rw [← HWq.out]
      exact stq_2ft _ m1 o1 n1 c1 m2 o2 n2 c2 gpy hB_1 pa_1 pb_1 hWq_1 f1_1 f2_0 py_1 (by omega)
    · go_simp
      have hgn : w3.heap.size ≤ w24.heap.size := hWq_0.size
      have hlpy := py_0.lt
      obtain ⟨w26, hww26, px_0, hb26, -⟩ := new_box w24 _ rfl [.bool false, .slice none 0 0] 29
      rw [hww26]
      have hB_1 := hB_0.trans (hb26.mono hB_0.size)
      have pa_1 := pa_0.below hb26
      have pb_1 := pb_0.below hb26
      have hWq_1 := hWq_0.trans (hb26.mono hWq_0.size)
      have f1_1 := f1_0.below hb26
      have py_1 := py_0.below hb26
      clear hb26 hB_0 pa_0 pb_0 hWq_0 f1_0 py_0
      refine hK.out _ _ ⟨pa_1.c0, pa_1.c1, pb_1.c0, pb_1.c1⟩ (fun hHeld => ?_)
      clear hK K
      try simp only [Act.put]
      try simp only [List.setIfInBounds_toArray, List.set_cons_zero, List.set_cons_succ]
      rw [← HWq.out]
      exact stq_1tt _ m1 o1 n1 c1 w24.heap.size gpy hB_1 pa_1 pb_1 hWq_1 f1_1 px_0 py_1 (by omega) (by omega) (by omega)
  try simp only [HAq.out, Act.put, List.setIfInBounds_toArray, List.set_cons_zero, List.set_cons_succ] at stq_1ft
  have stq_0tt : ∀ (w' : World) (gpx : Nat) (gpy : Nat), Below w.heap.size w w' → Box w' (w.heap.size) [.int .u64 ((ah : Nat) : Int), .int .u64 ((al : Nat) : Int)] → Box w' (w.heap.size + 1) [.int .u64 ((bh : Nat) : Int), .int .u64 ((bl : Nat) : Int)] → Below w3.heap.size w3 w' → Box w' gpx [.bool false, .slice none 0 0] → Box w' gpy [.bool false, .slice none 0 0] → w3.heap.size ≤ gpx → w3.heap.size ≤ gpy → gpx ≠ gpy → WWq 4 #[true, false, true, false, true, true, false, false] ((aq.put (some 5) (.pointer (some ⟨gpx, 0, none⟩))).put (some 6) (.pointer (some ⟨gpy, 0, none⟩))) w' := by
    intro w27 gpx gpy hB_0 pa_0 pb_0 hWq_0 px_0 py_0 hgpx hgpy hnpxpy
    rw [HWq.out, HAq.out]
    try simp only [Act.put]
    try simp only [List.setIfInBounds_toArray, List.set_cons_zero, List.set_cons_succ]
    refine reg_all1 1 ?_ (by kernel_rfl) ?_ (fun K hK => ?_)
    rotate_left 1
    · simp only [List.getElem?_toArray, List.getElem?_cons_succ, List.getElem?_cons_zero]; exact rfl
    · go_simp
      refine (CX.out _).mono ?_
      rintro e w28 ⟨m1, o1, n1, c1, rfl, f1_0, hb28⟩
      have hB_1 := hB_0.trans (hb28.mono hB_0.size)
      have pa_1 := pa_0.below hb28
      have pb_1 := pb_0.below hb28
      have hWq_1 := hWq_0.trans (hb28.mono hWq_0.size)
      have px_1 := px_0.below hb28
      have py_1 := py_0.below hb28
      clear hb28 hB_0 pa_0 pb_0 hWq_0 px_0 py_0
      go_wp2_with fail
      refine hK.out _ _ ⟨pa_1.c0, pa_1.c1, pb_1.c0, pb_1.c1⟩ (fun hHeld => ?_)
      clear hK K
      try simp only [Act.put]
      try simp only [List.setIfInBounds_toArray, List.set_cons_zero, List.set_cons_succ]
      rw [← HWq.out]
      exact stq_1tt _ m1 o1 n1 c1 gpx gpy hB_1 pa_1 pb_1 hWq_1 f1_0 px_1 py_1 (by omega) (by omega) (by omega)
  try simp only [HAq.out, Act.put, List.setIfInBounds_toArray, List.set_cons_zero, List.set_cons_succ] at stq_0tt
  have stq_1ff : ∀ (w' : World) (m1 : Bool) (o1 : Option Addr) (n1 : Nat) (c1 : Nat), Below w.heap.size w w' → Box w' (w.heap.size) [.int .u64 ((ah : Nat) : Int), .int .u64 ((al : Nat) : Int)] → Box w' (w.heap.size + 1) [.int .u64 ((bh : Nat) : Int), .int .u64 ((bl : Nat) : Int)] → Below w3.heap.size w3 w' → RNum w' (.agg #[.bool m1, .slice o1 n1 c1]) (2) (x) → WWq 5 #[true, true, true, false, false, false, false, false] (aq.put (some 10) (.agg #[.bool m1, .slice o1 n1 c1])) w' := by
    intro w29 m1 o1 n1 c1 hB_0 pa_0 pb_0 hWq_0 f1_0
    rw [HWq.out, HAq.out]
    try simp only [Act.put]
    try simp only [List.setIfInBounds_toArray, List.set_cons_zero, List.set_cons_succ]
    refine reg_all3 3 4 5 ?_ ?_ ?_ (by kernel_rfl) ?_ ?_ ?_ (fun K hK => ?_) (fun K hK => ?_) (fun K hK => ?_)
    rotate_left 3
    · simp only [List.getElem?_toArray, List.getElem?_cons_succ, List.getElem?_cons_zero]; exact rfl
    · simp only [List.getElem?_toArray, List.getElem?_cons_succ, List.getElem?_cons_zero]; exact rfl
    · simp only [List.getElem?_toArray, List.getElem?_cons_succ, List.getElem?_cons_zero]; exact rfl
    · go_simp
      refine (CY.out _).mono ?_
      rintro e w30 ⟨m2, o2, n2, c2, rfl, f2_0, hb30⟩
      have hB_1 := hB_0.trans (hb30.mono hB_0.size)
      have pa_1 := pa_0.below hb30
      have pb_1 := pb_0.below hb30
      have hWq_1 := hWq_0.trans (hb30.mono hWq_0.size)
      have f1_1 := f1_0.below hb30
      clear hb30 hB_0 pa_0 pb_0 hWq_0 f1_0
      go_wp2_with fail
      refine hK.out _ _ ⟨pa_1.c0, pa_1.c1, pb_1.c0, pb_1.c1⟩ (fun hHeld => ?_)
      clear hK K
      try simp only [Act.put]
      try simp only [List.setIfInBounds_toArray, List.set_cons_zero, List.set_cons_succ]
      rw [← HWq.out]
      exact stq_2ff _ m1 o1 n1 c1 m2 o2 n2 c2 hB_1 pa_1 pb_1 hWq_1 f1_1 f2_0
    · go_simp
      have hgn : w3.heap.size ≤ w29.heap.size := hWq_0.size
      obtain ⟨w31, hww31, px_0, hb31, -⟩ := new_box w29 _ rfl [.bool false, .slice none 0 0] 29
      rw [hww31]
      have hB_1 := hB_0.trans (hb31.mono hB_0.size)
      have pa_1 := pa_0.below hb31
      have pb_1 := pb_0.below hb31
      have hWq_1 := hWq_0.trans (hb31.mono hWq_0.size)
      have f1_1 := f1_0.below hb31
      clear hb31 hB_0 pa_0 pb_0 hWq_0 f1_0
      refine hK.out _ _ ⟨pa_1.c0, pa_1.c1, pb_1.c0, pb_1.c1⟩ (fun hHeld => ?_)
      clear hK K
      try simp only [Act.put]
      try simp only [List.setIfInBounds_toArray, List.set_cons_zero, List.set_cons_succ]
      rw [← HWq.out]
      exact stq_1tf _ m1 o1 n1 c1 w29.heap.size hB_1 pa_1 pb_1 hWq_1 f1_1 px_0 (by omega)
    · go_simp
      have hgn : w3.heap.size ≤ w29.heap.size := hWq_0.size
      obtain ⟨w32, hww32, py_0, hb32, -⟩ := new_box w29 _ rfl [.bool false, .slice none 0 0] 29
      rw [hww32]
      have hB_1 := hB_0.trans (hb32.mono hB_0.size)
      have pa_1 := pa_0.below hb32
      have pb_1 := pb_0.below hb32
      have hWq_1 := hWq_0.trans (hb32.mono hWq_0.size)
      have f1_1 := f1_0.below hb32
      clear hb32 hB_0 pa_0 pb_0 hWq_0 f1_0
      refine hK.out _ _ ⟨pa_1.c0, pa_1.c1, pb_1.c0, pb_1.c1⟩ (fun hHeld => ?_)
      clear hK K
      try simp only [Act.put]
      try simp only [List.setIfInBounds_toArray, List.set_cons_zero, List.set_cons_succ]
      rw [← HWq.out]
      exact stq_1ft _ m1 o1 n1 c1 w29.heap.size hB_1 pa_1 pb_1 hWq_1 f1_1 py_0 (by omega)
  try simp only [HAq.out, Act.put, List.setIfInBounds_toArray, List.set_cons_zero, List.set_cons_succ] at stq_1ff
  have stq_0tf : ∀ (w' : World) (gpx : Nat), Below w.heap.size w w' → Box w' (w.heap.size) [.int .u64 ((ah : Nat) : Int), .int .u64 ((al : Nat) : Int)] → Box w' (w.heap.size + 1) [.int .u64 ((bh : Nat) : Int), .int .u64 ((bl : Nat) : Int)] → Below w3.heap.size w3 w' → Box w' gpx [.bool false, .slice none 0 0] → w3.heap.size ≤ gpx → WWq 5 #[true, false, true, false, true, false, false, false] (aq.put (some 5) (.pointer (some ⟨gpx, 0, none⟩))) w' := by
    intro w33 gpx hB_0 pa_0 pb_0 hWq_0 px_0 hgpx
    rw [HWq.out, HAq.out]
    try simp only [Act.put]
    try simp only [List.setIfInBounds_toArray, List.set_cons_zero, List.set_cons_succ]
    refine reg_all2 1 5 ?_ ?_ (by kernel_rfl) ?_ ?_ (fun K hK => ?_) (fun K hK => ?_)
    rotate_left 2
    · simp only [List.getElem?_toArray, List.getElem?_cons_succ, List.getElem?_cons_zero]; exact rfl
    · simp only [List.getElem?_toArray, List.getElem?_cons_succ, List.getElem?_cons_zero]; exact rfl
    · go_simp
      refine (CX.out _).mono ?_
      rintro e w34 ⟨m1, o1, n1, c1, rfl, f1_0, hb34⟩
      have hB_1 := hB_0.trans (hb34.mono hB_0.size)
      have pa_1 := pa_0.below hb34
      have pb_1 := pb_0.below hb34
      have hWq_1 := hWq_0.trans (hb34.mono hWq_0.size)
      have px_1 := px_0.below hb34
      clear hb34 hB_0 pa_0 pb_0 hWq_0 px_0
      go_wp2_with fail
      refine hK.out _ _ ⟨pa_1.c0, pa_1.c1, pb_1.c0, pb_1.c1⟩ (fun hHeld => ?_)
      clear hK K
      try simp only [Act.put]
      try simp only [List.setIfInBounds_toArray, List.set_cons_zero, List.set_cons_succ]
      rw [← HWq.out]
      exact stq_1tf _ m1 o1 n1 c1 gpx hB_1 pa_1 pb_1 hWq_1 f1_0 px_1 (by omega)
    · go_simp
      have hgn : w3.heap.size ≤ w33.heap.size := hWq_0.size
      have hlpx := px_0.lt
      obtain ⟨w35, hww35, py_0, hb35, -⟩ := new_box w33 _ rfl [.bool false, .slice none 0 0] 29
      rw [hww35]
      have hB_1 := hB_0.trans (hb35.mono hB_0.size)
      have pa_1 := pa_0.below hb35
      have pb_1 := pb_0.below hb35
      have hWq_1 := hWq_0.trans (hb35.mono hWq_0.size)
      have px_1 := px_0.below hb35
      clear hb35 hB_0 pa_0 pb_0 hWq_0 px_0
      refine hK.out _ _ ⟨pa_1.c0, pa_1.c1, pb_1.c0, pb_1.c1⟩ (fun hHeld => ?_)
      clear hK K
      try simp only [Act.put]
      try simp only [List.setIfInBounds_toArray, List.set_cons_zero, List.set_cons_succ]
      rw [← HWq.out]
      exact stq_0tt _ gpx w33.heap.size hB_1 pa_1 pb_1 hWq_1 px_1 py_0 (by omega) (by omega) (by omega)
  try simp only [HAq.out, Act.put, List.setIfInBounds_toArray, List.set_cons_zero, List.set_cons_succ] at stq_0tf
  have stq_0ft : ∀ (w' : World) (gpy : Nat), Below w.heap.size w w' → Box w' (w.heap.size) [.int .u64 ((ah : Nat) : Int), .int .u64 ((al : Nat) : Int)] → Box w' (w.heap.size + 1) [.int .u64 ((bh : Nat) : Int), .int .u64 ((bl : Nat) : Int)] → Below w3.heap.size w3 w' → Box w' gpy [.bool false, .slice none 0 0] → w3.heap.size ≤ gpy → WWq 5 #[true, false, true, false, false, true, false, false] (aq.put (some 6) (.pointer (some ⟨gpy, 0, none⟩))) w' := by
    intro w36 gpy hB_0 pa_0 pb_0 hWq_0 py_0 hgpy
    rw [HWq.out, HAq.out]
    try simp only [Act.put]
    try simp only [List.setIfInBounds_toArray, List.set_cons_zero, List.set_cons_succ]
    refine reg_all2 1 4 ?_ ?_ (by kernel_rfl) ?_ ?_ (fun K hK => ?_) (fun K hK => ?_)
    rotate_left 2
    · simp only [List.getElem?_toArray, List.getElem?_cons_succ, List.getElem?_cons_zero]; exact rfl
    · simp only [List.getElem?_toArray, List.getElem?_cons_succ, List.getElem?_cons_zero]; exact rfl
    · go_simp
      refine (CX.out _).mono ?_
      rintro e w37 ⟨m1, o1, n1, c1, rfl, f1_0, hb37⟩
      have hB_1 := hB_0.trans (hb37.mono hB_0.size)
      have pa_1 := pa_0.below hb37
      have pb_1 := pb_0.below hb37
      have hWq_1 := hWq_0.trans (hb37.mono hWq_0.size)
      have py_1 := py_0.below hb37
      clear hb37 hB_0 pa_0 pb_0 hWq_0 py_0
      go_wp2_with fail
      refine hK.out _ _ ⟨pa_1.c0, pa_1.c1, pb_1.c0, pb_1.c1⟩ (fun hHeld => ?_)
      clear hK K
      try simp only [Act.put]
      try simp only [List.setIfInBounds_toArray, List.set_cons_zero, List.set_cons_succ]
      rw [← HWq.out]
      exact stq_1ft _ m1 o1 n1 c1 gpy hB_1 pa_1 pb_1 hWq_1 f1_0 py_1 (by omega)
    · go_simp
      have hgn : w3.heap.size ≤ w36.heap.size := hWq_0.size
      have hlpy := py_0.lt
      obtain ⟨w38, hww38, px_0, hb38, -⟩ := new_box w36 _ rfl [.bool false, .slice none 0 0] 29
      rw [hww38]
      have hB_1 := hB_0.trans (hb38.mono hB_0.size)
      have pa_1 := pa_0.below hb38
      have pb_1 := pb_0.below hb38
      have hWq_1 := hWq_0.trans (hb38.mono hWq_0.size)
      have py_1 := py_0.below hb38
      clear hb38 hB_0 pa_0 pb_0 hWq_0 py_0
      refine hK.out _ _ ⟨pa_1.c0, pa_1.c1, pb_1.c0, pb_1.c1⟩ (fun hHeld => ?_)
      clear hK K
      try simp only [Act.put]
      try simp only [List.setIfInBounds_toArray, List.set_cons_zero, List.set_cons_succ]
      rw [← HWq.out]
      exact stq_0tt _ w36.heap.size gpy hB_1 pa_1 pb_1 hWq_1 px_0 py_1 (by omega) (by omega) (by omega)
  try simp only [HAq.out, Act.put, List.setIfInBounds_toArray, List.set_cons_zero, List.set_cons_succ] at stq_0ft
  have stq_0ff : ∀ (w' : World), Below w.heap.size w w' → Box w' (w.heap.size) [.int .u64 ((ah : Nat) : Int), .int .u64 ((al : Nat) : Int)] → Box w' (w.heap.size + 1) [.int .u64 ((bh : Nat) : Int), .int .u64 ((bl : Nat) : Int)] → Below w3.heap.size w3 w' → WWq 6 #[true, false, true, false, false, false, false, false] aq w' := by
    intro w39 hB_0 pa_0 pb_0 hWq_0
    rw [HWq.out, HAq.out]
    try simp only [Act.put]
    try simp only [List.setIfInBounds_toArray, List.set_cons_zero, List.set_cons_succ]
    refine reg_all3 1 4 5 ?_ ?_ ?_ (by kernel_rfl) ?_ ?_ ?_ (fun K hK => ?_) (fun K hK => ?_) (fun K hK => ?_)
    rotate_left 3
    · simp only [List.getElem?_toArray, List.getElem?_cons_succ, List.getElem?_cons_zero]; exact rfl
    · simp only [List.getElem?_toArray, List.getElem?_cons_succ, List.getElem?_cons_zero]; exact rfl
    · simp only [List.getElem?_toArray, List.getElem?_cons_succ, List.getElem?_cons_zero]; exact rfl
    · go_simp
      refine (CX.out _).mono ?_
      rintro e w40 ⟨m1, o1, n1, c1, rfl, f1_0, hb40⟩
      have hB_1 := hB_0.trans (hb40.mono hB_0.size)
      have pa_1 := pa_0.below hb40
      have pb_1 := pb_0.below hb40
      have hWq_1 := hWq_0.trans (hb40.mono hWq_0.size)
      clear hb40 hB_0 pa_0 pb_0 hWq_0
      go_wp2_with fail
      refine hK.out _ _ ⟨pa_1.c0, pa_1.c1, pb_1.c0, pb_1.c1⟩ (fun hHeld => ?_)
      clear hK K
      try simp only [Act.put]
      try simp only [List.setIfInBounds_toArray, List.set_cons_zero, List.set_cons_succ]
      rw [← HWq.out]
      exact stq_1ff _ m1 o1 n1 c1 hB_1 pa_1 pb_1 hWq_1 f1_0
    · go_simp
      have hgn : w3.heap.size ≤ w39.heap.size := hWq_0.size
      obtain ⟨w41, hww41, px_0, hb41, -⟩ := new_box w39 _ rfl [.bool false, .slice none 0 0] 29
      rw [hww41]
      have hB_1 := hB_0.trans (hb41.mono hB_0.size)
      have pa_1 := pa_0.below hb41
      have pb_1 := pb_0.below hb41
      have hWq_1 := hWq_0.trans (hb41.mono hWq_0.size)
      clear hb41 hB_0 pa_0 pb_0 hWq_0
      refine hK.out _ _ ⟨pa_1.c0, pa_1.c1, pb_1.c0, pb_1.c1⟩ (fun hHeld => ?_)
      clear hK K
      try simp only [Act.put]
      try simp only [List.setIfInBounds_toArray, List.set_cons_zero, List.set_cons_succ]
      rw [← HWq.out]
      exact stq_0tf _ w39.heap.size hB_1 pa_1 pb_1 hWq_1 px_0 (by omega)
    · go_simp
      have hgn : w3.heap.size ≤ w39.heap.size := hWq_0.size
      obtain ⟨w42, hww42, py_0, hb42, -⟩ := new_box w39 _ rfl [.bool false, .slice none 0 0] 29
      rw [hww42]
      have hB_1 := hB_0.trans (hb42.mono hB_0.size)
      have pa_1 := pa_0.below hb42
      have pb_1 := pb_0.below hb42
      have hWq_1 := hWq_0.trans (hb42.mono hWq_0.size)
      clear hb42 hB_0 pa_0 pb_0 hWq_0
      refine hK.out _ _ ⟨pa_1.c0, pa_1.c1, pb_1.c0, pb_1.c1⟩ (fun hHeld => ?_)
      clear hK K
      try simp only [Act.put]
      try simp only [List.setIfInBounds_toArray, List.set_cons_zero, List.set_cons_succ]
      rw [← HWq.out]
      exact stq_0ft _ w39.heap.size hB_1 pa_1 pb_1 hWq_1 py_0 (by omega)
  exact stq_0ff _ hB_4 pa_3 pb_2 hWq_1
theorem WideCmps_walk (x y : Int) (w : World) (hx : InW x) (hy : InW y) :
    Calls Try.prog 5 #[.agg #[.int .u64 ((wh (x) : Nat) : Int), .int .u64 ((wl (x) : Nat) : Int)], .agg #[.int .u64 ((wh (y) : Nat) : Int), .int .u64 ((wl (y) : Nat) : Int)]] w fun e w' => e = .returned (.bool true) ∧ Below w.heap.size w w' := by
  have cx := fun w => wNum_any x hx w
  have cy := fun w => wNum_any y hy w
  have cc := fun w => wCmp_any x y hx hy w
  have cs := sg_is (z := x) (r := x.sign) (by rw [wrapW_self hx])
  by_cases h : x = y
  · subst h
    rw [icmp_self] at cc
    exact WideCmps_w_same _ _ x x _ cx cy cc cs (icmp_self x) rfl w
  · have hne : ¬ icmp x y = 0 := by unfold icmp; split <;> (try split) <;> omega
    have hnb : (icmp x y == 0) = false := by simp [hne]
    by_cases hh : wh x = wh y
    · have hl : ¬ wl x = wl y := fun e => h (w_eq hx hy hh e)
      rw [← hh] at cy cc ⊢
      exact WideCmps_w_low _ _ _ hl x y _ _ hnb hne cx cy cc cs rfl rfl w
    · exact WideCmps_w_high _ _ _ _ hh x y _ _ hnb hne cx cy cc cs rfl rfl w
end Go.Proofs.Ytkigfccbhkcedaa
