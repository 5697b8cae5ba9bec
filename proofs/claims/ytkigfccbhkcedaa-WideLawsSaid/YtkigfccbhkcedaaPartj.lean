/- The calls of wide: Mul, Det. -/
import Derived.Test.YtkigfccbhkcedaaParti
import Derived.Test.YtkigfccbhkcedaaParth
namespace Go.Proofs.Ytkigfccbhkcedaa
open Go.RowKit Go.MagM
theorem mul64_is (x y H L : Nat) (w : World) (hx : x < B) (hy : y < B) (h1 : x * y / B = H) (h2 : x * y % B = L) :
    Calls Try.prog 41 #[.int .u64 ((x : Nat) : Int), .int .u64 ((y : Nat) : Int)] w fun e w' => e = .returned (.tuple #[.int .u64 ((H : Nat) : Int), .int .u64 ((L : Nat) : Int)]) ∧ Below w.heap.size w w' := by
  subst h1; subst h2
  exact (mul64_any x y w hx hy).mono fun e w' h => by obtain ⟨h1, rfl⟩ := h; exact ⟨h1, Below.refl _ _⟩
theorem inW_int {n : Int} (h : -9223372036854775808 ≤ n) (h1 : n < 9223372036854775808) : InW n := by unfold InW; omega
set_option maxHeartbeats 4000000 in
theorem wMul_w_tt (a b : Int) (ha1 : -9223372036854775808 ≤ a) (ha2 : a < 9223372036854775808) (hb1 : -9223372036854775808 ≤ b) (hb2 : b < 9223372036854775808) (H L H' L' : Nat) (sa : a < 0) (sb : b < 0) (cm : ∀ w, Calls Try.prog 41 #[.int .u64 ((wl ((a.natAbs : Int)) : Nat) : Int), .int .u64 ((wl ((b.natAbs : Int)) : Nat) : Int)] w fun e w' => e = .returned (.tuple #[.int .u64 ((H : Nat) : Int), .int .u64 ((L : Nat) : Int)]) ∧ Below w.heap.size w w') (hac : ∀ w, Calls Try.prog 34 #[.agg #[.int .u64 ((H : Nat) : Int), .int .u64 ((L : Nat) : Int)]] w fun e w' => e = .returned (.agg #[.int .u64 ((H' : Nat) : Int), .int .u64 ((L' : Nat) : Int)]) ∧ Below w.heap.size w w') (w : World) :
    Calls Try.prog 19 #[.int .i64 a, .int .i64 b] w fun e w' => e = .returned (.agg #[.int .u64 ((H : Nat) : Int), .int .u64 ((L : Nat) : Int)]) ∧ Below w.heap.size w w' := by
  have hB_0 := Below.refl w.heap.size w
  have CM := Lib.hid cm; have CA := Lib.hid hac; have IA := Lib.hid (inW_int ha1 ha2); have IB := Lib.hid (inW_int hb1 hb2); have HA1 := Lib.hid ha1; have HA2 := Lib.hid ha2; have HB1 := Lib.hid hb1; have HB2 := Lib.hid hb2
  clear cm hac ha1 ha2 hb1 hb2
  have qa : decide (a < 0) = true := by simp [sa]
  have qb : decide (b < 0) = true := by simp [sb]
  clear sa sb
  have hfa : ∀ w : World, (Instr.field 24 (.agg #[.int .u64 ((wh ((a.natAbs : Int)) : Nat) : Int), .int .u64 ((wl ((a.natAbs : Int)) : Nat) : Int)]) 1).run Try.prog w = .ok (.int .u64 ((wl ((a.natAbs : Int)) : Nat) : Int)) w := fun _ => by kernel_rfl
  have hfb : ∀ w : World, (Instr.field 24 (.agg #[.int .u64 ((wh ((b.natAbs : Int)) : Nat) : Int), .int .u64 ((wl ((b.natAbs : Int)) : Nat) : Int)]) 1).run Try.prog w = .ok (.int .u64 ((wl ((b.natAbs : Int)) : Nat) : Int)) w := fun _ => by kernel_rfl
  obtain ⟨w1, hw1, pr_0, hb1, hs1⟩ := new_box w (w.heap.size) rfl [.int .u64 0, .int .u64 0] 24
  have hb1' : Below w.heap.size w w1 := hb1.mono (by omega)
  clear hb1
  have hB_1 := hB_0.trans (hb1'.mono hB_0.size)
  clear hb1' hB_0
  go_enter Try.func19, Try.ntmps19
  obtain ⟨pre0, pre1, pre2, pre3⟩ := pr_0.open2
  go_wp2_with fail
  refine (wOf_any a HA1.out HA2.out _).mono ?_
  rintro e w2 ⟨rfl, hb2⟩
  clear pre0 pre1 pre2 pre3
  have hB_2 := hB_1.trans (hb2.mono hB_1.size)
  have pr_1 := pr_0.below hb2
  clear hb2 hB_1 pr_0
  obtain ⟨pre0, pre1, pre2, pre3⟩ := pr_1.open2
  go_wp2_with fail
  refine (size_any a _ IA.out).mono ?_
  rintro e w3 ⟨rfl, hb3⟩
  clear pre0 pre1 pre2 pre3
  have hB_3 := hB_2.trans (hb3.mono hB_2.size)
  have pr_2 := pr_1.below hb3
  clear hb3 hB_2 pr_1
  obtain ⟨pre0, pre1, pre2, pre3⟩ := pr_2.open2
  go_wp2_with fail
  refine (wOf_any b HB1.out HB2.out _).mono ?_
  rintro e w4 ⟨rfl, hb4⟩
  clear pre0 pre1 pre2 pre3
  have hB_4 := hB_3.trans (hb4.mono hB_3.size)
  have pr_3 := pr_2.below hb4
  clear hb4 hB_3 pr_2
  obtain ⟨pre0, pre1, pre2, pre3⟩ := pr_3.open2
  go_wp2_with fail
  refine (size_any b _ IB.out).mono ?_
  rintro e w5 ⟨rfl, hb5⟩
  clear pre0 pre1 pre2 pre3
  have hB_5 := hB_4.trans (hb5.mono hB_4.size)
  have pr_4 := pr_3.below hb5
  clear hb5 hB_4 pr_3
  obtain ⟨pre0, pre1, pre2, pre3⟩ := pr_4.open2
  go_wp2_with fail
  refine (CM.out _).mono ?_
  rintro e w6 ⟨rfl, hb6⟩
  clear pre0 pre1 pre2 pre3
  have hB_6 := hB_5.trans (hb6.mono hB_5.size)
  have pr_5 := pr_4.below hb6
  clear hb6 hB_5 pr_4
  obtain ⟨pre0, pre1, pre2, pre3⟩ := pr_5.open2
  clear pre0 pre1 pre2 pre3
  have hl1pr := pr_5.lt
  have hl1B := hB_6.size
  obtain ⟨w7, hw7, pp_0, hb7, hs7⟩ := new_box w6 (w6.heap.size) rfl [.int .u64 ((H : Nat) : Int), .int .u64 ((L : Nat) : Int)] 24
  have hb7' : Below w6.heap.size w6 w7 := hb7.mono (by omega)
  clear hb7
  have hB_7 := hB_6.trans (hb7'.mono hB_6.size)
  have pr_6 := pr_5.below hb7'
  clear hb7' hB_6 pr_5
  obtain ⟨pre0, pre1, pre2, pre3⟩ := pr_6.open2
  obtain ⟨ppe0, ppe1, ppe2, ppe3⟩ := pp_0.open2
  obtain ⟨sf1a, sf1b, sf1c, sf1d⟩ := pr_6.open2
  obtain ⟨sg1a, sg1b⟩ := Box.put2 pr_6 (.int .u64 ((H : Nat) : Int))
  go_wp2
  clear pre0 pre1 pre2 pre3 ppe0 ppe1 ppe2 ppe3 sf1a sf1b sf1c sf1d sg1a sg1b
  have hB_8 := below_setAll hB_7 (g := w.heap.size) (by omega) [.int .u64 ((H : Nat) : Int), .int .u64 ((L : Nat) : Int)]
  have pp_1 := pp_0.farAll (g' := w.heap.size) (by omega) [.int .u64 ((H : Nat) : Int), .int .u64 ((L : Nat) : Int)]
  have pr_7 := pr_6.setAll [.int .u64 ((H : Nat) : Int), .int .u64 ((L : Nat) : Int)] rfl
  simp only [setAll, Nat.zero_add] at hB_8 pr_7 pp_1
  clear hB_7 pp_0 pr_6
  generalize (World.setCell (World.setCell w7 ⟨w.heap.size, 0, none⟩ (.int .u64 ((H : Nat) : Int))) ⟨w.heap.size, 1, none⟩ (.int .u64 ((L : Nat) : Int))) = w8 at *
  go_wp2
  obtain ⟨pre0, pre1, pre2, pre3⟩ := pr_7.open2
  exact bodyPost_ret (v := .agg #[.int .u64 ((H : Nat) : Int), .int .u64 ((L : Nat) : Int)]) (by simp [results, Try.results19, go_sem, pre0, pre1]) rfl ⟨rfl, hB_8⟩
set_option maxHeartbeats 4000000 in
theorem wMul_w_tf (a b : Int) (ha1 : -9223372036854775808 ≤ a) (ha2 : a < 9223372036854775808) (hb1 : -9223372036854775808 ≤ b) (hb2 : b < 9223372036854775808) (H L H' L' : Nat) (sa : a < 0) (sb : ¬ b < 0) (cm : ∀ w, Calls Try.prog 41 #[.int .u64 ((wl ((a.natAbs : Int)) : Nat) : Int), .int .u64 ((wl ((b.natAbs : Int)) : Nat) : Int)] w fun e w' => e = .returned (.tuple #[.int .u64 ((H : Nat) : Int), .int .u64 ((L : Nat) : Int)]) ∧ Below w.heap.size w w') (hac : ∀ w, Calls Try.prog 34 #[.agg #[.int .u64 ((H : Nat) : Int), .int .u64 ((L : Nat) : Int)]] w fun e w' => e = .returned (.agg #[.int .u64 ((H' : Nat) : Int), .int .u64 ((L' : Nat) : Int)]) ∧ Below w.heap.size w w') (w : World) :
    Calls Try.prog 19 #[.int .i64 a, .int .i64 b] w fun e w' => e = .returned (.agg #[.int .u64 ((H' : Nat) : Int), .int .u64 ((L' : Nat) : Int)]) ∧ Below w.heap.size w w' := by
  have hB_0 := Below.refl w.heap.size w
  have CM := Lib.hid cm; have CA := Lib.hid hac; have IA := Lib.hid (inW_int ha1 ha2); have IB := Lib.hid (inW_int hb1 hb2); have HA1 := Lib.hid ha1; have HA2 := Lib.hid ha2; have HB1 := Lib.hid hb1; have HB2 := Lib.hid hb2
  clear cm hac ha1 ha2 hb1 hb2
  have qa : decide (a < 0) = true := by simp [sa]
  have qb : decide (b < 0) = false := by simp [sb]
  clear sa sb
  have hfa : ∀ w : World, (Instr.field 24 (.agg #[.int .u64 ((wh ((a.natAbs : Int)) : Nat) : Int), .int .u64 ((wl ((a.natAbs : Int)) : Nat) : Int)]) 1).run Try.prog w = .ok (.int .u64 ((wl ((a.natAbs : Int)) : Nat) : Int)) w := fun _ => by kernel_rfl
  have hfb : ∀ w : World, (Instr.field 24 (.agg #[.int .u64 ((wh ((b.natAbs : Int)) : Nat) : Int), .int .u64 ((wl ((b.natAbs : Int)) : Nat) : Int)]) 1).run Try.prog w = .ok (.int .u64 ((wl ((b.natAbs : Int)) : Nat) : Int)) w := fun _ => by kernel_rfl
  obtain ⟨w1, hw1, pr_0, hb1, hs1⟩ := new_box w (w.heap.size) rfl [.int .u64 0, .int .u64 0] 24
  have hb1' : Below w.heap.size w w1 := hb1.mono (by omega)
  clear hb1
  have hB_1 := hB_0.trans (hb1'.mono hB_0.size)
  clear hb1' hB_0
  go_enter Try.func19, Try.ntmps19
  obtain ⟨pre0, pre1, pre2, pre3⟩ := pr_0.open2
  go_wp2_with fail
  refine (wOf_any a HA1.out HA2.out _).mono ?_
  rintro e w2 ⟨rfl, hb2⟩
  clear pre0 pre1 pre2 pre3
  have hB_2 := hB_1.trans (hb2.mono hB_1.size)
  have pr_1 := pr_0.below hb2
  clear hb2 hB_1 pr_0
  obtain ⟨pre0, pre1, pre2, pre3⟩ := pr_1.open2
  go_wp2_with fail
  refine (size_any a _ IA.out).mono ?_
  rintro e w3 ⟨rfl, hb3⟩
  clear pre0 pre1 pre2 pre3
  have hB_3 := hB_2.trans (hb3.mono hB_2.size)
  have pr_2 := pr_1.below hb3
  clear hb3 hB_2 pr_1
  obtain ⟨pre0, pre1, pre2, pre3⟩ := pr_2.open2
  go_wp2_with fail
  refine (wOf_any b HB1.out HB2.out _).mono ?_
  rintro e w4 ⟨rfl, hb4⟩
  clear pre0 pre1 pre2 pre3
  have hB_4 := hB_3.trans (hb4.mono hB_3.size)
  have pr_3 := pr_2.below hb4
  clear hb4 hB_3 pr_2
  obtain ⟨pre0, pre1, pre2, pre3⟩ := pr_3.open2
  go_wp2_with fail
  refine (size_any b _ IB.out).mono ?_
  rintro e w5 ⟨rfl, hb5⟩
  clear pre0 pre1 pre2 pre3
  have hB_5 := hB_4.trans (hb5.mono hB_4.size)
  have pr_4 := pr_3.below hb5
  clear hb5 hB_4 pr_3
  obtain ⟨pre0, pre1, pre2, pre3⟩ := pr_4.open2
  go_wp2_with fail
  refine (CM.out _).mono ?_
  rintro e w6 ⟨rfl, hb6⟩
  clear pre0 pre1 pre2 pre3
  have hB_6 := hB_5.trans (hb6.mono hB_5.size)
  have pr_5 := pr_4.below hb6
  clear hb6 hB_5 pr_4
  obtain ⟨pre0, pre1, pre2, pre3⟩ := pr_5.open2
  clear pre0 pre1 pre2 pre3
  have hl1pr := pr_5.lt
  have hl1B := hB_6.size
  obtain ⟨w7, hw7, pp_0, hb7, hs7⟩ := new_box w6 (w6.heap.size) rfl [.int .u64 ((H : Nat) : Int), .int .u64 ((L : Nat) : Int)] 24
  have hb7' : Below w6.heap.size w6 w7 := hb7.mono (by omega)
  clear hb7
  have hB_7 := hB_6.trans (hb7'.mono hB_6.size)
  have pr_6 := pr_5.below hb7'
  clear hb7' hB_6 pr_5
  obtain ⟨pre0, pre1, pre2, pre3⟩ := pr_6.open2
  obtain ⟨ppe0, ppe1, ppe2, ppe3⟩ := pp_0.open2
  go_wp2_with fail
  refine (CA.out _).mono ?_
  rintro e w8 ⟨rfl, hb8⟩
  clear pre0 pre1 pre2 pre3 ppe0 ppe1 ppe2 ppe3
  have hB_8 := hB_7.trans (hb8.mono hB_7.size)
  have pr_7 := pr_6.below hb8
  have pp_1 := pp_0.below hb8
  clear hb8 hB_7 pr_6 pp_0
  obtain ⟨pre0, pre1, pre2, pre3⟩ := pr_7.open2
  obtain ⟨ppe0, ppe1, ppe2, ppe3⟩ := pp_1.open2
  obtain ⟨sf1a, sf1b, sf1c, sf1d⟩ := pr_7.open2
  obtain ⟨sg1a, sg1b⟩ := Box.put2 pr_7 (.int .u64 ((H' : Nat) : Int))
  go_wp2
  clear pre0 pre1 pre2 pre3 ppe0 ppe1 ppe2 ppe3 sf1a sf1b sf1c sf1d sg1a sg1b
  have hB_9 := below_setAll hB_8 (g := w.heap.size) (by omega) [.int .u64 ((H' : Nat) : Int), .int .u64 ((L' : Nat) : Int)]
  have pp_2 := pp_1.farAll (g' := w.heap.size) (by omega) [.int .u64 ((H' : Nat) : Int), .int .u64 ((L' : Nat) : Int)]
  have pr_8 := pr_7.setAll [.int .u64 ((H' : Nat) : Int), .int .u64 ((L' : Nat) : Int)] rfl
  simp only [setAll, Nat.zero_add] at hB_9 pr_8 pp_2
  clear hB_8 pp_1 pr_7
  generalize (World.setCell (World.setCell w8 ⟨w.heap.size, 0, none⟩ (.int .u64 ((H' : Nat) : Int))) ⟨w.heap.size, 1, none⟩ (.int .u64 ((L' : Nat) : Int))) = w9 at *
  go_wp2
  obtain ⟨pre0, pre1, pre2, pre3⟩ := pr_8.open2
  exact bodyPost_ret (v := .agg #[.int .u64 ((H' : Nat) : Int), .int .u64 ((L' : Nat) : Int)]) (by simp [results, Try.results19, go_sem, pre0, pre1]) rfl ⟨rfl, hB_9⟩
set_option maxHeartbeats 4000000 in
theorem wMul_w_ft (a b : Int) (ha1 : -9223372036854775808 ≤ a) (ha2 : a < 9223372036854775808) (hb1 : -9223372036854775808 ≤ b) (hb2 : b < 9223372036854775808) (H L H' L' : Nat) (sa : ¬ a < 0) (sb : b < 0) (cm : ∀ w, Calls Try.prog 41 #[.int .u64 ((wl ((a.natAbs : Int)) : Nat) : Int), .int .u64 ((wl ((b.natAbs : Int)) : Nat) : Int)] w fun e w' => e = .returned (.tuple #[.int .u64 ((H : Nat) : Int), .int .u64 ((L : Nat) : Int)]) ∧ Below w.heap.size w w') (hac : ∀ w, Calls Try.prog 34 #[.agg #[.int .u64 ((H : Nat) : Int), .int .u64 ((L : Nat) : Int)]] w fun e w' => e = .returned (.agg #[.int .u64 ((H' : Nat) : Int), .int .u64 ((L' : Nat) : Int)]) ∧ Below w.heap.size w w') (w : World) :
    Calls Try.prog 19 #[.int .i64 a, .int .i64 b] w fun e w' => e = .returned (.agg #[.int .u64 ((H' : Nat) : Int), .int .u64 ((L' : Nat) : Int)]) ∧ Below w.heap.size w w' := by
  have hB_0 := Below.refl w.heap.size w
  have CM := Lib.hid cm; have CA := Lib.hid hac; have IA := Lib.hid (inW_int ha1 ha2); have IB := Lib.hid (inW_int hb1 hb2); have HA1 := Lib.hid ha1; have HA2 := Lib.hid ha2; have HB1 := Lib.hid hb1; have HB2 := Lib.hid hb2
  clear cm hac ha1 ha2 hb1 hb2
  have qa : decide (a < 0) = false := by simp [sa]
  have qb : decide (b < 0) = true := by simp [sb]
  clear sa sb
  have hfa : ∀ w : World, (Instr.field 24 (.agg #[.int .u64 ((wh ((a.natAbs : Int)) : Nat) : Int), .int .u64 ((wl ((a.natAbs : Int)) : Nat) : Int)]) 1).run Try.prog w = .ok (.int .u64 ((wl ((a.natAbs : Int)) : Nat) : Int)) w := fun _ => by kernel_rfl
  have hfb : ∀ w : World, (Instr.field 24 (.agg #[.int .u64 ((wh ((b.natAbs : Int)) : Nat) : Int), .int .u64 ((wl ((b.natAbs : Int)) : Nat) : Int)]) 1).run Try.prog w = .ok (.int .u64 ((wl ((b.natAbs : Int)) : Nat) : Int)) w := fun _ => by kernel_rfl
  obtain ⟨w1, hw1, pr_0, hb1, hs1⟩ := new_box w (w.heap.size) rfl [.int .u64 0, .int .u64 0] 24
  have hb1' : Below w.heap.size w w1 := hb1.mono (by omega)
  clear hb1
  have hB_1 := hB_0.trans (hb1'.mono hB_0.size)
  clear hb1' hB_0
  go_enter Try.func19, Try.ntmps19
  obtain ⟨pre0, pre1, pre2, pre3⟩ := pr_0.open2
  go_wp2_with fail
  refine (wOf_any a HA1.out HA2.out _).mono ?_
  rintro e w2 ⟨rfl, hb2⟩
  clear pre0 pre1 pre2 pre3
  have hB_2 := hB_1.trans (hb2.mono hB_1.size)
  have pr_1 := pr_0.below hb2
  clear hb2 hB_1 pr_0
  obtain ⟨pre0, pre1, pre2, pre3⟩ := pr_1.open2
  go_wp2_with fail
  refine (size_any a _ IA.out).mono ?_
  rintro e w3 ⟨rfl, hb3⟩
  clear pre0 pre1 pre2 pre3
  have hB_3 := hB_2.trans (hb3.mono hB_2.size)
  have pr_2 := pr_1.below hb3
  clear hb3 hB_2 pr_1
  obtain ⟨pre0, pre1, pre2, pre3⟩ := pr_2.open2
  go_wp2_with fail
  refine (wOf_any b HB1.out HB2.out _).mono ?_
  rintro e w4 ⟨rfl, hb4⟩
  clear pre0 pre1 pre2 pre3
  have hB_4 := hB_3.trans (hb4.mono hB_3.size)
  have pr_3 := pr_2.below hb4
  clear hb4 hB_3 pr_2
  obtain ⟨pre0, pre1, pre2, pre3⟩ := pr_3.open2
  go_wp2_with fail
  refine (size_any b _ IB.out).mono ?_
  rintro e w5 ⟨rfl, hb5⟩
  clear pre0 pre1 pre2 pre3
  have hB_5 := hB_4.trans (hb5.mono hB_4.size)
  have pr_4 := pr_3.below hb5
  clear hb5 hB_4 pr_3
  obtain ⟨pre0, pre1, pre2, pre3⟩ := pr_4.open2
  go_wp2_with fail
  refine (CM.out _).mono ?_
  rintro e w6 ⟨rfl, hb6⟩
  clear pre0 pre1 pre2 pre3
  have hB_6 := hB_5.trans (hb6.mono hB_5.size)
  have pr_5 := pr_4.below hb6
  clear hb6 hB_5 pr_4
  obtain ⟨pre0, pre1, pre2, pre3⟩ := pr_5.open2
  clear pre0 pre1 pre2 pre3
  have hl1pr := pr_5.lt
  have hl1B := hB_6.size
  obtain ⟨w7, hw7, pp_0, hb7, hs7⟩ := new_box w6 (w6.heap.size) rfl [.int .u64 ((H : Nat) : Int), .int .u64 ((L : Nat) : Int)] 24
  have hb7' : Below w6.heap.size w6 w7 := hb7.mono (by omega)
  clear hb7
  have hB_7 := hB_6.trans (hb7'.mono hB_6.size)
  have pr_6 := pr_5.below hb7'
  clear hb7' hB_6 pr_5
  obtain ⟨pre0, pre1, pre2, pre3⟩ := pr_6.open2
  obtain ⟨ppe0, ppe1, ppe2, ppe3⟩ := pp_0.open2
  go_wp2_with fail
  refine (CA.out _).mono ?_
  rintro e w8 ⟨rfl, hb8⟩
  clear pre0 pre1 pre2 pre3 ppe0 ppe1 ppe2 ppe3
  have hB_8 := hB_7.trans (hb8.mono hB_7.size)
  have pr_7 := pr_6.below hb8
  have pp_1 := pp_0.below hb8
  clear hb8 hB_7 pr_6 pp_0
  obtain ⟨pre0, pre1, pre2, pre3⟩ := pr_7.open2
  obtain ⟨ppe0, ppe1, ppe2, ppe3⟩ := pp_1.open2
  obtain ⟨sf1a, sf1b, sf1c, sf1d⟩ := pr_7.open2
  obtain ⟨sg1a, sg1b⟩ := Box.put2 pr_7 (.int .u64 ((H' : Nat) : Int))
  go_wp2
  clear pre0 pre1 pre2 pre3 ppe0 ppe1 ppe2 ppe3 sf1a sf1b sf1c sf1d sg1a sg1b
  have hB_9 := below_setAll hB_8 (g := w.heap.size) (by omega) [.int .u64 ((H' : Nat) : Int), .int .u64 ((L' : Nat) : Int)]
  have pp_2 := pp_1.farAll (g' := w.heap.size) (by omega) [.int .u64 ((H' : Nat) : Int), .int .u64 ((L' : Nat) : Int)]
  have pr_8 := pr_7.setAll [.int .u64 ((H' : Nat) : Int), .int .u64 ((L' : Nat) : Int)] rfl
  simp only [setAll, Nat.zero_add] at hB_9 pr_8 pp_2
  clear hB_8 pp_1 pr_7
  generalize (World.setCell (World.setCell w8 ⟨w.heap.size, 0, none⟩ (.int .u64 ((H' : Nat) : Int))) ⟨w.heap.size, 1, none⟩ (.int .u64 ((L' : Nat) : Int))) = w9 at *
  go_wp2
  obtain ⟨pre0, pre1, pre2, pre3⟩ := pr_8.open2
  exact bodyPost_ret (v := .agg #[.int .u64 ((H' : Nat) : Int), .int .u64 ((L' : Nat) : Int)]) (by simp [results, Try.results19, go_sem, pre0, pre1]) rfl ⟨rfl, hB_9⟩
set_option maxHeartbeats 4000000 in
theorem wMul_w_ff (a b : Int) (ha1 : -9223372036854775808 ≤ a) (ha2 : a < 9223372036854775808) (hb1 : -9223372036854775808 ≤ b) (hb2 : b < 9223372036854775808) (H L H' L' : Nat) (sa : ¬ a < 0) (sb : ¬ b < 0) (cm : ∀ w, Calls Try.prog 41 #[.int .u64 ((wl ((a.natAbs : Int)) : Nat) : Int), .int .u64 ((wl ((b.natAbs : Int)) : Nat) : Int)] w fun e w' => e = .returned (.tuple #[.int .u64 ((H : Nat) : Int), .int .u64 ((L : Nat) : Int)]) ∧ Below w.heap.size w w') (hac : ∀ w, Calls Try.prog 34 #[.agg #[.int .u64 ((H : Nat) : Int), .int .u64 ((L : Nat) : Int)]] w fun e w' => e = .returned (.agg #[.int .u64 ((H' : Nat) : Int), .int .u64 ((L' : Nat) : Int)]) ∧ Below w.heap.size w w') (w : World) :
    Calls Try.prog 19 #[.int .i64 a, .int .i64 b] w fun e w' => e = .returned (.agg #[.int .u64 ((H : Nat) : Int), .int .u64 ((L : Nat) : Int)]) ∧ Below w.heap.size w w' := by
  have hB_0 := Below.refl w.heap.size w
  have CM := Lib.hid cm; have CA := Lib.hid hac; have IA := Lib.hid (inW_int ha1 ha2); have IB := Lib.hid (inW_int hb1 hb2); have HA1 := Lib.hid ha1; have HA2 := Lib.hid ha2; have HB1 := Lib.hid hb1; have HB2 := Lib.hid hb2
  clear cm hac ha1 ha2 hb1 hb2
  have qa : decide (a < 0) = false := by simp [sa]
  have qb : decide (b < 0) = false := by simp [sb]
  clear sa sb
  have hfa : ∀ w : World, (Instr.field 24 (.agg #[.int .u64 ((wh ((a.natAbs : Int)) : Nat) : Int), .int .u64 ((wl ((a.natAbs : Int)) : Nat) : Int)]) 1).run Try.prog w = .ok (.int .u64 ((wl ((a.natAbs : Int)) : Nat) : Int)) w := fun _ => by kernel_rfl
  have hfb : ∀ w : World, (Instr.field 24 (.agg #[.int .u64 ((wh ((b.natAbs : Int)) : Nat) : Int), .int .u64 ((wl ((b.natAbs : Int)) : Nat) : Int)]) 1).run Try.prog w = .ok (.int .u64 ((wl ((b.natAbs : Int)) : Nat) : Int)) w := fun _ => by kernel_rfl
  obtain ⟨w1, hw1, pr_0, hb1, hs1⟩ := new_box w (w.heap.size) rfl [.int .u64 0, .int .u64 0] 24
  have hb1' : Below w.heap.size w w1 := hb1.mono (by omega)
  clear hb1
  have hB_1 := hB_0.trans (hb1'.mono hB_0.size)
  clear hb1' hB_0
  go_enter Try.func19, Try.ntmps19
  obtain ⟨pre0, pre1, pre2, pre3⟩ := pr_0.open2
  go_wp2_with fail
  refine (wOf_any a HA1.out HA2.out _).mono ?_
  rintro e w2 ⟨rfl, hb2⟩
  clear pre0 pre1 pre2 pre3
  have hB_2 := hB_1.trans (hb2.mono hB_1.size)
  have pr_1 := pr_0.below hb2
  clear hb2 hB_1 pr_0
  obtain ⟨pre0, pre1, pre2, pre3⟩ := pr_1.open2
  go_wp2_with fail
  refine (size_any a _ IA.out).mono ?_
  rintro e w3 ⟨rfl, hb3⟩
  clear pre0 pre1 pre2 pre3
  have hB_3 := hB_2.trans (hb3.mono hB_2.size)
  have pr_2 := pr_1.below hb3
  clear hb3 hB_2 pr_1
  obtain ⟨pre0, pre1, pre2, pre3⟩ := pr_2.open2
  go_wp2_with fail
  refine (wOf_any b HB1.out HB2.out _).mono ?_
  rintro e w4 ⟨rfl, hb4⟩
  clear pre0 pre1 pre2 pre3
  have hB_4 := hB_3.trans (hb4.mono hB_3.size)
  have pr_3 := pr_2.below hb4
  clear hb4 hB_3 pr_2
  obtain ⟨pre0, pre1, pre2, pre3⟩ := pr_3.open2
  go_wp2_with fail
  refine (size_any b _ IB.out).mono ?_
  rintro e w5 ⟨rfl, hb5⟩
  clear pre0 pre1 pre2 pre3
  have hB_5 := hB_4.trans (hb5.mono hB_4.size)
  have pr_4 := pr_3.below hb5
  clear hb5 hB_4 pr_3
  obtain ⟨pre0, pre1, pre2, pre3⟩ := pr_4.open2
  go_wp2_with fail
  refine (CM.out _).mono ?_
  rintro e w6 ⟨rfl, hb6⟩
  clear pre0 pre1 pre2 pre3
  have hB_6 := hB_5.trans (hb6.mono hB_5.size)
  have pr_5 := pr_4.below hb6
  clear hb6 hB_5 pr_4
  obtain ⟨pre0, pre1, pre2, pre3⟩ := pr_5.open2
  clear pre0 pre1 pre2 pre3
  have hl1pr := pr_5.lt
  have hl1B := hB_6.size
  obtain ⟨w7, hw7, pp_0, hb7, hs7⟩ := new_box w6 (w6.heap.size) rfl [.int .u64 ((H : Nat) : Int), .int .u64 ((L : Nat) : Int)] 24
  have hb7' : Below w6.heap.size w6 w7 := hb7.mono (by omega)
  clear hb7
  have hB_7 := hB_6.trans (hb7'.mono hB_6.size)
  have pr_6 := pr_5.below hb7'
  clear hb7' hB_6 pr_5
  obtain ⟨pre0, pre1, pre2, pre3⟩ := pr_6.open2
  obtain ⟨ppe0, ppe1, ppe2, ppe3⟩ := pp_0.open2
  obtain ⟨sf1a, sf1b, sf1c, sf1d⟩ := pr_6.open2
  obtain ⟨sg1a, sg1b⟩ := Box.put2 pr_6 (.int .u64 ((H : Nat) : Int))
  go_wp2
  clear pre0 pre1 pre2 pre3 ppe0 ppe1 ppe2 ppe3 sf1a sf1b sf1c sf1d sg1a sg1b
  have hB_8 := below_setAll hB_7 (g := w.heap.size) (by omega) [.int .u64 ((H : Nat) : Int), .int .u64 ((L : Nat) : Int)]
  have pp_1 := pp_0.farAll (g' := w.heap.size) (by omega) [.int .u64 ((H : Nat) : Int), .int .u64 ((L : Nat) : Int)]
  have pr_7 := pr_6.setAll [.int .u64 ((H : Nat) : Int), .int .u64 ((L : Nat) : Int)] rfl
  simp only [setAll, Nat.zero_add] at hB_8 pr_7 pp_1
  clear hB_7 pp_0 pr_6
  generalize (World.setCell (World.setCell w7 ⟨w.heap.size, 0, none⟩ (.int .u64 ((H : Nat) : Int))) ⟨w.heap.size, 1, none⟩ (.int .u64 ((L : Nat) : Int))) = w8 at *
  go_wp2
  obtain ⟨pre0, pre1, pre2, pre3⟩ := pr_7.open2
  exact bodyPost_ret (v := .agg #[.int .u64 ((H : Nat) : Int), .int .u64 ((L : Nat) : Int)]) (by simp [results, Try.results19, go_sem, pre0, pre1]) rfl ⟨rfl, hB_8⟩
theorem wMul_any (a b : Int) (ha1 : -9223372036854775808 ≤ a) (ha2 : a < 9223372036854775808) (hb1 : -9223372036854775808 ≤ b) (hb2 : b < 9223372036854775808) (w : World) :
    Calls Try.prog 19 #[.int .i64 a, .int .i64 b] w fun e w' => AnsW w w' e (a * b) := by
  obtain ⟨ea, la⟩ := w_abs_int ha1 ha2
  obtain ⟨eb, lb⟩ := w_abs_int hb1 hb2
  obtain ⟨x, hx⟩ : ∃ x : Int, x = ((a.natAbs * b.natAbs : Nat) : Int) := ⟨_, rfl⟩
  have hlt : a.natAbs * b.natAbs < B * B := Nat.mul_lt_mul'' la lb
  have hw := w_mod x
  have h1 := wh_lt x; have h2 := wl_lt x
  have q1 : a.natAbs * b.natAbs / B = wh x := by
    simp only [B_eq] at *; omega
  have q2 : a.natAbs * b.natAbs % B = wl x := by
    simp only [B_eq] at *; omega
  have cm := fun w => mul64_is a.natAbs b.natAbs (wh x) (wl x) w la lb q1 q2
  rw [← ea, ← eb] at cm
  have hac := fun w => across_any x w
  have hm : ((a.natAbs * b.natAbs : Nat) : Int) = (a.natAbs : Int) * (b.natAbs : Int) := Int.natCast_mul _ _
  by_cases sa : a < 0 <;> by_cases sb : b < 0
  · have e : a * b = x := by
      rw [hx, hm, show (a.natAbs : Int) = -a by omega, show (b.natAbs : Int) = -b by omega]; simp [Int.neg_mul, Int.mul_neg]
    rw [e]; exact wMul_w_tt a b ha1 ha2 hb1 hb2 _ _ _ _ sa sb cm hac w
  · have e : a * b = -x := by
      rw [hx, hm, show (a.natAbs : Int) = -a by omega, show (b.natAbs : Int) = b by omega]; simp [Int.neg_mul]
    rw [e]; exact wMul_w_tf a b ha1 ha2 hb1 hb2 _ _ _ _ sa sb cm hac w
  · have e : a * b = -x := by
      rw [hx, hm, show (a.natAbs : Int) = a by omega, show (b.natAbs : Int) = -b by omega]; simp [Int.mul_neg]
    rw [e]; exact wMul_w_ft a b ha1 ha2 hb1 hb2 _ _ _ _ sa sb cm hac w
  · have e : a * b = x := by
      rw [hx, hm, show (a.natAbs : Int) = a by omega, show (b.natAbs : Int) = b by omega]
    rw [e]; exact wMul_w_ff a b ha1 ha2 hb1 hb2 _ _ _ _ sa sb cm hac w
set_option maxHeartbeats 4000000 in
theorem wDet_w (a b c d x y : Int) (c1 : ∀ w, Calls Try.prog 19 #[.int .i64 a, .int .i64 d] w fun e w' => AnsW w w' e x) (c2 : ∀ w, Calls Try.prog 19 #[.int .i64 b, .int .i64 c] w fun e w' => AnsW w w' e y) (w : World) :
    Calls Try.prog 28 #[.int .i64 a, .int .i64 b, .int .i64 c, .int .i64 d] w fun e w' => AnsW w w' e (x - y) := by
  have hB_0 := Below.refl w.heap.size w
  have C1 := Lib.hid c1; have C2 := Lib.hid c2
  clear c1 c2
  obtain ⟨w1, hw1, pr_0, hb1, hs1⟩ := new_box w (w.heap.size) rfl [.int .u64 0, .int .u64 0] 24
  have hb1' : Below w.heap.size w w1 := hb1.mono (by omega)
  clear hb1
  have hB_1 := hB_0.trans (hb1'.mono hB_0.size)
  clear hb1' hB_0
  go_enter Try.func28, Try.ntmps28
  obtain ⟨pre0, pre1, pre2, pre3⟩ := pr_0.open2
  go_wp2_with fail
  refine (C1.out _).mono ?_
  rintro e w2 ⟨rfl, hb2⟩
  clear pre0 pre1 pre2 pre3
  have hB_2 := hB_1.trans (hb2.mono hB_1.size)
  have pr_1 := pr_0.below hb2
  clear hb2 hB_1 pr_0
  obtain ⟨pre0, pre1, pre2, pre3⟩ := pr_1.open2
  go_wp2_with fail
  refine (C2.out _).mono ?_
  rintro e w3 ⟨rfl, hb3⟩
  clear pre0 pre1 pre2 pre3
  have hB_3 := hB_2.trans (hb3.mono hB_2.size)
  have pr_2 := pr_1.below hb3
  clear hb3 hB_2 pr_1
  obtain ⟨pre0, pre1, pre2, pre3⟩ := pr_2.open2
  go_wp2_with fail
  refine (less_any x y _).mono ?_
  rintro e w4 ⟨rfl, hb4⟩
  clear pre0 pre1 pre2 pre3
  have hB_4 := hB_3.trans (hb4.mono hB_3.size)
  have pr_3 := pr_2.below hb4
  clear hb4 hB_3 pr_2
  obtain ⟨pre0, pre1, pre2, pre3⟩ := pr_3.open2
  obtain ⟨sf1a, sf1b, sf1c, sf1d⟩ := pr_3.open2
  obtain ⟨sg1a, sg1b⟩ := Box.put2 pr_3 (.int .u64 ((wh (x - y) : Nat) : Int))
  go_wp2
  clear pre0 pre1 pre2 pre3 sf1a sf1b sf1c sf1d sg1a sg1b
  have hB_5 := below_setAll hB_4 (g := w.heap.size) (by omega) [.int .u64 ((wh (x - y) : Nat) : Int), .int .u64 ((wl (x - y) : Nat) : Int)]
  have pr_4 := pr_3.setAll [.int .u64 ((wh (x - y) : Nat) : Int), .int .u64 ((wl (x - y) : Nat) : Int)] rfl
  simp only [setAll, Nat.zero_add] at hB_5 pr_4
  clear hB_4 pr_3
  generalize (World.setCell (World.setCell w4 ⟨w.heap.size, 0, none⟩ (.int .u64 ((wh (x - y) : Nat) : Int))) ⟨w.heap.size, 1, none⟩ (.int .u64 ((wl (x - y) : Nat) : Int))) = w5 at *
  go_wp2
  obtain ⟨pre0, pre1, pre2, pre3⟩ := pr_4.open2
  exact bodyPost_ret (v := .agg #[.int .u64 ((wh (x - y) : Nat) : Int), .int .u64 ((wl (x - y) : Nat) : Int)]) (by simp [results, Try.results28, go_sem, pre0, pre1]) rfl ⟨rfl, hB_5⟩
theorem wDet_any (a b c d : Int) (ha1 : -9223372036854775808 ≤ a) (ha2 : a < 9223372036854775808) (hb1 : -9223372036854775808 ≤ b) (hb2 : b < 9223372036854775808) (hc1 : -9223372036854775808 ≤ c) (hc2 : c < 9223372036854775808) (hd1 : -9223372036854775808 ≤ d) (hd2 : d < 9223372036854775808) (w : World) :
    Calls Try.prog 28 #[.int .i64 a, .int .i64 b, .int .i64 c, .int .i64 d] w fun e w' => AnsW w w' e (a * d - b * c) :=
  wDet_w a b c d _ _ (fun w => wMul_any a d ha1 ha2 hd1 hd2 w) (fun w => wMul_any b c hb1 hb2 hc1 hc2 w) w
end Go.Proofs.Ytkigfccbhkcedaa
/- The calls of wide, walked: Times. -/
namespace Go.Proofs.Ytkigfccbhkcedaa
open Go.RowKit Go.MagM
set_option maxHeartbeats 8000000 in
theorem wTimes_w_over (x n : Int) (hx : InW x) (hn1 : -9223372036854775808 ≤ n) (hn2 : n < 9223372036854775808) (hi lo mid cy ov mo : Nat) (m1 : ∀ w, Calls Try.prog 41 #[.int .u64 ((wl ((x.natAbs : Int)) : Nat) : Int), .int .u64 ((wl ((n.natAbs : Int)) : Nat) : Int)] w fun e w' => e = .returned (.tuple #[.int .u64 ((cy : Nat) : Int), .int .u64 ((lo : Nat) : Int)]) ∧ Below w.heap.size w w') (m2 : ∀ w, Calls Try.prog 41 #[.int .u64 ((wh ((x.natAbs : Int)) : Nat) : Int), .int .u64 ((wl ((n.natAbs : Int)) : Nat) : Int)] w fun e w' => e = .returned (.tuple #[.int .u64 ((ov : Nat) : Int), .int .u64 ((mid : Nat) : Int)]) ∧ Below w.heap.size w w') (hrun : ∀ w, (callFunc 32 #[.int .u64 ((mid : Nat) : Int), .int .u64 ((cy : Nat) : Int), .int .u64 0]).run Try.prog w = .ok (.value (.tuple #[.int .u64 ((hi : Nat) : Int), .int .u64 ((mo : Nat) : Int)])) w) (h0 : ¬ ov = 0) (w : World) :
    Calls Try.prog 20 #[.agg #[.int .u64 ((wh (x) : Nat) : Int), .int .u64 ((wl (x) : Nat) : Int)], .int .i64 n] w fun e w' => e = .returned (.tuple #[.agg #[.int .u64 0, .int .u64 0], .bool false]) ∧ Below w.heap.size w w' := by
  have hB_0 := Below.refl w.heap.size w
  have HX := Lib.hid hx; have HN1 := Lib.hid hn1; have HN2 := Lib.hid hn2; have M1 := Lib.hid m1; have M2 := Lib.hid m2
  clear hx hn1 hn2 m1 m2
  have hfn : ∀ w : World, (Instr.field 24 (.agg #[.int .u64 ((wh ((n.natAbs : Int)) : Nat) : Int), .int .u64 ((wl ((n.natAbs : Int)) : Nat) : Int)]) 1).run Try.prog w = .ok (.int .u64 ((wl ((n.natAbs : Int)) : Nat) : Int)) w := fun _ => by kernel_rfl
  obtain ⟨w1, hw1, pa_0, hb1, hs1⟩ := new_box w (w.heap.size) rfl [.int .u64 ((wh (x) : Nat) : Int), .int .u64 ((wl (x) : Nat) : Int)] 24
  have hb1' : Below w.heap.size w w1 := hb1.mono (by omega)
  clear hb1
  have hB_1 := hB_0.trans (hb1'.mono hB_0.size)
  clear hb1' hB_0
  obtain ⟨w2, hw2, pr_0, hb2, hs2⟩ := new_box w1 (w.heap.size + 1) hs1 [.int .u64 0, .int .u64 0] 24
  have hb2' : Below w1.heap.size w1 w2 := hb2.mono (by omega)
  clear hb2
  have hB_2 := hB_1.trans (hb2'.mono hB_1.size)
  have pa_1 := pa_0.below hb2'
  clear hb2' hB_1 pa_0
  go_enter Try.func20, Try.ntmps20
  obtain ⟨pae0, pae1, pae2, pae3⟩ := pa_1.open2
  obtain ⟨pre0, pre1, pre2, pre3⟩ := pr_0.open2
  go_wp2_with fail
  refine (size_any x _ HX.out).mono ?_
  rintro e w3 ⟨rfl, hb3⟩
  clear pae0 pae1 pae2 pae3 pre0 pre1 pre2 pre3
  have hB_3 := hB_2.trans (hb3.mono hB_2.size)
  have pa_2 := pa_1.below hb3
  have pr_1 := pr_0.below hb3
  clear hb3 hB_2 pa_1 pr_0
  obtain ⟨pae0, pae1, pae2, pae3⟩ := pa_2.open2
  obtain ⟨pre0, pre1, pre2, pre3⟩ := pr_1.open2
  go_wp2_with fail
  refine (wOf_any n HN1.out HN2.out _).mono ?_
  rintro e w4 ⟨rfl, hb4⟩
  clear pae0 pae1 pae2 pae3 pre0 pre1 pre2 pre3
  have hB_4 := hB_3.trans (hb4.mono hB_3.size)
  have pa_3 := pa_2.below hb4
  have pr_2 := pr_1.below hb4
  clear hb4 hB_3 pa_2 pr_1
  obtain ⟨pae0, pae1, pae2, pae3⟩ := pa_3.open2
  obtain ⟨pre0, pre1, pre2, pre3⟩ := pr_2.open2
  go_wp2_with fail
  refine (size_any n _ (inW_int HN1.out HN2.out)).mono ?_
  rintro e w5 ⟨rfl, hb5⟩
  clear pae0 pae1 pae2 pae3 pre0 pre1 pre2 pre3
  have hB_5 := hB_4.trans (hb5.mono hB_4.size)
  have pa_4 := pa_3.below hb5
  have pr_3 := pr_2.below hb5
  clear hb5 hB_4 pa_3 pr_2
  obtain ⟨pae0, pae1, pae2, pae3⟩ := pa_4.open2
  obtain ⟨pre0, pre1, pre2, pre3⟩ := pr_3.open2
  clear pae0 pae1 pae2 pae3 pre0 pre1 pre2 pre3
  have hl1pa := pa_4.lt
  have hl1pr := pr_3.lt
  have hl1B := hB_5.size
  obtain ⟨w6, hw6, ps_0, hb6, hs6⟩ := new_box w5 (w5.heap.size) rfl [.int .u64 ((wh ((x.natAbs : Int)) : Nat) : Int), .int .u64 ((wl ((x.natAbs : Int)) : Nat) : Int)] 24
  have hb6' : Below w5.heap.size w5 w6 := hb6.mono (by omega)
  clear hb6
  have hB_6 := hB_5.trans (hb6'.mono hB_5.size)
  have pa_5 := pa_4.below hb6'
  have pr_4 := pr_3.below hb6'
  clear hb6' hB_5 pa_4 pr_3
  obtain ⟨pae0, pae1, pae2, pae3⟩ := pa_5.open2
  obtain ⟨pre0, pre1, pre2, pre3⟩ := pr_4.open2
  obtain ⟨pse0, pse1, pse2, pse3⟩ := ps_0.open2
  go_wp2_with fail
  refine (M1.out _).mono ?_
  rintro e w7 ⟨rfl, hb7⟩
  clear pae0 pae1 pae2 pae3 pre0 pre1 pre2 pre3 pse0 pse1 pse2 pse3
  have hB_7 := hB_6.trans (hb7.mono hB_6.size)
  have pa_6 := pa_5.below hb7
  have pr_5 := pr_4.below hb7
  have ps_1 := ps_0.below hb7
  clear hb7 hB_6 pa_5 pr_4 ps_0
  obtain ⟨pae0, pae1, pae2, pae3⟩ := pa_6.open2
  obtain ⟨pre0, pre1, pre2, pre3⟩ := pr_5.open2
  obtain ⟨pse0, pse1, pse2, pse3⟩ := ps_1.open2
  go_wp2_with fail
  refine (M2.out _).mono ?_
  rintro e w8 ⟨rfl, hb8⟩
  clear pae0 pae1 pae2 pae3 pre0 pre1 pre2 pre3 pse0 pse1 pse2 pse3
  have hB_8 := hB_7.trans (hb8.mono hB_7.size)
  have pa_7 := pa_6.below hb8
  have pr_6 := pr_5.below hb8
  have ps_2 := ps_1.below hb8
  clear hb8 hB_7 pa_6 pr_5 ps_1
  obtain ⟨pae0, pae1, pae2, pae3⟩ := pa_7.open2
  obtain ⟨pre0, pre1, pre2, pre3⟩ := pr_6.open2
  obtain ⟨pse0, pse1, pse2, pse3⟩ := ps_2.open2
  obtain ⟨sf1a, sf1b, sf1c, sf1d⟩ := pr_6.open2
  obtain ⟨sg1a, sg1b⟩ := Box.put2 pr_6 (.int .u64 0)
  go_wp2
  clear pae0 pae1 pae2 pae3 pre0 pre1 pre2 pre3 pse0 pse1 pse2 pse3 sf1a sf1b sf1c sf1d sg1a sg1b
  have hB_9 := below_setAll hB_8 (g := w.heap.size + 1) (by omega) [.int .u64 0, .int .u64 0]
  have pa_8 := pa_7.farAll (g' := w.heap.size + 1) (by omega) [.int .u64 0, .int .u64 0]
  have ps_3 := ps_2.farAll (g' := w.heap.size + 1) (by omega) [.int .u64 0, .int .u64 0]
  have pr_7 := pr_6.setAll [.int .u64 0, .int .u64 0] rfl
  simp only [setAll, Nat.zero_add] at hB_9 pa_8 pr_7 ps_3
  clear hB_8 pa_7 ps_2 pr_6
  generalize (World.setCell (World.setCell w8 ⟨w.heap.size + 1, 0, none⟩ (.int .u64 0)) ⟨w.heap.size + 1, 1, none⟩ (.int .u64 0)) = w9 at *
  go_wp2
  obtain ⟨pre0, pre1, pre2, pre3⟩ := pr_7.open2
  exact bodyPost_ret (v := .tuple #[.agg #[.int .u64 0, .int .u64 0], .bool false]) (by simp [results, Try.results20, go_sem, pre0, pre1]) rfl ⟨rfl, hB_9⟩
set_option maxHeartbeats 8000000 in
theorem wTimes_w_more (x n : Int) (hx : InW x) (hn1 : -9223372036854775808 ≤ n) (hn2 : n < 9223372036854775808) (hi lo mid cy mo : Nat) (m1 : ∀ w, Calls Try.prog 41 #[.int .u64 ((wl ((x.natAbs : Int)) : Nat) : Int), .int .u64 ((wl ((n.natAbs : Int)) : Nat) : Int)] w fun e w' => e = .returned (.tuple #[.int .u64 ((cy : Nat) : Int), .int .u64 ((lo : Nat) : Int)]) ∧ Below w.heap.size w w') (m2 : ∀ w, Calls Try.prog 41 #[.int .u64 ((wh ((x.natAbs : Int)) : Nat) : Int), .int .u64 ((wl ((n.natAbs : Int)) : Nat) : Int)] w fun e w' => e = .returned (.tuple #[.int .u64 0, .int .u64 ((mid : Nat) : Int)]) ∧ Below w.heap.size w w') (hrun : ∀ w, (callFunc 32 #[.int .u64 ((mid : Nat) : Int), .int .u64 ((cy : Nat) : Int), .int .u64 0]).run Try.prog w = .ok (.value (.tuple #[.int .u64 ((hi : Nat) : Int), .int .u64 ((mo : Nat) : Int)])) w) (h0 : ¬ mo = 0) (w : World) :
    Calls Try.prog 20 #[.agg #[.int .u64 ((wh (x) : Nat) : Int), .int .u64 ((wl (x) : Nat) : Int)], .int .i64 n] w fun e w' => e = .returned (.tuple #[.agg #[.int .u64 0, .int .u64 0], .bool false]) ∧ Below w.heap.size w w' := by
  have hB_0 := Below.refl w.heap.size w
  have HX := Lib.hid hx; have HN1 := Lib.hid hn1; have HN2 := Lib.hid hn2; have M1 := Lib.hid m1; have M2 := Lib.hid m2
  clear hx hn1 hn2 m1 m2
  have hfn : ∀ w : World, (Instr.field 24 (.agg #[.int .u64 ((wh ((n.natAbs : Int)) : Nat) : Int), .int .u64 ((wl ((n.natAbs : Int)) : Nat) : Int)]) 1).run Try.prog w = .ok (.int .u64 ((wl ((n.natAbs : Int)) : Nat) : Int)) w := fun _ => by kernel_rfl
  obtain ⟨w1, hw1, pa_0, hb1, hs1⟩ := new_box w (w.heap.size) rfl [.int .u64 ((wh (x) : Nat) : Int), .int .u64 ((wl (x) : Nat) : Int)] 24
  have hb1' : Below w.heap.size w w1 := hb1.mono (by omega)
  clear hb1
  have hB_1 := hB_0.trans (hb1'.mono hB_0.size)
  clear hb1' hB_0
  obtain ⟨w2, hw2, pr_0, hb2, hs2⟩ := new_box w1 (w.heap.size + 1) hs1 [.int .u64 0, .int .u64 0] 24
  have hb2' : Below w1.heap.size w1 w2 := hb2.mono (by omega)
  clear hb2
  have hB_2 := hB_1.trans (hb2'.mono hB_1.size)
  have pa_1 := pa_0.below hb2'
  clear hb2' hB_1 pa_0
  go_enter Try.func20, Try.ntmps20
  obtain ⟨pae0, pae1, pae2, pae3⟩ := pa_1.open2
  obtain ⟨pre0, pre1, pre2, pre3⟩ := pr_0.open2
  go_wp2_with fail
  refine (size_any x _ HX.out).mono ?_
  rintro e w3 ⟨rfl, hb3⟩
  clear pae0 pae1 pae2 pae3 pre0 pre1 pre2 pre3
  have hB_3 := hB_2.trans (hb3.mono hB_2.size)
  have pa_2 := pa_1.below hb3
  have pr_1 := pr_0.below hb3
  clear hb3 hB_2 pa_1 pr_0
  obtain ⟨pae0, pae1, pae2, pae3⟩ := pa_2.open2
  obtain ⟨pre0, pre1, pre2, pre3⟩ := pr_1.open2
  go_wp2_with fail
  refine (wOf_any n HN1.out HN2.out _).mono ?_
  rintro e w4 ⟨rfl, hb4⟩
  clear pae0 pae1 pae2 pae3 pre0 pre1 pre2 pre3
  have hB_4 := hB_3.trans (hb4.mono hB_3.size)
  have pa_3 := pa_2.below hb4
  have pr_2 := pr_1.below hb4
  clear hb4 hB_3 pa_2 pr_1
  obtain ⟨pae0, pae1, pae2, pae3⟩ := pa_3.open2
  obtain ⟨pre0, pre1, pre2, pre3⟩ := pr_2.open2
  go_wp2_with fail
  refine (size_any n _ (inW_int HN1.out HN2.out)).mono ?_
  rintro e w5 ⟨rfl, hb5⟩
  clear pae0 pae1 pae2 pae3 pre0 pre1 pre2 pre3
  have hB_5 := hB_4.trans (hb5.mono hB_4.size)
  have pa_4 := pa_3.below hb5
  have pr_3 := pr_2.below hb5
  clear hb5 hB_4 pa_3 pr_2
  obtain ⟨pae0, pae1, pae2, pae3⟩ := pa_4.open2
  obtain ⟨pre0, pre1, pre2, pre3⟩ := pr_3.open2
  clear pae0 pae1 pae2 pae3 pre0 pre1 pre2 pre3
  have hl1pa := pa_4.lt
  have hl1pr := pr_3.lt
  have hl1B := hB_5.size
  obtain ⟨w6, hw6, ps_0, hb6, hs6⟩ := new_box w5 (w5.heap.size) rfl [.int .u64 ((wh ((x.natAbs : Int)) : Nat) : Int), .int .u64 ((wl ((x.natAbs : Int)) : Nat) : Int)] 24
  have hb6' : Below w5.heap.size w5 w6 := hb6.mono (by omega)
  clear hb6
  have hB_6 := hB_5.trans (hb6'.mono hB_5.size)
  have pa_5 := pa_4.below hb6'
  have pr_4 := pr_3.below hb6'
  clear hb6' hB_5 pa_4 pr_3
  obtain ⟨pae0, pae1, pae2, pae3⟩ := pa_5.open2
  obtain ⟨pre0, pre1, pre2, pre3⟩ := pr_4.open2
  obtain ⟨pse0, pse1, pse2, pse3⟩ := ps_0.open2
  go_wp2_with fail
  refine (M1.out _).mono ?_
  rintro e w7 ⟨rfl, hb7⟩
  clear pae0 pae1 pae2 pae3 pre0 pre1 pre2 pre3 pse0 pse1 pse2 pse3
  have hB_7 := hB_6.trans (hb7.mono hB_6.size)
  have pa_6 := pa_5.below hb7
  have pr_5 := pr_4.below hb7
  have ps_1 := ps_0.below hb7
  clear hb7 hB_6 pa_5 pr_4 ps_0
  obtain ⟨pae0, pae1, pae2, pae3⟩ := pa_6.open2
  obtain ⟨pre0, pre1, pre2, pre3⟩ := pr_5.open2
  obtain ⟨pse0, pse1, pse2, pse3⟩ := ps_1.open2
  go_wp2_with fail
  refine (M2.out _).mono ?_
  rintro e w8 ⟨rfl, hb8⟩
  clear pae0 pae1 pae2 pae3 pre0 pre1 pre2 pre3 pse0 pse1 pse2 pse3
  have hB_8 := hB_7.trans (hb8.mono hB_7.size)
  have pa_7 := pa_6.below hb8
  have pr_6 := pr_5.below hb8
  have ps_2 := ps_1.below hb8
  clear hb8 hB_7 pa_6 pr_5 ps_1
  obtain ⟨pae0, pae1, pae2, pae3⟩ := pa_7.open2
  obtain ⟨pre0, pre1, pre2, pre3⟩ := pr_6.open2
  obtain ⟨pse0, pse1, pse2, pse3⟩ := ps_2.open2
  obtain ⟨sf1a, sf1b, sf1c, sf1d⟩ := pr_6.open2
  obtain ⟨sg1a, sg1b⟩ := Box.put2 pr_6 (.int .u64 0)
  go_wp2
  clear pae0 pae1 pae2 pae3 pre0 pre1 pre2 pre3 pse0 pse1 pse2 pse3 sf1a sf1b sf1c sf1d sg1a sg1b
  have hB_9 := below_setAll hB_8 (g := w.heap.size + 1) (by omega) [.int .u64 0, .int .u64 0]
  have pa_8 := pa_7.farAll (g' := w.heap.size + 1) (by omega) [.int .u64 0, .int .u64 0]
  have ps_3 := ps_2.farAll (g' := w.heap.size + 1) (by omega) [.int .u64 0, .int .u64 0]
  have pr_7 := pr_6.setAll [.int .u64 0, .int .u64 0] rfl
  simp only [setAll, Nat.zero_add] at hB_9 pa_8 pr_7 ps_3
  clear hB_8 pa_7 ps_2 pr_6
  generalize (World.setCell (World.setCell w8 ⟨w.heap.size + 1, 0, none⟩ (.int .u64 0)) ⟨w.heap.size + 1, 1, none⟩ (.int .u64 0)) = w9 at *
  go_wp2
  obtain ⟨pre0, pre1, pre2, pre3⟩ := pr_7.open2
  exact bodyPost_ret (v := .tuple #[.agg #[.int .u64 0, .int .u64 0], .bool false]) (by simp [results, Try.results20, go_sem, pre0, pre1]) rfl ⟨rfl, hB_9⟩
end Go.Proofs.Ytkigfccbhkcedaa
/- The calls of wide, walked: Times. -/
namespace Go.Proofs.Ytkigfccbhkcedaa
open Go.RowKit Go.MagM
set_option maxHeartbeats 8000000 in
theorem wTimes_w_nn (x n : Int) (hx : InW x) (hn1 : -9223372036854775808 ≤ n) (hn2 : n < 9223372036854775808) (hi lo mid cy : Nat) (m1 : ∀ w, Calls Try.prog 41 #[.int .u64 ((wl ((x.natAbs : Int)) : Nat) : Int), .int .u64 ((wl ((n.natAbs : Int)) : Nat) : Int)] w fun e w' => e = .returned (.tuple #[.int .u64 ((cy : Nat) : Int), .int .u64 ((lo : Nat) : Int)]) ∧ Below w.heap.size w w') (m2 : ∀ w, Calls Try.prog 41 #[.int .u64 ((wh ((x.natAbs : Int)) : Nat) : Int), .int .u64 ((wl ((n.natAbs : Int)) : Nat) : Int)] w fun e w' => e = .returned (.tuple #[.int .u64 0, .int .u64 ((mid : Nat) : Int)]) ∧ Below w.heap.size w w') (hrun : ∀ w, (callFunc 32 #[.int .u64 ((mid : Nat) : Int), .int .u64 ((cy : Nat) : Int), .int .u64 0]).run Try.prog w = .ok (.value (.tuple #[.int .u64 ((hi : Nat) : Int), .int .u64 0])) w) (sx sn : Int) (c1 : ∀ w, Calls Try.prog 26 #[.agg #[.int .u64 ((wh (x) : Nat) : Int), .int .u64 ((wl (x) : Nat) : Int)]] w fun e w' => e = .returned (.int .i64 (sx)) ∧ Below w.heap.size w w') (c2 : ∀ w, Calls Try.prog 26 #[.agg #[.int .u64 ((wh (n) : Nat) : Int), .int .u64 ((wl (n) : Nat) : Int)]] w fun e w' => e = .returned (.int .i64 (sn)) ∧ Below w.heap.size w w') (hside : IntKind.i64.wrap (sx * sn) = -1) (hi' lo' : Nat) (c4 : ∀ w, Calls Try.prog 34 #[.agg #[.int .u64 ((hi : Nat) : Int), .int .u64 ((lo : Nat) : Int)]] w fun e w' => e = .returned (.agg #[.int .u64 ((hi' : Nat) : Int), .int .u64 ((lo' : Nat) : Int)]) ∧ Below w.heap.size w w') (c3 : ∀ w, Calls Try.prog 26 #[.agg #[.int .u64 ((hi' : Nat) : Int), .int .u64 ((lo' : Nat) : Int)]] w fun e w' => e = .returned (.int .i64 (-1)) ∧ Below w.heap.size w w') (w : World) :
    Calls Try.prog 20 #[.agg #[.int .u64 ((wh (x) : Nat) : Int), .int .u64 ((wl (x) : Nat) : Int)], .int .i64 n] w fun e w' => e = .returned (.tuple #[.agg #[.int .u64 ((hi' : Nat) : Int), .int .u64 ((lo' : Nat) : Int)], .bool true]) ∧ Below w.heap.size w w' := by
  have hB_0 := Below.refl w.heap.size w
  have HX := Lib.hid hx; have HN1 := Lib.hid hn1; have HN2 := Lib.hid hn2; have M1 := Lib.hid m1; have M2 := Lib.hid m2; have C1 := Lib.hid c1; have C2 := Lib.hid c2; have C3 := Lib.hid c3; have C4 := Lib.hid c4
  clear hx hn1 hn2 m1 m2 c1 c2 c3 c4
  have hfn : ∀ w : World, (Instr.field 24 (.agg #[.int .u64 ((wh ((n.natAbs : Int)) : Nat) : Int), .int .u64 ((wl ((n.natAbs : Int)) : Nat) : Int)]) 1).run Try.prog w = .ok (.int .u64 ((wl ((n.natAbs : Int)) : Nat) : Int)) w := fun _ => by kernel_rfl
  obtain ⟨w1, hw1, pa_0, hb1, hs1⟩ := new_box w (w.heap.size) rfl [.int .u64 ((wh (x) : Nat) : Int), .int .u64 ((wl (x) : Nat) : Int)] 24
  have hb1' : Below w.heap.size w w1 := hb1.mono (by omega)
  clear hb1
  have hB_1 := hB_0.trans (hb1'.mono hB_0.size)
  clear hb1' hB_0
  obtain ⟨w2, hw2, pr_0, hb2, hs2⟩ := new_box w1 (w.heap.size + 1) hs1 [.int .u64 0, .int .u64 0] 24
  have hb2' : Below w1.heap.size w1 w2 := hb2.mono (by omega)
  clear hb2
  have hB_2 := hB_1.trans (hb2'.mono hB_1.size)
  have pa_1 := pa_0.below hb2'
  clear hb2' hB_1 pa_0
  go_enter Try.func20, Try.ntmps20
  obtain ⟨pae0, pae1, pae2, pae3⟩ := pa_1.open2
  obtain ⟨pre0, pre1, pre2, pre3⟩ := pr_0.open2
  go_wp2_with fail
  refine (size_any x _ HX.out).mono ?_
  rintro e w3 ⟨rfl, hb3⟩
  clear pae0 pae1 pae2 pae3 pre0 pre1 pre2 pre3
  have hB_3 := hB_2.trans (hb3.mono hB_2.size)
  have pa_2 := pa_1.below hb3
  have pr_1 := pr_0.below hb3
  clear hb3 hB_2 pa_1 pr_0
  obtain ⟨pae0, pae1, pae2, pae3⟩ := pa_2.open2
  obtain ⟨pre0, pre1, pre2, pre3⟩ := pr_1.open2
  go_wp2_with fail
  refine (wOf_any n HN1.out HN2.out _).mono ?_
  rintro e w4 ⟨rfl, hb4⟩
  clear pae0 pae1 pae2 pae3 pre0 pre1 pre2 pre3
  have hB_4 := hB_3.trans (hb4.mono hB_3.size)
  have pa_3 := pa_2.below hb4
  have pr_2 := pr_1.below hb4
  clear hb4 hB_3 pa_2 pr_1
  obtain ⟨pae0, pae1, pae2, pae3⟩ := pa_3.open2
  obtain ⟨pre0, pre1, pre2, pre3⟩ := pr_2.open2
  go_wp2_with fail
  refine (size_any n _ (inW_int HN1.out HN2.out)).mono ?_
  rintro e w5 ⟨rfl, hb5⟩
  clear pae0 pae1 pae2 pae3 pre0 pre1 pre2 pre3
  have hB_5 := hB_4.trans (hb5.mono hB_4.size)
  have pa_4 := pa_3.below hb5
  have pr_3 := pr_2.below hb5
  clear hb5 hB_4 pa_3 pr_2
  obtain ⟨pae0, pae1, pae2, pae3⟩ := pa_4.open2
  obtain ⟨pre0, pre1, pre2, pre3⟩ := pr_3.open2
  clear pae0 pae1 pae2 pae3 pre0 pre1 pre2 pre3
  have hl1pa := pa_4.lt
  have hl1pr := pr_3.lt
  have hl1B := hB_5.size
  obtain ⟨w6, hw6, ps_0, hb6, hs6⟩ := new_box w5 (w5.heap.size) rfl [.int .u64 ((wh ((x.natAbs : Int)) : Nat) : Int), .int .u64 ((wl ((x.natAbs : Int)) : Nat) : Int)] 24
  have hb6' : Below w5.heap.size w5 w6 := hb6.mono (by omega)
  clear hb6
  have hB_6 := hB_5.trans (hb6'.mono hB_5.size)
  have pa_5 := pa_4.below hb6'
  have pr_4 := pr_3.below hb6'
  clear hb6' hB_5 pa_4 pr_3
  obtain ⟨pae0, pae1, pae2, pae3⟩ := pa_5.open2
  obtain ⟨pre0, pre1, pre2, pre3⟩ := pr_4.open2
  obtain ⟨pse0, pse1, pse2, pse3⟩ := ps_0.open2
  go_wp2_with fail
  refine (M1.out _).mono ?_
  rintro e w7 ⟨rfl, hb7⟩
  clear pae0 pae1 pae2 pae3 pre0 pre1 pre2 pre3 pse0 pse1 pse2 pse3
  have hB_7 := hB_6.trans (hb7.mono hB_6.size)
  have pa_6 := pa_5.below hb7
  have pr_5 := pr_4.below hb7
  have ps_1 := ps_0.below hb7
  clear hb7 hB_6 pa_5 pr_4 ps_0
  obtain ⟨pae0, pae1, pae2, pae3⟩ := pa_6.open2
  obtain ⟨pre0, pre1, pre2, pre3⟩ := pr_5.open2
  obtain ⟨pse0, pse1, pse2, pse3⟩ := ps_1.open2
  go_wp2_with fail
  refine (M2.out _).mono ?_
  rintro e w8 ⟨rfl, hb8⟩
  clear pae0 pae1 pae2 pae3 pre0 pre1 pre2 pre3 pse0 pse1 pse2 pse3
  have hB_8 := hB_7.trans (hb8.mono hB_7.size)
  have pa_7 := pa_6.below hb8
  have pr_6 := pr_5.below hb8
  have ps_2 := ps_1.below hb8
  clear hb8 hB_7 pa_6 pr_5 ps_1
  obtain ⟨pae0, pae1, pae2, pae3⟩ := pa_7.open2
  obtain ⟨pre0, pre1, pre2, pre3⟩ := pr_6.open2
  obtain ⟨pse0, pse1, pse2, pse3⟩ := ps_2.open2
  go_wp2_with fail
  refine (C1.out _).mono ?_
  rintro e w9 ⟨rfl, hb9⟩
  clear pae0 pae1 pae2 pae3 pre0 pre1 pre2 pre3 pse0 pse1 pse2 pse3
  have hB_9 := hB_8.trans (hb9.mono hB_8.size)
  have pa_8 := pa_7.below hb9
  have pr_7 := pr_6.below hb9
  have ps_3 := ps_2.below hb9
  clear hb9 hB_8 pa_7 pr_6 ps_2
  obtain ⟨pae0, pae1, pae2, pae3⟩ := pa_8.open2
  obtain ⟨pre0, pre1, pre2, pre3⟩ := pr_7.open2
  go_wp2_with fail
  refine (wOf_any n HN1.out HN2.out _).mono ?_
  rintro e w10 ⟨rfl, hb10⟩
  clear pae0 pae1 pae2 pae3 pre0 pre1 pre2 pre3
  have hB_10 := hB_9.trans (hb10.mono hB_9.size)
  have pa_9 := pa_8.below hb10
  have pr_8 := pr_7.below hb10
  have ps_4 := ps_3.below hb10
  clear hb10 hB_9 pa_8 pr_7 ps_3
  obtain ⟨pae0, pae1, pae2, pae3⟩ := pa_9.open2
  obtain ⟨pre0, pre1, pre2, pre3⟩ := pr_8.open2
  go_wp2_with fail
  refine (C2.out _).mono ?_
  rintro e w11 ⟨rfl, hb11⟩
  clear pae0 pae1 pae2 pae3 pre0 pre1 pre2 pre3
  have hB_11 := hB_10.trans (hb11.mono hB_10.size)
  have pa_10 := pa_9.below hb11
  have pr_9 := pr_8.below hb11
  have ps_5 := ps_4.below hb11
  clear hb11 hB_10 pa_9 pr_8 ps_4
  obtain ⟨pae0, pae1, pae2, pae3⟩ := pa_10.open2
  obtain ⟨pre0, pre1, pre2, pre3⟩ := pr_9.open2
  clear pae0 pae1 pae2 pae3 pre0 pre1 pre2 pre3
  have hl2pa := pa_10.lt
  have hl2pr := pr_9.lt
  have hl2ps := ps_5.lt
  have hl2B := hB_11.size
  obtain ⟨w12, hw12, pp_0, hb12, hs12⟩ := new_box w11 (w11.heap.size) rfl [.int .u64 ((hi : Nat) : Int), .int .u64 ((lo : Nat) : Int)] 24
  have hb12' : Below w11.heap.size w11 w12 := hb12.mono (by omega)
  clear hb12
  have hB_12 := hB_11.trans (hb12'.mono hB_11.size)
  have pa_11 := pa_10.below hb12'
  have pr_10 := pr_9.below hb12'
  have ps_6 := ps_5.below hb12'
  clear hb12' hB_11 pa_10 pr_9 ps_5
  obtain ⟨ppe0, ppe1, ppe2, ppe3⟩ := pp_0.open2
  obtain ⟨pre0, pre1, pre2, pre3⟩ := pr_10.open2
  go_wp2_with fail
  refine (C4.out _).mono ?_
  rintro e w13 ⟨rfl, hb13⟩
  clear ppe0 ppe1 ppe2 ppe3 pre0 pre1 pre2 pre3
  have hB_13 := hB_12.trans (hb13.mono hB_12.size)
  have pa_12 := pa_11.below hb13
  have pr_11 := pr_10.below hb13
  have ps_7 := ps_6.below hb13
  have pp_1 := pp_0.below hb13
  clear hb13 hB_12 pa_11 pr_10 ps_6 pp_0
  obtain ⟨ppe0, ppe1, ppe2, ppe3⟩ := pp_1.open2
  obtain ⟨pre0, pre1, pre2, pre3⟩ := pr_11.open2
  clear ppe0 ppe1 ppe2 ppe3 pre0 pre1 pre2 pre3
  obtain ⟨sf1a, sf1b, sf1c, sf1d⟩ := pp_1.open2
  obtain ⟨sg1a, sg1b⟩ := Box.put2 pp_1 (.int .u64 ((hi' : Nat) : Int))
  have hB_14 := below_setAll hB_13 (g := w11.heap.size) (by omega) [.int .u64 ((hi' : Nat) : Int), .int .u64 ((lo' : Nat) : Int)]
  have pa_13 := pa_12.farAll (g' := w11.heap.size) (by omega) [.int .u64 ((hi' : Nat) : Int), .int .u64 ((lo' : Nat) : Int)]
  have pr_12 := pr_11.farAll (g' := w11.heap.size) (by omega) [.int .u64 ((hi' : Nat) : Int), .int .u64 ((lo' : Nat) : Int)]
  have ps_8 := ps_7.farAll (g' := w11.heap.size) (by omega) [.int .u64 ((hi' : Nat) : Int), .int .u64 ((lo' : Nat) : Int)]
  have pp_2 := pp_1.setAll [.int .u64 ((hi' : Nat) : Int), .int .u64 ((lo' : Nat) : Int)] rfl
  simp only [setAll, Nat.zero_add] at hB_14 pa_13 pr_12 ps_8 pp_2
  obtain ⟨ppe0, ppe1, ppe2, ppe3⟩ := pp_2.open2
  obtain ⟨pre0, pre1, pre2, pre3⟩ := pr_12.open2
  go_wp2_with fail
  clear sf1a sf1b sf1c sf1d sg1a sg1b hB_13 pa_12 pr_11 ps_7 pp_1
  generalize (World.setCell (World.setCell w13 ⟨w11.heap.size, 0, none⟩ (.int .u64 ((hi' : Nat) : Int))) ⟨w11.heap.size, 1, none⟩ (.int .u64 ((lo' : Nat) : Int))) = w14 at *
  go_wp2_with fail
  refine (C3.out _).mono ?_
  rintro e w15 ⟨rfl, hb15⟩
  clear ppe0 ppe1 ppe2 ppe3 pre0 pre1 pre2 pre3
  have hB_15 := hB_14.trans (hb15.mono hB_14.size)
  have pa_14 := pa_13.below hb15
  have pr_13 := pr_12.below hb15
  have ps_9 := ps_8.below hb15
  have pp_3 := pp_2.below hb15
  clear hb15 hB_14 pa_13 pr_12 ps_8 pp_2
  obtain ⟨ppe0, ppe1, ppe2, ppe3⟩ := pp_3.open2
  obtain ⟨pre0, pre1, pre2, pre3⟩ := pr_13.open2
  obtain ⟨sf2a, sf2b, sf2c, sf2d⟩ := pr_13.open2
  obtain ⟨sg2a, sg2b⟩ := Box.put2 pr_13 (.int .u64 ((hi' : Nat) : Int))
  go_wp2
  clear ppe0 ppe1 ppe2 ppe3 pre0 pre1 pre2 pre3 sf2a sf2b sf2c sf2d sg2a sg2b
  have hB_16 := below_setAll hB_15 (g := w.heap.size + 1) (by omega) [.int .u64 ((hi' : Nat) : Int), .int .u64 ((lo' : Nat) : Int)]
  have pa_15 := pa_14.farAll (g' := w.heap.size + 1) (by omega) [.int .u64 ((hi' : Nat) : Int), .int .u64 ((lo' : Nat) : Int)]
  have ps_10 := ps_9.farAll (g' := w.heap.size + 1) (by omega) [.int .u64 ((hi' : Nat) : Int), .int .u64 ((lo' : Nat) : Int)]
  have pp_4 := pp_3.farAll (g' := w.heap.size + 1) (by omega) [.int .u64 ((hi' : Nat) : Int), .int .u64 ((lo' : Nat) : Int)]
  have pr_14 := pr_13.setAll [.int .u64 ((hi' : Nat) : Int), .int .u64 ((lo' : Nat) : Int)] rfl
  simp only [setAll, Nat.zero_add] at hB_16 pa_15 pr_14 ps_10 pp_4
  clear hB_15 pa_14 ps_9 pp_3 pr_13
  generalize (World.setCell (World.setCell w15 ⟨w.heap.size + 1, 0, none⟩ (.int .u64 ((hi' : Nat) : Int))) ⟨w.heap.size + 1, 1, none⟩ (.int .u64 ((lo' : Nat) : Int))) = w16 at *
  go_wp2
  obtain ⟨pre0, pre1, pre2, pre3⟩ := pr_14.open2
  exact bodyPost_ret (v := .tuple #[.agg #[.int .u64 ((hi' : Nat) : Int), .int .u64 ((lo' : Nat) : Int)], .bool true]) (by simp [results, Try.results20, go_sem, pre0, pre1]) rfl ⟨rfl, hB_16⟩
set_option maxHeartbeats 8000000 in
theorem wTimes_w_np (x n : Int) (hx : InW x) (hn1 : -9223372036854775808 ≤ n) (hn2 : n < 9223372036854775808) (hi lo mid cy : Nat) (m1 : ∀ w, Calls Try.prog 41 #[.int .u64 ((wl ((x.natAbs : Int)) : Nat) : Int), .int .u64 ((wl ((n.natAbs : Int)) : Nat) : Int)] w fun e w' => e = .returned (.tuple #[.int .u64 ((cy : Nat) : Int), .int .u64 ((lo : Nat) : Int)]) ∧ Below w.heap.size w w') (m2 : ∀ w, Calls Try.prog 41 #[.int .u64 ((wh ((x.natAbs : Int)) : Nat) : Int), .int .u64 ((wl ((n.natAbs : Int)) : Nat) : Int)] w fun e w' => e = .returned (.tuple #[.int .u64 0, .int .u64 ((mid : Nat) : Int)]) ∧ Below w.heap.size w w') (hrun : ∀ w, (callFunc 32 #[.int .u64 ((mid : Nat) : Int), .int .u64 ((cy : Nat) : Int), .int .u64 0]).run Try.prog w = .ok (.value (.tuple #[.int .u64 ((hi : Nat) : Int), .int .u64 0])) w) (sx sn : Int) (c1 : ∀ w, Calls Try.prog 26 #[.agg #[.int .u64 ((wh (x) : Nat) : Int), .int .u64 ((wl (x) : Nat) : Int)]] w fun e w' => e = .returned (.int .i64 (sx)) ∧ Below w.heap.size w w') (c2 : ∀ w, Calls Try.prog 26 #[.agg #[.int .u64 ((wh (n) : Nat) : Int), .int .u64 ((wl (n) : Nat) : Int)]] w fun e w' => e = .returned (.int .i64 (sn)) ∧ Below w.heap.size w w') (hside : IntKind.i64.wrap (sx * sn) = -1) (hi' lo' : Nat) (c4 : ∀ w, Calls Try.prog 34 #[.agg #[.int .u64 ((hi : Nat) : Int), .int .u64 ((lo : Nat) : Int)]] w fun e w' => e = .returned (.agg #[.int .u64 ((hi' : Nat) : Int), .int .u64 ((lo' : Nat) : Int)]) ∧ Below w.heap.size w w') (c3 : ∀ w, Calls Try.prog 26 #[.agg #[.int .u64 ((hi' : Nat) : Int), .int .u64 ((lo' : Nat) : Int)]] w fun e w' => e = .returned (.int .i64 (1)) ∧ Below w.heap.size w w') (w : World) :
    Calls Try.prog 20 #[.agg #[.int .u64 ((wh (x) : Nat) : Int), .int .u64 ((wl (x) : Nat) : Int)], .int .i64 n] w fun e w' => e = .returned (.tuple #[.agg #[.int .u64 0, .int .u64 0], .bool false]) ∧ Below w.heap.size w w' := by
  have hB_0 := Below.refl w.heap.size w
  have HX := Lib.hid hx; have HN1 := Lib.hid hn1; have HN2 := Lib.hid hn2; have M1 := Lib.hid m1; have M2 := Lib.hid m2; have C1 := Lib.hid c1; have C2 := Lib.hid c2; have C3 := Lib.hid c3; have C4 := Lib.hid c4
  clear hx hn1 hn2 m1 m2 c1 c2 c3 c4
  have hfn : ∀ w : World, (Instr.field 24 (.agg #[.int .u64 ((wh ((n.natAbs : Int)) : Nat) : Int), .int .u64 ((wl ((n.natAbs : Int)) : Nat) : Int)]) 1).run Try.prog w = .ok (.int .u64 ((wl ((n.natAbs : Int)) : Nat) : Int)) w := fun _ => by kernel_rfl
  obtain ⟨w1, hw1, pa_0, hb1, hs1⟩ := new_box w (w.heap.size) rfl [.int .u64 ((wh (x) : Nat) : Int), .int .u64 ((wl (x) : Nat) : Int)] 24
  have hb1' : Below w.heap.size w w1 := hb1.mono (by omega)
  clear hb1
  have hB_1 := hB_0.trans (hb1'.mono hB_0.size)
  clear hb1' hB_0
  obtain ⟨w2, hw2, pr_0, hb2, hs2⟩ := new_box w1 (w.heap.size + 1) hs1 [.int .u64 0, .int .u64 0] 24
  have hb2' : Below w1.heap.size w1 w2 := hb2.mono (by omega)
  clear hb2
  have hB_2 := hB_1.trans (hb2'.mono hB_1.size)
  have pa_1 := pa_0.below hb2'
  clear hb2' hB_1 pa_0
  go_enter Try.func20, Try.ntmps20
  obtain ⟨pae0, pae1, pae2, pae3⟩ := pa_1.open2
  obtain ⟨pre0, pre1, pre2, pre3⟩ := pr_0.open2
  go_wp2_with fail
  refine (size_any x _ HX.out).mono ?_
  rintro e w3 ⟨rfl, hb3⟩
  clear pae0 pae1 pae2 pae3 pre0 pre1 pre2 pre3
  have hB_3 := hB_2.trans (hb3.mono hB_2.size)
  have pa_2 := pa_1.below hb3
  have pr_1 := pr_0.below hb3
  clear hb3 hB_2 pa_1 pr_0
  obtain ⟨pae0, pae1, pae2, pae3⟩ := pa_2.open2
  obtain ⟨pre0, pre1, pre2, pre3⟩ := pr_1.open2
  go_wp2_with fail
  refine (wOf_any n HN1.out HN2.out _).mono ?_
  rintro e w4 ⟨rfl, hb4⟩
  clear pae0 pae1 pae2 pae3 pre0 pre1 pre2 pre3
  have hB_4 := hB_3.trans (hb4.mono hB_3.size)
  have pa_3 := pa_2.below hb4
  have pr_2 := pr_1.below hb4
  clear hb4 hB_3 pa_2 pr_1
  obtain ⟨pae0, pae1, pae2, pae3⟩ := pa_3.open2
  obtain ⟨pre0, pre1, pre2, pre3⟩ := pr_2.open2
  go_wp2_with fail
  refine (size_any n _ (inW_int HN1.out HN2.out)).mono ?_
  rintro e w5 ⟨rfl, hb5⟩
  clear pae0 pae1 pae2 pae3 pre0 pre1 pre2 pre3
  have hB_5 := hB_4.trans (hb5.mono hB_4.size)
  have pa_4 := pa_3.below hb5
  have pr_3 := pr_2.below hb5
  clear hb5 hB_4 pa_3 pr_2
  obtain ⟨pae0, pae1, pae2, pae3⟩ := pa_4.open2
  obtain ⟨pre0, pre1, pre2, pre3⟩ := pr_3.open2
  clear pae0 pae1 pae2 pae3 pre0 pre1 pre2 pre3
  have hl1pa := pa_4.lt
  have hl1pr := pr_3.lt
  have hl1B := hB_5.size
  obtain ⟨w6, hw6, ps_0, hb6, hs6⟩ := new_box w5 (w5.heap.size) rfl [.int .u64 ((wh ((x.natAbs : Int)) : Nat) : Int), .int .u64 ((wl ((x.natAbs : Int)) : Nat) : Int)] 24
  have hb6' : Below w5.heap.size w5 w6 := hb6.mono (by omega)
  clear hb6
  have hB_6 := hB_5.trans (hb6'.mono hB_5.size)
  have pa_5 := pa_4.below hb6'
  have pr_4 := pr_3.below hb6'
  clear hb6' hB_5 pa_4 pr_3
  obtain ⟨pae0, pae1, pae2, pae3⟩ := pa_5.open2
  obtain ⟨pre0, pre1, pre2, pre3⟩ := pr_4.open2
  obtain ⟨pse0, pse1, pse2, pse3⟩ := ps_0.open2
  go_wp2_with fail
  refine (M1.out _).mono ?_
  rintro e w7 ⟨rfl, hb7⟩
  clear pae0 pae1 pae2 pae3 pre0 pre1 pre2 pre3 pse0 pse1 pse2 pse3
  have hB_7 := hB_6.trans (hb7.mono hB_6.size)
  have pa_6 := pa_5.below hb7
  have pr_5 := pr_4.below hb7
  have ps_1 := ps_0.below hb7
  clear hb7 hB_6 pa_5 pr_4 ps_0
  obtain ⟨pae0, pae1, pae2, pae3⟩ := pa_6.open2
  obtain ⟨pre0, pre1, pre2, pre3⟩ := pr_5.open2
  obtain ⟨pse0, pse1, pse2, pse3⟩ := ps_1.open2
  go_wp2_with fail
  refine (M2.out _).mono ?_
  rintro e w8 ⟨rfl, hb8⟩
  clear pae0 pae1 pae2 pae3 pre0 pre1 pre2 pre3 pse0 pse1 pse2 pse3
  have hB_8 := hB_7.trans (hb8.mono hB_7.size)
  have pa_7 := pa_6.below hb8
  have pr_6 := pr_5.below hb8
  have ps_2 := ps_1.below hb8
  clear hb8 hB_7 pa_6 pr_5 ps_1
  obtain ⟨pae0, pae1, pae2, pae3⟩ := pa_7.open2
  obtain ⟨pre0, pre1, pre2, pre3⟩ := pr_6.open2
  obtain ⟨pse0, pse1, pse2, pse3⟩ := ps_2.open2
  go_wp2_with fail
  refine (C1.out _).mono ?_
  rintro e w9 ⟨rfl, hb9⟩
  clear pae0 pae1 pae2 pae3 pre0 pre1 pre2 pre3 pse0 pse1 pse2 pse3
  have hB_9 := hB_8.trans (hb9.mono hB_8.size)
  have pa_8 := pa_7.below hb9
  have pr_7 := pr_6.below hb9
  have ps_3 := ps_2.below hb9
  clear hb9 hB_8 pa_7 pr_6 ps_2
  obtain ⟨pae0, pae1, pae2, pae3⟩ := pa_8.open2
  obtain ⟨pre0, pre1, pre2, pre3⟩ := pr_7.open2
  go_wp2_with fail
  refine (wOf_any n HN1.out HN2.out _).mono ?_
  rintro e w10 ⟨rfl, hb10⟩
  clear pae0 pae1 pae2 pae3 pre0 pre1 pre2 pre3
  have hB_10 := hB_9.trans (hb10.mono hB_9.size)
  have pa_9 := pa_8.below hb10
  have pr_8 := pr_7.below hb10
  have ps_4 := ps_3.below hb10
  clear hb10 hB_9 pa_8 pr_7 ps_3
  obtain ⟨pae0, pae1, pae2, pae3⟩ := pa_9.open2
  obtain ⟨pre0, pre1, pre2, pre3⟩ := pr_8.open2
  go_wp2_with fail
  refine (C2.out _).mono ?_
  rintro e w11 ⟨rfl, hb11⟩
  clear pae0 pae1 pae2 pae3 pre0 pre1 pre2 pre3
  have hB_11 := hB_10.trans (hb11.mono hB_10.size)
  have pa_10 := pa_9.below hb11
  have pr_9 := pr_8.below hb11
  have ps_5 := ps_4.below hb11
  clear hb11 hB_10 pa_9 pr_8 ps_4
  obtain ⟨pae0, pae1, pae2, pae3⟩ := pa_10.open2
  obtain ⟨pre0, pre1, pre2, pre3⟩ := pr_9.open2
  clear pae0 pae1 pae2 pae3 pre0 pre1 pre2 pre3
  have hl2pa := pa_10.lt
  have hl2pr := pr_9.lt
  have hl2ps := ps_5.lt
  have hl2B := hB_11.size
  obtain ⟨w12, hw12, pp_0, hb12, hs12⟩ := new_box w11 (w11.heap.size) rfl [.int .u64 ((hi : Nat) : Int), .int .u64 ((lo : Nat) : Int)] 24
  have hb12' : Below w11.heap.size w11 w12 := hb12.mono (by omega)
  clear hb12
  have hB_12 := hB_11.trans (hb12'.mono hB_11.size)
  have pa_11 := pa_10.below hb12'
  have pr_10 := pr_9.below hb12'
  have ps_6 := ps_5.below hb12'
  clear hb12' hB_11 pa_10 pr_9 ps_5
  obtain ⟨ppe0, ppe1, ppe2, ppe3⟩ := pp_0.open2
  obtain ⟨pre0, pre1, pre2, pre3⟩ := pr_10.open2
  go_wp2_with fail
  refine (C4.out _).mono ?_
  rintro e w13 ⟨rfl, hb13⟩
  clear ppe0 ppe1 ppe2 ppe3 pre0 pre1 pre2 pre3
  have hB_13 := hB_12.trans (hb13.mono hB_12.size)
  have pa_12 := pa_11.below hb13
  have pr_11 := pr_10.below hb13
  have ps_7 := ps_6.below hb13
  have pp_1 := pp_0.below hb13
  clear hb13 hB_12 pa_11 pr_10 ps_6 pp_0
  obtain ⟨ppe0, ppe1, ppe2, ppe3⟩ := pp_1.open2
  obtain ⟨pre0, pre1, pre2, pre3⟩ := pr_11.open2
  clear ppe0 ppe1 ppe2 ppe3 pre0 pre1 pre2 pre3
  obtain ⟨sf1a, sf1b, sf1c, sf1d⟩ := pp_1.open2
  obtain ⟨sg1a, sg1b⟩ := Box.put2 pp_1 (.int .u64 ((hi' : Nat) : Int))
  have hB_14 := below_setAll hB_13 (g := w11.heap.size) (by omega) [.int .u64 ((hi' : Nat) : Int), .int .u64 ((lo' : Nat) : Int)]
  have pa_13 := pa_12.farAll (g' := w11.heap.size) (by omega) [.int .u64 ((hi' : Nat) : Int), .int .u64 ((lo' : Nat) : Int)]
  have pr_12 := pr_11.farAll (g' := w11.heap.size) (by omega) [.int .u64 ((hi' : Nat) : Int), .int .u64 ((lo' : Nat) : Int)]
  have ps_8 := ps_7.farAll (g' := w11.heap.size) (by omega) [.int .u64 ((hi' : Nat) : Int), .int .u64 ((lo' : Nat) : Int)]
  have pp_2 := pp_1.setAll [.int .u64 ((hi' : Nat) : Int), .int .u64 ((lo' : Nat) : Int)] rfl
  simp only [setAll, Nat.zero_add] at hB_14 pa_13 pr_12 ps_8 pp_2
  obtain ⟨ppe0, ppe1, ppe2, ppe3⟩ := pp_2.open2
  obtain ⟨pre0, pre1, pre2, pre3⟩ := pr_12.open2
  go_wp2_with fail
  clear sf1a sf1b sf1c sf1d sg1a sg1b hB_13 pa_12 pr_11 ps_7 pp_1
  generalize (World.setCell (World.setCell w13 ⟨w11.heap.size, 0, none⟩ (.int .u64 ((hi' : Nat) : Int))) ⟨w11.heap.size, 1, none⟩ (.int .u64 ((lo' : Nat) : Int))) = w14 at *
  go_wp2_with fail
  refine (C3.out _).mono ?_
  rintro e w15 ⟨rfl, hb15⟩
  clear ppe0 ppe1 ppe2 ppe3 pre0 pre1 pre2 pre3
  have hB_15 := hB_14.trans (hb15.mono hB_14.size)
  have pa_14 := pa_13.below hb15
  have pr_13 := pr_12.below hb15
  have ps_9 := ps_8.below hb15
  have pp_3 := pp_2.below hb15
  clear hb15 hB_14 pa_13 pr_12 ps_8 pp_2
  obtain ⟨ppe0, ppe1, ppe2, ppe3⟩ := pp_3.open2
  obtain ⟨pre0, pre1, pre2, pre3⟩ := pr_13.open2
  obtain ⟨sf2a, sf2b, sf2c, sf2d⟩ := pr_13.open2
  obtain ⟨sg2a, sg2b⟩ := Box.put2 pr_13 (.int .u64 0)
  go_wp2
  clear ppe0 ppe1 ppe2 ppe3 pre0 pre1 pre2 pre3 sf2a sf2b sf2c sf2d sg2a sg2b
  have hB_16 := below_setAll hB_15 (g := w.heap.size + 1) (by omega) [.int .u64 0, .int .u64 0]
  have pa_15 := pa_14.farAll (g' := w.heap.size + 1) (by omega) [.int .u64 0, .int .u64 0]
  have ps_10 := ps_9.farAll (g' := w.heap.size + 1) (by omega) [.int .u64 0, .int .u64 0]
  have pp_4 := pp_3.farAll (g' := w.heap.size + 1) (by omega) [.int .u64 0, .int .u64 0]
  have pr_14 := pr_13.setAll [.int .u64 0, .int .u64 0] rfl
  simp only [setAll, Nat.zero_add] at hB_16 pa_15 pr_14 ps_10 pp_4
  clear hB_15 pa_14 ps_9 pp_3 pr_13
  generalize (World.setCell (World.setCell w15 ⟨w.heap.size + 1, 0, none⟩ (.int .u64 0)) ⟨w.heap.size + 1, 1, none⟩ (.int .u64 0)) = w16 at *
  go_wp2
  obtain ⟨pre0, pre1, pre2, pre3⟩ := pr_14.open2
  exact bodyPost_ret (v := .tuple #[.agg #[.int .u64 0, .int .u64 0], .bool false]) (by simp [results, Try.results20, go_sem, pre0, pre1]) rfl ⟨rfl, hB_16⟩
end Go.Proofs.Ytkigfccbhkcedaa
/- The calls of wide, walked: Times. -/
namespace Go.Proofs.Ytkigfccbhkcedaa
open Go.RowKit Go.MagM
set_option maxHeartbeats 8000000 in
theorem wTimes_w_pp (x n : Int) (hx : InW x) (hn1 : -9223372036854775808 ≤ n) (hn2 : n < 9223372036854775808) (hi lo mid cy : Nat) (m1 : ∀ w, Calls Try.prog 41 #[.int .u64 ((wl ((x.natAbs : Int)) : Nat) : Int), .int .u64 ((wl ((n.natAbs : Int)) : Nat) : Int)] w fun e w' => e = .returned (.tuple #[.int .u64 ((cy : Nat) : Int), .int .u64 ((lo : Nat) : Int)]) ∧ Below w.heap.size w w') (m2 : ∀ w, Calls Try.prog 41 #[.int .u64 ((wh ((x.natAbs : Int)) : Nat) : Int), .int .u64 ((wl ((n.natAbs : Int)) : Nat) : Int)] w fun e w' => e = .returned (.tuple #[.int .u64 0, .int .u64 ((mid : Nat) : Int)]) ∧ Below w.heap.size w w') (hrun : ∀ w, (callFunc 32 #[.int .u64 ((mid : Nat) : Int), .int .u64 ((cy : Nat) : Int), .int .u64 0]).run Try.prog w = .ok (.value (.tuple #[.int .u64 ((hi : Nat) : Int), .int .u64 0])) w) (sx sn : Int) (c1 : ∀ w, Calls Try.prog 26 #[.agg #[.int .u64 ((wh (x) : Nat) : Int), .int .u64 ((wl (x) : Nat) : Int)]] w fun e w' => e = .returned (.int .i64 (sx)) ∧ Below w.heap.size w w') (c2 : ∀ w, Calls Try.prog 26 #[.agg #[.int .u64 ((wh (n) : Nat) : Int), .int .u64 ((wl (n) : Nat) : Int)]] w fun e w' => e = .returned (.int .i64 (sn)) ∧ Below w.heap.size w w') (hside : IntKind.i64.wrap (sx * sn) = 1) (c3 : ∀ w, Calls Try.prog 26 #[.agg #[.int .u64 ((hi : Nat) : Int), .int .u64 ((lo : Nat) : Int)]] w fun e w' => e = .returned (.int .i64 (1)) ∧ Below w.heap.size w w') (w : World) :
    Calls Try.prog 20 #[.agg #[.int .u64 ((wh (x) : Nat) : Int), .int .u64 ((wl (x) : Nat) : Int)], .int .i64 n] w fun e w' => e = .returned (.tuple #[.agg #[.int .u64 ((hi : Nat) : Int), .int .u64 ((lo : Nat) : Int)], .bool true]) ∧ Below w.heap.size w w' := by
  have hB_0 := Below.refl w.heap.size w
  have HX := Lib.hid hx; have HN1 := Lib.hid hn1; have HN2 := Lib.hid hn2; have M1 := Lib.hid m1; have M2 := Lib.hid m2; have C1 := Lib.hid c1; have C2 := Lib.hid c2; have C3 := Lib.hid c3
  clear hx hn1 hn2 m1 m2 c1 c2 c3
  have hfn : ∀ w : World, (Instr.field 24 (.agg #[.int .u64 ((wh ((n.natAbs : Int)) : Nat) : Int), .int .u64 ((wl ((n.natAbs : Int)) : Nat) : Int)]) 1).run Try.prog w = .ok (.int .u64 ((wl ((n.natAbs : Int)) : Nat) : Int)) w := fun _ => by kernel_rfl
  obtain ⟨w1, hw1, pa_0, hb1, hs1⟩ := new_box w (w.heap.size) rfl [.int .u64 ((wh (x) : Nat) : Int), .int .u64 ((wl (x) : Nat) : Int)] 24
  have hb1' : Below w.heap.size w w1 := hb1.mono (by omega)
  clear hb1
  have hB_1 := hB_0.trans (hb1'.mono hB_0.size)
  clear hb1' hB_0
  obtain ⟨w2, hw2, pr_0, hb2, hs2⟩ := new_box w1 (w.heap.size + 1) hs1 [.int .u64 0, .int .u64 0] 24
  have hb2' : Below w1.heap.size w1 w2 := hb2.mono (by omega)
  clear hb2
  have hB_2 := hB_1.trans (hb2'.mono hB_1.size)
  have pa_1 := pa_0.below hb2'
  clear hb2' hB_1 pa_0
  go_enter Try.func20, Try.ntmps20
  obtain ⟨pae0, pae1, pae2, pae3⟩ := pa_1.open2
  obtain ⟨pre0, pre1, pre2, pre3⟩ := pr_0.open2
  go_wp2_with fail
  refine (size_any x _ HX.out).mono ?_
  rintro e w3 ⟨rfl, hb3⟩
  clear pae0 pae1 pae2 pae3 pre0 pre1 pre2 pre3
  have hB_3 := hB_2.trans (hb3.mono hB_2.size)
  have pa_2 := pa_1.below hb3
  have pr_1 := pr_0.below hb3
  clear hb3 hB_2 pa_1 pr_0
  obtain ⟨pae0, pae1, pae2, pae3⟩ := pa_2.open2
  obtain ⟨pre0, pre1, pre2, pre3⟩ := pr_1.open2
  go_wp2_with fail
  refine (wOf_any n HN1.out HN2.out _).mono ?_
  rintro e w4 ⟨rfl, hb4⟩
  clear pae0 pae1 pae2 pae3 pre0 pre1 pre2 pre3
  have hB_4 := hB_3.trans (hb4.mono hB_3.size)
  have pa_3 := pa_2.below hb4
  have pr_2 := pr_1.below hb4
  clear hb4 hB_3 pa_2 pr_1
  obtain ⟨pae0, pae1, pae2, pae3⟩ := pa_3.open2
  obtain ⟨pre0, pre1, pre2, pre3⟩ := pr_2.open2
  go_wp2_with fail
  refine (size_any n _ (inW_int HN1.out HN2.out)).mono ?_
  rintro e w5 ⟨rfl, hb5⟩
  clear pae0 pae1 pae2 pae3 pre0 pre1 pre2 pre3
  have hB_5 := hB_4.trans (hb5.mono hB_4.size)
  have pa_4 := pa_3.below hb5
  have pr_3 := pr_2.below hb5
  clear hb5 hB_4 pa_3 pr_2
  obtain ⟨pae0, pae1, pae2, pae3⟩ := pa_4.open2
  obtain ⟨pre0, pre1, pre2, pre3⟩ := pr_3.open2
  clear pae0 pae1 pae2 pae3 pre0 pre1 pre2 pre3
  have hl1pa := pa_4.lt
  have hl1pr := pr_3.lt
  have hl1B := hB_5.size
  obtain ⟨w6, hw6, ps_0, hb6, hs6⟩ := new_box w5 (w5.heap.size) rfl [.int .u64 ((wh ((x.natAbs : Int)) : Nat) : Int), .int .u64 ((wl ((x.natAbs : Int)) : Nat) : Int)] 24
  have hb6' : Below w5.heap.size w5 w6 := hb6.mono (by omega)
  clear hb6
  have hB_6 := hB_5.trans (hb6'.mono hB_5.size)
  have pa_5 := pa_4.below hb6'
  have pr_4 := pr_3.below hb6'
  clear hb6' hB_5 pa_4 pr_3
  obtain ⟨pae0, pae1, pae2, pae3⟩ := pa_5.open2
  obtain ⟨pre0, pre1, pre2, pre3⟩ := pr_4.open2
  obtain ⟨pse0, pse1, pse2, pse3⟩ := ps_0.open2
  go_wp2_with fail
  refine (M1.out _).mono ?_
  rintro e w7 ⟨rfl, hb7⟩
  clear pae0 pae1 pae2 pae3 pre0 pre1 pre2 pre3 pse0 pse1 pse2 pse3
  have hB_7 := hB_6.trans (hb7.mono hB_6.size)
  have pa_6 := pa_5.below hb7
  have pr_5 := pr_4.below hb7
  have ps_1 := ps_0.below hb7
  clear hb7 hB_6 pa_5 pr_4 ps_0
  obtain ⟨pae0, pae1, pae2, pae3⟩ := pa_6.open2
  obtain ⟨pre0, pre1, pre2, pre3⟩ := pr_5.open2
  obtain ⟨pse0, pse1, pse2, pse3⟩ := ps_1.open2
  go_wp2_with fail
  refine (M2.out _).mono ?_
  rintro e w8 ⟨rfl, hb8⟩
  clear pae0 pae1 pae2 pae3 pre0 pre1 pre2 pre3 pse0 pse1 pse2 pse3
  have hB_8 := hB_7.trans (hb8.mono hB_7.size)
  have pa_7 := pa_6.below hb8
  have pr_6 := pr_5.below hb8
  have ps_2 := ps_1.below hb8
  clear hb8 hB_7 pa_6 pr_5 ps_1
  obtain ⟨pae0, pae1, pae2, pae3⟩ := pa_7.open2
  obtain ⟨pre0, pre1, pre2, pre3⟩ := pr_6.open2
  obtain ⟨pse0, pse1, pse2, pse3⟩ := ps_2.open2
  go_wp2_with fail
  refine (C1.out _).mono ?_
  rintro e w9 ⟨rfl, hb9⟩
  clear pae0 pae1 pae2 pae3 pre0 pre1 pre2 pre3 pse0 pse1 pse2 pse3
  have hB_9 := hB_8.trans (hb9.mono hB_8.size)
  have pa_8 := pa_7.below hb9
  have pr_7 := pr_6.below hb9
  have ps_3 := ps_2.below hb9
  clear hb9 hB_8 pa_7 pr_6 ps_2
  obtain ⟨pae0, pae1, pae2, pae3⟩ := pa_8.open2
  obtain ⟨pre0, pre1, pre2, pre3⟩ := pr_7.open2
  go_wp2_with fail
  refine (wOf_any n HN1.out HN2.out _).mono ?_
  rintro e w10 ⟨rfl, hb10⟩
  clear pae0 pae1 pae2 pae3 pre0 pre1 pre2 pre3
  have hB_10 := hB_9.trans (hb10.mono hB_9.size)
  have pa_9 := pa_8.below hb10
  have pr_8 := pr_7.below hb10
  have ps_4 := ps_3.below hb10
  clear hb10 hB_9 pa_8 pr_7 ps_3
  obtain ⟨pae0, pae1, pae2, pae3⟩ := pa_9.open2
  obtain ⟨pre0, pre1, pre2, pre3⟩ := pr_8.open2
  go_wp2_with fail
  refine (C2.out _).mono ?_
  rintro e w11 ⟨rfl, hb11⟩
  clear pae0 pae1 pae2 pae3 pre0 pre1 pre2 pre3
  have hB_11 := hB_10.trans (hb11.mono hB_10.size)
  have pa_10 := pa_9.below hb11
  have pr_9 := pr_8.below hb11
  have ps_5 := ps_4.below hb11
  clear hb11 hB_10 pa_9 pr_8 ps_4
  obtain ⟨pae0, pae1, pae2, pae3⟩ := pa_10.open2
  obtain ⟨pre0, pre1, pre2, pre3⟩ := pr_9.open2
  clear pae0 pae1 pae2 pae3 pre0 pre1 pre2 pre3
  have hl2pa := pa_10.lt
  have hl2pr := pr_9.lt
  have hl2ps := ps_5.lt
  have hl2B := hB_11.size
  obtain ⟨w12, hw12, pp_0, hb12, hs12⟩ := new_box w11 (w11.heap.size) rfl [.int .u64 ((hi : Nat) : Int), .int .u64 ((lo : Nat) : Int)] 24
  have hb12' : Below w11.heap.size w11 w12 := hb12.mono (by omega)
  clear hb12
  have hB_12 := hB_11.trans (hb12'.mono hB_11.size)
  have pa_11 := pa_10.below hb12'
  have pr_10 := pr_9.below hb12'
  have ps_6 := ps_5.below hb12'
  clear hb12' hB_11 pa_10 pr_9 ps_5
  obtain ⟨ppe0, ppe1, ppe2, ppe3⟩ := pp_0.open2
  obtain ⟨pre0, pre1, pre2, pre3⟩ := pr_10.open2
  go_wp2_with fail
  refine (C3.out _).mono ?_
  rintro e w13 ⟨rfl, hb13⟩
  clear ppe0 ppe1 ppe2 ppe3 pre0 pre1 pre2 pre3
  have hB_13 := hB_12.trans (hb13.mono hB_12.size)
  have pa_12 := pa_11.below hb13
  have pr_11 := pr_10.below hb13
  have ps_7 := ps_6.below hb13
  have pp_1 := pp_0.below hb13
  clear hb13 hB_12 pa_11 pr_10 ps_6 pp_0
  obtain ⟨ppe0, ppe1, ppe2, ppe3⟩ := pp_1.open2
  obtain ⟨pre0, pre1, pre2, pre3⟩ := pr_11.open2
  obtain ⟨sf1a, sf1b, sf1c, sf1d⟩ := pr_11.open2
  obtain ⟨sg1a, sg1b⟩ := Box.put2 pr_11 (.int .u64 ((hi : Nat) : Int))
  go_wp2
  clear ppe0 ppe1 ppe2 ppe3 pre0 pre1 pre2 pre3 sf1a sf1b sf1c sf1d sg1a sg1b
  have hB_14 := below_setAll hB_13 (g := w.heap.size + 1) (by omega) [.int .u64 ((hi : Nat) : Int), .int .u64 ((lo : Nat) : Int)]
  have pa_13 := pa_12.farAll (g' := w.heap.size + 1) (by omega) [.int .u64 ((hi : Nat) : Int), .int .u64 ((lo : Nat) : Int)]
  have ps_8 := ps_7.farAll (g' := w.heap.size + 1) (by omega) [.int .u64 ((hi : Nat) : Int), .int .u64 ((lo : Nat) : Int)]
  have pp_2 := pp_1.farAll (g' := w.heap.size + 1) (by omega) [.int .u64 ((hi : Nat) : Int), .int .u64 ((lo : Nat) : Int)]
  have pr_12 := pr_11.setAll [.int .u64 ((hi : Nat) : Int), .int .u64 ((lo : Nat) : Int)] rfl
  simp only [setAll, Nat.zero_add] at hB_14 pa_13 pr_12 ps_8 pp_2
  clear hB_13 pa_12 ps_7 pp_1 pr_11
  generalize (World.setCell (World.setCell w13 ⟨w.heap.size + 1, 0, none⟩ (.int .u64 ((hi : Nat) : Int))) ⟨w.heap.size + 1, 1, none⟩ (.int .u64 ((lo : Nat) : Int))) = w14 at *
  go_wp2
  obtain ⟨pre0, pre1, pre2, pre3⟩ := pr_12.open2
  exact bodyPost_ret (v := .tuple #[.agg #[.int .u64 ((hi : Nat) : Int), .int .u64 ((lo : Nat) : Int)], .bool true]) (by simp [results, Try.results20, go_sem, pre0, pre1]) rfl ⟨rfl, hB_14⟩
set_option maxHeartbeats 8000000 in
theorem wTimes_w_pn (x n : Int) (hx : InW x) (hn1 : -9223372036854775808 ≤ n) (hn2 : n < 9223372036854775808) (hi lo mid cy : Nat) (m1 : ∀ w, Calls Try.prog 41 #[.int .u64 ((wl ((x.natAbs : Int)) : Nat) : Int), .int .u64 ((wl ((n.natAbs : Int)) : Nat) : Int)] w fun e w' => e = .returned (.tuple #[.int .u64 ((cy : Nat) : Int), .int .u64 ((lo : Nat) : Int)]) ∧ Below w.heap.size w w') (m2 : ∀ w, Calls Try.prog 41 #[.int .u64 ((wh ((x.natAbs : Int)) : Nat) : Int), .int .u64 ((wl ((n.natAbs : Int)) : Nat) : Int)] w fun e w' => e = .returned (.tuple #[.int .u64 0, .int .u64 ((mid : Nat) : Int)]) ∧ Below w.heap.size w w') (hrun : ∀ w, (callFunc 32 #[.int .u64 ((mid : Nat) : Int), .int .u64 ((cy : Nat) : Int), .int .u64 0]).run Try.prog w = .ok (.value (.tuple #[.int .u64 ((hi : Nat) : Int), .int .u64 0])) w) (sx sn : Int) (c1 : ∀ w, Calls Try.prog 26 #[.agg #[.int .u64 ((wh (x) : Nat) : Int), .int .u64 ((wl (x) : Nat) : Int)]] w fun e w' => e = .returned (.int .i64 (sx)) ∧ Below w.heap.size w w') (c2 : ∀ w, Calls Try.prog 26 #[.agg #[.int .u64 ((wh (n) : Nat) : Int), .int .u64 ((wl (n) : Nat) : Int)]] w fun e w' => e = .returned (.int .i64 (sn)) ∧ Below w.heap.size w w') (hside : IntKind.i64.wrap (sx * sn) = 1) (c3 : ∀ w, Calls Try.prog 26 #[.agg #[.int .u64 ((hi : Nat) : Int), .int .u64 ((lo : Nat) : Int)]] w fun e w' => e = .returned (.int .i64 (-1)) ∧ Below w.heap.size w w') (w : World) :
    Calls Try.prog 20 #[.agg #[.int .u64 ((wh (x) : Nat) : Int), .int .u64 ((wl (x) : Nat) : Int)], .int .i64 n] w fun e w' => e = .returned (.tuple #[.agg #[.int .u64 0, .int .u64 0], .bool false]) ∧ Below w.heap.size w w' := by
  have hB_0 := Below.refl w.heap.size w
  have HX := Lib.hid hx; have HN1 := Lib.hid hn1; have HN2 := Lib.hid hn2; have M1 := Lib.hid m1; have M2 := Lib.hid m2; have C1 := Lib.hid c1; have C2 := Lib.hid c2; have C3 := Lib.hid c3
  clear hx hn1 hn2 m1 m2 c1 c2 c3
  have hfn : ∀ w : World, (Instr.field 24 (.agg #[.int .u64 ((wh ((n.natAbs : Int)) : Nat) : Int), .int .u64 ((wl ((n.natAbs : Int)) : Nat) : Int)]) 1).run Try.prog w = .ok (.int .u64 ((wl ((n.natAbs : Int)) : Nat) : Int)) w := fun _ => by kernel_rfl
  obtain ⟨w1, hw1, pa_0, hb1, hs1⟩ := new_box w (w.heap.size) rfl [.int .u64 ((wh (x) : Nat) : Int), .int .u64 ((wl (x) : Nat) : Int)] 24
  have hb1' : Below w.heap.size w w1 := hb1.mono (by omega)
  clear hb1
  have hB_1 := hB_0.trans (hb1'.mono hB_0.size)
  clear hb1' hB_0
  obtain ⟨w2, hw2, pr_0, hb2, hs2⟩ := new_box w1 (w.heap.size + 1) hs1 [.int .u64 0, .int .u64 0] 24
  have hb2' : Below w1.heap.size w1 w2 := hb2.mono (by omega)
  clear hb2
  have hB_2 := hB_1.trans (hb2'.mono hB_1.size)
  have pa_1 := pa_0.below hb2'
  clear hb2' hB_1 pa_0
  go_enter Try.func20, Try.ntmps20
  obtain ⟨pae0, pae1, pae2, pae3⟩ := pa_1.open2
  obtain ⟨pre0, pre1, pre2, pre3⟩ := pr_0.open2
  go_wp2_with fail
  refine (size_any x _ HX.out).mono ?_
  rintro e w3 ⟨rfl, hb3⟩
  clear pae0 pae1 pae2 pae3 pre0 pre1 pre2 pre3
  have hB_3 := hB_2.trans (hb3.mono hB_2.size)
  have pa_2 := pa_1.below hb3
  have pr_1 := pr_0.below hb3
  clear hb3 hB_2 pa_1 pr_0
  obtain ⟨pae0, pae1, pae2, pae3⟩ := pa_2.open2
  obtain ⟨pre0, pre1, pre2, pre3⟩ := pr_1.open2
  go_wp2_with fail
  refine (wOf_any n HN1.out HN2.out _).mono ?_
  rintro e w4 ⟨rfl, hb4⟩
  clear pae0 pae1 pae2 pae3 pre0 pre1 pre2 pre3
  have hB_4 := hB_3.trans (hb4.mono hB_3.size)
  have pa_3 := pa_2.below hb4
  have pr_2 := pr_1.below hb4
  clear hb4 hB_3 pa_2 pr_1
  obtain ⟨pae0, pae1, pae2, pae3⟩ := pa_3.open2
  obtain ⟨pre0, pre1, pre2, pre3⟩ := pr_2.open2
  go_wp2_with fail
  refine (size_any n _ (inW_int HN1.out HN2.out)).mono ?_
  rintro e w5 ⟨rfl, hb5⟩
  clear pae0 pae1 pae2 pae3 pre0 pre1 pre2 pre3
  have hB_5 := hB_4.trans (hb5.mono hB_4.size)
  have pa_4 := pa_3.below hb5
  have pr_3 := pr_2.below hb5
  clear hb5 hB_4 pa_3 pr_2
  obtain ⟨pae0, pae1, pae2, pae3⟩ := pa_4.open2
  obtain ⟨pre0, pre1, pre2, pre3⟩ := pr_3.open2
  clear pae0 pae1 pae2 pae3 pre0 pre1 pre2 pre3
  have hl1pa := pa_4.lt
  have hl1pr := pr_3.lt
  have hl1B := hB_5.size
  obtain ⟨w6, hw6, ps_0, hb6, hs6⟩ := new_box w5 (w5.heap.size) rfl [.int .u64 ((wh ((x.natAbs : Int)) : Nat) : Int), .int .u64 ((wl ((x.natAbs : Int)) : Nat) : Int)] 24
  have hb6' : Below w5.heap.size w5 w6 := hb6.mono (by omega)
  clear hb6
  have hB_6 := hB_5.trans (hb6'.mono hB_5.size)
  have pa_5 := pa_4.below hb6'
  have pr_4 := pr_3.below hb6'
  clear hb6' hB_5 pa_4 pr_3
  obtain ⟨pae0, pae1, pae2, pae3⟩ := pa_5.open2
  obtain ⟨pre0, pre1, pre2, pre3⟩ := pr_4.open2
  obtain ⟨pse0, pse1, pse2, pse3⟩ := ps_0.open2
  go_wp2_with fail
  refine (M1.out _).mono ?_
  rintro e w7 ⟨rfl, hb7⟩
  clear pae0 pae1 pae2 pae3 pre0 pre1 pre2 pre3 pse0 pse1 pse2 pse3
  have hB_7 := hB_6.trans (hb7.mono hB_6.size)
  have pa_6 := pa_5.below hb7
  have pr_5 := pr_4.below hb7
  have ps_1 := ps_0.below hb7
  clear hb7 hB_6 pa_5 pr_4 ps_0
  obtain ⟨pae0, pae1, pae2, pae3⟩ := pa_6.open2
  obtain ⟨pre0, pre1, pre2, pre3⟩ := pr_5.open2
  obtain ⟨pse0, pse1, pse2, pse3⟩ := ps_1.open2
  go_wp2_with fail
  refine (M2.out _).mono ?_
  rintro e w8 ⟨rfl, hb8⟩
  clear pae0 pae1 pae2 pae3 pre0 pre1 pre2 pre3 pse0 pse1 pse2 pse3
  have hB_8 := hB_7.trans (hb8.mono hB_7.size)
  have pa_7 := pa_6.below hb8
  have pr_6 := pr_5.below hb8
  have ps_2 := ps_1.below hb8
  clear hb8 hB_7 pa_6 pr_5 ps_1
  obtain ⟨pae0, pae1, pae2, pae3⟩ := pa_7.open2
  obtain ⟨pre0, pre1, pre2, pre3⟩ := pr_6.open2
  obtain ⟨pse0, pse1, pse2, pse3⟩ := ps_2.open2
  go_wp2_with fail
  refine (C1.out _).mono ?_
  rintro e w9 ⟨rfl, hb9⟩
  clear pae0 pae1 pae2 pae3 pre0 pre1 pre2 pre3 pse0 pse1 pse2 pse3
  have hB_9 := hB_8.trans (hb9.mono hB_8.size)
  have pa_8 := pa_7.below hb9
  have pr_7 := pr_6.below hb9
  have ps_3 := ps_2.below hb9
  clear hb9 hB_8 pa_7 pr_6 ps_2
  obtain ⟨pae0, pae1, pae2, pae3⟩ := pa_8.open2
  obtain ⟨pre0, pre1, pre2, pre3⟩ := pr_7.open2
  go_wp2_with fail
  refine (wOf_any n HN1.out HN2.out _).mono ?_
  rintro e w10 ⟨rfl, hb10⟩
  clear pae0 pae1 pae2 pae3 pre0 pre1 pre2 pre3
  have hB_10 := hB_9.trans (hb10.mono hB_9.size)
  have pa_9 := pa_8.below hb10
  have pr_8 := pr_7.below hb10
  have ps_4 := ps_3.below hb10
  clear hb10 hB_9 pa_8 pr_7 ps_3
  obtain ⟨pae0, pae1, pae2, pae3⟩ := pa_9.open2
  obtain ⟨pre0, pre1, pre2, pre3⟩ := pr_8.open2
  go_wp2_with fail
  refine (C2.out _).mono ?_
  rintro e w11 ⟨rfl, hb11⟩
  clear pae0 pae1 pae2 pae3 pre0 pre1 pre2 pre3
  have hB_11 := hB_10.trans (hb11.mono hB_10.size)
  have pa_10 := pa_9.below hb11
  have pr_9 := pr_8.below hb11
  have ps_5 := ps_4.below hb11
  clear hb11 hB_10 pa_9 pr_8 ps_4
  obtain ⟨pae0, pae1, pae2, pae3⟩ := pa_10.open2
  obtain ⟨pre0, pre1, pre2, pre3⟩ := pr_9.open2
  clear pae0 pae1 pae2 pae3 pre0 pre1 pre2 pre3
  have hl2pa := pa_10.lt
  have hl2pr := pr_9.lt
  have hl2ps := ps_5.lt
  have hl2B := hB_11.size
  obtain ⟨w12, hw12, pp_0, hb12, hs12⟩ := new_box w11 (w11.heap.size) rfl [.int .u64 ((hi : Nat) : Int), .int .u64 ((lo : Nat) : Int)] 24
  have hb12' : Below w11.heap.size w11 w12 := hb12.mono (by omega)
  clear hb12
  have hB_12 := hB_11.trans (hb12'.mono hB_11.size)
  have pa_11 := pa_10.below hb12'
  have pr_10 := pr_9.below hb12'
  have ps_6 := ps_5.below hb12'
  clear hb12' hB_11 pa_10 pr_9 ps_5
  obtain ⟨ppe0, ppe1, ppe2, ppe3⟩ := pp_0.open2
  obtain ⟨pre0, pre1, pre2, pre3⟩ := pr_10.open2
  go_wp2_with fail
  refine (C3.out _).mono ?_
  rintro e w13 ⟨rfl, hb13⟩
  clear ppe0 ppe1 ppe2 ppe3 pre0 pre1 pre2 pre3
  have hB_13 := hB_12.trans (hb13.mono hB_12.size)
  have pa_12 := pa_11.below hb13
  have pr_11 := pr_10.below hb13
  have ps_7 := ps_6.below hb13
  have pp_1 := pp_0.below hb13
  clear hb13 hB_12 pa_11 pr_10 ps_6 pp_0
  obtain ⟨ppe0, ppe1, ppe2, ppe3⟩ := pp_1.open2
  obtain ⟨pre0, pre1, pre2, pre3⟩ := pr_11.open2
  obtain ⟨sf1a, sf1b, sf1c, sf1d⟩ := pr_11.open2
  obtain ⟨sg1a, sg1b⟩ := Box.put2 pr_11 (.int .u64 0)
  go_wp2
  clear ppe0 ppe1 ppe2 ppe3 pre0 pre1 pre2 pre3 sf1a sf1b sf1c sf1d sg1a sg1b
  have hB_14 := below_setAll hB_13 (g := w.heap.size + 1) (by omega) [.int .u64 0, .int .u64 0]
  have pa_13 := pa_12.farAll (g' := w.heap.size + 1) (by omega) [.int .u64 0, .int .u64 0]
  have ps_8 := ps_7.farAll (g' := w.heap.size + 1) (by omega) [.int .u64 0, .int .u64 0]
  have pp_2 := pp_1.farAll (g' := w.heap.size + 1) (by omega) [.int .u64 0, .int .u64 0]
  have pr_12 := pr_11.setAll [.int .u64 0, .int .u64 0] rfl
  simp only [setAll, Nat.zero_add] at hB_14 pa_13 pr_12 ps_8 pp_2
  clear hB_13 pa_12 ps_7 pp_1 pr_11
  generalize (World.setCell (World.setCell w13 ⟨w.heap.size + 1, 0, none⟩ (.int .u64 0)) ⟨w.heap.size + 1, 1, none⟩ (.int .u64 0)) = w14 at *
  go_wp2
  obtain ⟨pre0, pre1, pre2, pre3⟩ := pr_12.open2
  exact bodyPost_ret (v := .tuple #[.agg #[.int .u64 0, .int .u64 0], .bool false]) (by simp [results, Try.results20, go_sem, pre0, pre1]) rfl ⟨rfl, hB_14⟩
end Go.Proofs.Ytkigfccbhkcedaa
/- The calls of wide, walked: Times. -/
namespace Go.Proofs.Ytkigfccbhkcedaa
open Go.RowKit Go.MagM
set_option maxHeartbeats 8000000 in
theorem wTimes_w_zz (x n : Int) (hx : InW x) (hn1 : -9223372036854775808 ≤ n) (hn2 : n < 9223372036854775808) (hi lo mid cy : Nat) (m1 : ∀ w, Calls Try.prog 41 #[.int .u64 ((wl ((x.natAbs : Int)) : Nat) : Int), .int .u64 ((wl ((n.natAbs : Int)) : Nat) : Int)] w fun e w' => e = .returned (.tuple #[.int .u64 ((cy : Nat) : Int), .int .u64 ((lo : Nat) : Int)]) ∧ Below w.heap.size w w') (m2 : ∀ w, Calls Try.prog 41 #[.int .u64 ((wh ((x.natAbs : Int)) : Nat) : Int), .int .u64 ((wl ((n.natAbs : Int)) : Nat) : Int)] w fun e w' => e = .returned (.tuple #[.int .u64 0, .int .u64 ((mid : Nat) : Int)]) ∧ Below w.heap.size w w') (hrun : ∀ w, (callFunc 32 #[.int .u64 ((mid : Nat) : Int), .int .u64 ((cy : Nat) : Int), .int .u64 0]).run Try.prog w = .ok (.value (.tuple #[.int .u64 ((hi : Nat) : Int), .int .u64 0])) w) (sx sn : Int) (c1 : ∀ w, Calls Try.prog 26 #[.agg #[.int .u64 ((wh (x) : Nat) : Int), .int .u64 ((wl (x) : Nat) : Int)]] w fun e w' => e = .returned (.int .i64 (sx)) ∧ Below w.heap.size w w') (c2 : ∀ w, Calls Try.prog 26 #[.agg #[.int .u64 ((wh (n) : Nat) : Int), .int .u64 ((wl (n) : Nat) : Int)]] w fun e w' => e = .returned (.int .i64 (sn)) ∧ Below w.heap.size w w') (hside : IntKind.i64.wrap (sx * sn) = 0) (c3 : ∀ w, Calls Try.prog 26 #[.agg #[.int .u64 ((hi : Nat) : Int), .int .u64 ((lo : Nat) : Int)]] w fun e w' => e = .returned (.int .i64 (0)) ∧ Below w.heap.size w w') (w : World) :
    Calls Try.prog 20 #[.agg #[.int .u64 ((wh (x) : Nat) : Int), .int .u64 ((wl (x) : Nat) : Int)], .int .i64 n] w fun e w' => e = .returned (.tuple #[.agg #[.int .u64 ((hi : Nat) : Int), .int .u64 ((lo : Nat) : Int)], .bool true]) ∧ Below w.heap.size w w' := by
  have hB_0 := Below.refl w.heap.size w
  have HX := Lib.hid hx; have HN1 := Lib.hid hn1; have HN2 := Lib.hid hn2; have M1 := Lib.hid m1; have M2 := Lib.hid m2; have C1 := Lib.hid c1; have C2 := Lib.hid c2; have C3 := Lib.hid c3
  clear hx hn1 hn2 m1 m2 c1 c2 c3
  have hfn : ∀ w : World, (Instr.field 24 (.agg #[.int .u64 ((wh ((n.natAbs : Int)) : Nat) : Int), .int .u64 ((wl ((n.natAbs : Int)) : Nat) : Int)]) 1).run Try.prog w = .ok (.int .u64 ((wl ((n.natAbs : Int)) : Nat) : Int)) w := fun _ => by kernel_rfl
  obtain ⟨w1, hw1, pa_0, hb1, hs1⟩ := new_box w (w.heap.size) rfl [.int .u64 ((wh (x) : Nat) : Int), .int .u64 ((wl (x) : Nat) : Int)] 24
  have hb1' : Below w.heap.size w w1 := hb1.mono (by omega)
  clear hb1
  have hB_1 := hB_0.trans (hb1'.mono hB_0.size)
  clear hb1' hB_0
  obtain ⟨w2, hw2, pr_0, hb2, hs2⟩ := new_box w1 (w.heap.size + 1) hs1 [.int .u64 0, .int .u64 0] 24
  have hb2' : Below w1.heap.size w1 w2 := hb2.mono (by omega)
  clear hb2
  have hB_2 := hB_1.trans (hb2'.mono hB_1.size)
  have pa_1 := pa_0.below hb2'
  clear hb2' hB_1 pa_0
  go_enter Try.func20, Try.ntmps20
  obtain ⟨pae0, pae1, pae2, pae3⟩ := pa_1.open2
  obtain ⟨pre0, pre1, pre2, pre3⟩ := pr_0.open2
  go_wp2_with fail
  refine (size_any x _ HX.out).mono ?_
  rintro e w3 ⟨rfl, hb3⟩
  clear pae0 pae1 pae2 pae3 pre0 pre1 pre2 pre3
  have hB_3 := hB_2.trans (hb3.mono hB_2.size)
  have pa_2 := pa_1.below hb3
  have pr_1 := pr_0.below hb3
  clear hb3 hB_2 pa_1 pr_0
  obtain ⟨pae0, pae1, pae2, pae3⟩ := pa_2.open2
  obtain ⟨pre0, pre1, pre2, pre3⟩ := pr_1.open2
  go_wp2_with fail
  refine (wOf_any n HN1.out HN2.out _).mono ?_
  rintro e w4 ⟨rfl, hb4⟩
  clear pae0 pae1 pae2 pae3 pre0 pre1 pre2 pre3
  have hB_4 := hB_3.trans (hb4.mono hB_3.size)
  have pa_3 := pa_2.below hb4
  have pr_2 := pr_1.below hb4
  clear hb4 hB_3 pa_2 pr_1
  obtain ⟨pae0, pae1, pae2, pae3⟩ := pa_3.open2
  obtain ⟨pre0, pre1, pre2, pre3⟩ := pr_2.open2
  go_wp2_with fail
  refine (size_any n _ (inW_int HN1.out HN2.out)).mono ?_
  rintro e w5 ⟨rfl, hb5⟩
  clear pae0 pae1 pae2 pae3 pre0 pre1 pre2 pre3
  have hB_5 := hB_4.trans (hb5.mono hB_4.size)
  have pa_4 := pa_3.below hb5
  have pr_3 := pr_2.below hb5
  clear hb5 hB_4 pa_3 pr_2
  obtain ⟨pae0, pae1, pae2, pae3⟩ := pa_4.open2
  obtain ⟨pre0, pre1, pre2, pre3⟩ := pr_3.open2
  clear pae0 pae1 pae2 pae3 pre0 pre1 pre2 pre3
  have hl1pa := pa_4.lt
  have hl1pr := pr_3.lt
  have hl1B := hB_5.size
  obtain ⟨w6, hw6, ps_0, hb6, hs6⟩ := new_box w5 (w5.heap.size) rfl [.int .u64 ((wh ((x.natAbs : Int)) : Nat) : Int), .int .u64 ((wl ((x.natAbs : Int)) : Nat) : Int)] 24
  have hb6' : Below w5.heap.size w5 w6 := hb6.mono (by omega)
  clear hb6
  have hB_6 := hB_5.trans (hb6'.mono hB_5.size)
  have pa_5 := pa_4.below hb6'
  have pr_4 := pr_3.below hb6'
  clear hb6' hB_5 pa_4 pr_3
  obtain ⟨pae0, pae1, pae2, pae3⟩ := pa_5.open2
  obtain ⟨pre0, pre1, pre2, pre3⟩ := pr_4.open2
  obtain ⟨pse0, pse1, pse2, pse3⟩ := ps_0.open2
  go_wp2_with fail
  refine (M1.out _).mono ?_
  rintro e w7 ⟨rfl, hb7⟩
  clear pae0 pae1 pae2 pae3 pre0 pre1 pre2 pre3 pse0 pse1 pse2 pse3
  have hB_7 := hB_6.trans (hb7.mono hB_6.size)
  have pa_6 := pa_5.below hb7
  have pr_5 := pr_4.below hb7
  have ps_1 := ps_0.below hb7
  clear hb7 hB_6 pa_5 pr_4 ps_0
  obtain ⟨pae0, pae1, pae2, pae3⟩ := pa_6.open2
  obtain ⟨pre0, pre1, pre2, pre3⟩ := pr_5.open2
  obtain ⟨pse0, pse1, pse2, pse3⟩ := ps_1.open2
  go_wp2_with fail
  refine (M2.out _).mono ?_
  rintro e w8 ⟨rfl, hb8⟩
  clear pae0 pae1 pae2 pae3 pre0 pre1 pre2 pre3 pse0 pse1 pse2 pse3
  have hB_8 := hB_7.trans (hb8.mono hB_7.size)
  have pa_7 := pa_6.below hb8
  have pr_6 := pr_5.below hb8
  have ps_2 := ps_1.below hb8
  clear hb8 hB_7 pa_6 pr_5 ps_1
  obtain ⟨pae0, pae1, pae2, pae3⟩ := pa_7.open2
  obtain ⟨pre0, pre1, pre2, pre3⟩ := pr_6.open2
  obtain ⟨pse0, pse1, pse2, pse3⟩ := ps_2.open2
  go_wp2_with fail
  refine (C1.out _).mono ?_
  rintro e w9 ⟨rfl, hb9⟩
  clear pae0 pae1 pae2 pae3 pre0 pre1 pre2 pre3 pse0 pse1 pse2 pse3
  have hB_9 := hB_8.trans (hb9.mono hB_8.size)
  have pa_8 := pa_7.below hb9
  have pr_7 := pr_6.below hb9
  have ps_3 := ps_2.below hb9
  clear hb9 hB_8 pa_7 pr_6 ps_2
  obtain ⟨pae0, pae1, pae2, pae3⟩ := pa_8.open2
  obtain ⟨pre0, pre1, pre2, pre3⟩ := pr_7.open2
  go_wp2_with fail
  refine (wOf_any n HN1.out HN2.out _).mono ?_
  rintro e w10 ⟨rfl, hb10⟩
  clear pae0 pae1 pae2 pae3 pre0 pre1 pre2 pre3
  have hB_10 := hB_9.trans (hb10.mono hB_9.size)
  have pa_9 := pa_8.below hb10
  have pr_8 := pr_7.below hb10
  have ps_4 := ps_3.below hb10
  clear hb10 hB_9 pa_8 pr_7 ps_3
  obtain ⟨pae0, pae1, pae2, pae3⟩ := pa_9.open2
  obtain ⟨pre0, pre1, pre2, pre3⟩ := pr_8.open2
  go_wp2_with fail
  refine (C2.out _).mono ?_
  rintro e w11 ⟨rfl, hb11⟩
  clear pae0 pae1 pae2 pae3 pre0 pre1 pre2 pre3
  have hB_11 := hB_10.trans (hb11.mono hB_10.size)
  have pa_10 := pa_9.below hb11
  have pr_9 := pr_8.below hb11
  have ps_5 := ps_4.below hb11
  clear hb11 hB_10 pa_9 pr_8 ps_4
  obtain ⟨pae0, pae1, pae2, pae3⟩ := pa_10.open2
  obtain ⟨pre0, pre1, pre2, pre3⟩ := pr_9.open2
  clear pae0 pae1 pae2 pae3 pre0 pre1 pre2 pre3
  have hl2pa := pa_10.lt
  have hl2pr := pr_9.lt
  have hl2ps := ps_5.lt
  have hl2B := hB_11.size
  obtain ⟨w12, hw12, pp_0, hb12, hs12⟩ := new_box w11 (w11.heap.size) rfl [.int .u64 ((hi : Nat) : Int), .int .u64 ((lo : Nat) : Int)] 24
  have hb12' : Below w11.heap.size w11 w12 := hb12.mono (by omega)
  clear hb12
  have hB_12 := hB_11.trans (hb12'.mono hB_11.size)
  have pa_11 := pa_10.below hb12'
  have pr_10 := pr_9.below hb12'
  have ps_6 := ps_5.below hb12'
  clear hb12' hB_11 pa_10 pr_9 ps_5
  obtain ⟨ppe0, ppe1, ppe2, ppe3⟩ := pp_0.open2
  obtain ⟨pre0, pre1, pre2, pre3⟩ := pr_10.open2
  go_wp2_with fail
  refine (C3.out _).mono ?_
  rintro e w13 ⟨rfl, hb13⟩
  clear ppe0 ppe1 ppe2 ppe3 pre0 pre1 pre2 pre3
  have hB_13 := hB_12.trans (hb13.mono hB_12.size)
  have pa_12 := pa_11.below hb13
  have pr_11 := pr_10.below hb13
  have ps_7 := ps_6.below hb13
  have pp_1 := pp_0.below hb13
  clear hb13 hB_12 pa_11 pr_10 ps_6 pp_0
  obtain ⟨ppe0, ppe1, ppe2, ppe3⟩ := pp_1.open2
  obtain ⟨pre0, pre1, pre2, pre3⟩ := pr_11.open2
  obtain ⟨sf1a, sf1b, sf1c, sf1d⟩ := pr_11.open2
  obtain ⟨sg1a, sg1b⟩ := Box.put2 pr_11 (.int .u64 ((hi : Nat) : Int))
  go_wp2
  clear ppe0 ppe1 ppe2 ppe3 pre0 pre1 pre2 pre3 sf1a sf1b sf1c sf1d sg1a sg1b
  have hB_14 := below_setAll hB_13 (g := w.heap.size + 1) (by omega) [.int .u64 ((hi : Nat) : Int), .int .u64 ((lo : Nat) : Int)]
  have pa_13 := pa_12.farAll (g' := w.heap.size + 1) (by omega) [.int .u64 ((hi : Nat) : Int), .int .u64 ((lo : Nat) : Int)]
  have ps_8 := ps_7.farAll (g' := w.heap.size + 1) (by omega) [.int .u64 ((hi : Nat) : Int), .int .u64 ((lo : Nat) : Int)]
  have pp_2 := pp_1.farAll (g' := w.heap.size + 1) (by omega) [.int .u64 ((hi : Nat) : Int), .int .u64 ((lo : Nat) : Int)]
  have pr_12 := pr_11.setAll [.int .u64 ((hi : Nat) : Int), .int .u64 ((lo : Nat) : Int)] rfl
  simp only [setAll, Nat.zero_add] at hB_14 pa_13 pr_12 ps_8 pp_2
  clear hB_13 pa_12 ps_7 pp_1 pr_11
  generalize (World.setCell (World.setCell w13 ⟨w.heap.size + 1, 0, none⟩ (.int .u64 ((hi : Nat) : Int))) ⟨w.heap.size + 1, 1, none⟩ (.int .u64 ((lo : Nat) : Int))) = w14 at *
  go_wp2
  obtain ⟨pre0, pre1, pre2, pre3⟩ := pr_12.open2
  exact bodyPost_ret (v := .tuple #[.agg #[.int .u64 ((hi : Nat) : Int), .int .u64 ((lo : Nat) : Int)], .bool true]) (by simp [results, Try.results20, go_sem, pre0, pre1]) rfl ⟨rfl, hB_14⟩
end Go.Proofs.Ytkigfccbhkcedaa
/- The calls of wide: Times. -/
namespace Go.Proofs.Ytkigfccbhkcedaa
open Go.RowKit Go.MagM
theorem sg_is {z : Int} {r : Int} (h : (wrapW z).sign = r) : ∀ w, Calls Try.prog 26 #[.agg #[.int .u64 ((wh (z) : Nat) : Int), .int .u64 ((wl (z) : Nat) : Int)]] w fun e w' => e = .returned (.int .i64 r) ∧ Below w.heap.size w w' := by
  intro w; subst h; exact wSign_all z w
theorem side_wrap (x y : Int) : IntKind.i64.wrap (x.sign * y.sign) = x.sign * y.sign := by
  rcases Int.lt_trichotomy x 0 with h | h | h <;> rcases Int.lt_trichotomy y 0 with k | k | k <;>
    simp [h, k, Int.sign_eq_neg_one_of_neg, Int.sign_eq_one_of_pos, IntKind.wrap_i64]
theorem add64_zero (mid cy hi more : Nat) (h1 : (mid + cy + 0) % B = hi) (h2 : (mid + cy + 0) / B = more) :
    ∀ w, (callFunc 32 #[.int .u64 ((mid : Nat) : Int), .int .u64 ((cy : Nat) : Int), .int .u64 0]).run Try.prog w = .ok (.value (.tuple #[.int .u64 ((hi : Nat) : Int), .int .u64 ((more : Nat) : Int)])) w := by
  intro w; subst h1; subst h2; exact add64_run mid cy 0 (by omega) w
theorem wTimes_any (x n : Int) (hx : InW x) (hn1 : -9223372036854775808 ≤ n) (hn2 : n < 9223372036854775808) (w : World) :
    Calls Try.prog 20 #[.agg #[.int .u64 ((wh (x) : Nat) : Int), .int .u64 ((wl (x) : Nat) : Int)], .int .i64 n] w fun e w' => AnsWB w w' e (fitW (x * n)) (decide (InW (x * n))) := by
  obtain ⟨en, ln⟩ := w_abs_int hn1 hn2
  have hsz := w_size hx
  have hhB := wh_lt (x.natAbs : Int); have hlB := wl_lt (x.natAbs : Int)
  have hP : ((x * n).natAbs : Int) = (x.natAbs : Int) * (n.natAbs : Int) := by rw [Int.natAbs_mul, Int.natCast_mul]
  have mul_n : ∀ a : Nat, ∀ c : Nat, c < B → wl (n.natAbs : Int) < B → ∃ H L : Nat, H < B ∧ L < B ∧ H * B + L = c * wl (n.natAbs : Int) ∧ (∀ w, Calls Try.prog 41 #[.int .u64 ((c : Nat) : Int), .int .u64 ((wl (n.natAbs : Int) : Nat) : Int)] w fun e w' => e = .returned (.tuple #[.int .u64 ((H : Nat) : Int), .int .u64 ((L : Nat) : Int)]) ∧ Below w.heap.size w w') := by
    intro _ c hc hn
    refine ⟨_, _, Nat.div_lt_of_lt_mul (Nat.mul_lt_mul'' hc hn), mod_lt _, ?_, fun w => mul64_is c _ _ _ w hc hn rfl rfl⟩
    have := Nat.div_add_mod (c * wl (n.natAbs : Int)) B; rw [Nat.mul_comm] at this; exact this
  obtain ⟨cy, lo, hcy, hlo, e1, m1⟩ := mul_n 0 _ hlB (wl_lt _)
  obtain ⟨ov, mid, hov, hmid, e2, m2⟩ := mul_n 0 _ hhB (wl_lt _)
  clear mul_n
  rw [en] at e1 e2
  have hr0 := add64_zero mid cy _ _ rfl rfl
  have hmore : (mid + cy + 0) / B ≤ 1 := by simp only [B_eq] at *; omega
  have hhi : (mid + cy + 0) % B < B := mod_lt _
  have hsum : (mid + cy + 0) / B * B + (mid + cy + 0) % B = mid + cy := by have := Nat.div_add_mod (mid + cy + 0) B; rw [Nat.mul_comm] at this; omega
  generalize (mid + cy + 0) / B = more at *
  generalize (mid + cy + 0) % B = hi at *
  have hv : ((x * n).natAbs : Int) = (ov : Int) * 340282366920938463463374607431768211456 + (more : Int) * 340282366920938463463374607431768211456 + (hi : Int) * 18446744073709551616 + (lo : Int) := by
    rw [hP, ← hsz, Int.add_mul, Int.mul_right_comm]
    have a1 : ((wl (x.natAbs : Int) : Nat) : Int) * (n.natAbs : Int) = ((cy * B + lo : Nat) : Int) := by rw [e1, Int.natCast_mul]
    have a2 : ((wh (x.natAbs : Int) : Nat) : Int) * (n.natAbs : Int) = ((ov * B + mid : Nat) : Int) := by rw [e2, Int.natCast_mul]
    rw [a1, a2]
    simp only [B_eq] at *
    omega
  have hzero : ∀ m : Nat, m = 0 → (Value.int IntKind.u64 ((m : Nat) : Int)) = .int .u64 0 := by rintro _ rfl; rfl
  by_cases h0 : ov = 0
  · rw [hzero ov h0] at m2
    subst h0
    by_cases h1 : more = 0
    · rw [hzero more h1] at hr0
      subst h1
      obtain ⟨P, hPe⟩ : ∃ P : Int, P = ((x * n).natAbs : Int) := ⟨_, rfl⟩
      rw [← hPe] at hv
      obtain ⟨q1, q2⟩ := w_of (z := P) hhi hlo 0 (by omega)
      have cs1 := sg_is (z := x) (r := x.sign) (by rw [wrapW_self hx])
      have cs2 := sg_is (z := n) (r := n.sign) (by rw [wrapW_self (inW_int hn1 hn2)])
      have hsd : IntKind.i64.wrap (x.sign * n.sign) = (x * n).sign := by rw [Int.sign_mul]; exact side_wrap x n
      have hPlt : P < 340282366920938463463374607431768211456 := by simp only [B_eq] at *; omega
      rcases Int.lt_trichotomy (x * n) 0 with c | c | c
      · have hPn : x * n = -P := by omega
        rw [Int.sign_eq_neg_one_of_neg c] at hsd
        have hac := fun w => across_any P w
        rw [← q1, ← q2] at hac
        by_cases hin : InW (x * n)
        · have c3 := sg_is (z := -P) (r := -1) (by rw [← hPn, wrapW_self hin]; exact Int.sign_eq_neg_one_of_neg c)
          refine (wTimes_w_nn x n hx hn1 hn2 hi lo mid cy m1 m2 hr0 _ _ cs1 cs2 hsd _ _ hac c3 w).mono fun e w' h => ?_
          rw [← hPn] at h
          exact answb_yes hin h
        · have c3 := sg_is (z := -P) (r := 1) (by apply Int.sign_eq_one_of_pos; unfold wrapW; unfold InW at hin; omega)
          exact (wTimes_w_np x n hx hn1 hn2 hi lo mid cy m1 m2 hr0 _ _ cs1 cs2 hsd _ _ hac c3 w).mono fun e w' h => answb_no hin h
      · have hin : InW (x * n) := by rw [c]; unfold InW; omega
        have hP0 : P = 0 := by omega
        have c3 := sg_is (z := P) (r := 0) (by rw [hP0]; rfl)
        rw [c, Int.sign_zero] at hsd
        rw [← q1, ← q2] at c3
        refine (wTimes_w_zz x n hx hn1 hn2 hi lo mid cy m1 m2 hr0 _ _ cs1 cs2 hsd c3 w).mono fun e w' h => ?_
        rw [q1, q2, hP0, ← c] at h
        exact answb_yes hin h
      · have hPp : x * n = P := by omega
        rw [Int.sign_eq_one_of_pos c] at hsd
        by_cases hin : InW (x * n)
        · have c3 := sg_is (z := P) (r := 1) (by rw [← hPp, wrapW_self hin]; exact Int.sign_eq_one_of_pos c)
          rw [← q1, ← q2] at c3
          refine (wTimes_w_pp x n hx hn1 hn2 hi lo mid cy m1 m2 hr0 _ _ cs1 cs2 hsd c3 w).mono fun e w' h => ?_
          rw [q1, q2, ← hPp] at h
          exact answb_yes hin h
        · have c3 := sg_is (z := P) (r := -1) (by apply Int.sign_eq_neg_one_of_neg; unfold wrapW; unfold InW at hin; omega)
          rw [← q1, ← q2] at c3
          exact (wTimes_w_pn x n hx hn1 hn2 hi lo mid cy m1 m2 hr0 _ _ cs1 cs2 hsd c3 w).mono fun e w' h => answb_no hin h
    · have hin : ¬ InW (x * n) := by unfold InW; omega
      exact (wTimes_w_more x n hx hn1 hn2 hi lo mid cy more m1 m2 hr0 h1 w).mono fun e w' h => answb_no hin h
  · have hin : ¬ InW (x * n) := by unfold InW; omega
    exact (wTimes_w_over x n hx hn1 hn2 hi lo mid cy ov more m1 m2 hr0 h0 w).mono fun e w' h => answb_no hin h
end Go.Proofs.Ytkigfccbhkcedaa
/- The document's small determinant. -/
namespace Go.Proofs.Ytkigfccbhkcedaa
open Go.RowKit Go.MagM
theorem wCmp_is (x y c : Int) (hx : InW x) (hy : InW y) (h : icmp x y = c) (w : World) : Calls Try.prog 25 #[.agg #[.int .u64 ((wh (x) : Nat) : Int), .int .u64 ((wl (x) : Nat) : Int)], .agg #[.int .u64 ((wh (y) : Nat) : Int), .int .u64 ((wl (y) : Nat) : Int)]] w fun e w' => e = .returned (.int .i64 c) ∧ Below w.heap.size w w' := by
  subst h; exact wCmp_any x y hx hy w
set_option maxHeartbeats 4000000 in
theorem wfit_any (w : World) :
    Calls Try.prog 8 #[] w fun e w' => e = .returned (.bool true) ∧ Below w.heap.size w w' := by
  have hB_0 := Below.refl w.heap.size w
  have d1 : ∀ w, Calls Try.prog 28 #[.int .i64 1, .int .i64 2, .int .i64 3, .int .i64 4] w fun e w' => AnsW w w' e (-2) := fun w => wDet_any 1 2 3 4 (by omega) (by omega) (by omega) (by omega) (by omega) (by omega) (by omega) (by omega) w
  have D1 := Lib.hid d1; clear d1
  go_enter Try.func8, Try.ntmps8
  go_wp2_with fail
  refine (D1.out _).mono ?_
  rintro e w1 ⟨rfl, hb1⟩
  have hB_1 := hB_0.trans (hb1.mono hB_0.size)
  clear hb1 hB_0
  have hl1B := hB_1.size
  obtain ⟨w2, hw2, pd_0, hb2, hs2⟩ := new_box w1 (w1.heap.size) rfl [.int .u64 ((wh (-2) : Nat) : Int), .int .u64 ((wl (-2) : Nat) : Int)] 24
  have hb2' : Below w1.heap.size w1 w2 := hb2.mono (by omega)
  clear hb2
  have hB_2 := hB_1.trans (hb2'.mono hB_1.size)
  clear hb2' hB_1
  obtain ⟨pde0, pde1, pde2, pde3⟩ := pd_0.open2
  go_wp2
  clear pde0 pde1 pde2 pde3
  have hB_3 := hB_2.drew'
  have pd_1 := pd_0.drew
  clear hB_2 pd_0
  go_region_held3 (fun w' => w'.cell? ⟨w1.heap.size, 0, none⟩ = some (.int .u64 ((wh (-2) : Nat) : Int)) ∧ w'.cell? ⟨w1.heap.size, 1, none⟩ = some (.int .u64 ((wl (-2) : Nat) : Int)))
    (first | with_reducible exact ⟨pd_1.c0, pd_1.c1⟩ | with_reducible exact ⟨pd_2.c0, pd_2.c1⟩ | with_reducible exact ⟨pd_3.c0, pd_3.c1⟩ | with_reducible exact ⟨pd_4.c0, pd_4.c1⟩ | with_reducible exact ⟨pd_5.c0, pd_5.c1⟩ | with_reducible exact ⟨pd_6.c0, pd_6.c1⟩ | with_reducible exact ⟨pd_7.c0, pd_7.c1⟩ | fail)
    (first
      | (go_at_call 26; (with_reducible refine (sg_is (z := -2) (r := -1) rfl _).mono ?_); rintro e w3 ⟨rfl, hb3⟩; have hB_4 := hB_3.trans (hb3.mono hB_3.size); have pd_2 := pd_1.below hb3; clear hb3 hB_3 pd_1)
      | (go_at_call 9; (with_reducible refine (wNum_any (-2) (by unfold InW; omega) _).mono ?_); rintro e w4 ⟨m1, o1, n1, c1, rfl, f1_0, hb4⟩; have hB_5 := hB_4.trans (hb4.mono hB_4.size); have pd_3 := pd_2.below hb4; clear hb4 hB_4 pd_2)
      | (go_at_call 23; (with_reducible refine (nOf_any (-2) (by omega) (by omega) _).mono ?_); rintro e w5 ⟨m2, o2, n2, c2, rfl, f2_0, hb5⟩; have hB_6 := hB_5.trans (hb5.mono hB_5.size); have pd_4 := pd_3.below hb5; have f1_1 := f1_0.below hb5; clear hb5 hB_5 pd_3 f1_0)
      | (go_at_call 21; (with_reducible refine (wnCmp_is _ _ 2 1 (-2) (-2) 0 _ (by omega) (by omega) f1_1.num f2_0.num rfl).mono ?_); rintro e w6 ⟨rfl, hb6⟩; have hB_7 := hB_6.trans (hb6.mono hB_6.size); have pd_5 := pd_4.below hb6; have f1_2 := f1_1.below hb6; have f2_1 := f2_0.below hb6; clear hb6 hB_6 pd_4 f1_1 f2_0)
      | (go_at_call 24; (with_reducible refine (wOf_any (-2) (by omega) (by omega) _).mono ?_); rintro e w7 ⟨rfl, hb7⟩; have hB_8 := hB_7.trans (hb7.mono hB_7.size); have pd_6 := pd_5.below hb7; have f1_3 := f1_2.below hb7; have f2_2 := f2_1.below hb7; clear hb7 hB_7 pd_5 f1_2 f2_1)
      | (go_at_call 25; (with_reducible refine (wCmp_is (-2) (-2) 0 (by unfold InW; omega) (by unfold InW; omega) rfl _).mono ?_); rintro e w8 ⟨rfl, hb8⟩; have hB_9 := hB_8.trans (hb8.mono hB_8.size); have pd_7 := pd_6.below hb8; have f1_4 := f1_3.below hb8; have f2_3 := f2_2.below hb8; clear hb8 hB_8 pd_6 f1_3 f2_2))
  go_wp2
  go_ret
  exact ⟨rfl, hB_9⟩
end Go.Proofs.Ytkigfccbhkcedaa
/- The statement WideDets, walked. -/
namespace Go.Proofs.Ytkigfccbhkcedaa
open Go.RowKit Go.MagM
theorem _root_.Go.MagM.Box.open4 {w : World} {g : Nat} {u0 u1 u2 u3 : Value} (h : Box w g [u0, u1, u2, u3]) : w.cell? ⟨g, 0, none⟩ = some u0 ∧ w.cell? ⟨g, 1, none⟩ = some u1 ∧ w.cell? ⟨g, 2, none⟩ = some u2 ∧ w.cell? ⟨g, 3, none⟩ = some u3 ∧ w.frozen? ⟨g, 0, none⟩ = false ∧ w.frozen? ⟨g, 1, none⟩ = false ∧ w.frozen? ⟨g, 2, none⟩ = false ∧ w.frozen? ⟨g, 3, none⟩ = false :=
  ⟨h.c 0 _ rfl, h.c 1 _ rfl, h.c 2 _ rfl, h.c 3 _ rfl, h.f 0 _ rfl, h.f 1 _ rfl, h.f 2 _ rfl, h.f 3 _ rfl⟩
/-- A number that a determinant takes. -/
def DetOk (n : Int) : Prop := -4611686018427387904 ≤ n ∧ n ≤ 4611686018427387904
theorem inW_det {a b c d : Int} (ha : DetOk a) (hb : DetOk b) (hc : DetOk c) (hd : DetOk d) : InW (a * d - b * c) := by
  unfold DetOk at *
  have h := Nat.mul_le_mul (show a.natAbs ≤ 4611686018427387904 by omega) (show d.natAbs ≤ 4611686018427387904 by omega)
  have k := Nat.mul_le_mul (show b.natAbs ≤ 4611686018427387904 by omega) (show c.natAbs ≤ 4611686018427387904 by omega)
  rw [← Int.natAbs_mul] at h k
  unfold InW; omega
theorem wDet_ok {a b c d : Int} (ha : DetOk a) (hb : DetOk b) (hc : DetOk c) (hd : DetOk d) (w : World) : Calls Try.prog 28 #[.int .i64 a, .int .i64 b, .int .i64 c, .int .i64 d] w fun e w' => AnsW w w' e (a * d - b * c) := by
  unfold DetOk at *
  exact wDet_any a b c d (by omega) (by omega) (by omega) (by omega) (by omega) (by omega) (by omega) (by omega) w
theorem nOf_ok {a : Int} (ha : DetOk a) (w : World) : Calls Try.prog 23 #[.int .i64 a] w fun e w' => AnsNum w w' e 1 a := by
  unfold DetOk at *
  exact nOf_any a (by omega) (by omega) w
theorem det_turned (a b c d : Int) : icmp (-(c * b - d * a)) (a * d - b * c) = 0 := by
  rw [show -(c * b - d * a) = a * d - b * c by rw [Int.mul_comm c b, Int.mul_comm d a]; omega]; exact icmp_self _
set_option maxRecDepth 100000 in
set_option maxHeartbeats 16000000 in
theorem WideDets_walk (a b c d : Int) (w : World) :
    Calls Try.prog 6 #[.agg #[.int .i64 a, .int .i64 b, .int .i64 c, .int .i64 d]] w fun e w' => e = .returned (.bool true) ∧ Below w.heap.size w w' := by
  have hB_0 := Below.refl w.heap.size w
  obtain ⟨w1, hw1, pl_0, hb1, hs1⟩ := new_box w (w.heap.size) rfl [.int .i64 a, .int .i64 b, .int .i64 c, .int .i64 d] 48
  have hb1' : Below w.heap.size w w1 := hb1.mono (by omega)
  clear hb1
  have hB_1 := hB_0.trans (hb1'.mono hB_0.size)
  clear hb1' hB_0
  go_enter Try.func6, Try.ntmps6
  obtain ⟨ple0, ple1, ple2, ple3, ple4, ple5, ple6, ple7⟩ := pl_0.open4
  go_wp2_with fail
  refine (wfit_any _).mono ?_
  rintro e w2 ⟨rfl, hb2⟩
  clear ple0 ple1 ple2 ple3 ple4 ple5 ple6 ple7
  have hB_2 := hB_1.trans (hb2.mono hB_1.size)
  have pl_1 := pl_0.below hb2
  clear hb2 hB_1 pl_0
  obtain ⟨ple0, ple1, ple2, ple3, ple4, ple5, ple6, ple7⟩ := pl_1.open4
  go_wp2
  clear ple0 ple1 ple2 ple3 ple4 ple5 ple6 ple7
  go_loopw [14] (fun iv wr => ∃ j : Nat, j ≤ 4 ∧ iv = .int .i64 j ∧ Below w.heap.size w wr ∧ Box wr w.heap.size [.int .i64 a, .int .i64 b, .int .i64 c, .int .i64 d] ∧ (1 ≤ j → DetOk a) ∧ (2 ≤ j → DetOk b) ∧ (3 ≤ j → DetOk c) ∧ (4 ≤ j → DetOk d)) (fun iv _ => 4 - (intOf iv).toNat)
  case atStart => exact ⟨0, by omega, rfl, hB_2, pl_1, by omega, by omega, by omega, by omega⟩
  case round =>
    obtain ⟨j, hj, rfl, hB_0, pl_0, ha, hb, hc, hd⟩ := hrel
    obtain rfl | rfl | rfl | rfl | rfl : j = 0 ∨ j = 1 ∨ j = 2 ∨ j = 3 ∨ j = 4 := by omega
    · have HA := Lib.hid ha; have HB := Lib.hid hb; have HC := Lib.hid hc; have HD := Lib.hid hd; clear ha hb hc hd hj
      have hix : ∀ w : World, (Instr.index 48 (.agg #[.int .i64 a, .int .i64 b, .int .i64 c, .int .i64 d]) (.int .i64 0)).run Try.prog w = .ok (.int .i64 a) w := fun _ => by kernel_rfl
      by_cases h1 : a < -4611686018427387904
      · have h1d : decide (a < -4611686018427387904) = true := decide_eq_true h1
        obtain ⟨ple0, ple1, ple2, ple3, ple4, ple5, ple6, ple7⟩ := pl_0.open4
        go_wp2
        go_ret
        exact ⟨rfl, hB_0⟩
      have h1d : decide (a < -4611686018427387904) = false := decide_eq_false h1
      by_cases h2 : 4611686018427387904 < a
      · have h2d : decide (4611686018427387904 < a) = true := decide_eq_true h2
        obtain ⟨ple0, ple1, ple2, ple3, ple4, ple5, ple6, ple7⟩ := pl_0.open4
        go_wp2
        go_ret
        exact ⟨rfl, hB_0⟩
      have h2d : decide (4611686018427387904 < a) = false := decide_eq_false h2
      have HH1 := Lib.hid h1; have HH2 := Lib.hid h2; clear h1 h2
      obtain ⟨ple0, ple1, ple2, ple3, ple4, ple5, ple6, ple7⟩ := pl_0.open4
      go_wp2
      clear ple0 ple1 ple2 ple3 ple4 ple5 ple6 ple7
      exact ⟨⟨1, by omega, by go_num, hB_0, pl_0, fun _ => ⟨Int.not_lt.1 HH1.out, Int.not_lt.1 HH2.out⟩, fun h => absurd h (by omega), fun h => absurd h (by omega), fun h => absurd h (by omega)⟩, by simp [intOf]⟩
    · have HA := Lib.hid ha; have HB := Lib.hid hb; have HC := Lib.hid hc; have HD := Lib.hid hd; clear ha hb hc hd hj
      have hix : ∀ w : World, (Instr.index 48 (.agg #[.int .i64 a, .int .i64 b, .int .i64 c, .int .i64 d]) (.int .i64 1)).run Try.prog w = .ok (.int .i64 b) w := fun _ => by kernel_rfl
      by_cases h1 : b < -4611686018427387904
      · have h1d : decide (b < -4611686018427387904) = true := decide_eq_true h1
        obtain ⟨ple0, ple1, ple2, ple3, ple4, ple5, ple6, ple7⟩ := pl_0.open4
        go_wp2
        go_ret
        exact ⟨rfl, hB_0⟩
      have h1d : decide (b < -4611686018427387904) = false := decide_eq_false h1
      by_cases h2 : 4611686018427387904 < b
      · have h2d : decide (4611686018427387904 < b) = true := decide_eq_true h2
        obtain ⟨ple0, ple1, ple2, ple3, ple4, ple5, ple6, ple7⟩ := pl_0.open4
        go_wp2
        go_ret
        exact ⟨rfl, hB_0⟩
      have h2d : decide (4611686018427387904 < b) = false := decide_eq_false h2
      have HH1 := Lib.hid h1; have HH2 := Lib.hid h2; clear h1 h2
      obtain ⟨ple0, ple1, ple2, ple3, ple4, ple5, ple6, ple7⟩ := pl_0.open4
      go_wp2
      clear ple0 ple1 ple2 ple3 ple4 ple5 ple6 ple7
      exact ⟨⟨2, by omega, by go_num, hB_0, pl_0, fun _ => HA.out (by omega), fun _ => ⟨Int.not_lt.1 HH1.out, Int.not_lt.1 HH2.out⟩, fun h => absurd h (by omega), fun h => absurd h (by omega)⟩, by simp [intOf]⟩
    · have HA := Lib.hid ha; have HB := Lib.hid hb; have HC := Lib.hid hc; have HD := Lib.hid hd; clear ha hb hc hd hj
      have hix : ∀ w : World, (Instr.index 48 (.agg #[.int .i64 a, .int .i64 b, .int .i64 c, .int .i64 d]) (.int .i64 2)).run Try.prog w = .ok (.int .i64 c) w := fun _ => by kernel_rfl
      by_cases h1 : c < -4611686018427387904
      · have h1d : decide (c < -4611686018427387904) = true := decide_eq_true h1
        obtain ⟨ple0, ple1, ple2, ple3, ple4, ple5, ple6, ple7⟩ := pl_0.open4
        go_wp2
        go_ret
        exact ⟨rfl, hB_0⟩
      have h1d : decide (c < -4611686018427387904) = false := decide_eq_false h1
      by_cases h2 : 4611686018427387904 < c
      · have h2d : decide (4611686018427387904 < c) = true := decide_eq_true h2
        obtain ⟨ple0, ple1, ple2, ple3, ple4, ple5, ple6, ple7⟩ := pl_0.open4
        go_wp2
        go_ret
        exact ⟨rfl, hB_0⟩
      have h2d : decide (4611686018427387904 < c) = false := decide_eq_false h2
      have HH1 := Lib.hid h1; have HH2 := Lib.hid h2; clear h1 h2
      obtain ⟨ple0, ple1, ple2, ple3, ple4, ple5, ple6, ple7⟩ := pl_0.open4
      go_wp2
      clear ple0 ple1 ple2 ple3 ple4 ple5 ple6 ple7
      exact ⟨⟨3, by omega, by go_num, hB_0, pl_0, fun _ => HA.out (by omega), fun _ => HB.out (by omega), fun _ => ⟨Int.not_lt.1 HH1.out, Int.not_lt.1 HH2.out⟩, fun h => absurd h (by omega)⟩, by simp [intOf]⟩
    · have HA := Lib.hid ha; have HB := Lib.hid hb; have HC := Lib.hid hc; have HD := Lib.hid hd; clear ha hb hc hd hj
      have hix : ∀ w : World, (Instr.index 48 (.agg #[.int .i64 a, .int .i64 b, .int .i64 c, .int .i64 d]) (.int .i64 3)).run Try.prog w = .ok (.int .i64 d) w := fun _ => by kernel_rfl
      by_cases h1 : d < -4611686018427387904
      · have h1d : decide (d < -4611686018427387904) = true := decide_eq_true h1
        obtain ⟨ple0, ple1, ple2, ple3, ple4, ple5, ple6, ple7⟩ := pl_0.open4
        go_wp2
        go_ret
        exact ⟨rfl, hB_0⟩
      have h1d : decide (d < -4611686018427387904) = false := decide_eq_false h1
      by_cases h2 : 4611686018427387904 < d
      · have h2d : decide (4611686018427387904 < d) = true := decide_eq_true h2
        obtain ⟨ple0, ple1, ple2, ple3, ple4, ple5, ple6, ple7⟩ := pl_0.open4
        go_wp2
        go_ret
        exact ⟨rfl, hB_0⟩
      have h2d : decide (4611686018427387904 < d) = false := decide_eq_false h2
      have HH1 := Lib.hid h1; have HH2 := Lib.hid h2; clear h1 h2
      obtain ⟨ple0, ple1, ple2, ple3, ple4, ple5, ple6, ple7⟩ := pl_0.open4
      go_wp2
      clear ple0 ple1 ple2 ple3 ple4 ple5 ple6 ple7
      exact ⟨⟨4, by omega, by go_num, hB_0, pl_0, fun _ => HA.out (by omega), fun _ => HB.out (by omega), fun _ => HC.out (by omega), fun _ => ⟨Int.not_lt.1 HH1.out, Int.not_lt.1 HH2.out⟩⟩, by simp [intOf]⟩
    · have HA := Lib.hid (ha (by omega)); have HB := Lib.hid (hb (by omega)); have HC := Lib.hid (hc (by omega)); have HD := Lib.hid (hd (by omega)); clear ha hb hc hd hj
      obtain ⟨ple0, ple1, ple2, ple3, ple4, ple5, ple6, ple7⟩ := pl_0.open4
      go_wp2
      clear ple0 ple1 ple2 ple3 ple4 ple5 ple6 ple7
      have hB_1 := hB_0.drew'
      have pl_1 := pl_0.drew
      clear hB_0 pl_0
      go_region_held3 (fun w' => w'.cell? ⟨w.heap.size, 0, none⟩ = some (.int .i64 a) ∧ w'.cell? ⟨w.heap.size, 1, none⟩ = some (.int .i64 b) ∧ w'.cell? ⟨w.heap.size, 2, none⟩ = some (.int .i64 c) ∧ w'.cell? ⟨w.heap.size, 3, none⟩ = some (.int .i64 d))
        (first | with_reducible exact ⟨pl_1.c0, pl_1.c1, pl_1.c2, pl_1.c3⟩ | fail)
        (fail)
      go_wp2_with fail
      refine (nOf_ok HA.out _).mono ?_
      rintro e w3 ⟨m1, o1, n1, c1, rfl, f1_0, hb3⟩
      have hB_2 := hB_1.trans (hb3.mono hB_1.size)
      have pl_2 := pl_1.below hb3
      clear hb3 hB_1 pl_1
      go_wp2_with fail
      refine (nOf_ok HD.out _).mono ?_
      rintro e w4 ⟨m2, o2, n2, c2, rfl, f2_0, hb4⟩
      have hB_3 := hB_2.trans (hb4.mono hB_2.size)
      have pl_3 := pl_2.below hb4
      have f1_1 := f1_0.below hb4
      clear hb4 hB_2 pl_2 f1_0
      go_wp2_with fail
      refine (nMul_any _ _ 1 1 a d _ (by omega) (by omega) f1_1.num f2_0.num).mono ?_
      rintro e w5 ⟨m3, o3, n3, c3, rfl, f3_0, hb5⟩
      have hB_4 := hB_3.trans (hb5.mono hB_3.size)
      have pl_4 := pl_3.below hb5
      have f1_2 := f1_1.below hb5
      have f2_1 := f2_0.below hb5
      clear hb5 hB_3 pl_3 f1_1 f2_0
      clear f1_2 f2_1
      go_wp2_with fail
      refine (nOf_ok HB.out _).mono ?_
      rintro e w6 ⟨m4, o4, n4, c4, rfl, f4_0, hb6⟩
      have hB_5 := hB_4.trans (hb6.mono hB_4.size)
      have pl_5 := pl_4.below hb6
      have f3_1 := f3_0.below hb6
      clear hb6 hB_4 pl_4 f3_0
      go_wp2_with fail
      refine (nOf_ok HC.out _).mono ?_
      rintro e w7 ⟨m5, o5, n5, c5, rfl, f5_0, hb7⟩
      have hB_6 := hB_5.trans (hb7.mono hB_5.size)
      have pl_6 := pl_5.below hb7
      have f3_2 := f3_1.below hb7
      have f4_1 := f4_0.below hb7
      clear hb7 hB_5 pl_5 f3_1 f4_0
      go_wp2_with fail
      refine (nMul_any _ _ 1 1 b c _ (by omega) (by omega) f4_1.num f5_0.num).mono ?_
      rintro e w8 ⟨m6, o6, n6, c6, rfl, f6_0, hb8⟩
      have hB_7 := hB_6.trans (hb8.mono hB_6.size)
      have pl_7 := pl_6.below hb8
      have f3_3 := f3_2.below hb8
      have f4_2 := f4_1.below hb8
      have f5_1 := f5_0.below hb8
      clear hb8 hB_6 pl_6 f3_2 f4_1 f5_0
      clear f4_2 f5_1
      go_wp2_with fail
      refine (nSub_any _ _ (1 + 1) (1 + 1) (a * d) (b * c) _ (by omega) (by omega) f3_3.num f6_0.num).mono ?_
      rintro e w9 ⟨m7, o7, n7, c7, rfl, f7_0, hb9⟩
      have hB_8 := hB_7.trans (hb9.mono hB_7.size)
      have pl_8 := pl_7.below hb9
      have f3_4 := f3_3.below hb9
      have f6_1 := f6_0.below hb9
      clear hb9 hB_7 pl_7 f3_3 f6_0
      clear f3_4 f6_1
      have hl1pl := pl_8.lt
      have hl1B := hB_8.size
      obtain ⟨w10, hw10, pw_0, hb10, hs10⟩ := new_box w9 (w9.heap.size) rfl [.bool m7, .slice o7 n7 c7] 29
      have hb10' : Below w9.heap.size w9 w10 := hb10.mono (by omega)
      clear hb10
      have hB_9 := hB_8.trans (hb10'.mono hB_8.size)
      have pl_9 := pl_8.below hb10'
      have f7_1 := f7_0.below hb10'
      clear hb10' hB_8 pl_8 f7_0
      go_wp2_with fail
      refine (wDet_ok HC.out HD.out HA.out HB.out _).mono ?_
      rintro e w11 ⟨rfl, hb11⟩
      have hB_10 := hB_9.trans (hb11.mono hB_9.size)
      have pl_10 := pl_9.below hb11
      have f7_2 := f7_1.below hb11
      have pw_1 := pw_0.below hb11
      clear hb11 hB_9 pl_9 f7_1 pw_0
      go_wp2_with fail
      refine (wNum_any (c * b - d * a) (inW_det HC.out HD.out HA.out HB.out) _).mono ?_
      rintro e w12 ⟨m8, o8, n8, c8, rfl, f8_0, hb12⟩
      have hB_11 := hB_10.trans (hb12.mono hB_10.size)
      have pl_11 := pl_10.below hb12
      have f7_3 := f7_2.below hb12
      have pw_2 := pw_1.below hb12
      clear hb12 hB_10 pl_10 f7_2 pw_1
      go_wp2_with fail
      refine (Neg_any _ 2 (c * b - d * a) _ (by omega) f8_0.num).mono ?_
      rintro e w13 ⟨m9, o9, n9, c9, rfl, f9_0, hb13⟩
      have hB_12 := hB_11.trans (hb13.mono hB_11.size)
      have pl_12 := pl_11.below hb13
      have f7_4 := f7_3.below hb13
      have pw_3 := pw_2.below hb13
      have f8_1 := f8_0.below hb13
      clear hb13 hB_11 pl_11 f7_3 pw_2 f8_0
      clear f8_1
      have hl2pl := pl_12.lt
      have hl2pw := pw_3.lt
      have hl2B := hB_12.size
      obtain ⟨w14, hw14, pt_0, hb14, hs14⟩ := new_box w13 (w13.heap.size) rfl [.bool m9, .slice o9 n9 c9] 29
      have hb14' : Below w13.heap.size w13 w14 := hb14.mono (by omega)
      clear hb14
      have hB_13 := hB_12.trans (hb14'.mono hB_12.size)
      have pl_13 := pl_12.below hb14'
      have f7_5 := f7_4.below hb14'
      have pw_4 := pw_3.below hb14'
      have f9_1 := f9_0.below hb14'
      clear hb14' hB_12 pl_12 f7_4 pw_3 f9_0
      obtain ⟨pwe0, pwe1, pwe2, pwe3⟩ := pw_4.open2
      obtain ⟨pte0, pte1, pte2, pte3⟩ := pt_0.open2
      go_wp2
      clear pwe0 pwe1 pwe2 pwe3 pte0 pte1 pte2 pte3
      have hB_14 := hB_13.drew'
      have pl_14 := pl_13.drew
      have f7_6 := f7_5.drew
      have pw_5 := pw_4.drew
      have f9_2 := f9_1.drew
      have pt_1 := pt_0.drew
      clear hB_13 pl_13 f7_5 pw_4 f9_1 pt_0
      go_region_held3 (fun w' => w'.cell? ⟨w9.heap.size, 0, none⟩ = some (.bool m7) ∧ w'.cell? ⟨w9.heap.size, 1, none⟩ = some (.slice o7 n7 c7) ∧ w'.cell? ⟨w13.heap.size, 0, none⟩ = some (.bool m9) ∧ w'.cell? ⟨w13.heap.size, 1, none⟩ = some (.slice o9 n9 c9))
        (first | with_reducible exact ⟨pw_5.c0, pw_5.c1, pt_1.c0, pt_1.c1⟩ | with_reducible exact ⟨pw_6.c0, pw_6.c1, pt_2.c0, pt_2.c1⟩ | with_reducible exact ⟨pw_7.c0, pw_7.c1, pt_3.c0, pt_3.c1⟩ | with_reducible exact ⟨pw_8.c0, pw_8.c1, pt_4.c0, pt_4.c1⟩ | with_reducible exact ⟨pw_9.c0, pw_9.c1, pt_5.c0, pt_5.c1⟩ | fail)
        (first
          | (go_at_call 28; (with_reducible refine (wDet_ok HA.out HB.out HC.out HD.out _).mono ?_); rintro e w15 ⟨rfl, hb15⟩; have hB_15 := hB_14.trans (hb15.mono hB_14.size); have pl_15 := pl_14.below hb15; have f7_7 := f7_6.below hb15; have pw_6 := pw_5.below hb15; have f9_3 := f9_2.below hb15; have pt_2 := pt_1.below hb15; clear hb15 hB_14 pl_14 f7_6 pw_5 f9_2 pt_1)
          | (go_at_call 9; (with_reducible refine (wNum_any (a * d - b * c) (inW_det HA.out HB.out HC.out HD.out) _).mono ?_); rintro e w16 ⟨m10, o10, n10, c10, rfl, f10_0, hb16⟩; have hB_16 := hB_15.trans (hb16.mono hB_15.size); have pl_16 := pl_15.below hb16; have f7_8 := f7_7.below hb16; have pw_7 := pw_6.below hb16; have f9_4 := f9_3.below hb16; have pt_3 := pt_2.below hb16; clear hb16 hB_15 pl_15 f7_7 pw_6 f9_3 pt_2)
          | (go_at_call 21; (with_reducible refine (wnCmp_is _ _ 2 (max (1 + 1) (1 + 1) + 1) (a * d - b * c) (a * d - b * c) 0 _ (by omega) (by omega) f10_0.num f7_8.num (icmp_self _)).mono ?_); rintro e w17 ⟨rfl, hb17⟩; have hB_17 := hB_16.trans (hb17.mono hB_16.size); have pl_17 := pl_16.below hb17; have f7_9 := f7_8.below hb17; have pw_8 := pw_7.below hb17; have f9_5 := f9_4.below hb17; have pt_4 := pt_3.below hb17; have f10_1 := f10_0.below hb17; clear hb17 hB_16 pl_16 f7_8 pw_7 f9_4 pt_3 f10_0)
          | (go_at_call 21; (with_reducible refine (wnCmp_is _ _ 2 (max (1 + 1) (1 + 1) + 1) (-(c * b - d * a)) (a * d - b * c) 0 _ (by omega) (by omega) f9_5.num f7_9.num (det_turned a b c d)).mono ?_); rintro e w18 ⟨rfl, hb18⟩; have hB_18 := hB_17.trans (hb18.mono hB_17.size); have pl_18 := pl_17.below hb18; have f7_10 := f7_9.below hb18; have pw_9 := pw_8.below hb18; have f9_6 := f9_5.below hb18; have pt_5 := pt_4.below hb18; have f10_2 := f10_1.below hb18; clear hb18 hB_17 pl_17 f7_9 pw_8 f9_5 pt_4 f10_1))
      go_wp2
      go_ret
      exact ⟨rfl, hB_18⟩
end Go.Proofs.Ytkigfccbhkcedaa
/- The statement WideLaws, walked. -/
namespace Go.Proofs.Ytkigfccbhkcedaa
open Go.RowKit Go.MagM
set_option maxRecDepth 100000 in
set_option maxHeartbeats 32000000 in
theorem WideLaws_w (a b c d m n p q r s r' p2 q2 p3 q3 A V C X Y Z D E F : Int) (e1 : bits .and .i64 m 4095 = n) (e2 : bits .and .i64 a 4294967295 = p) (e3 : bits .and .i64 b 4294967295 = q) (e4 : bits .and .i64 c 4294967295 = r) (e5 : bits .and .i64 d 4294967295 = s) (e6 : IntKind.i64.wrap (-r) = r') (e7 : IntKind.i64.wrap (2 * p) = p2) (e8 : IntKind.i64.wrap (2 * q) = q2) (e9 : IntKind.i64.wrap (3 * p) = p3) (e10 : IntKind.i64.wrap (3 * q) = q3) (c1 : ∀ w, Calls Try.prog 19 #[.int .i64 p, .int .i64 q] w fun e w' => AnsW w w' e A) (c2 : ∀ w, Calls Try.prog 19 #[.int .i64 r', .int .i64 s] w fun e w' => AnsW w w' e V) (c3 : ∀ w, Calls Try.prog 10 #[.agg #[.int .u64 ((wh (A) : Nat) : Int), .int .u64 ((wl (A) : Nat) : Int)], .agg #[.int .u64 ((wh (V) : Nat) : Int), .int .u64 ((wl (V) : Nat) : Int)]] w fun e w' => e = .returned (.tuple #[.agg #[.int .u64 ((wh (C) : Nat) : Int), .int .u64 ((wl (C) : Nat) : Int)], .bool true]) ∧ Below w.heap.size w w') (c4 : ∀ w, Calls Try.prog 11 #[.agg #[.int .u64 ((wh (C) : Nat) : Int), .int .u64 ((wl (C) : Nat) : Int)], .agg #[.int .u64 ((wh (V) : Nat) : Int), .int .u64 ((wl (V) : Nat) : Int)]] w fun e w' => e = .returned (.tuple #[.agg #[.int .u64 ((wh (A) : Nat) : Int), .int .u64 ((wl (A) : Nat) : Int)], .bool true]) ∧ Below w.heap.size w w') (c5 : ∀ w, Calls Try.prog 20 #[.agg #[.int .u64 ((wh (C) : Nat) : Int), .int .u64 ((wl (C) : Nat) : Int)], .int .i64 n] w fun e w' => e = .returned (.tuple #[.agg #[.int .u64 ((wh (X) : Nat) : Int), .int .u64 ((wl (X) : Nat) : Int)], .bool true]) ∧ Below w.heap.size w w') (c6 : ∀ w, Calls Try.prog 20 #[.agg #[.int .u64 ((wh (A) : Nat) : Int), .int .u64 ((wl (A) : Nat) : Int)], .int .i64 n] w fun e w' => e = .returned (.tuple #[.agg #[.int .u64 ((wh (Y) : Nat) : Int), .int .u64 ((wl (Y) : Nat) : Int)], .bool true]) ∧ Below w.heap.size w w') (c7 : ∀ w, Calls Try.prog 20 #[.agg #[.int .u64 ((wh (V) : Nat) : Int), .int .u64 ((wl (V) : Nat) : Int)], .int .i64 n] w fun e w' => e = .returned (.tuple #[.agg #[.int .u64 ((wh (Z) : Nat) : Int), .int .u64 ((wl (Z) : Nat) : Int)], .bool true]) ∧ Below w.heap.size w w') (c8 : ∀ w, Calls Try.prog 10 #[.agg #[.int .u64 ((wh (Y) : Nat) : Int), .int .u64 ((wl (Y) : Nat) : Int)], .agg #[.int .u64 ((wh (Z) : Nat) : Int), .int .u64 ((wl (Z) : Nat) : Int)]] w fun e w' => e = .returned (.tuple #[.agg #[.int .u64 ((wh (X) : Nat) : Int), .int .u64 ((wl (X) : Nat) : Int)], .bool true]) ∧ Below w.heap.size w w') (c9 : ∀ w, Calls Try.prog 28 #[.int .i64 p, .int .i64 q, .int .i64 r, .int .i64 s] w fun e w' => AnsW w w' e D) (c10 : ∀ w, Calls Try.prog 20 #[.agg #[.int .u64 ((wh (D) : Nat) : Int), .int .u64 ((wl (D) : Nat) : Int)], .int .i64 2] w fun e w' => e = .returned (.tuple #[.agg #[.int .u64 ((wh (E) : Nat) : Int), .int .u64 ((wl (E) : Nat) : Int)], .bool true]) ∧ Below w.heap.size w w') (c11 : ∀ w, Calls Try.prog 28 #[.int .i64 p2, .int .i64 q2, .int .i64 r, .int .i64 s] w fun e w' => AnsW w w' e E) (c12 : ∀ w, Calls Try.prog 28 #[.int .i64 p, .int .i64 q, .int .i64 p3, .int .i64 q3] w fun e w' => AnsW w w' e F) (c13 : ∀ w, Calls Try.prog 26 #[.agg #[.int .u64 ((wh (F) : Nat) : Int), .int .u64 ((wl (F) : Nat) : Int)]] w fun e w' => e = .returned (.int .i64 0) ∧ Below w.heap.size w w') (w : World) :
    Calls Try.prog 7 #[.agg #[.int .i64 a, .int .i64 b, .int .i64 c, .int .i64 d], .int .i64 m] w fun e w' => e = .returned (.bool true) ∧ Below w.heap.size w w' := by
  have hB_0 := Below.refl w.heap.size w
  have C1 := Lib.hid c1; have C2 := Lib.hid c2; have C3 := Lib.hid c3; have C4 := Lib.hid c4; have C5 := Lib.hid c5; have C6 := Lib.hid c6; have C7 := Lib.hid c7; have C8 := Lib.hid c8; have C9 := Lib.hid c9; have C10 := Lib.hid c10; have C11 := Lib.hid c11; have C12 := Lib.hid c12; have C13 := Lib.hid c13; have E2 := Lib.hid e2; have E3 := Lib.hid e3; have E4 := Lib.hid e4; have E5 := Lib.hid e5; have E6 := Lib.hid e6; have E7 := Lib.hid e7; have E8 := Lib.hid e8; have E9 := Lib.hid e9; have E10 := Lib.hid e10
  clear c1 c2 c3 c4 c5 c6 c7 c8 c9 c10 c11 c12 c13 e2 e3 e4 e5 e6 e7 e8 e9 e10
  obtain ⟨w1, hw1, pl_0, hb1, hs1⟩ := new_box w (w.heap.size) rfl [.int .i64 a, .int .i64 b, .int .i64 c, .int .i64 d] 48
  have hb1' : Below w.heap.size w w1 := hb1.mono (by omega)
  clear hb1
  have hB_1 := hB_0.trans (hb1'.mono hB_0.size)
  clear hb1' hB_0
  go_enter Try.func7, Try.ntmps7
  obtain ⟨ple0, ple1, ple2, ple3, ple4, ple5, ple6, ple7⟩ := pl_0.open4
  go_wp2_with fail
  refine (wfit_any _).mono ?_
  rintro e w2 ⟨rfl, hb2⟩
  clear ple0 ple1 ple2 ple3 ple4 ple5 ple6 ple7
  have hB_2 := hB_1.trans (hb2.mono hB_1.size)
  have pl_1 := pl_0.below hb2
  clear hb2 hB_1 pl_0
  obtain ⟨ple0, ple1, ple2, ple3, ple4, ple5, ple6, ple7⟩ := pl_1.open4
  go_wp2
  clear ple0 ple1 ple2 ple3 ple4 ple5 ple6 ple7
  clear e1
  go_loopw [26] (fun iv wr => ∃ j : Nat, ∃ u0 u1 u2 u3 : Int, j ≤ 4 ∧ iv = .int .i64 j ∧ Below w.heap.size w wr ∧ Box wr w.heap.size [.int .i64 u0, .int .i64 u1, .int .i64 u2, .int .i64 u3] ∧ (j = 0 → a = u0 ∧ b = u1 ∧ c = u2 ∧ d = u3) ∧ (j = 1 → p = u0 ∧ b = u1 ∧ c = u2 ∧ d = u3) ∧ (j = 2 → p = u0 ∧ q = u1 ∧ c = u2 ∧ d = u3) ∧ (j = 3 → p = u0 ∧ q = u1 ∧ r = u2 ∧ d = u3) ∧ (j = 4 → p = u0 ∧ q = u1 ∧ r = u2 ∧ s = u3)) (fun iv _ => 4 - (intOf iv).toNat)
  case atStart => exact ⟨0, _, _, _, _, by omega, rfl, hB_2, pl_1, (fun _ => ⟨rfl, rfl, rfl, rfl⟩), (fun h => absurd h (by omega)), (fun h => absurd h (by omega)), (fun h => absurd h (by omega)), (fun h => absurd h (by omega))⟩
  case round =>
    obtain ⟨j, u0, u1, u2, u3, hj, rfl, hB_0, pl_0, z0, z1, z2, z3, z4⟩ := hrel
    obtain rfl | rfl | rfl | rfl | rfl : j = 0 ∨ j = 1 ∨ j = 2 ∨ j = 3 ∨ j = 4 := by omega
    · obtain ⟨rfl, rfl, rfl, rfl⟩ := z0 rfl
      clear z0 z1 z2 z3 z4 hj
      have eq := E2.out
      obtain ⟨ple0, ple1, ple2, ple3, ple4, ple5, ple6, ple7⟩ := pl_0.open4
      obtain ⟨sf1a, sf1b, sf1c, sf1d, sf1e, sf1f, sf1g, sf1h⟩ := pl_0.open4
      go_wp2
      clear ple0 ple1 ple2 ple3 ple4 ple5 ple6 ple7 sf1a sf1b sf1c sf1d sf1e sf1f sf1g sf1h
      have hB_1 := hB_0.setCell (p := ⟨w.heap.size, 0, none⟩) (by simp only []; omega) (.int .i64 p)
      have pl_1 : Box (World.setCell wr ⟨w.heap.size, 0, none⟩ (.int .i64 p)) (w.heap.size) [.int .i64 p, .int .i64 b, .int .i64 c, .int .i64 d] := pl_0.set 0 (.int .i64 p)
      clear hB_0 pl_0
      generalize (World.setCell wr ⟨w.heap.size, 0, none⟩ (.int .i64 p)) = w3 at *
      exact ⟨⟨1, _, _, _, _, by omega, by go_num, hB_1, pl_1, (fun h => absurd h (by omega)), (fun _ => ⟨rfl, rfl, rfl, rfl⟩), (fun h => absurd h (by omega)), (fun h => absurd h (by omega)), (fun h => absurd h (by omega))⟩, by simp [intOf]⟩
    · obtain ⟨rfl, rfl, rfl, rfl⟩ := z1 rfl
      clear z0 z1 z2 z3 z4 hj
      have eq := E3.out
      obtain ⟨ple0, ple1, ple2, ple3, ple4, ple5, ple6, ple7⟩ := pl_0.open4
      obtain ⟨sf1a, sf1b, sf1c, sf1d, sf1e, sf1f, sf1g, sf1h⟩ := pl_0.open4
      go_wp2
      clear ple0 ple1 ple2 ple3 ple4 ple5 ple6 ple7 sf1a sf1b sf1c sf1d sf1e sf1f sf1g sf1h
      have hB_1 := hB_0.setCell (p := ⟨w.heap.size, 1, none⟩) (by simp only []; omega) (.int .i64 q)
      have pl_1 : Box (World.setCell wr ⟨w.heap.size, 1, none⟩ (.int .i64 q)) (w.heap.size) [.int .i64 p, .int .i64 q, .int .i64 c, .int .i64 d] := pl_0.set 1 (.int .i64 q)
      clear hB_0 pl_0
      generalize (World.setCell wr ⟨w.heap.size, 1, none⟩ (.int .i64 q)) = w3 at *
      exact ⟨⟨2, _, _, _, _, by omega, by go_num, hB_1, pl_1, (fun h => absurd h (by omega)), (fun h => absurd h (by omega)), (fun _ => ⟨rfl, rfl, rfl, rfl⟩), (fun h => absurd h (by omega)), (fun h => absurd h (by omega))⟩, by simp [intOf]⟩
    · obtain ⟨rfl, rfl, rfl, rfl⟩ := z2 rfl
      clear z0 z1 z2 z3 z4 hj
      have eq := E4.out
      obtain ⟨ple0, ple1, ple2, ple3, ple4, ple5, ple6, ple7⟩ := pl_0.open4
      obtain ⟨sf1a, sf1b, sf1c, sf1d, sf1e, sf1f, sf1g, sf1h⟩ := pl_0.open4
      go_wp2
      clear ple0 ple1 ple2 ple3 ple4 ple5 ple6 ple7 sf1a sf1b sf1c sf1d sf1e sf1f sf1g sf1h
      have hB_1 := hB_0.setCell (p := ⟨w.heap.size, 2, none⟩) (by simp only []; omega) (.int .i64 r)
      have pl_1 : Box (World.setCell wr ⟨w.heap.size, 2, none⟩ (.int .i64 r)) (w.heap.size) [.int .i64 p, .int .i64 q, .int .i64 r, .int .i64 d] := pl_0.set 2 (.int .i64 r)
      clear hB_0 pl_0
      generalize (World.setCell wr ⟨w.heap.size, 2, none⟩ (.int .i64 r)) = w3 at *
      exact ⟨⟨3, _, _, _, _, by omega, by go_num, hB_1, pl_1, (fun h => absurd h (by omega)), (fun h => absurd h (by omega)), (fun h => absurd h (by omega)), (fun _ => ⟨rfl, rfl, rfl, rfl⟩), (fun h => absurd h (by omega))⟩, by simp [intOf]⟩
    · obtain ⟨rfl, rfl, rfl, rfl⟩ := z3 rfl
      clear z0 z1 z2 z3 z4 hj
      have eq := E5.out
      obtain ⟨ple0, ple1, ple2, ple3, ple4, ple5, ple6, ple7⟩ := pl_0.open4
      obtain ⟨sf1a, sf1b, sf1c, sf1d, sf1e, sf1f, sf1g, sf1h⟩ := pl_0.open4
      go_wp2
      clear ple0 ple1 ple2 ple3 ple4 ple5 ple6 ple7 sf1a sf1b sf1c sf1d sf1e sf1f sf1g sf1h
      have hB_1 := hB_0.setCell (p := ⟨w.heap.size, 3, none⟩) (by simp only []; omega) (.int .i64 s)
      have pl_1 : Box (World.setCell wr ⟨w.heap.size, 3, none⟩ (.int .i64 s)) (w.heap.size) [.int .i64 p, .int .i64 q, .int .i64 r, .int .i64 s] := pl_0.set 3 (.int .i64 s)
      clear hB_0 pl_0
      generalize (World.setCell wr ⟨w.heap.size, 3, none⟩ (.int .i64 s)) = w3 at *
      exact ⟨⟨4, _, _, _, _, by omega, by go_num, hB_1, pl_1, (fun h => absurd h (by omega)), (fun h => absurd h (by omega)), (fun h => absurd h (by omega)), (fun h => absurd h (by omega)), (fun _ => ⟨rfl, rfl, rfl, rfl⟩)⟩, by simp [intOf]⟩
    · obtain ⟨rfl, rfl, rfl, rfl⟩ := z4 rfl
      clear z0 z1 z2 z3 z4 hj
      have q6 := E6.out; have q7 := E7.out; have q8 := E8.out; have q9 := E9.out; have q10 := E10.out
      obtain ⟨ple0, ple1, ple2, ple3, ple4, ple5, ple6, ple7⟩ := pl_0.open4
      go_wp2
      clear ple0 ple1 ple2 ple3 ple4 ple5 ple6 ple7
      have hWq_0 := Below.refl wr.heap.size wr
      have hsq : w.heap.size ≤ wr.heap.size := hB_0.size
      have hlqpl := pl_0.lt
      have hB_1 := hB_0.drew'
      have pl_1 := pl_0.drew
      have hWq_1 := hWq_0.drew'
      clear hB_0 pl_0 hWq_0
      refine wp_region_noPanic ?_
      refine wp_region_held_drew (S := fun w' => w'.cell? ⟨w.heap.size, 0, none⟩ = some (.int .i64 p) ∧ w'.cell? ⟨w.heap.size, 1, none⟩ = some (.int .i64 q) ∧ w'.cell? ⟨w.heap.size, 2, none⟩ = some (.int .i64 r) ∧ w'.cell? ⟨w.heap.size, 3, none⟩ = some (.int .i64 s)) (by kernel_rfl) (⟨pl_1.c0, pl_1.c1, pl_1.c2, pl_1.c3⟩) (fun hHeld => ?_)
      refine reg_take 0 ?_ ?_ ?_ (by kernel_rfl) (by kernel_rfl) (by kernel_rfl) (fun _ _ _ h => h) ?_ ?_ (by assumption) ?_
      rotate_left 2
      · simp only [List.getElem?_toArray, List.getElem?_cons_zero]; exact rfl
      · rfl
      · intro w hSw; (try dsimp only at hSw); go_simp; try with_reducible rfl
      try simp only [Act.put]
      try simp only [List.setIfInBounds_toArray, List.set_cons_zero, List.set_cons_succ]
      refine reg_take 1 ?_ ?_ ?_ (by kernel_rfl) (by kernel_rfl) (by kernel_rfl) (fun _ _ _ h => h) ?_ ?_ (by assumption) ?_
      rotate_left 2
      · simp only [List.getElem?_toArray, List.getElem?_cons_succ, List.getElem?_cons_zero]; exact rfl
      · rfl
      · intro w hSw; (try dsimp only at hSw); go_simp; try with_reducible rfl
      try simp only [Act.put]
      try simp only [List.setIfInBounds_toArray, List.set_cons_zero, List.set_cons_succ]
      refine reg_take 2 ?_ ?_ ?_ (by kernel_rfl) (by kernel_rfl) (by kernel_rfl) (fun _ _ _ h => h) ?_ ?_ (by assumption) ?_
      rotate_left 2
      · simp only [List.getElem?_toArray, List.getElem?_cons_succ, List.getElem?_cons_zero]; exact rfl
      · rfl
      · intro w hSw; (try dsimp only at hSw); go_simp; try with_reducible rfl
      try simp only [Act.put]
      try simp only [List.setIfInBounds_toArray, List.set_cons_zero, List.set_cons_succ]
      refine reg_take 3 ?_ ?_ ?_ (by kernel_rfl) (by kernel_rfl) (by kernel_rfl) (fun _ _ _ h => h) ?_ ?_ (by assumption) ?_
      rotate_left 2
      · simp only [List.getElem?_toArray, List.getElem?_cons_succ, List.getElem?_cons_zero]; exact rfl
      · rfl
      · intro w hSw; (try dsimp only at hSw); go_simp; try with_reducible rfl
      try simp only [Act.put]
      try simp only [List.setIfInBounds_toArray, List.set_cons_zero, List.set_cons_succ]
      refine reg_take 5 ?_ ?_ ?_ (by kernel_rfl) (by kernel_rfl) (by kernel_rfl) (fun _ _ _ h => h) ?_ ?_ (by assumption) ?_
      rotate_left 2
      · simp only [List.getElem?_toArray, List.getElem?_cons_succ, List.getElem?_cons_zero]; exact rfl
      · rfl
      · intro w hSw; (try dsimp only at hSw); go_simp; try with_reducible rfl
      try simp only [Act.put]
      try simp only [List.setIfInBounds_toArray, List.set_cons_zero, List.set_cons_succ]
      refine reg_take 6 ?_ ?_ ?_ (by kernel_rfl) (by kernel_rfl) (by kernel_rfl) (fun _ _ _ h => h) ?_ ?_ (by assumption) ?_
      rotate_left 2
      · simp only [List.getElem?_toArray, List.getElem?_cons_succ, List.getElem?_cons_zero]; exact rfl
      · rfl
      · intro w hSw; (try dsimp only at hSw); go_simp; try with_reducible rfl
      try simp only [Act.put]
      try simp only [List.setIfInBounds_toArray, List.set_cons_zero, List.set_cons_succ]
      refine reg_take 7 ?_ ?_ ?_ (by kernel_rfl) (by kernel_rfl) (by kernel_rfl) (fun _ _ _ h => h) ?_ ?_ (by assumption) ?_
      rotate_left 2
      · simp only [List.getElem?_toArray, List.getElem?_cons_succ, List.getElem?_cons_zero]; exact rfl
      · rfl
      · intro w hSw; (try dsimp only at hSw); go_simp; try with_reducible rfl
      try simp only [Act.put]
      try simp only [List.setIfInBounds_toArray, List.set_cons_zero, List.set_cons_succ]
      refine reg_take 8 ?_ ?_ ?_ (by kernel_rfl) (by kernel_rfl) (by kernel_rfl) (fun _ _ _ h => h) ?_ ?_ (by assumption) ?_
      rotate_left 2
      · simp only [List.getElem?_toArray, List.getElem?_cons_succ, List.getElem?_cons_zero]; exact rfl
      · rfl
      · intro w hSw; (try dsimp only at hSw); go_simp; try with_reducible rfl
      try simp only [Act.put]
      try simp only [List.setIfInBounds_toArray, List.set_cons_zero, List.set_cons_succ]
      refine reg_take 9 ?_ ?_ ?_ (by kernel_rfl) (by kernel_rfl) (by kernel_rfl) (fun _ _ _ h => h) ?_ ?_ (by assumption) ?_
      rotate_left 2
      · simp only [List.getElem?_toArray, List.getElem?_cons_succ, List.getElem?_cons_zero]; exact rfl
      · rfl
      · intro w hSw; (try dsimp only at hSw); go_simp; try with_reducible rfl
      try simp only [Act.put]
      try simp only [List.setIfInBounds_toArray, List.set_cons_zero, List.set_cons_succ]
      refine reg_grab (fun WWq aq hWW hAA => ?_)
      have HWq := Lib.hid hWW; have HAq := Lib.hid hAA; clear hWW hAA hHeld
      have stq_2tt : ∀ (w' : World) (gpx : Nat) (gpy : Nat), Below w.heap.size w w' → Box w' (w.heap.size) [.int .i64 p, .int .i64 q, .int .i64 r, .int .i64 s] → Below wr.heap.size wr w' → Box w' gpx [.int .u64 0, .int .u64 0] → Box w' gpy [.int .u64 0, .int .u64 0] → wr.heap.size ≤ gpx → wr.heap.size ≤ gpy → gpx ≠ gpy → WWq 2 #[true, true, true, true, true, true, true, true, true, true, true, true, true, false, false] ((((aq.put (some 40) (.agg #[.int .u64 ((wh (A) : Nat) : Int), .int .u64 ((wl (A) : Nat) : Int)])).put (some 46) (.agg #[.int .u64 ((wh (V) : Nat) : Int), .int .u64 ((wl (V) : Nat) : Int)])).put (some 6) (.pointer (some ⟨gpx, 0, none⟩))).put (some 7) (.pointer (some ⟨gpy, 0, none⟩))) w' := by
        intro w3 gpx gpy hB_0 pl_0 hWq_0 px_0 py_0 hgpx hgpy hnpxpy
        rw [HWq.out, HAq.out]
        try simp only [Act.put]
        try simp only [List.setIfInBounds_toArray, List.set_cons_zero, List.set_cons_succ]
        clear hWq_0
        obtain ⟨sf1a, sf1b, sf1c, sf1d⟩ := px_0.open2
        obtain ⟨sg1a, sg1b⟩ := Box.put2 px_0 (.int .u64 ((wh (A) : Nat) : Int))
        refine reg_call 13 ?_ (by kernel_rfl) ?_ (fun K hK => ?_)
        rotate_left 1
        · simp only [List.getElem?_toArray, List.getElem?_cons_succ, List.getElem?_cons_zero]; exact rfl
        go_simp
        have hB_1 := below_setAll hB_0 (g := gpx) (by omega) [.int .u64 ((wh (A) : Nat) : Int), .int .u64 ((wl (A) : Nat) : Int)]
        have pl_1 := pl_0.farAll (g' := gpx) (by omega) [.int .u64 ((wh (A) : Nat) : Int), .int .u64 ((wl (A) : Nat) : Int)]
        have py_1 := py_0.farAll (g' := gpx) (by omega) [.int .u64 ((wh (A) : Nat) : Int), .int .u64 ((wl (A) : Nat) : Int)]
        have px_1 := px_0.setAll [.int .u64 ((wh (A) : Nat) : Int), .int .u64 ((wl (A) : Nat) : Int)] rfl
        simp only [setAll, Nat.zero_add] at hB_1 pl_1 px_1 py_1
        clear sf1a sf1b sf1c sf1d sg1a sg1b
        clear hB_0 pl_0 py_0 px_0
        refine hK.out _ _ ⟨pl_1.c0, pl_1.c1, pl_1.c2, pl_1.c3⟩ (fun hHeld => ?_)
        clear hK K
        try simp only [Act.put]
        try simp only [List.setIfInBounds_toArray, List.set_cons_zero, List.set_cons_succ]
        generalize (World.setCell (World.setCell w3 ⟨gpx, 0, none⟩ (.int .u64 ((wh (A) : Nat) : Int))) ⟨gpx, 1, none⟩ (.int .u64 ((wl (A) : Nat) : Int))) = w4 at *
        obtain ⟨sf2a, sf2b, sf2c, sf2d⟩ := py_1.open2
        obtain ⟨sg2a, sg2b⟩ := Box.put2 py_1 (.int .u64 ((wh (V) : Nat) : Int))
        refine reg_call 14 ?_ (by kernel_rfl) ?_ (fun K hK => ?_)
        rotate_left 1
        · simp only [List.getElem?_toArray, List.getElem?_cons_succ, List.getElem?_cons_zero]; exact rfl
        go_simp
        have hB_2 := below_setAll hB_1 (g := gpy) (by omega) [.int .u64 ((wh (V) : Nat) : Int), .int .u64 ((wl (V) : Nat) : Int)]
        have pl_2 := pl_1.farAll (g' := gpy) (by omega) [.int .u64 ((wh (V) : Nat) : Int), .int .u64 ((wl (V) : Nat) : Int)]
        have px_2 := px_1.farAll (g' := gpy) (by omega) [.int .u64 ((wh (V) : Nat) : Int), .int .u64 ((wl (V) : Nat) : Int)]
        have py_2 := py_1.setAll [.int .u64 ((wh (V) : Nat) : Int), .int .u64 ((wl (V) : Nat) : Int)] rfl
        simp only [setAll, Nat.zero_add] at hB_2 pl_2 px_2 py_2
        clear sf2a sf2b sf2c sf2d sg2a sg2b
        clear hB_1 pl_1 px_1 py_1
        refine hK.out _ _ ⟨pl_2.c0, pl_2.c1, pl_2.c2, pl_2.c3⟩ (fun hHeld => ?_)
        clear hK K
        try simp only [Act.put]
        try simp only [List.setIfInBounds_toArray, List.set_cons_zero, List.set_cons_succ]
        generalize (World.setCell (World.setCell w4 ⟨gpy, 0, none⟩ (.int .u64 ((wh (V) : Nat) : Int))) ⟨gpy, 1, none⟩ (.int .u64 ((wl (V) : Nat) : Int))) = w5 at *
        refine wpAnyH_done (by kernel_rfl) ?_ _
        refine NoPanic.normal ?_
        obtain ⟨ple0, ple1, ple2, ple3, ple4, ple5, ple6, ple7⟩ := pl_2.open4
        obtain ⟨pxe0, pxe1, pxe2, pxe3⟩ := px_2.open2
        obtain ⟨pye0, pye1, pye2, pye3⟩ := py_2.open2
        go_wp2_with fail
        refine (C3.out _).mono ?_
        rintro e w6 ⟨rfl, hb6⟩
        clear ple0 ple1 ple2 ple3 ple4 ple5 ple6 ple7 pxe0 pxe1 pxe2 pxe3 pye0 pye1 pye2 pye3
        have hB_3 := hB_2.trans (hb6.mono hB_2.size)
        have pl_3 := pl_2.below hb6
        have px_3 := px_2.below hb6
        have py_3 := py_2.below hb6
        clear hb6 hB_2 pl_2 px_2 py_2
        obtain ⟨ple0, ple1, ple2, ple3, ple4, ple5, ple6, ple7⟩ := pl_3.open4
        obtain ⟨pxe0, pxe1, pxe2, pxe3⟩ := px_3.open2
        obtain ⟨pye0, pye1, pye2, pye3⟩ := py_3.open2
        clear ple0 ple1 ple2 ple3 ple4 ple5 ple6 ple7 pxe0 pxe1 pxe2 pxe3 pye0 pye1 pye2 pye3
        have hl1pl := pl_3.lt
        have hl1px := px_3.lt
        have hl1py := py_3.lt
        have hl1B := hB_3.size
        obtain ⟨w7, hw7, ps_0, hb7, hs7⟩ := new_box w6 (w6.heap.size) rfl [.int .u64 ((wh (C) : Nat) : Int), .int .u64 ((wl (C) : Nat) : Int)] 24
        have hb7' : Below w6.heap.size w6 w7 := hb7.mono (by omega)
        clear hb7
        have hB_4 := hB_3.trans (hb7'.mono hB_3.size)
        have pl_4 := pl_3.below hb7'
        have px_4 := px_3.below hb7'
        have py_4 := py_3.below hb7'
        clear hb7' hB_3 pl_3 px_3 py_3
        obtain ⟨ple0, ple1, ple2, ple3, ple4, ple5, ple6, ple7⟩ := pl_4.open4
        obtain ⟨pxe0, pxe1, pxe2, pxe3⟩ := px_4.open2
        obtain ⟨pye0, pye1, pye2, pye3⟩ := py_4.open2
        obtain ⟨pse0, pse1, pse2, pse3⟩ := ps_0.open2
        go_wp2_with fail
        refine (C4.out _).mono ?_
        rintro e w8 ⟨rfl, hb8⟩
        clear ple0 ple1 ple2 ple3 ple4 ple5 ple6 ple7 pxe0 pxe1 pxe2 pxe3 pye0 pye1 pye2 pye3 pse0 pse1 pse2 pse3
        have hB_5 := hB_4.trans (hb8.mono hB_4.size)
        have pl_5 := pl_4.below hb8
        have px_5 := px_4.below hb8
        have py_5 := py_4.below hb8
        have ps_1 := ps_0.below hb8
        clear hb8 hB_4 pl_4 px_4 py_4 ps_0
        obtain ⟨ple0, ple1, ple2, ple3, ple4, ple5, ple6, ple7⟩ := pl_5.open4
        obtain ⟨pxe0, pxe1, pxe2, pxe3⟩ := px_5.open2
        obtain ⟨pye0, pye1, pye2, pye3⟩ := py_5.open2
        obtain ⟨pse0, pse1, pse2, pse3⟩ := ps_1.open2
        clear ple0 ple1 ple2 ple3 ple4 ple5 ple6 ple7 pxe0 pxe1 pxe2 pxe3 pye0 pye1 pye2 pye3 pse0 pse1 pse2 pse3
        have hl2pl := pl_5.lt
        have hl2px := px_5.lt
        have hl2py := py_5.lt
        have hl2ps := ps_1.lt
        have hl2B := hB_5.size
        obtain ⟨w9, hw9, pd_0, hb9, hs9⟩ := new_box w8 (w8.heap.size) rfl [.int .u64 ((wh (A) : Nat) : Int), .int .u64 ((wl (A) : Nat) : Int)] 24
        have hb9' : Below w8.heap.size w8 w9 := hb9.mono (by omega)
        clear hb9
        have hB_6 := hB_5.trans (hb9'.mono hB_5.size)
        have pl_6 := pl_5.below hb9'
        have px_6 := px_5.below hb9'
        have py_6 := py_5.below hb9'
        have ps_2 := ps_1.below hb9'
        clear hb9' hB_5 pl_5 px_5 py_5 ps_1
        obtain ⟨ple0, ple1, ple2, ple3, ple4, ple5, ple6, ple7⟩ := pl_6.open4
        obtain ⟨pxe0, pxe1, pxe2, pxe3⟩ := px_6.open2
        obtain ⟨pye0, pye1, pye2, pye3⟩ := py_6.open2
        obtain ⟨pse0, pse1, pse2, pse3⟩ := ps_2.open2
        obtain ⟨pde0, pde1, pde2, pde3⟩ := pd_0.open2
        go_wp2_with fail
        refine (C5.out _).mono ?_
        rintro e w10 ⟨rfl, hb10⟩
        clear ple0 ple1 ple2 ple3 ple4 ple5 ple6 ple7 pxe0 pxe1 pxe2 pxe3 pye0 pye1 pye2 pye3 pse0 pse1 pse2 pse3 pde0 pde1 pde2 pde3
        have hB_7 := hB_6.trans (hb10.mono hB_6.size)
        have pl_7 := pl_6.below hb10
        have px_7 := px_6.below hb10
        have py_7 := py_6.below hb10
        have ps_3 := ps_2.below hb10
        have pd_1 := pd_0.below hb10
        clear hb10 hB_6 pl_6 px_6 py_6 ps_2 pd_0
        obtain ⟨ple0, ple1, ple2, ple3, ple4, ple5, ple6, ple7⟩ := pl_7.open4
        obtain ⟨pxe0, pxe1, pxe2, pxe3⟩ := px_7.open2
        obtain ⟨pye0, pye1, pye2, pye3⟩ := py_7.open2
        obtain ⟨pse0, pse1, pse2, pse3⟩ := ps_3.open2
        obtain ⟨pde0, pde1, pde2, pde3⟩ := pd_1.open2
        clear ple0 ple1 ple2 ple3 ple4 ple5 ple6 ple7 pxe0 pxe1 pxe2 pxe3 pye0 pye1 pye2 pye3 pse0 pse1 pse2 pse3 pde0 pde1 pde2 pde3
        have hl3pl := pl_7.lt
        have hl3px := px_7.lt
        have hl3py := py_7.lt
        have hl3ps := ps_3.lt
        have hl3pd := pd_1.lt
        have hl3B := hB_7.size
        obtain ⟨w11, hw11, p1_0, hb11, hs11⟩ := new_box w10 (w10.heap.size) rfl [.int .u64 ((wh (X) : Nat) : Int), .int .u64 ((wl (X) : Nat) : Int)] 24
        have hb11' : Below w10.heap.size w10 w11 := hb11.mono (by omega)
        clear hb11
        have hB_8 := hB_7.trans (hb11'.mono hB_7.size)
        have pl_8 := pl_7.below hb11'
        have px_8 := px_7.below hb11'
        have py_8 := py_7.below hb11'
        have ps_4 := ps_3.below hb11'
        have pd_2 := pd_1.below hb11'
        clear hb11' hB_7 pl_7 px_7 py_7 ps_3 pd_1
        obtain ⟨ple0, ple1, ple2, ple3, ple4, ple5, ple6, ple7⟩ := pl_8.open4
        obtain ⟨pxe0, pxe1, pxe2, pxe3⟩ := px_8.open2
        obtain ⟨pye0, pye1, pye2, pye3⟩ := py_8.open2
        obtain ⟨pse0, pse1, pse2, pse3⟩ := ps_4.open2
        obtain ⟨pde0, pde1, pde2, pde3⟩ := pd_2.open2
        obtain ⟨p1e0, p1e1, p1e2, p1e3⟩ := p1_0.open2
        go_wp2_with fail
        refine (C6.out _).mono ?_
        rintro e w12 ⟨rfl, hb12⟩
        clear ple0 ple1 ple2 ple3 ple4 ple5 ple6 ple7 pxe0 pxe1 pxe2 pxe3 pye0 pye1 pye2 pye3 pse0 pse1 pse2 pse3 pde0 pde1 pde2 pde3 p1e0 p1e1 p1e2 p1e3
        have hB_9 := hB_8.trans (hb12.mono hB_8.size)
        have pl_9 := pl_8.below hb12
        have px_9 := px_8.below hb12
        have py_9 := py_8.below hb12
        have ps_5 := ps_4.below hb12
        have pd_3 := pd_2.below hb12
        have p1_1 := p1_0.below hb12
        clear hb12 hB_8 pl_8 px_8 py_8 ps_4 pd_2 p1_0
        obtain ⟨ple0, ple1, ple2, ple3, ple4, ple5, ple6, ple7⟩ := pl_9.open4
        obtain ⟨pxe0, pxe1, pxe2, pxe3⟩ := px_9.open2
        obtain ⟨pye0, pye1, pye2, pye3⟩ := py_9.open2
        obtain ⟨pse0, pse1, pse2, pse3⟩ := ps_5.open2
        obtain ⟨pde0, pde1, pde2, pde3⟩ := pd_3.open2
        obtain ⟨p1e0, p1e1, p1e2, p1e3⟩ := p1_1.open2
        clear ple0 ple1 ple2 ple3 ple4 ple5 ple6 ple7 pxe0 pxe1 pxe2 pxe3 pye0 pye1 pye2 pye3 pse0 pse1 pse2 pse3 pde0 pde1 pde2 pde3 p1e0 p1e1 p1e2 p1e3
        have hl4pl := pl_9.lt
        have hl4px := px_9.lt
        have hl4py := py_9.lt
        have hl4ps := ps_5.lt
        have hl4pd := pd_3.lt
        have hl4p1 := p1_1.lt
        have hl4B := hB_9.size
        obtain ⟨w13, hw13, pv_0, hb13, hs13⟩ := new_box w12 (w12.heap.size) rfl [.int .u64 ((wh (Y) : Nat) : Int), .int .u64 ((wl (Y) : Nat) : Int)] 24
        have hb13' : Below w12.heap.size w12 w13 := hb13.mono (by omega)
        clear hb13
        have hB_10 := hB_9.trans (hb13'.mono hB_9.size)
        have pl_10 := pl_9.below hb13'
        have px_10 := px_9.below hb13'
        have py_10 := py_9.below hb13'
        have ps_6 := ps_5.below hb13'
        have pd_4 := pd_3.below hb13'
        have p1_2 := p1_1.below hb13'
        clear hb13' hB_9 pl_9 px_9 py_9 ps_5 pd_3 p1_1
        obtain ⟨ple0, ple1, ple2, ple3, ple4, ple5, ple6, ple7⟩ := pl_10.open4
        obtain ⟨pxe0, pxe1, pxe2, pxe3⟩ := px_10.open2
        obtain ⟨pye0, pye1, pye2, pye3⟩ := py_10.open2
        obtain ⟨pse0, pse1, pse2, pse3⟩ := ps_6.open2
        obtain ⟨pde0, pde1, pde2, pde3⟩ := pd_4.open2
        obtain ⟨p1e0, p1e1, p1e2, p1e3⟩ := p1_2.open2
        obtain ⟨pve0, pve1, pve2, pve3⟩ := pv_0.open2
        go_wp2_with fail
        refine (C7.out _).mono ?_
        rintro e w14 ⟨rfl, hb14⟩
        clear ple0 ple1 ple2 ple3 ple4 ple5 ple6 ple7 pxe0 pxe1 pxe2 pxe3 pye0 pye1 pye2 pye3 pse0 pse1 pse2 pse3 pde0 pde1 pde2 pde3 p1e0 p1e1 p1e2 p1e3 pve0 pve1 pve2 pve3
        have hB_11 := hB_10.trans (hb14.mono hB_10.size)
        have pl_11 := pl_10.below hb14
        have px_11 := px_10.below hb14
        have py_11 := py_10.below hb14
        have ps_7 := ps_6.below hb14
        have pd_5 := pd_4.below hb14
        have p1_3 := p1_2.below hb14
        have pv_1 := pv_0.below hb14
        clear hb14 hB_10 pl_10 px_10 py_10 ps_6 pd_4 p1_2 pv_0
        obtain ⟨ple0, ple1, ple2, ple3, ple4, ple5, ple6, ple7⟩ := pl_11.open4
        obtain ⟨pxe0, pxe1, pxe2, pxe3⟩ := px_11.open2
        obtain ⟨pye0, pye1, pye2, pye3⟩ := py_11.open2
        obtain ⟨pse0, pse1, pse2, pse3⟩ := ps_7.open2
        obtain ⟨pde0, pde1, pde2, pde3⟩ := pd_5.open2
        obtain ⟨p1e0, p1e1, p1e2, p1e3⟩ := p1_3.open2
        obtain ⟨pve0, pve1, pve2, pve3⟩ := pv_1.open2
        clear ple0 ple1 ple2 ple3 ple4 ple5 ple6 ple7 pxe0 pxe1 pxe2 pxe3 pye0 pye1 pye2 pye3 pse0 pse1 pse2 pse3 pde0 pde1 pde2 pde3 p1e0 p1e1 p1e2 p1e3 pve0 pve1 pve2 pve3
        have hl5pl := pl_11.lt
        have hl5px := px_11.lt
        have hl5py := py_11.lt
        have hl5ps := ps_7.lt
        have hl5pd := pd_5.lt
        have hl5p1 := p1_3.lt
        have hl5pv := pv_1.lt
        have hl5B := hB_11.size
        obtain ⟨w15, hw15, pz_0, hb15, hs15⟩ := new_box w14 (w14.heap.size) rfl [.int .u64 ((wh (Z) : Nat) : Int), .int .u64 ((wl (Z) : Nat) : Int)] 24
        have hb15' : Below w14.heap.size w14 w15 := hb15.mono (by omega)
        clear hb15
        have hB_12 := hB_11.trans (hb15'.mono hB_11.size)
        have pl_12 := pl_11.below hb15'
        have px_12 := px_11.below hb15'
        have py_12 := py_11.below hb15'
        have ps_8 := ps_7.below hb15'
        have pd_6 := pd_5.below hb15'
        have p1_4 := p1_3.below hb15'
        have pv_2 := pv_1.below hb15'
        clear hb15' hB_11 pl_11 px_11 py_11 ps_7 pd_5 p1_3 pv_1
        obtain ⟨ple0, ple1, ple2, ple3, ple4, ple5, ple6, ple7⟩ := pl_12.open4
        obtain ⟨pxe0, pxe1, pxe2, pxe3⟩ := px_12.open2
        obtain ⟨pye0, pye1, pye2, pye3⟩ := py_12.open2
        obtain ⟨pse0, pse1, pse2, pse3⟩ := ps_8.open2
        obtain ⟨pde0, pde1, pde2, pde3⟩ := pd_6.open2
        obtain ⟨p1e0, p1e1, p1e2, p1e3⟩ := p1_4.open2
        obtain ⟨pve0, pve1, pve2, pve3⟩ := pv_2.open2
        obtain ⟨pze0, pze1, pze2, pze3⟩ := pz_0.open2
        go_wp2_with fail
        refine (C8.out _).mono ?_
        rintro e w16 ⟨rfl, hb16⟩
        clear ple0 ple1 ple2 ple3 ple4 ple5 ple6 ple7 pxe0 pxe1 pxe2 pxe3 pye0 pye1 pye2 pye3 pse0 pse1 pse2 pse3 pde0 pde1 pde2 pde3 p1e0 p1e1 p1e2 p1e3 pve0 pve1 pve2 pve3 pze0 pze1 pze2 pze3
        have hB_13 := hB_12.trans (hb16.mono hB_12.size)
        have pl_13 := pl_12.below hb16
        have px_13 := px_12.below hb16
        have py_13 := py_12.below hb16
        have ps_9 := ps_8.below hb16
        have pd_7 := pd_6.below hb16
        have p1_5 := p1_4.below hb16
        have pv_3 := pv_2.below hb16
        have pz_1 := pz_0.below hb16
        clear hb16 hB_12 pl_12 px_12 py_12 ps_8 pd_6 p1_4 pv_2 pz_0
        obtain ⟨ple0, ple1, ple2, ple3, ple4, ple5, ple6, ple7⟩ := pl_13.open4
        obtain ⟨pxe0, pxe1, pxe2, pxe3⟩ := px_13.open2
        obtain ⟨pye0, pye1, pye2, pye3⟩ := py_13.open2
        obtain ⟨pse0, pse1, pse2, pse3⟩ := ps_9.open2
        obtain ⟨pde0, pde1, pde2, pde3⟩ := pd_7.open2
        obtain ⟨p1e0, p1e1, p1e2, p1e3⟩ := p1_5.open2
        obtain ⟨pve0, pve1, pve2, pve3⟩ := pv_3.open2
        obtain ⟨pze0, pze1, pze2, pze3⟩ := pz_1.open2
        clear ple0 ple1 ple2 ple3 ple4 ple5 ple6 ple7 pxe0 pxe1 pxe2 pxe3 pye0 pye1 pye2 pye3 pse0 pse1 pse2 pse3 pde0 pde1 pde2 pde3 p1e0 p1e1 p1e2 p1e3 pve0 pve1 pve2 pve3 pze0 pze1 pze2 pze3
        have hl6pl := pl_13.lt
        have hl6px := px_13.lt
        have hl6py := py_13.lt
        have hl6ps := ps_9.lt
        have hl6pd := pd_7.lt
        have hl6p1 := p1_5.lt
        have hl6pv := pv_3.lt
        have hl6pz := pz_1.lt
        have hl6B := hB_13.size
        obtain ⟨w17, hw17, p4_0, hb17, hs17⟩ := new_box w16 (w16.heap.size) rfl [.int .u64 ((wh (X) : Nat) : Int), .int .u64 ((wl (X) : Nat) : Int)] 24
        have hb17' : Below w16.heap.size w16 w17 := hb17.mono (by omega)
        clear hb17
        have hB_14 := hB_13.trans (hb17'.mono hB_13.size)
        have pl_14 := pl_13.below hb17'
        have px_14 := px_13.below hb17'
        have py_14 := py_13.below hb17'
        have ps_10 := ps_9.below hb17'
        have pd_8 := pd_7.below hb17'
        have p1_6 := p1_5.below hb17'
        have pv_4 := pv_3.below hb17'
        have pz_2 := pz_1.below hb17'
        clear hb17' hB_13 pl_13 px_13 py_13 ps_9 pd_7 p1_5 pv_3 pz_1
        obtain ⟨ple0, ple1, ple2, ple3, ple4, ple5, ple6, ple7⟩ := pl_14.open4
        obtain ⟨pxe0, pxe1, pxe2, pxe3⟩ := px_14.open2
        obtain ⟨pye0, pye1, pye2, pye3⟩ := py_14.open2
        obtain ⟨pse0, pse1, pse2, pse3⟩ := ps_10.open2
        obtain ⟨pde0, pde1, pde2, pde3⟩ := pd_8.open2
        obtain ⟨p1e0, p1e1, p1e2, p1e3⟩ := p1_6.open2
        obtain ⟨pve0, pve1, pve2, pve3⟩ := pv_4.open2
        obtain ⟨pze0, pze1, pze2, pze3⟩ := pz_2.open2
        obtain ⟨p4e0, p4e1, p4e2, p4e3⟩ := p4_0.open2
        go_wp2_with fail
        refine (C9.out _).mono ?_
        rintro e w18 ⟨rfl, hb18⟩
        clear ple0 ple1 ple2 ple3 ple4 ple5 ple6 ple7 pxe0 pxe1 pxe2 pxe3 pye0 pye1 pye2 pye3 pse0 pse1 pse2 pse3 pde0 pde1 pde2 pde3 p1e0 p1e1 p1e2 p1e3 pve0 pve1 pve2 pve3 pze0 pze1 pze2 pze3 p4e0 p4e1 p4e2 p4e3
        have hB_15 := hB_14.trans (hb18.mono hB_14.size)
        have pl_15 := pl_14.below hb18
        have px_15 := px_14.below hb18
        have py_15 := py_14.below hb18
        have ps_11 := ps_10.below hb18
        have pd_9 := pd_8.below hb18
        have p1_7 := p1_6.below hb18
        have pv_5 := pv_4.below hb18
        have pz_3 := pz_2.below hb18
        have p4_1 := p4_0.below hb18
        clear hb18 hB_14 pl_14 px_14 py_14 ps_10 pd_8 p1_6 pv_4 pz_2 p4_0
        obtain ⟨ple0, ple1, ple2, ple3, ple4, ple5, ple6, ple7⟩ := pl_15.open4
        obtain ⟨pxe0, pxe1, pxe2, pxe3⟩ := px_15.open2
        obtain ⟨pye0, pye1, pye2, pye3⟩ := py_15.open2
        obtain ⟨pse0, pse1, pse2, pse3⟩ := ps_11.open2
        obtain ⟨pde0, pde1, pde2, pde3⟩ := pd_9.open2
        obtain ⟨p1e0, p1e1, p1e2, p1e3⟩ := p1_7.open2
        obtain ⟨pve0, pve1, pve2, pve3⟩ := pv_5.open2
        obtain ⟨pze0, pze1, pze2, pze3⟩ := pz_3.open2
        obtain ⟨p4e0, p4e1, p4e2, p4e3⟩ := p4_1.open2
        go_wp2_with fail
        refine (C10.out _).mono ?_
        rintro e w19 ⟨rfl, hb19⟩
        clear ple0 ple1 ple2 ple3 ple4 ple5 ple6 ple7 pxe0 pxe1 pxe2 pxe3 pye0 pye1 pye2 pye3 pse0 pse1 pse2 pse3 pde0 pde1 pde2 pde3 p1e0 p1e1 p1e2 p1e3 pve0 pve1 pve2 pve3 pze0 pze1 pze2 pze3 p4e0 p4e1 p4e2 p4e3
        have hB_16 := hB_15.trans (hb19.mono hB_15.size)
        have pl_16 := pl_15.below hb19
        have px_16 := px_15.below hb19
        have py_16 := py_15.below hb19
        have ps_12 := ps_11.below hb19
        have pd_10 := pd_9.below hb19
        have p1_8 := p1_7.below hb19
        have pv_6 := pv_5.below hb19
        have pz_4 := pz_3.below hb19
        have p4_2 := p4_1.below hb19
        clear hb19 hB_15 pl_15 px_15 py_15 ps_11 pd_9 p1_7 pv_5 pz_3 p4_1
        obtain ⟨ple0, ple1, ple2, ple3, ple4, ple5, ple6, ple7⟩ := pl_16.open4
        obtain ⟨pxe0, pxe1, pxe2, pxe3⟩ := px_16.open2
        obtain ⟨pye0, pye1, pye2, pye3⟩ := py_16.open2
        obtain ⟨pse0, pse1, pse2, pse3⟩ := ps_12.open2
        obtain ⟨pde0, pde1, pde2, pde3⟩ := pd_10.open2
        obtain ⟨p1e0, p1e1, p1e2, p1e3⟩ := p1_8.open2
        obtain ⟨pve0, pve1, pve2, pve3⟩ := pv_6.open2
        obtain ⟨pze0, pze1, pze2, pze3⟩ := pz_4.open2
        obtain ⟨p4e0, p4e1, p4e2, p4e3⟩ := p4_2.open2
        clear ple0 ple1 ple2 ple3 ple4 ple5 ple6 ple7 pxe0 pxe1 pxe2 pxe3 pye0 pye1 pye2 pye3 pse0 pse1 pse2 pse3 pde0 pde1 pde2 pde3 p1e0 p1e1 p1e2 p1e3 pve0 pve1 pve2 pve3 pze0 pze1 pze2 pze3 p4e0 p4e1 p4e2 p4e3
        have hl7pl := pl_16.lt
        have hl7px := px_16.lt
        have hl7py := py_16.lt
        have hl7ps := ps_12.lt
        have hl7pd := pd_10.lt
        have hl7p1 := p1_8.lt
        have hl7pv := pv_6.lt
        have hl7pz := pz_4.lt
        have hl7p4 := p4_2.lt
        have hl7B := hB_16.size
        obtain ⟨w20, hw20, p5_0, hb20, hs20⟩ := new_box w19 (w19.heap.size) rfl [.int .u64 ((wh (E) : Nat) : Int), .int .u64 ((wl (E) : Nat) : Int)] 24
        have hb20' : Below w19.heap.size w19 w20 := hb20.mono (by omega)
        clear hb20
        have hB_17 := hB_16.trans (hb20'.mono hB_16.size)
        have pl_17 := pl_16.below hb20'
        have px_17 := px_16.below hb20'
        have py_17 := py_16.below hb20'
        have ps_13 := ps_12.below hb20'
        have pd_11 := pd_10.below hb20'
        have p1_9 := p1_8.below hb20'
        have pv_7 := pv_6.below hb20'
        have pz_5 := pz_4.below hb20'
        have p4_3 := p4_2.below hb20'
        clear hb20' hB_16 pl_16 px_16 py_16 ps_12 pd_10 p1_8 pv_6 pz_4 p4_2
        obtain ⟨ple0, ple1, ple2, ple3, ple4, ple5, ple6, ple7⟩ := pl_17.open4
        obtain ⟨pxe0, pxe1, pxe2, pxe3⟩ := px_17.open2
        obtain ⟨pye0, pye1, pye2, pye3⟩ := py_17.open2
        obtain ⟨pse0, pse1, pse2, pse3⟩ := ps_13.open2
        obtain ⟨pde0, pde1, pde2, pde3⟩ := pd_11.open2
        obtain ⟨p1e0, p1e1, p1e2, p1e3⟩ := p1_9.open2
        obtain ⟨pve0, pve1, pve2, pve3⟩ := pv_7.open2
        obtain ⟨pze0, pze1, pze2, pze3⟩ := pz_5.open2
        obtain ⟨p4e0, p4e1, p4e2, p4e3⟩ := p4_3.open2
        obtain ⟨p5e0, p5e1, p5e2, p5e3⟩ := p5_0.open2
        go_wp2
        clear ple0 ple1 ple2 ple3 ple4 ple5 ple6 ple7 pxe0 pxe1 pxe2 pxe3 pye0 pye1 pye2 pye3 pse0 pse1 pse2 pse3 pde0 pde1 pde2 pde3 p1e0 p1e1 p1e2 p1e3 pve0 pve1 pve2 pve3 pze0 pze1 pze2 pze3 p4e0 p4e1 p4e2 p4e3 p5e0 p5e1 p5e2 p5e3
        have hB_18 := hB_17.drew'
        have pl_18 := pl_17.drew
        have px_18 := px_17.drew
        have py_18 := py_17.drew
        have ps_14 := ps_13.drew
        have pd_12 := pd_11.drew
        have p1_10 := p1_9.drew
        have pv_8 := pv_7.drew
        have pz_6 := pz_5.drew
        have p4_4 := p4_3.drew
        have p5_1 := p5_0.drew
        clear hB_17 pl_17 px_17 py_17 ps_13 pd_11 p1_9 pv_7 pz_5 p4_3 p5_0
        go_region_held3 (fun w' => w'.cell? ⟨w16.heap.size, 0, none⟩ = some (.int .u64 ((wh (X) : Nat) : Int)) ∧ w'.cell? ⟨w16.heap.size, 1, none⟩ = some (.int .u64 ((wl (X) : Nat) : Int)) ∧ w'.cell? ⟨w10.heap.size, 0, none⟩ = some (.int .u64 ((wh (X) : Nat) : Int)) ∧ w'.cell? ⟨w10.heap.size, 1, none⟩ = some (.int .u64 ((wl (X) : Nat) : Int)) ∧ w'.cell? ⟨w19.heap.size, 0, none⟩ = some (.int .u64 ((wh (E) : Nat) : Int)) ∧ w'.cell? ⟨w19.heap.size, 1, none⟩ = some (.int .u64 ((wl (E) : Nat) : Int)) ∧ w'.cell? ⟨w.heap.size, 0, none⟩ = some (.int .i64 p) ∧ w'.cell? ⟨w.heap.size, 1, none⟩ = some (.int .i64 q) ∧ w'.cell? ⟨w.heap.size, 2, none⟩ = some (.int .i64 r) ∧ w'.cell? ⟨w.heap.size, 3, none⟩ = some (.int .i64 s))
          (first | with_reducible exact ⟨p4_4.c0, p4_4.c1, p1_10.c0, p1_10.c1, p5_1.c0, p5_1.c1, pl_18.c0, pl_18.c1, pl_18.c2, pl_18.c3⟩ | with_reducible exact ⟨p4_5.c0, p4_5.c1, p1_11.c0, p1_11.c1, p5_2.c0, p5_2.c1, pl_19.c0, pl_19.c1, pl_19.c2, pl_19.c3⟩ | with_reducible exact ⟨p4_6.c0, p4_6.c1, p1_12.c0, p1_12.c1, p5_3.c0, p5_3.c1, pl_20.c0, pl_20.c1, pl_20.c2, pl_20.c3⟩ | with_reducible exact ⟨p4_7.c0, p4_7.c1, p1_13.c0, p1_13.c1, p5_4.c0, p5_4.c1, pl_21.c0, pl_21.c1, pl_21.c2, pl_21.c3⟩ | fail)
          (first
            | (go_at_call 28; (with_reducible refine (C11.out _).mono ?_); rintro e w21 ⟨rfl, hb21⟩; have hB_19 := hB_18.trans (hb21.mono hB_18.size); have pl_19 := pl_18.below hb21; have px_19 := px_18.below hb21; have py_19 := py_18.below hb21; have ps_15 := ps_14.below hb21; have pd_13 := pd_12.below hb21; have p1_11 := p1_10.below hb21; have pv_9 := pv_8.below hb21; have pz_7 := pz_6.below hb21; have p4_5 := p4_4.below hb21; have p5_2 := p5_1.below hb21; clear hb21 hB_18 pl_18 px_18 py_18 ps_14 pd_12 p1_10 pv_8 pz_6 p4_4 p5_1)
            | (go_at_call 28; (with_reducible refine (C12.out _).mono ?_); rintro e w22 ⟨rfl, hb22⟩; have hB_20 := hB_19.trans (hb22.mono hB_19.size); have pl_20 := pl_19.below hb22; have px_20 := px_19.below hb22; have py_20 := py_19.below hb22; have ps_16 := ps_15.below hb22; have pd_14 := pd_13.below hb22; have p1_12 := p1_11.below hb22; have pv_10 := pv_9.below hb22; have pz_8 := pz_7.below hb22; have p4_6 := p4_5.below hb22; have p5_3 := p5_2.below hb22; clear hb22 hB_19 pl_19 px_19 py_19 ps_15 pd_13 p1_11 pv_9 pz_7 p4_5 p5_2)
            | (go_at_call 26; (with_reducible refine (C13.out _).mono ?_); rintro e w23 ⟨rfl, hb23⟩; have hB_21 := hB_20.trans (hb23.mono hB_20.size); have pl_21 := pl_20.below hb23; have px_21 := px_20.below hb23; have py_21 := py_20.below hb23; have ps_17 := ps_16.below hb23; have pd_15 := pd_14.below hb23; have p1_13 := p1_12.below hb23; have pv_11 := pv_10.below hb23; have pz_9 := pz_8.below hb23; have p4_7 := p4_6.below hb23; have p5_4 := p5_3.below hb23; clear hb23 hB_20 pl_20 px_20 py_20 ps_16 pd_14 p1_12 pv_10 pz_8 p4_6 p5_3))
        go_wp2
        go_ret
        exact ⟨rfl, hB_21⟩
      simp only [HAq.out, Act.put, List.setIfInBounds_toArray, List.set_cons_zero, List.set_cons_succ] at stq_2tt
      have stq_2tf : ∀ (w' : World) (gpx : Nat), Below w.heap.size w w' → Box w' (w.heap.size) [.int .i64 p, .int .i64 q, .int .i64 r, .int .i64 s] → Below wr.heap.size wr w' → Box w' gpx [.int .u64 0, .int .u64 0] → wr.heap.size ≤ gpx → WWq 3 #[true, true, true, true, true, true, true, true, true, true, true, true, false, false, false] (((aq.put (some 40) (.agg #[.int .u64 ((wh (A) : Nat) : Int), .int .u64 ((wl (A) : Nat) : Int)])).put (some 46) (.agg #[.int .u64 ((wh (V) : Nat) : Int), .int .u64 ((wl (V) : Nat) : Int)])).put (some 6) (.pointer (some ⟨gpx, 0, none⟩))) w' := by
        intro w24 gpx hB_0 pl_0 hWq_0 px_0 hgpx
        rw [HWq.out, HAq.out]
        try simp only [Act.put]
        try simp only [List.setIfInBounds_toArray, List.set_cons_zero, List.set_cons_succ]
        refine reg_all1 12 ?_ (by kernel_rfl) ?_ (fun K hK => ?_)
        rotate_left 1
        · simp only [List.getElem?_toArray, List.getElem?_cons_succ, List.getElem?_cons_zero]; exact rfl
        · go_simp
          have hgn : wr.heap.size ≤ w24.heap.size := hWq_0.size
          have hlpx := px_0.lt
          obtain ⟨w25, hww25, py_0, hb25, -⟩ := new_box w24 _ rfl [.int .u64 0, .int .u64 0] 24
          rw [hww25]
          have hB_1 := hB_0.trans (hb25.mono hB_0.size)
          have pl_1 := pl_0.below hb25
          have hWq_1 := hWq_0.trans (hb25.mono hWq_0.size)
          have px_1 := px_0.below hb25
          clear hb25 hB_0 pl_0 hWq_0 px_0
          refine hK.out _ _ ⟨pl_1.c0, pl_1.c1, pl_1.c2, pl_1.c3⟩ (fun hHeld => ?_)
          clear hK K
          try simp only [Act.put]
          try simp only [List.setIfInBounds_toArray, List.set_cons_zero, List.set_cons_succ]
          rw [← HWq.out]
          exact stq_2tt _ gpx w24.heap.size hB_1 pl_1 hWq_1 px_1 py_0 (by omega) (by omega) (by omega)
      try simp only [HAq.out, Act.put, List.setIfInBounds_toArray, List.set_cons_zero, List.set_cons_succ] at stq_2tf
      have stq_2ft : ∀ (w' : World) (gpy : Nat), Below w.heap.size w w' → Box w' (w.heap.size) [.int .i64 p, .int .i64 q, .int .i64 r, .int .i64 s] → Below wr.heap.size wr w' → Box w' gpy [.int .u64 0, .int .u64 0] → wr.heap.size ≤ gpy → WWq 3 #[true, true, true, true, true, true, true, true, true, true, true, false, true, false, false] (((aq.put (some 40) (.agg #[.int .u64 ((wh (A) : Nat) : Int), .int .u64 ((wl (A) : Nat) : Int)])).put (some 46) (.agg #[.int .u64 ((wh (V) : Nat) : Int), .int .u64 ((wl (V) : Nat) : Int)])).put (some 7) (.pointer (some ⟨gpy, 0, none⟩))) w' := by
        intro w26 gpy hB_0 pl_0 hWq_0 py_0 hgpy
        rw [HWq.out, HAq.out]
        try simp only [Act.put]
        try simp only [List.setIfInBounds_toArray, List.set_cons_zero, List.set_cons_succ]
        refine reg_all1 11 ?_ (by kernel_rfl) ?_ (fun K hK => ?_)
        rotate_left 1
        · simp only [List.getElem?_toArray, List.getElem?_cons_succ, List.getElem?_cons_zero]; exact rfl
        · go_simp
          have hgn : wr.heap.size ≤ w26.heap.size := hWq_0.size
          have hlpy := py_0.lt
          obtain ⟨w27, hww27, px_0, hb27, -⟩ := new_box w26 _ rfl [.int .u64 0, .int .u64 0] 24
          rw [hww27]
          have hB_1 := hB_0.trans (hb27.mono hB_0.size)
          have pl_1 := pl_0.below hb27
          have hWq_1 := hWq_0.trans (hb27.mono hWq_0.size)
          have py_1 := py_0.below hb27
          clear hb27 hB_0 pl_0 hWq_0 py_0
          refine hK.out _ _ ⟨pl_1.c0, pl_1.c1, pl_1.c2, pl_1.c3⟩ (fun hHeld => ?_)
          clear hK K
          try simp only [Act.put]
          try simp only [List.setIfInBounds_toArray, List.set_cons_zero, List.set_cons_succ]
          rw [← HWq.out]
          exact stq_2tt _ w26.heap.size gpy hB_1 pl_1 hWq_1 px_0 py_1 (by omega) (by omega) (by omega)
      try simp only [HAq.out, Act.put, List.setIfInBounds_toArray, List.set_cons_zero, List.set_cons_succ] at stq_2ft
      have stq_1tt : ∀ (w' : World) (gpx : Nat) (gpy : Nat), Below w.heap.size w w' → Box w' (w.heap.size) [.int .i64 p, .int .i64 q, .int .i64 r, .int .i64 s] → Below wr.heap.size wr w' → Box w' gpx [.int .u64 0, .int .u64 0] → Box w' gpy [.int .u64 0, .int .u64 0] → wr.heap.size ≤ gpx → wr.heap.size ≤ gpy → gpx ≠ gpy → WWq 3 #[true, true, true, true, true, true, true, true, true, true, false, true, true, false, false] (((aq.put (some 40) (.agg #[.int .u64 ((wh (A) : Nat) : Int), .int .u64 ((wl (A) : Nat) : Int)])).put (some 6) (.pointer (some ⟨gpx, 0, none⟩))).put (some 7) (.pointer (some ⟨gpy, 0, none⟩))) w' := by
        intro w28 gpx gpy hB_0 pl_0 hWq_0 px_0 py_0 hgpx hgpy hnpxpy
        rw [HWq.out, HAq.out]
        try simp only [Act.put]
        try simp only [List.setIfInBounds_toArray, List.set_cons_zero, List.set_cons_succ]
        refine reg_all1 10 ?_ (by kernel_rfl) ?_ (fun K hK => ?_)
        rotate_left 1
        · simp only [List.getElem?_toArray, List.getElem?_cons_succ, List.getElem?_cons_zero]; exact rfl
        · go_simp
          refine (C2.out _).mono ?_
          rintro e w29 ⟨rfl, hb29⟩
          have hB_1 := hB_0.trans (hb29.mono hB_0.size)
          have pl_1 := pl_0.below hb29
          have hWq_1 := hWq_0.trans (hb29.mono hWq_0.size)
          have px_1 := px_0.below hb29
          have py_1 := py_0.below hb29
          clear hb29 hB_0 pl_0 hWq_0 px_0 py_0
          go_wp2_with fail
          refine hK.out _ _ ⟨pl_1.c0, pl_1.c1, pl_1.c2, pl_1.c3⟩ (fun hHeld => ?_)
          clear hK K
          try simp only [Act.put]
          try simp only [List.setIfInBounds_toArray, List.set_cons_zero, List.set_cons_succ]
          rw [← HWq.out]
          exact stq_2tt _ gpx gpy hB_1 pl_1 hWq_1 px_1 py_1 (by omega) (by omega) (by omega)
      try simp only [HAq.out, Act.put, List.setIfInBounds_toArray, List.set_cons_zero, List.set_cons_succ] at stq_1tt
      have stq_2ff : ∀ (w' : World), Below w.heap.size w w' → Box w' (w.heap.size) [.int .i64 p, .int .i64 q, .int .i64 r, .int .i64 s] → Below wr.heap.size wr w' → WWq 4 #[true, true, true, true, true, true, true, true, true, true, true, false, false, false, false] ((aq.put (some 40) (.agg #[.int .u64 ((wh (A) : Nat) : Int), .int .u64 ((wl (A) : Nat) : Int)])).put (some 46) (.agg #[.int .u64 ((wh (V) : Nat) : Int), .int .u64 ((wl (V) : Nat) : Int)])) w' := by
        intro w30 hB_0 pl_0 hWq_0
        rw [HWq.out, HAq.out]
        try simp only [Act.put]
        try simp only [List.setIfInBounds_toArray, List.set_cons_zero, List.set_cons_succ]
        refine reg_all2 11 12 ?_ ?_ (by kernel_rfl) ?_ ?_ (fun K hK => ?_) (fun K hK => ?_)
        rotate_left 2
        · simp only [List.getElem?_toArray, List.getElem?_cons_succ, List.getElem?_cons_zero]; exact rfl
        · simp only [List.getElem?_toArray, List.getElem?_cons_succ, List.getElem?_cons_zero]; exact rfl
        · go_simp
          have hgn : wr.heap.size ≤ w30.heap.size := hWq_0.size
          obtain ⟨w31, hww31, px_0, hb31, -⟩ := new_box w30 _ rfl [.int .u64 0, .int .u64 0] 24
          rw [hww31]
          have hB_1 := hB_0.trans (hb31.mono hB_0.size)
          have pl_1 := pl_0.below hb31
          have hWq_1 := hWq_0.trans (hb31.mono hWq_0.size)
          clear hb31 hB_0 pl_0 hWq_0
          refine hK.out _ _ ⟨pl_1.c0, pl_1.c1, pl_1.c2, pl_1.c3⟩ (fun hHeld => ?_)
          clear hK K
          try simp only [Act.put]
          try simp only [List.setIfInBounds_toArray, List.set_cons_zero, List.set_cons_succ]
          rw [← HWq.out]
          exact stq_2tf _ w30.heap.size hB_1 pl_1 hWq_1 px_0 (by omega)
        · go_simp
          have hgn : wr.heap.size ≤ w30.heap.size := hWq_0.size
          obtain ⟨w32, hww32, py_0, hb32, -⟩ := new_box w30 _ rfl [.int .u64 0, .int .u64 0] 24
          rw [hww32]
          have hB_1 := hB_0.trans (hb32.mono hB_0.size)
          have pl_1 := pl_0.below hb32
          have hWq_1 := hWq_0.trans (hb32.mono hWq_0.size)
          clear hb32 hB_0 pl_0 hWq_0
          refine hK.out _ _ ⟨pl_1.c0, pl_1.c1, pl_1.c2, pl_1.c3⟩ (fun hHeld => ?_)
          clear hK K
          try simp only [Act.put]
          try simp only [List.setIfInBounds_toArray, List.set_cons_zero, List.set_cons_succ]
          rw [← HWq.out]
          exact stq_2ft _ w30.heap.size hB_1 pl_1 hWq_1 py_0 (by omega)
      try simp only [HAq.out, Act.put, List.setIfInBounds_toArray, List.set_cons_zero, List.set_cons_succ] at stq_2ff
      have stq_1tf : ∀ (w' : World) (gpx : Nat), Below w.heap.size w w' → Box w' (w.heap.size) [.int .i64 p, .int .i64 q, .int .i64 r, .int .i64 s] → Below wr.heap.size wr w' → Box w' gpx [.int .u64 0, .int .u64 0] → wr.heap.size ≤ gpx → WWq 4 #[true, true, true, true, true, true, true, true, true, true, false, true, false, false, false] ((aq.put (some 40) (.agg #[.int .u64 ((wh (A) : Nat) : Int), .int .u64 ((wl (A) : Nat) : Int)])).put (some 6) (.pointer (some ⟨gpx, 0, none⟩))) w' := by
        intro w33 gpx hB_0 pl_0 hWq_0 px_0 hgpx
        rw [HWq.out, HAq.out]
        try simp only [Act.put]
        try simp only [List.setIfInBounds_toArray, List.set_cons_zero, List.set_cons_succ]
        refine reg_all2 10 12 ?_ ?_ (by kernel_rfl) ?_ ?_ (fun K hK => ?_) (fun K hK => ?_)
        rotate_left 2
        · simp only [List.getElem?_toArray, List.getElem?_cons_succ, List.getElem?_cons_zero]; exact rfl
        · simp only [List.getElem?_toArray, List.getElem?_cons_succ, List.getElem?_cons_zero]; exact rfl
        · go_simp
          refine (C2.out _).mono ?_
          rintro e w34 ⟨rfl, hb34⟩
          have hB_1 := hB_0.trans (hb34.mono hB_0.size)
          have pl_1 := pl_0.below hb34
          have hWq_1 := hWq_0.trans (hb34.mono hWq_0.size)
          have px_1 := px_0.below hb34
          clear hb34 hB_0 pl_0 hWq_0 px_0
          go_wp2_with fail
          refine hK.out _ _ ⟨pl_1.c0, pl_1.c1, pl_1.c2, pl_1.c3⟩ (fun hHeld => ?_)
          clear hK K
          try simp only [Act.put]
          try simp only [List.setIfInBounds_toArray, List.set_cons_zero, List.set_cons_succ]
          rw [← HWq.out]
          exact stq_2tf _ gpx hB_1 pl_1 hWq_1 px_1 (by omega)
        · go_simp
          have hgn : wr.heap.size ≤ w33.heap.size := hWq_0.size
          have hlpx := px_0.lt
          obtain ⟨w35, hww35, py_0, hb35, -⟩ := new_box w33 _ rfl [.int .u64 0, .int .u64 0] 24
          rw [hww35]
          have hB_1 := hB_0.trans (hb35.mono hB_0.size)
          have pl_1 := pl_0.below hb35
          have hWq_1 := hWq_0.trans (hb35.mono hWq_0.size)
          have px_1 := px_0.below hb35
          clear hb35 hB_0 pl_0 hWq_0 px_0
          refine hK.out _ _ ⟨pl_1.c0, pl_1.c1, pl_1.c2, pl_1.c3⟩ (fun hHeld => ?_)
          clear hK K
          try simp only [Act.put]
          try simp only [List.setIfInBounds_toArray, List.set_cons_zero, List.set_cons_succ]
          rw [← HWq.out]
          exact stq_1tt _ gpx w33.heap.size hB_1 pl_1 hWq_1 px_1 py_0 (by omega) (by omega) (by omega)
      try simp only [HAq.out, Act.put, List.setIfInBounds_toArray, List.set_cons_zero, List.set_cons_succ] at stq_1tf
      have stq_1ft : ∀ (w' : World) (gpy : Nat), Below w.heap.size w w' → Box w' (w.heap.size) [.int .i64 p, .int .i64 q, .int .i64 r, .int .i64 s] → Below wr.heap.size wr w' → Box w' gpy [.int .u64 0, .int .u64 0] → wr.heap.size ≤ gpy → WWq 4 #[true, true, true, true, true, true, true, true, true, true, false, false, true, false, false] ((aq.put (some 40) (.agg #[.int .u64 ((wh (A) : Nat) : Int), .int .u64 ((wl (A) : Nat) : Int)])).put (some 7) (.pointer (some ⟨gpy, 0, none⟩))) w' := by
        intro w36 gpy hB_0 pl_0 hWq_0 py_0 hgpy
        rw [HWq.out, HAq.out]
        try simp only [Act.put]
        try simp only [List.setIfInBounds_toArray, List.set_cons_zero, List.set_cons_succ]
        refine reg_all2 10 11 ?_ ?_ (by kernel_rfl) ?_ ?_ (fun K hK => ?_) (fun K hK => ?_)
        rotate_left 2
        · simp only [List.getElem?_toArray, List.getElem?_cons_succ, List.getElem?_cons_zero]; exact rfl
        · simp only [List.getElem?_toArray, List.getElem?_cons_succ, List.getElem?_cons_zero]; exact rfl
        · go_simp
          refine (C2.out _).mono ?_
          rintro e w37 ⟨rfl, hb37⟩
          have hB_1 := hB_0.trans (hb37.mono hB_0.size)
          have pl_1 := pl_0.below hb37
          have hWq_1 := hWq_0.trans (hb37.mono hWq_0.size)
          have py_1 := py_0.below hb37
          clear hb37 hB_0 pl_0 hWq_0 py_0
          go_wp2_with fail
          refine hK.out _ _ ⟨pl_1.c0, pl_1.c1, pl_1.c2, pl_1.c3⟩ (fun hHeld => ?_)
          clear hK K
          try simp only [Act.put]
          try simp only [List.setIfInBounds_toArray, List.set_cons_zero, List.set_cons_succ]
          rw [← HWq.out]
          exact stq_2ft _ gpy hB_1 pl_1 hWq_1 py_1 (by omega)
        · go_simp
          have hgn : wr.heap.size ≤ w36.heap.size := hWq_0.size
          have hlpy := py_0.lt
          obtain ⟨w38, hww38, px_0, hb38, -⟩ := new_box w36 _ rfl [.int .u64 0, .int .u64 0] 24
          rw [hww38]
          have hB_1 := hB_0.trans (hb38.mono hB_0.size)
          have pl_1 := pl_0.below hb38
          have hWq_1 := hWq_0.trans (hb38.mono hWq_0.size)
          have py_1 := py_0.below hb38
          clear hb38 hB_0 pl_0 hWq_0 py_0
          refine hK.out _ _ ⟨pl_1.c0, pl_1.c1, pl_1.c2, pl_1.c3⟩ (fun hHeld => ?_)
          clear hK K
          try simp only [Act.put]
          try simp only [List.setIfInBounds_toArray, List.set_cons_zero, List.set_cons_succ]
          rw [← HWq.out]
          exact stq_1tt _ w36.heap.size gpy hB_1 pl_1 hWq_1 px_0 py_1 (by omega) (by omega) (by omega)
      try simp only [HAq.out, Act.put, List.setIfInBounds_toArray, List.set_cons_zero, List.set_cons_succ] at stq_1ft
      have stq_0tt : ∀ (w' : World) (gpx : Nat) (gpy : Nat), Below w.heap.size w w' → Box w' (w.heap.size) [.int .i64 p, .int .i64 q, .int .i64 r, .int .i64 s] → Below wr.heap.size wr w' → Box w' gpx [.int .u64 0, .int .u64 0] → Box w' gpy [.int .u64 0, .int .u64 0] → wr.heap.size ≤ gpx → wr.heap.size ≤ gpy → gpx ≠ gpy → WWq 4 #[true, true, true, true, false, true, true, true, true, true, false, true, true, false, false] ((aq.put (some 6) (.pointer (some ⟨gpx, 0, none⟩))).put (some 7) (.pointer (some ⟨gpy, 0, none⟩))) w' := by
        intro w39 gpx gpy hB_0 pl_0 hWq_0 px_0 py_0 hgpx hgpy hnpxpy
        rw [HWq.out, HAq.out]
        try simp only [Act.put]
        try simp only [List.setIfInBounds_toArray, List.set_cons_zero, List.set_cons_succ]
        refine reg_all1 4 ?_ (by kernel_rfl) ?_ (fun K hK => ?_)
        rotate_left 1
        · simp only [List.getElem?_toArray, List.getElem?_cons_succ, List.getElem?_cons_zero]; exact rfl
        · go_simp
          refine (C1.out _).mono ?_
          rintro e w40 ⟨rfl, hb40⟩
          have hB_1 := hB_0.trans (hb40.mono hB_0.size)
          have pl_1 := pl_0.below hb40
          have hWq_1 := hWq_0.trans (hb40.mono hWq_0.size)
          have px_1 := px_0.below hb40
          have py_1 := py_0.below hb40
          clear hb40 hB_0 pl_0 hWq_0 px_0 py_0
          go_wp2_with fail
          refine hK.out _ _ ⟨pl_1.c0, pl_1.c1, pl_1.c2, pl_1.c3⟩ (fun hHeld => ?_)
          clear hK K
          try simp only [Act.put]
          try simp only [List.setIfInBounds_toArray, List.set_cons_zero, List.set_cons_succ]
          rw [← HWq.out]
          exact stq_1tt _ gpx gpy hB_1 pl_1 hWq_1 px_1 py_1 (by omega) (by omega) (by omega)
      try simp only [HAq.out, Act.put, List.setIfInBounds_toArray, List.set_cons_zero, List.set_cons_succ] at stq_0tt
      have stq_1ff : ∀ (w' : World), Below w.heap.size w w' → Box w' (w.heap.size) [.int .i64 p, .int .i64 q, .int .i64 r, .int .i64 s] → Below wr.heap.size wr w' → WWq 5 #[true, true, true, true, true, true, true, true, true, true, false, false, false, false, false] (aq.put (some 40) (.agg #[.int .u64 ((wh (A) : Nat) : Int), .int .u64 ((wl (A) : Nat) : Int)])) w' := by
        intro w41 hB_0 pl_0 hWq_0
        rw [HWq.out, HAq.out]
        try simp only [Act.put]
        try simp only [List.setIfInBounds_toArray, List.set_cons_zero, List.set_cons_succ]
        refine reg_all3 10 11 12 ?_ ?_ ?_ (by kernel_rfl) ?_ ?_ ?_ (fun K hK => ?_) (fun K hK => ?_) (fun K hK => ?_)
        rotate_left 3
        · simp only [List.getElem?_toArray, List.getElem?_cons_succ, List.getElem?_cons_zero]; exact rfl
        · simp only [List.getElem?_toArray, List.getElem?_cons_succ, List.getElem?_cons_zero]; exact rfl
        · simp only [List.getElem?_toArray, List.getElem?_cons_succ, List.getElem?_cons_zero]; exact rfl
        · go_simp
          refine (C2.out _).mono ?_
          rintro e w42 ⟨rfl, hb42⟩
          have hB_1 := hB_0.trans (hb42.mono hB_0.size)
          have pl_1 := pl_0.below hb42
          have hWq_1 := hWq_0.trans (hb42.mono hWq_0.size)
          clear hb42 hB_0 pl_0 hWq_0
          go_wp2_with fail
          refine hK.out _ _ ⟨pl_1.c0, pl_1.c1, pl_1.c2, pl_1.c3⟩ (fun hHeld => ?_)
          clear hK K
          try simp only [Act.put]
          try simp only [List.setIfInBounds_toArray, List.set_cons_zero, List.set_cons_succ]
          rw [← HWq.out]
          exact stq_2ff _ hB_1 pl_1 hWq_1
        · go_simp
          have hgn : wr.heap.size ≤ w41.heap.size := hWq_0.size
          obtain ⟨w43, hww43, px_0, hb43, -⟩ := new_box w41 _ rfl [.int .u64 0, .int .u64 0] 24
          rw [hww43]
          have hB_1 := hB_0.trans (hb43.mono hB_0.size)
          have pl_1 := pl_0.below hb43
          have hWq_1 := hWq_0.trans (hb43.mono hWq_0.size)
          clear hb43 hB_0 pl_0 hWq_0
          refine hK.out _ _ ⟨pl_1.c0, pl_1.c1, pl_1.c2, pl_1.c3⟩ (fun hHeld => ?_)
          clear hK K
          try simp only [Act.put]
          try simp only [List.setIfInBounds_toArray, List.set_cons_zero, List.set_cons_succ]
          rw [← HWq.out]
          exact stq_1tf _ w41.heap.size hB_1 pl_1 hWq_1 px_0 (by omega)
        · go_simp
          have hgn : wr.heap.size ≤ w41.heap.size := hWq_0.size
          obtain ⟨w44, hww44, py_0, hb44, -⟩ := new_box w41 _ rfl [.int .u64 0, .int .u64 0] 24
          rw [hww44]
          have hB_1 := hB_0.trans (hb44.mono hB_0.size)
          have pl_1 := pl_0.below hb44
          have hWq_1 := hWq_0.trans (hb44.mono hWq_0.size)
          clear hb44 hB_0 pl_0 hWq_0
          refine hK.out _ _ ⟨pl_1.c0, pl_1.c1, pl_1.c2, pl_1.c3⟩ (fun hHeld => ?_)
          clear hK K
          try simp only [Act.put]
          try simp only [List.setIfInBounds_toArray, List.set_cons_zero, List.set_cons_succ]
          rw [← HWq.out]
          exact stq_1ft _ w41.heap.size hB_1 pl_1 hWq_1 py_0 (by omega)
      try simp only [HAq.out, Act.put, List.setIfInBounds_toArray, List.set_cons_zero, List.set_cons_succ] at stq_1ff
      have stq_0tf : ∀ (w' : World) (gpx : Nat), Below w.heap.size w w' → Box w' (w.heap.size) [.int .i64 p, .int .i64 q, .int .i64 r, .int .i64 s] → Below wr.heap.size wr w' → Box w' gpx [.int .u64 0, .int .u64 0] → wr.heap.size ≤ gpx → WWq 5 #[true, true, true, true, false, true, true, true, true, true, false, true, false, false, false] (aq.put (some 6) (.pointer (some ⟨gpx, 0, none⟩))) w' := by
        intro w45 gpx hB_0 pl_0 hWq_0 px_0 hgpx
        rw [HWq.out, HAq.out]
        try simp only [Act.put]
        try simp only [List.setIfInBounds_toArray, List.set_cons_zero, List.set_cons_succ]
        refine reg_all2 4 12 ?_ ?_ (by kernel_rfl) ?_ ?_ (fun K hK => ?_) (fun K hK => ?_)
        rotate_left 2
        · simp only [List.getElem?_toArray, List.getElem?_cons_succ, List.getElem?_cons_zero]; exact rfl
        · simp only [List.getElem?_toArray, List.getElem?_cons_succ, List.getElem?_cons_zero]; exact rfl
        · go_simp
          refine (C1.out _).mono ?_
          rintro e w46 ⟨rfl, hb46⟩
          have hB_1 := hB_0.trans (hb46.mono hB_0.size)
          have pl_1 := pl_0.below hb46
          have hWq_1 := hWq_0.trans (hb46.mono hWq_0.size)
          have px_1 := px_0.below hb46
          clear hb46 hB_0 pl_0 hWq_0 px_0
          go_wp2_with fail
          refine hK.out _ _ ⟨pl_1.c0, pl_1.c1, pl_1.c2, pl_1.c3⟩ (fun hHeld => ?_)
          clear hK K
          try simp only [Act.put]
          try simp only [List.setIfInBounds_toArray, List.set_cons_zero, List.set_cons_succ]
          rw [← HWq.out]
          exact stq_1tf _ gpx hB_1 pl_1 hWq_1 px_1 (by omega)
        · go_simp
          have hgn : wr.heap.size ≤ w45.heap.size := hWq_0.size
          have hlpx := px_0.lt
          obtain ⟨w47, hww47, py_0, hb47, -⟩ := new_box w45 _ rfl [.int .u64 0, .int .u64 0] 24
          rw [hww47]
          have hB_1 := hB_0.trans (hb47.mono hB_0.size)
          have pl_1 := pl_0.below hb47
          have hWq_1 := hWq_0.trans (hb47.mono hWq_0.size)
          have px_1 := px_0.below hb47
          clear hb47 hB_0 pl_0 hWq_0 px_0
          refine hK.out _ _ ⟨pl_1.c0, pl_1.c1, pl_1.c2, pl_1.c3⟩ (fun hHeld => ?_)
          clear hK K
          try simp only [Act.put]
          try simp only [List.setIfInBounds_toArray, List.set_cons_zero, List.set_cons_succ]
          rw [← HWq.out]
          exact stq_0tt _ gpx w45.heap.size hB_1 pl_1 hWq_1 px_1 py_0 (by omega) (by omega) (by omega)
      try simp only [HAq.out, Act.put, List.setIfInBounds_toArray, List.set_cons_zero, List.set_cons_succ] at stq_0tf
      have stq_0ft : ∀ (w' : World) (gpy : Nat), Below w.heap.size w w' → Box w' (w.heap.size) [.int .i64 p, .int .i64 q, .int .i64 r, .int .i64 s] → Below wr.heap.size wr w' → Box w' gpy [.int .u64 0, .int .u64 0] → wr.heap.size ≤ gpy → WWq 5 #[true, true, true, true, false, true, true, true, true, true, false, false, true, false, false] (aq.put (some 7) (.pointer (some ⟨gpy, 0, none⟩))) w' := by
        intro w48 gpy hB_0 pl_0 hWq_0 py_0 hgpy
        rw [HWq.out, HAq.out]
        try simp only [Act.put]
        try simp only [List.setIfInBounds_toArray, List.set_cons_zero, List.set_cons_succ]
        refine reg_all2 4 11 ?_ ?_ (by kernel_rfl) ?_ ?_ (fun K hK => ?_) (fun K hK => ?_)
        rotate_left 2
        · simp only [List.getElem?_toArray, List.getElem?_cons_succ, List.getElem?_cons_zero]; exact rfl
        · simp only [List.getElem?_toArray, List.getElem?_cons_succ, List.getElem?_cons_zero]; exact rfl
        · go_simp
          refine (C1.out _).mono ?_
          rintro e w49 ⟨rfl, hb49⟩
          have hB_1 := hB_0.trans (hb49.mono hB_0.size)
          have pl_1 := pl_0.below hb49
          have hWq_1 := hWq_0.trans (hb49.mono hWq_0.size)
          have py_1 := py_0.below hb49
          clear hb49 hB_0 pl_0 hWq_0 py_0
          go_wp2_with fail
          refine hK.out _ _ ⟨pl_1.c0, pl_1.c1, pl_1.c2, pl_1.c3⟩ (fun hHeld => ?_)
          clear hK K
          try simp only [Act.put]
          try simp only [List.setIfInBounds_toArray, List.set_cons_zero, List.set_cons_succ]
          rw [← HWq.out]
          exact stq_1ft _ gpy hB_1 pl_1 hWq_1 py_1 (by omega)
        · go_simp
          have hgn : wr.heap.size ≤ w48.heap.size := hWq_0.size
          have hlpy := py_0.lt
          obtain ⟨w50, hww50, px_0, hb50, -⟩ := new_box w48 _ rfl [.int .u64 0, .int .u64 0] 24
          rw [hww50]
          have hB_1 := hB_0.trans (hb50.mono hB_0.size)
          have pl_1 := pl_0.below hb50
          have hWq_1 := hWq_0.trans (hb50.mono hWq_0.size)
          have py_1 := py_0.below hb50
          clear hb50 hB_0 pl_0 hWq_0 py_0
          refine hK.out _ _ ⟨pl_1.c0, pl_1.c1, pl_1.c2, pl_1.c3⟩ (fun hHeld => ?_)
          clear hK K
          try simp only [Act.put]
          try simp only [List.setIfInBounds_toArray, List.set_cons_zero, List.set_cons_succ]
          rw [← HWq.out]
          exact stq_0tt _ w48.heap.size gpy hB_1 pl_1 hWq_1 px_0 py_1 (by omega) (by omega) (by omega)
      try simp only [HAq.out, Act.put, List.setIfInBounds_toArray, List.set_cons_zero, List.set_cons_succ] at stq_0ft
      have stq_0ff : ∀ (w' : World), Below w.heap.size w w' → Box w' (w.heap.size) [.int .i64 p, .int .i64 q, .int .i64 r, .int .i64 s] → Below wr.heap.size wr w' → WWq 6 #[true, true, true, true, false, true, true, true, true, true, false, false, false, false, false] aq w' := by
        intro w51 hB_0 pl_0 hWq_0
        rw [HWq.out, HAq.out]
        try simp only [Act.put]
        try simp only [List.setIfInBounds_toArray, List.set_cons_zero, List.set_cons_succ]
        refine reg_all3 4 11 12 ?_ ?_ ?_ (by kernel_rfl) ?_ ?_ ?_ (fun K hK => ?_) (fun K hK => ?_) (fun K hK => ?_)
        rotate_left 3
        · simp only [List.getElem?_toArray, List.getElem?_cons_succ, List.getElem?_cons_zero]; exact rfl
        · simp only [List.getElem?_toArray, List.getElem?_cons_succ, List.getElem?_cons_zero]; exact rfl
        · simp only [List.getElem?_toArray, List.getElem?_cons_succ, List.getElem?_cons_zero]; exact rfl
        · go_simp
          refine (C1.out _).mono ?_
          rintro e w52 ⟨rfl, hb52⟩
          have hB_1 := hB_0.trans (hb52.mono hB_0.size)
          have pl_1 := pl_0.below hb52
          have hWq_1 := hWq_0.trans (hb52.mono hWq_0.size)
          clear hb52 hB_0 pl_0 hWq_0
          go_wp2_with fail
          refine hK.out _ _ ⟨pl_1.c0, pl_1.c1, pl_1.c2, pl_1.c3⟩ (fun hHeld => ?_)
          clear hK K
          try simp only [Act.put]
          try simp only [List.setIfInBounds_toArray, List.set_cons_zero, List.set_cons_succ]
          rw [← HWq.out]
          exact stq_1ff _ hB_1 pl_1 hWq_1
        · go_simp
          have hgn : wr.heap.size ≤ w51.heap.size := hWq_0.size
          obtain ⟨w53, hww53, px_0, hb53, -⟩ := new_box w51 _ rfl [.int .u64 0, .int .u64 0] 24
          rw [hww53]
          have hB_1 := hB_0.trans (hb53.mono hB_0.size)
          have pl_1 := pl_0.below hb53
          have hWq_1 := hWq_0.trans (hb53.mono hWq_0.size)
          clear hb53 hB_0 pl_0 hWq_0
          refine hK.out _ _ ⟨pl_1.c0, pl_1.c1, pl_1.c2, pl_1.c3⟩ (fun hHeld => ?_)
          clear hK K
          try simp only [Act.put]
          try simp only [List.setIfInBounds_toArray, List.set_cons_zero, List.set_cons_succ]
          rw [← HWq.out]
          exact stq_0tf _ w51.heap.size hB_1 pl_1 hWq_1 px_0 (by omega)
        · go_simp
          have hgn : wr.heap.size ≤ w51.heap.size := hWq_0.size
          obtain ⟨w54, hww54, py_0, hb54, -⟩ := new_box w51 _ rfl [.int .u64 0, .int .u64 0] 24
          rw [hww54]
          have hB_1 := hB_0.trans (hb54.mono hB_0.size)
          have pl_1 := pl_0.below hb54
          have hWq_1 := hWq_0.trans (hb54.mono hWq_0.size)
          clear hb54 hB_0 pl_0 hWq_0
          refine hK.out _ _ ⟨pl_1.c0, pl_1.c1, pl_1.c2, pl_1.c3⟩ (fun hHeld => ?_)
          clear hK K
          try simp only [Act.put]
          try simp only [List.setIfInBounds_toArray, List.set_cons_zero, List.set_cons_succ]
          rw [← HWq.out]
          exact stq_0ft _ w51.heap.size hB_1 pl_1 hWq_1 py_0 (by omega)
      exact stq_0ff _ hB_1 pl_1 hWq_1
end Go.Proofs.Ytkigfccbhkcedaa
/- The statement WideMuls, walked. -/
namespace Go.Proofs.Ytkigfccbhkcedaa
open Go.RowKit Go.MagM
theorem inW_mul {a b : Int} (ha1 : -9223372036854775808 ≤ a) (ha2 : a < 9223372036854775808) (hb1 : -9223372036854775808 ≤ b) (hb2 : b < 9223372036854775808) : InW (a * b) := by
  have h := Nat.mul_le_mul (show a.natAbs ≤ 9223372036854775808 by omega) (show b.natAbs ≤ 9223372036854775808 by omega)
  rw [← Int.natAbs_mul] at h
  unfold InW; omega
set_option maxRecDepth 100000 in
set_option maxHeartbeats 16000000 in
theorem WideMuls_walk (a b z : Int) (w : World) (ha1 : -9223372036854775808 ≤ a) (ha2 : a < 9223372036854775808) (hb1 : -9223372036854775808 ≤ b) (hb2 : b < 9223372036854775808) (hz : InW z) :
    Calls Try.prog 4 #[.int .i64 a, .int .i64 b, .agg #[.int .u64 ((wh (z) : Nat) : Int), .int .u64 ((wl (z) : Nat) : Int)]] w fun e w' => e = .returned (.bool true) ∧ Below w.heap.size w w' := by
  have hB_0 := Below.refl w.heap.size w
  have HZ := Lib.hid hz; have HP := Lib.hid (inW_mul ha1 ha2 hb1 hb2); have HA1 := Lib.hid ha1; have HA2 := Lib.hid ha2; have HB1 := Lib.hid hb1; have HB2 := Lib.hid hb2; clear hz ha1 ha2 hb1 hb2
  obtain ⟨w1, hw1, pw_0, hb1, hs1⟩ := new_box w (w.heap.size) rfl [.int .u64 ((wh (z) : Nat) : Int), .int .u64 ((wl (z) : Nat) : Int)] 24
  have hb1' : Below w.heap.size w w1 := hb1.mono (by omega)
  clear hb1
  have hB_1 := hB_0.trans (hb1'.mono hB_0.size)
  clear hb1' hB_0
  go_enter Try.func4, Try.ntmps4
  obtain ⟨pwe0, pwe1, pwe2, pwe3⟩ := pw_0.open2
  go_wp2_with fail
  refine (wfit_any _).mono ?_
  rintro e w2 ⟨rfl, hb2⟩
  clear pwe0 pwe1 pwe2 pwe3
  have hB_2 := hB_1.trans (hb2.mono hB_1.size)
  have pw_1 := pw_0.below hb2
  clear hb2 hB_1 pw_0
  obtain ⟨pwe0, pwe1, pwe2, pwe3⟩ := pw_1.open2
  go_wp2_with fail
  refine (wMul_any a b HA1.out HA2.out HB1.out HB2.out _).mono ?_
  rintro e w3 ⟨rfl, hb3⟩
  clear pwe0 pwe1 pwe2 pwe3
  have hB_3 := hB_2.trans (hb3.mono hB_2.size)
  have pw_2 := pw_1.below hb3
  clear hb3 hB_2 pw_1
  obtain ⟨pwe0, pwe1, pwe2, pwe3⟩ := pw_2.open2
  clear pwe0 pwe1 pwe2 pwe3
  have hl1pw := pw_2.lt
  have hl1B := hB_3.size
  obtain ⟨w4, hw4, pp_0, hb4, hs4⟩ := new_box w3 (w3.heap.size) rfl [.int .u64 ((wh (a * b) : Nat) : Int), .int .u64 ((wl (a * b) : Nat) : Int)] 24
  have hb4' : Below w3.heap.size w3 w4 := hb4.mono (by omega)
  clear hb4
  have hB_4 := hB_3.trans (hb4'.mono hB_3.size)
  have pw_3 := pw_2.below hb4'
  clear hb4' hB_3 pw_2
  obtain ⟨pwe0, pwe1, pwe2, pwe3⟩ := pw_3.open2
  go_wp2_with fail
  refine (wTimes_any z a HZ.out HA1.out HA2.out _).mono ?_
  rintro e w5 ⟨rfl, hb5⟩
  clear pwe0 pwe1 pwe2 pwe3
  have hB_5 := hB_4.trans (hb5.mono hB_4.size)
  have pw_4 := pw_3.below hb5
  have pp_1 := pp_0.below hb5
  clear hb5 hB_4 pw_3 pp_0
  obtain ⟨pwe0, pwe1, pwe2, pwe3⟩ := pw_4.open2
  clear pwe0 pwe1 pwe2 pwe3
  have hl2pw := pw_4.lt
  have hl2pp := pp_1.lt
  have hl2B := hB_5.size
  obtain ⟨w6, hw6, pt_0, hb6, hs6⟩ := new_box w5 (w5.heap.size) rfl [.int .u64 ((wh (fitW (z * a)) : Nat) : Int), .int .u64 ((wl (fitW (z * a)) : Nat) : Int)] 24
  have hb6' : Below w5.heap.size w5 w6 := hb6.mono (by omega)
  clear hb6
  have hB_6 := hB_5.trans (hb6'.mono hB_5.size)
  have pw_5 := pw_4.below hb6'
  have pp_2 := pp_1.below hb6'
  clear hb6' hB_5 pw_4 pp_1
  obtain ⟨pwe0, pwe1, pwe2, pwe3⟩ := pw_5.open2
  go_wp2
  clear pwe0 pwe1 pwe2 pwe3
  have hB_7 := hB_6.drew'
  have pw_6 := pw_5.drew
  have pp_3 := pp_2.drew
  have pt_1 := pt_0.drew
  clear hB_6 pw_5 pp_2 pt_0
  go_region_held3 (fun w' => w'.cell? ⟨w3.heap.size, 0, none⟩ = some (.int .u64 ((wh (a * b) : Nat) : Int)) ∧ w'.cell? ⟨w3.heap.size, 1, none⟩ = some (.int .u64 ((wl (a * b) : Nat) : Int)) ∧ w'.cell? ⟨w5.heap.size, 0, none⟩ = some (.int .u64 ((wh (fitW (z * a)) : Nat) : Int)) ∧ w'.cell? ⟨w5.heap.size, 1, none⟩ = some (.int .u64 ((wl (fitW (z * a)) : Nat) : Int)) ∧ w'.cell? ⟨w.heap.size, 0, none⟩ = some (.int .u64 ((wh (z) : Nat) : Int)) ∧ w'.cell? ⟨w.heap.size, 1, none⟩ = some (.int .u64 ((wl (z) : Nat) : Int)))
    (first | with_reducible exact ⟨pp_3.c0, pp_3.c1, pt_1.c0, pt_1.c1, pw_6.c0, pw_6.c1⟩ | with_reducible exact ⟨pp_4.c0, pp_4.c1, pt_2.c0, pt_2.c1, pw_7.c0, pw_7.c1⟩ | with_reducible exact ⟨pp_5.c0, pp_5.c1, pt_3.c0, pt_3.c1, pw_8.c0, pw_8.c1⟩ | with_reducible exact ⟨pp_6.c0, pp_6.c1, pt_4.c0, pt_4.c1, pw_9.c0, pw_9.c1⟩ | with_reducible exact ⟨pp_7.c0, pp_7.c1, pt_5.c0, pt_5.c1, pw_10.c0, pw_10.c1⟩ | with_reducible exact ⟨pp_8.c0, pp_8.c1, pt_6.c0, pt_6.c1, pw_11.c0, pw_11.c1⟩ | with_reducible exact ⟨pp_9.c0, pp_9.c1, pt_7.c0, pt_7.c1, pw_12.c0, pw_12.c1⟩ | with_reducible exact ⟨pp_10.c0, pp_10.c1, pt_8.c0, pt_8.c1, pw_13.c0, pw_13.c1⟩ | with_reducible exact ⟨pp_11.c0, pp_11.c1, pt_9.c0, pt_9.c1, pw_14.c0, pw_14.c1⟩ | with_reducible exact ⟨pp_12.c0, pp_12.c1, pt_10.c0, pt_10.c1, pw_15.c0, pw_15.c1⟩ | with_reducible exact ⟨pp_13.c0, pp_13.c1, pt_11.c0, pt_11.c1, pw_16.c0, pw_16.c1⟩ | with_reducible exact ⟨pp_14.c0, pp_14.c1, pt_12.c0, pt_12.c1, pw_17.c0, pw_17.c1⟩ | with_reducible exact ⟨pp_15.c0, pp_15.c1, pt_13.c0, pt_13.c1, pw_18.c0, pw_18.c1⟩ | with_reducible exact ⟨pp_16.c0, pp_16.c1, pt_14.c0, pt_14.c1, pw_19.c0, pw_19.c1⟩ | fail)
    (first
      | (go_at_call 9; (with_reducible refine (wNum_any (a * b) HP.out _).mono ?_); rintro e w7 ⟨m1, o1, n1, c1, rfl, f1_0, hb7⟩; have hB_8 := hB_7.trans (hb7.mono hB_7.size); have pw_7 := pw_6.below hb7; have pp_4 := pp_3.below hb7; have pt_2 := pt_1.below hb7; clear hb7 hB_7 pw_6 pp_3 pt_1)
      | (go_at_call 23; (with_reducible refine (nOf_any a HA1.out HA2.out _).mono ?_); rintro e w8 ⟨m2, o2, n2, c2, rfl, f2_0, hb8⟩; have hB_9 := hB_8.trans (hb8.mono hB_8.size); have pw_8 := pw_7.below hb8; have pp_5 := pp_4.below hb8; have pt_3 := pt_2.below hb8; have f1_1 := f1_0.below hb8; clear hb8 hB_8 pw_7 pp_4 pt_2 f1_0)
      | (go_at_call 23; (with_reducible refine (nOf_any b HB1.out HB2.out _).mono ?_); rintro e w9 ⟨m3, o3, n3, c3, rfl, f3_0, hb9⟩; have hB_10 := hB_9.trans (hb9.mono hB_9.size); have pw_9 := pw_8.below hb9; have pp_6 := pp_5.below hb9; have pt_4 := pt_3.below hb9; have f1_2 := f1_1.below hb9; have f2_1 := f2_0.below hb9; clear hb9 hB_9 pw_8 pp_5 pt_3 f1_1 f2_0)
      | (go_at_call 22; (with_reducible refine (nMul_any _ _ 1 1 a b _ (by omega) (by omega) f2_1.num f3_0.num).mono ?_); rintro e w10 ⟨m4, o4, n4, c4, rfl, f4_0, hb10⟩; have hB_11 := hB_10.trans (hb10.mono hB_10.size); have pw_10 := pw_9.below hb10; have pp_7 := pp_6.below hb10; have pt_5 := pt_4.below hb10; have f1_3 := f1_2.below hb10; clear hb10 hB_10 pw_9 pp_6 pt_4 f1_2 f2_1 f3_0)
      | (go_at_call 21; (with_reducible refine (wnCmp_is _ _ 2 (1 + 1) (a * b) (a * b) 0 _ (by omega) (by omega) f1_3.num f4_0.num (icmp_self _)).mono ?_); rintro e w11 ⟨rfl, hb11⟩; have hB_12 := hB_11.trans (hb11.mono hB_11.size); have pw_11 := pw_10.below hb11; have pp_8 := pp_7.below hb11; have pt_6 := pt_5.below hb11; clear hb11 hB_11 pw_10 pp_7 pt_5 f1_3 f4_0)
      | (go_at_call 9; (with_reducible refine (wNum_any z HZ.out _).mono ?_); rintro e w12 ⟨m5, o5, n5, c5, rfl, f5_0, hb12⟩; have hB_13 := hB_12.trans (hb12.mono hB_12.size); have pw_12 := pw_11.below hb12; have pp_9 := pp_8.below hb12; have pt_7 := pt_6.below hb12; clear hb12 hB_12 pw_11 pp_8 pt_6)
      | (go_at_call 23; (with_reducible refine (nOf_any a HA1.out HA2.out _).mono ?_); rintro e w13 ⟨m6, o6, n6, c6, rfl, f6_0, hb13⟩; have hB_14 := hB_13.trans (hb13.mono hB_13.size); have pw_13 := pw_12.below hb13; have pp_10 := pp_9.below hb13; have pt_8 := pt_7.below hb13; have f5_1 := f5_0.below hb13; clear hb13 hB_13 pw_12 pp_9 pt_7 f5_0)
      | (go_at_call 22; (with_reducible refine (nMul_any _ _ 2 1 z a _ (by omega) (by omega) f5_1.num f6_0.num).mono ?_); rintro e w14 ⟨m7, o7, n7, c7, rfl, f7_0, hb14⟩; have hB_15 := hB_14.trans (hb14.mono hB_14.size); have pw_14 := pw_13.below hb14; have pp_11 := pp_10.below hb14; have pt_9 := pt_8.below hb14; clear hb14 hB_14 pw_13 pp_10 pt_8 f5_1 f6_0)
      | (go_at_call 13; (with_reducible refine (is_same (Y := z * a) _ _ _ (by omega) f7_0 rfl).mono ?_); rintro e w15 ⟨rfl, hb15⟩; have hB_16 := hB_15.trans (hb15.mono hB_15.size); have pw_15 := pw_14.below hb15; have pp_12 := pp_11.below hb15; have pt_10 := pt_9.below hb15; clear hb15 hB_15 pw_14 pp_11 pt_9 f7_0)
      | (go_at_call 24; (with_reducible refine (wOf_any a HA1.out HA2.out _).mono ?_); rintro e w16 ⟨rfl, hb16⟩; have hB_17 := hB_16.trans (hb16.mono hB_16.size); have pw_16 := pw_15.below hb16; have pp_13 := pp_12.below hb16; have pt_11 := pt_10.below hb16; clear hb16 hB_16 pw_15 pp_12 pt_10)
      | (go_at_call 9; (with_reducible refine (wNum_any a (inW_int HA1.out HA2.out) _).mono ?_); rintro e w17 ⟨m8, o8, n8, c8, rfl, f8_0, hb17⟩; have hB_18 := hB_17.trans (hb17.mono hB_17.size); have pw_17 := pw_16.below hb17; have pp_14 := pp_13.below hb17; have pt_12 := pt_11.below hb17; clear hb17 hB_17 pw_16 pp_13 pt_11)
      | (go_at_call 23; (with_reducible refine (nOf_any a HA1.out HA2.out _).mono ?_); rintro e w18 ⟨m9, o9, n9, c9, rfl, f9_0, hb18⟩; have hB_19 := hB_18.trans (hb18.mono hB_18.size); have pw_18 := pw_17.below hb18; have pp_15 := pp_14.below hb18; have pt_13 := pt_12.below hb18; have f8_1 := f8_0.below hb18; clear hb18 hB_18 pw_17 pp_14 pt_12 f8_0)
      | (go_at_call 21; (with_reducible refine (wnCmp_is _ _ 2 1 a a 0 _ (by omega) (by omega) f8_1.num f9_0.num (icmp_self _)).mono ?_); rintro e w19 ⟨rfl, hb19⟩; have hB_20 := hB_19.trans (hb19.mono hB_19.size); have pw_19 := pw_18.below hb19; have pp_16 := pp_15.below hb19; have pt_14 := pt_13.below hb19; have f8_2 := f8_1.below hb19; have f9_1 := f9_0.below hb19; clear hb19 hB_19 pw_18 pp_15 pt_13 f8_1 f9_0))
  go_wp2
  go_ret
  exact ⟨rfl, hB_20⟩
end Go.Proofs.Ytkigfccbhkcedaa
/- The statement WideLaws: what its calls answer. -/
namespace Go.Proofs.Ytkigfccbhkcedaa
open Go.RowKit Go.MagM
theorem and_mask (x : Int) (k : Nat) (hk : k < 9223372036854775808) : ∃ y : Int, 0 ≤ y ∧ y ≤ (k : Int) ∧ bits .and .i64 x (k : Int) = y := by
  have h1 : (BitVec.ofInt 64 (k : Int)).toNat = k := by
    rw [BitVec.ofInt_natCast, BitVec.toNat_ofNat]; exact Nat.mod_eq_of_lt (by omega)
  have h2 : (BitVec.ofInt 64 x).toNat &&& k ≤ k := Nat.and_le_right
  refine ⟨(((BitVec.ofInt 64 x).toNat &&& k : Nat) : Int), by omega, by omega, ?_⟩
  show IntKind.i64.wrap ((BitVec.ofInt 64 x &&& BitVec.ofInt 64 (k : Int)).toNat : Int) = _
  rw [BitVec.toNat_and, h1, IntKind.wrap_i64]
  omega
theorem wadd_is (x y z : Int) (hx : InW x) (hy : InW y) (e : x + y = z) (hz : InW z) : ∀ w, Calls Try.prog 10 #[.agg #[.int .u64 ((wh (x) : Nat) : Int), .int .u64 ((wl (x) : Nat) : Int)], .agg #[.int .u64 ((wh (y) : Nat) : Int), .int .u64 ((wl (y) : Nat) : Int)]] w fun e w' => e = .returned (.tuple #[.agg #[.int .u64 ((wh (z) : Nat) : Int), .int .u64 ((wl (z) : Nat) : Int)], .bool true]) ∧ Below w.heap.size w w' := by
  intro w; subst e
  have := wAdd_any x y hx hy w
  unfold AnsWB at this
  rwa [fitW_yes hz, decide_eq_true hz] at this
theorem wsub_is (x y z : Int) (hx : InW x) (hy : InW y) (e : x - y = z) (hz : InW z) : ∀ w, Calls Try.prog 11 #[.agg #[.int .u64 ((wh (x) : Nat) : Int), .int .u64 ((wl (x) : Nat) : Int)], .agg #[.int .u64 ((wh (y) : Nat) : Int), .int .u64 ((wl (y) : Nat) : Int)]] w fun e w' => e = .returned (.tuple #[.agg #[.int .u64 ((wh (z) : Nat) : Int), .int .u64 ((wl (z) : Nat) : Int)], .bool true]) ∧ Below w.heap.size w w' := by
  intro w; subst e
  have := wSub_any x y hx hy w
  unfold AnsWB at this
  rwa [fitW_yes hz, decide_eq_true hz] at this
theorem wtimes_is (x n z : Int) (hx : InW x) (h1 : -9223372036854775808 ≤ n) (h2 : n < 9223372036854775808) (e : x * n = z) (hz : InW z) : ∀ w, Calls Try.prog 20 #[.agg #[.int .u64 ((wh (x) : Nat) : Int), .int .u64 ((wl (x) : Nat) : Int)], .int .i64 n] w fun e w' => e = .returned (.tuple #[.agg #[.int .u64 ((wh (z) : Nat) : Int), .int .u64 ((wl (z) : Nat) : Int)], .bool true]) ∧ Below w.heap.size w w' := by
  intro w; subst e
  have := wTimes_any x n hx h1 h2 w
  unfold AnsWB at this
  rwa [fitW_yes hz, decide_eq_true hz] at this
theorem wdet_is (a b c d z : Int) (ha : DetOk a) (hb : DetOk b) (hc : DetOk c) (hd : DetOk d) (e : a * d - b * c = z) : ∀ w, Calls Try.prog 28 #[.int .i64 a, .int .i64 b, .int .i64 c, .int .i64 d] w fun e w' => AnsW w w' e z := by
  intro w; subst e; exact wDet_ok ha hb hc hd w
theorem abs_mul {x y : Int} {M N : Nat} (hx : x.natAbs ≤ M) (hy : y.natAbs ≤ N) : (x * y).natAbs ≤ M * N := by
  rw [Int.natAbs_mul]; exact Nat.mul_le_mul hx hy
theorem WideLaws_walk (a b c d m : Int) (w : World) :
    Calls Try.prog 7 #[.agg #[.int .i64 a, .int .i64 b, .int .i64 c, .int .i64 d], .int .i64 m] w fun e w' => e = .returned (.bool true) ∧ Below w.heap.size w w' := by
  obtain ⟨n, n0, n1, e1⟩ := and_mask m 4095 (by omega)
  obtain ⟨p, p0, p1, e2⟩ := and_mask a 4294967295 (by omega)
  obtain ⟨q, q0, q1, e3⟩ := and_mask b 4294967295 (by omega)
  obtain ⟨r, r0, r1, e4⟩ := and_mask c 4294967295 (by omega)
  obtain ⟨s, s0, s1, e5⟩ := and_mask d 4294967295 (by omega)
  have iw : ∀ {x : Int}, -4611686018427387904 ≤ x → x ≤ 4611686018427387904 → IntKind.i64.wrap x = x := by
    intro x h1 h2; rw [IntKind.wrap_i64]; omega
  have bA : (p * q).natAbs ≤ 4294967295 * 4294967295 := abs_mul (by omega) (by omega)
  have bV : (-r * s).natAbs ≤ 4294967295 * 4294967295 := abs_mul (by omega) (by omega)
  have bPS : (p * s).natAbs ≤ 4294967295 * 4294967295 := abs_mul (by omega) (by omega)
  have bQR : (q * r).natAbs ≤ 4294967295 * 4294967295 := abs_mul (by omega) (by omega)
  have hX : (p * q + -r * s) * n = p * q * n + -r * s * n := Int.add_mul _ _ _
  have hE : 2 * p * s - 2 * q * r = (p * s - q * r) * 2 := by rw [Int.mul_assoc, Int.mul_assoc]; omega
  have hF : p * (3 * q) - q * (3 * p) = 0 := by
    rw [show p * (3 * q) = 3 * (p * q) by rw [← Int.mul_assoc, Int.mul_comm p 3, Int.mul_assoc], show q * (3 * p) = 3 * (p * q) by rw [← Int.mul_assoc, Int.mul_comm q 3, Int.mul_assoc, Int.mul_comm q p]]; omega
  obtain ⟨A, hA⟩ : ∃ A, p * q = A := ⟨_, rfl⟩
  obtain ⟨V, hV⟩ : ∃ V, -r * s = V := ⟨_, rfl⟩
  obtain ⟨G, hG⟩ : ∃ G, p * s = G := ⟨_, rfl⟩
  obtain ⟨H, hH⟩ : ∃ H, q * r = H := ⟨_, rfl⟩
  rw [hA] at bA; rw [hV] at bV; rw [hG] at bPS; rw [hH] at bQR
  rw [hA, hV] at hX; rw [hG, hH] at hE
  have bY : (A * n).natAbs ≤ 4294967295 * 4294967295 * 4095 := abs_mul bA (by omega)
  have bZ : (V * n).natAbs ≤ 4294967295 * 4294967295 * 4095 := abs_mul bV (by omega)
  have iA : InW A := by unfold InW; omega
  have iV : InW V := by unfold InW; omega
  have iC : InW (A + V) := by unfold InW; omega
  have iY : InW (A * n) := by unfold InW; omega
  have iZ : InW (V * n) := by unfold InW; omega
  have iX : InW ((A + V) * n) := by rw [hX]; unfold InW; omega
  have dp : DetOk p := by unfold DetOk; omega
  have dq : DetOk q := by unfold DetOk; omega
  have dr : DetOk r := by unfold DetOk; omega
  have ds : DetOk s := by unfold DetOk; omega
  refine WideLaws_w a b c d m n p q r s (-r) (2 * p) (2 * q) (3 * p) (3 * q) A V (A + V) ((A + V) * n) (A * n) (V * n) (G - H) ((G - H) * 2) 0 e1 e2 e3 e4 e5 (iw (by omega) (by omega)) (iw (by omega) (by omega)) (iw (by omega) (by omega)) (iw (by omega) (by omega)) (iw (by omega) (by omega)) ?_ ?_ ?_ ?_ ?_ ?_ ?_ ?_ ?_ ?_ ?_ ?_ ?_ w
  · intro w; rw [← hA]; exact wMul_any p q (by omega) (by omega) (by omega) (by omega) w
  · intro w; rw [← hV]; exact wMul_any (-r) s (by omega) (by omega) (by omega) (by omega) w
  · exact wadd_is A V _ iA iV rfl iC
  · exact wsub_is (A + V) V A iC iV (by omega) iA
  · exact wtimes_is (A + V) n _ iC (by omega) (by omega) rfl iX
  · exact wtimes_is A n _ iA (by omega) (by omega) rfl iY
  · exact wtimes_is V n _ iV (by omega) (by omega) rfl iZ
  · exact wadd_is (A * n) (V * n) _ iY iZ hX.symm iX
  · exact wdet_is p q r s _ dp dq dr ds (by rw [hG, hH])
  · exact wtimes_is (G - H) 2 _ (by unfold InW; omega) (by omega) (by omega) rfl (by unfold InW; omega)
  · exact wdet_is (2 * p) (2 * q) r s _ (by unfold DetOk; omega) (by unfold DetOk; omega) dr ds hE
  · exact wdet_is p q (3 * p) (3 * q) _ dp dq (by unfold DetOk; omega) (by unfold DetOk; omega) hF
  · exact sg_is (z := 0) (r := 0) (by decide)
end Go.Proofs.Ytkigfccbhkcedaa
