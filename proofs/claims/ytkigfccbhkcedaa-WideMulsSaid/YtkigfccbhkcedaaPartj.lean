/- The calls of wide: Mul, Det. -/
import Derived.Test.YtkigfccbhkcedaaParti
import Derived.Test.YtkigfccbhkcedaaParth
namespace Go.Proofs.Ytkigfccbhkcedaa
open Go.RowKit Go.MagM
theorem mul64_is (x y H L : Nat) (w : World) (hx : x < B) (hy : y < B) (h1 : x * y / B = H) (h2 : x * y % B = L) :
    Calls Try.prog 41 #[.int .u64 ((x : Nat) : Int), .int .u64 ((y : Nat) : Int)] w fun e w' => e = .returned (.tuple #[.int .u64 ((H : Nat) : Int), .int .u64 ((L : Nat) : Int)]) ∧ Below w.heap.size w w' := by
  subst h1; subst h2
  exact (mul64_any x y w hx hy).mono fun e w' h => by obtain ⟨h1, rfl⟩ := h; exact ⟨h1, Below.refl _ _⟩
theorem inW_int {n : Int} (h : -9223372036854775808 ≤ n) (h1 : n < 9223372036854775808) : InW n := by unfold InW; omega
set_option maxHeartbeats 4000000 in
theorem wMul_w_tt (a b : Int) (ha1 : -9223372036854775808 ≤ a) (ha2 : a < 9223372036854775808) (hb1 : -9223372036854775808 ≤ b) (hb2 : b < 9223372036854775808) (H L H' L' : Nat) (sa : a < 0) (sb : b < 0) (cm : ∀ w, Calls Try.prog 41 #[.int .u64 ((wl ((a.natAbs : Int)) : Nat) : Int), .int .u64 ((wl ((b.natAbs : Int)) : Nat) : Int)] w fun e w' => e = .returned (.tuple #[.int .u64 ((H : Nat) : Int), .int .u64 ((L : Nat) : Int)]) ∧ Below w.heap.size w w') (hac : ∀ w, Calls Try.prog 34 #[.agg #[.int .u64 ((H : Nat) : Int), .int .u64 ((L : Nat) : Int)]] w fun e w' => e = .returned (.agg #[.int .u64 ((H' : Nat) : Int), .int .u64 ((L' : Nat) : Int)]) ∧ Below w.heap.size w w') (w : World) :
    Calls Try.prog 19 #[.int .i64 a, .int .i64 b] w fun e w' => e = .returned (.agg #[.int .u64 ((H : Nat) : Int), .int .u64 ((L : Nat) : Int)]) ∧ Below w.heap.size w w' := by
  have hB_0 := Below.refl w.heap.size w
  have CM := Lib.hid cm; have CA := Lib.hid hac; have IA := Lib.hid (inW_int ha1 ha2); have IB := Lib.hid (inW_int hb1 hb2); have HA1 := Lib.hid ha1; have HA2 := Lib.hid ha2; have HB1 := Lib.hid hb1; have HB2 := Lib.hid hb2
  clear cm hac ha1 ha2 hb1 hb2
  have qa : decide (a < 0) = true := by simp [sa]
  have qb : decide (b < 0) = true := by simp [sb]
  clear sa sb
  have hfa : ∀ w : World, (Instr.field 24 (.agg #[.int .u64 ((wh ((a.natAbs : Int)) : Nat) : Int), .int .u64 ((wl ((a.natAbs : Int)) : Nat) : Int)]) 1).run Try.prog w = .ok (.int .u64 ((wl ((a.natAbs : Int)) : Nat) : Int)) w := fun _ => by kernel_rfl
  have hfb : ∀ w : World, (Instr.field 24 (.agg #[.int .u64 ((wh ((b.natAbs : Int)) : Nat) : Int), .int .u64 ((wl ((b.natAbs : Int)) : Nat) : Int)]) 1).run Try.prog w = .ok (.int .u64 ((wl ((b.natAbs : Int)) : Nat) : Int)) w := fun _ => by kernel_rfl
  obtain ⟨w1, hw1, pr_0, hb1, hs1⟩ := new_box w (w.heap.size) rfl [.int .u64 0, .int .u64 0] 24
  have hb1' : Below w.heap.size w w1 := hb1.mono (by omega)
  clear hb1
  have hB_1 := hB_0.trans (hb1'.mono hB_0.size)
  clear hb1' hB_0
  go_enter Try.func19, Try.ntmps19
  obtain ⟨pre0, pre1, pre2, pre3⟩ := pr_0.open2
  go_wp2_with fail
  refine (wOf_any a HA1.out HA2.out _).mono ?_
  rintro e w2 ⟨rfl, hb2⟩
  clear pre0 pre1 pre2 pre3
  have hB_2 := hB_1.trans (hb2.mono hB_1.size)
  have pr_1 := pr_0.below hb2
  clear hb2 hB_1 pr_0
  obtain ⟨pre0, pre1, pre2, pre3⟩ := pr_1.open2
  go_wp2_with fail
  refine (size_any a _ IA.out).mono ?_
  rintro e w3 ⟨rfl, hb3⟩
  clear pre0 pre1 pre2 pre3
  have hB_3 := hB_2.trans (hb3.mono hB_2.size)
  have pr_2 := pr_1.below hb3
  clear hb3 hB_2 pr_1
  obtain ⟨pre0, pre1, pre2, pre3⟩ := pr_2.open2
  go_wp2_with fail
  refine (wOf_any b HB1.out HB2.out _).mono ?_
  rintro e w4 ⟨rfl, hb4⟩
  clear pre0 pre1 pre2 pre3
  have hB_4 := hB_3.trans (hb4.mono hB_3.size)
  have pr_3 := pr_2.below hb4
  clear hb4 hB_3 pr_2
  obtain ⟨pre0, pre1, pre2, pre3⟩ := pr_3.open2
  go_wp2_with fail
  refine (size_any b _ IB.out).mono ?_
  rintro e w5 ⟨rfl, hb5⟩
  clear pre0 pre1 pre2 pre3
  have hB_5 := hB_4.trans (hb5.mono hB_4.size)
  have pr_4 := pr_3.below hb5
  clear hb5 hB_4 pr_3
  obtain ⟨pre0, pre1, pre2, pre3⟩ := pr_4.open2
  go_wp2_with fail
  refine (CM.out _).mono ?_
  rintro e w6 ⟨rfl, hb6⟩
  clear pre0 pre1 pre2 pre3
  have hB_6 := hB_5.trans (hb6.mono hB_5.size)
  have pr_5 := pr_4.below hb6
  clear hb6 hB_5 pr_4
  obtain ⟨pre0, pre1, pre2, pre3⟩ := pr_5.open2
  clear pre0 pre1 pre2 pre3
  have hl1pr := pr_5.lt
  have hl1B := hB_6.size
  obtain ⟨w7, hw7, pp_0, hb7, hs7⟩ := new_box w6 (w6.heap.size) rfl [.int .u64 ((H : Nat) : Int), .int .u64 ((L : Nat) : Int)] 24
  have hb7' : Below w6.heap.size w6 w7 := hb7.mono (by omega)
  clear hb7
  have hB_7 := hB_6.trans (hb7'.mono hB_6.size)
  have pr_6 := pr_5.below hb7'
  clear hb7' hB_6 pr_5
  obtain ⟨pre0, pre1, pre2, pre3⟩ := pr_6.open2
  obtain ⟨ppe0, ppe1, ppe2, ppe3⟩ := pp_0.open2
  obtain ⟨sf1a, sf1b, sf1c, sf1d⟩ := pr_6.open2
  obtain ⟨sg1a, sg1b⟩ := Box.put2 pr_6 (.int .u64 ((H : Nat) : Int))
  go_wp2
  clear pre0 pre1 pre2 pre3 ppe0 ppe1 ppe2 ppe3 sf1a sf1b sf1c sf1d sg1a sg1b
  have hB_8 := below_setAll hB_7 (g := w.heap.size) (by omega) [.int .u64 ((H : Nat) : Int), .int .u64 ((L : Nat) : Int)]
  have pp_1 := pp_0.farAll (g' := w.heap.size) (by omega) [.int .u64 ((H : Nat) : Int), .int .u64 ((L : Nat) : Int)]
  have pr_7 := pr_6.setAll [.int .u64 ((H : Nat) : Int), .int .u64 ((L : Nat) : Int)] rfl
  simp only [setAll, Nat.zero_add] at hB_8 pr_7 pp_1
  clear hB_7 pp_0 pr_6
  generalize (World.setCell (World.setCell w7 ⟨w.heap.size, 0, none⟩ (.int .u64 ((H : Nat) : Int))) ⟨w.heap.size, 1, none⟩ (.int .u64 ((L : Nat) : Int))) = w8 at *
  go_wp2
  obtain ⟨pre0, pre1, pre2, pre3⟩ := pr_7.open2
  exact bodyPost_ret (v := .agg #[.int .u64 ((H : Nat) : Int), .int .u64 ((L : Nat) : Int)]) (by simp [results, Try.results19, go_sem, pre0, pre1]) rfl ⟨rfl, hB_8⟩
set_option maxHeartbeats 4000000 in
theorem wMul_w_tf (a b : Int) (ha1 : -9223372036854775808 ≤ a) (ha2 : a < 9223372036854775808) (hb1 : -9223372036854775808 ≤ b) (hb2 : b < 9223372036854775808) (H L H' L' : Nat) (sa : a < 0) (sb : ¬ b < 0) (cm : ∀ w, Calls Try.prog 41 #[.int .u64 ((wl ((a.natAbs : Int)) : Nat) : Int), .int .u64 ((wl ((b.natAbs : Int)) : Nat) : Int)] w fun e w' => e = .returned (.tuple #[.int .u64 ((H : Nat) : Int), .int .u64 ((L : Nat) : Int)]) ∧ Below w.heap.size w w') (hac : ∀ w, Calls Try.prog 34 #[.agg #[.int .u64 ((H : Nat) : Int), .int .u64 ((L : Nat) : Int)]] w fun e w' => e = .returned (.agg #[.int .u64 ((H' : Nat) : Int), .int .u64 ((L' : Nat) : Int)]) ∧ Below w.heap.size w w') (w : World) :
    Calls Try.prog 19 #[.int .i64 a, .int .i64 b] w fun e w' => e = .returned (.agg #[.int .u64 ((H' : Nat) : Int), .int .u64 ((L' : Nat) : Int)]) ∧ Below w.heap.size w w' := by
  have hB_0 := Below.refl w.heap.size w
  have CM := Lib.hid cm; have CA := Lib.hid hac; have IA := Lib.hid (inW_int ha1 ha2); have IB := Lib.hid (inW_int hb1 hb2); have HA1 := Lib.hid ha1; have HA2 := Lib.hid ha2; have HB1 := Lib.hid hb1; have HB2 := Lib.hid hb2
  clear cm hac ha1 ha2 hb1 hb2
  have qa : decide (a < 0) = true := by simp [sa]
  have qb : decide (b < 0) = false := by simp [sb]
  clear sa sb
  have hfa : ∀ w : World, (Instr.field 24 (.agg #[.int .u64 ((wh ((a.natAbs : Int)) : Nat) : Int), .int .u64 ((wl ((a.natAbs : Int)) : Nat) : Int)]) 1).run Try.prog w = .ok (.int .u64 ((wl ((a.natAbs : Int)) : Nat) : Int)) w := fun _ => by kernel_rfl
  have hfb : ∀ w : World, (Instr.field 24 (.agg #[.int .u64 ((wh ((b.natAbs : Int)) : Nat) : Int), .int .u64 ((wl ((b.natAbs : Int)) : Nat) : Int)]) 1).run Try.prog w = .ok (.int .u64 ((wl ((b.natAbs : Int)) : Nat) : Int)) w := fun _ => by kernel_rfl
  obtain ⟨w1, hw1, pr_0, hb1, hs1⟩ := new_box w (w.heap.size) rfl [.int .u64 0, .int .u64 0] 24
  have hb1' : Below w.heap.size w w1 := hb1.mono (by omega)
  clear hb1
  have hB_1 := hB_0.trans (hb1'.mono hB_0.size)
  clear hb1' hB_0
  go_enter Try.func19, Try.ntmps19
  obtain ⟨pre0, pre1, pre2, pre3⟩ := pr_0.open2
  go_wp2_with fail
  refine (wOf_any a HA1.out HA2.out _).mono ?_
  rintro e w2 ⟨rfl, hb2⟩
  clear pre0 pre1 pre2 pre3
  have hB_2 := hB_1.trans (hb2.mono hB_1.size)
  have pr_1 := pr_0.below hb2
  clear hb2 hB_1 pr_0
  obtain ⟨pre0, pre1, pre2, pre3⟩ := pr_1.open2
  go_wp2_with fail
  refine (size_any a _ IA.out).mono ?_
  rintro e w3 ⟨rfl, hb3⟩
  clear pre0 pre1 pre2 pre3
  have hB_3 := hB_2.trans (hb3.mono hB_2.size)
  have pr_2 := pr_1.below hb3
  clear hb3 hB_2 pr_1
  obtain ⟨pre0, pre1, pre2, pre3⟩ := pr_2.open2
  go_wp2_with fail
  refine (wOf_any b HB1.out HB2.out _).mono ?_
  rintro e w4 ⟨rfl, hb4⟩
  clear pre0 pre1 pre2 pre3
  have hB_4 := hB_3.trans (hb4.mono hB_3.size)
  have pr_3 := pr_2.below hb4
  clear hb4 hB_3 pr_2
  obtain ⟨pre0, pre1, pre2, pre3⟩ := pr_3.open2
  go_wp2_with fail
  refine (size_any b _ IB.out).mono ?_
  rintro e w5 ⟨rfl, hb5⟩
  clear pre0 pre1 pre2 pre3
  have hB_5 := hB_4.trans (hb5.mono hB_4.size)
  have pr_4 := pr_3.below hb5
  clear hb5 hB_4 pr_3
  obtain ⟨pre0, pre1, pre2, pre3⟩ := pr_4.open2
  go_wp2_with fail
  refine (CM.out _).mono ?_
  rintro e w6 ⟨rfl, hb6⟩
  clear pre0 pre1 pre2 pre3
  have hB_6 := hB_5.trans (hb6.mono hB_5.size)
  have pr_5 := pr_4.below hb6
  clear hb6 hB_5 pr_4
  obtain ⟨pre0, pre1, pre2, pre3⟩ := pr_5.open2
  clear pre0 pre1 pre2 pre3
  have hl1pr := pr_5.lt
  have hl1B := hB_6.size
  obtain ⟨w7, hw7, pp_0, hb7, hs7⟩ := new_box w6 (w6.heap.size) rfl [.int .u64 ((H : Nat) : Int), .int .u64 ((L : Nat) : Int)] 24
  have hb7' : Below w6.heap.size w6 w7 := hb7.mono (by omega)
  clear hb7
  have hB_7 := hB_6.trans (hb7'.mono hB_6.size)
  have pr_6 := pr_5.below hb7'
  clear hb7' hB_6 pr_5
  obtain ⟨pre0, pre1, pre2, pre3⟩ := pr_6.open2
  obtain ⟨ppe0, ppe1, ppe2, ppe3⟩ := pp_0.open2
  go_wp2_with fail
  refine (CA.out _).mono ?_
  rintro e w8 ⟨rfl, hb8⟩
  clear pre0 pre1 pre2 pre3 ppe0 ppe1 ppe2 ppe3
  have hB_8 := hB_7.trans (hb8.mono hB_7.size)
  have pr_7 := pr_6.below hb8
  have pp_1 := pp_0.below hb8
  clear hb8 hB_7 pr_6 pp_0
  obtain ⟨pre0, pre1, pre2, pre3⟩ := pr_7.open2
  obtain ⟨ppe0, ppe1, ppe2, ppe3⟩ := pp_1.open2
  obtain ⟨sf1a, sf1b, sf1c, sf1d⟩ := pr_7.open2
  obtain ⟨sg1a, sg1b⟩ := Box.put2 pr_7 (.int .u64 ((H' : Nat) : Int))
  go_wp2
  clear pre0 pre1 pre2 pre3 ppe0 ppe1 ppe2 ppe3 sf1a sf1b sf1c sf1d sg1a sg1b
  have hB_9 := below_setAll hB_8 (g := w.heap.size) (by omega) [.int .u64 ((H' : Nat) : Int), .int .u64 ((L' : Nat) : Int)]
  have pp_2 := pp_1.farAll (g' := w.heap.size) (by omega) [.int .u64 ((H' : Nat) : Int), .int .u64 ((L' : Nat) : Int)]
  have pr_8 := pr_7.setAll [.int .u64 ((H' : Nat) : Int), .int .u64 ((L' : Nat) : Int)] rfl
  simp only [setAll, Nat.zero_add] at hB_9 pr_8 pp_2
  clear hB_8 pp_1 pr_7
  generalize (World.setCell (World.setCell w8 ⟨w.heap.size, 0, none⟩ (.int .u64 ((H' : Nat) : Int))) ⟨w.heap.size, 1, none⟩ (.int .u64 ((L' : Nat) : Int))) = w9 at *
  go_wp2
  obtain ⟨pre0, pre1, pre2, pre3⟩ := pr_8.open2
  exact bodyPost_ret (v := .agg #[.int .u64 ((H' : Nat) : Int), .int .u64 ((L' : Nat) : Int)]) (by simp [results, Try.results19, go_sem, pre0, pre1]) rfl ⟨rfl, hB_9⟩
set_option maxHeartbeats 4000000 in
theorem wMul_w_ft (a b : Int) (ha1 : -9223372036854775808 ≤ a) (ha2 : a < 9223372036854775808) (hb1 : -9223372036854775808 ≤ b) (hb2 : b < 9223372036854775808) (H L H' L' : Nat) (sa : ¬ a < 0) (sb : b < 0) (cm : ∀ w, Calls Try.prog 41 #[.int .u64 ((wl ((a.natAbs : Int)) : Nat) : Int), .int .u64 ((wl ((b.natAbs : Int)) : Nat) : Int)] w fun e w' => e = .returned (.tuple #[.int .u64 ((H : Nat) : Int), .int .u64 ((L : Nat) : Int)]) ∧ Below w.heap.size w w') (hac : ∀ w, Calls Try.prog 34 #[.agg #[.int .u64 ((H : Nat) : Int), .int .u64 ((L : Nat) : Int)]] w fun e w' => e = .returned (.agg #[.int .u64 ((H' : Nat) : Int), .int .u64 ((L' : Nat) : Int)]) ∧ Below w.heap.size w w') (w : World) :
    Calls Try.prog 19 #[.int .i64 a, .int .i64 b] w fun e w' => e = .returned (.agg #[.int .u64 ((H' : Nat) : Int), .int .u64 ((L' : Nat) : Int)]) ∧ Below w.heap.size w w' := by
  have hB_0 := Below.refl w.heap.size w
  have CM := Lib.hid cm; have CA := Lib.hid hac; have IA := Lib.hid (inW_int ha1 ha2); have IB := Lib.hid (inW_int hb1 hb2); have HA1 := Lib.hid ha1; have HA2 := Lib.hid ha2; have HB1 := Lib.hid hb1; have HB2 := Lib.hid hb2
  clear cm hac ha1 ha2 hb1 hb2
  have qa : decide (a < 0) = false := by simp [sa]
  have qb : decide (b < 0) = true := by simp [sb]
  clear sa sb
  have hfa : ∀ w : World, (Instr.field 24 (.agg #[.int .u64 ((wh ((a.natAbs : Int)) : Nat) : Int), .int .u64 ((wl ((a.natAbs : Int)) : Nat) : Int)]) 1).run Try.prog w = .ok (.int .u64 ((wl ((a.natAbs : Int)) : Nat) : Int)) w := fun _ => by kernel_rfl
  have hfb : ∀ w : World, (Instr.field 24 (.agg #[.int .u64 ((wh ((b.natAbs : Int)) : Nat) : Int), .int .u64 ((wl ((b.natAbs : Int)) : Nat) : Int)]) 1).run Try.prog w = .ok (.int .u64 ((wl ((b.natAbs : Int)) : Nat) : Int)) w := fun _ => by kernel_rfl
  obtain ⟨w1, hw1, pr_0, hb1, hs1⟩ := new_box w (w.heap.size) rfl [.int .u64 0, .int .u64 0] 24
  have hb1' : Below w.heap.size w w1 := hb1.mono (by omega)
  clear hb1
  have hB_1 := hB_0.trans (hb1'.mono hB_0.size)
  clear hb1' hB_0
  go_enter Try.func19, Try.ntmps19
  obtain ⟨pre0, pre1, pre2, pre3⟩ := pr_0.open2
  go_wp2_with fail
  refine (wOf_any a HA1.out HA2.out _).mono ?_
  rintro e w2 ⟨rfl, hb2⟩
  clear pre0 pre1 pre2 pre3
  have hB_2 := hB_1.trans (hb2.mono hB_1.size)
  have pr_1 := pr_0.below hb2
  clear hb2 hB_1 pr_0
  obtain ⟨pre0, pre1, pre2, pre3⟩ := pr_1.open2
  go_wp2_with fail
  refine (size_any a _ IA.out).mono ?_
  rintro e w3 ⟨rfl, hb3⟩
  clear pre0 pre1 pre2 pre3
  have hB_3 := hB_2.trans (hb3.mono hB_2.size)
  have pr_2 := pr_1.below hb3
  clear hb3 hB_2 pr_1
  obtain ⟨pre0, pre1, pre2, pre3⟩ := pr_2.open2
  go_wp2_with fail
  refine (wOf_any b HB1.out HB2.out _).mono ?_
  rintro e w4 ⟨rfl, hb4⟩
  clear pre0 pre1 pre2 pre3
  have hB_4 := hB_3.trans (hb4.mono hB_3.size)
  have pr_3 := pr_2.below hb4
  clear hb4 hB_3 pr_2
  obtain ⟨pre0, pre1, pre2, pre3⟩ := pr_3.open2
  go_wp2_with fail
  refine (size_any b _ IB.out).mono ?_
  rintro e w5 ⟨rfl, hb5⟩
  clear pre0 pre1 pre2 pre3
  have hB_5 := hB_4.trans (hb5.mono hB_4.size)
  have pr_4 := pr_3.below hb5
  clear hb5 hB_4 pr_3
  obtain ⟨pre0, pre1, pre2, pre3⟩ := pr_4.open2
  go_wp2_with fail
  refine (CM.out _).mono ?_
  rintro e w6 ⟨rfl, hb6⟩
  clear pre0 pre1 pre2 pre3
  have hB_6 := hB_5.trans (hb6.mono hB_5.size)
  have pr_5 := pr_4.below hb6
  clear hb6 hB_5 pr_4
  obtain ⟨pre0, pre1, pre2, pre3⟩ := pr_5.open2
  clear pre0 pre1 pre2 pre3
  have hl1pr := pr_5.lt
  have hl1B := hB_6.size
  obtain ⟨w7, hw7, pp_0, hb7, hs7⟩ := new_box w6 (w6.heap.size) rfl [.int .u64 ((H : Nat) : Int), .int .u64 ((L : Nat) : Int)] 24
  have hb7' : Below w6.heap.size w6 w7 := hb7.mono (by omega)
  clear hb7
  have hB_7 := hB_6.trans (hb7'.mono hB_6.size)
  have pr_6 := pr_5.below hb7'
  clear hb7' hB_6 pr_5
  obtain ⟨pre0, pre1, pre2, pre3⟩ := pr_6.open2
  obtain ⟨ppe0, ppe1, ppe2, ppe3⟩ := pp_0.open2
  go_wp2_with fail
  refine (CA.out _).mono ?_
  rintro e w8 ⟨rfl, hb8⟩
  clear pre0 pre1 pre2 pre3 ppe0 ppe1 ppe2 ppe3
  have hB_8 := hB_7.trans (hb8.mono hB_7.size)
  have pr_7 := pr_6.below hb8
  have pp_1 := pp_0.below hb8
  clear hb8 hB_7 pr_6 pp_0
  obtain ⟨pre0, pre1, pre2, pre3⟩ := pr_7.open2
  obtain ⟨ppe0, ppe1, ppe2, ppe3⟩ := pp_1.open2
  obtain ⟨sf1a, sf1b, sf1c, sf1d⟩ := pr_7.open2
  obtain ⟨sg1a, sg1b⟩ := Box.put2 pr_7 (.int .u64 ((H' : Nat) : Int))
  go_wp2
  clear pre0 pre1 pre2 pre3 ppe0 ppe1 ppe2 ppe3 sf1a sf1b sf1c sf1d sg1a sg1b
  have hB_9 := below_setAll hB_8 (g := w.heap.size) (by omega) [.int .u64 ((H' : Nat) : Int), .int .u64 ((L' : Nat) : Int)]
  have pp_2 := pp_1.farAll (g' := w.heap.size) (by omega) [.int .u64 ((H' : Nat) : Int), .int .u64 ((L' : Nat) : Int)]
  have pr_8 := pr_7.setAll [.int .u64 ((H' : Nat) : Int), .int .u64 ((L' : Nat) : Int)] rfl
  simp only [setAll, Nat.zero_add] at hB_9 pr_8 pp_2
  clear hB_8 pp_1 pr_7
  generalize (World.setCell (World.setCell w8 ⟨w.heap.size, 0, none⟩ (.int .u64 ((H' : Nat) : Int))) ⟨w.heap.size, 1, none⟩ (.int .u64 ((L' : Nat) : Int))) = w9 at *
  go_wp2
  obtain ⟨pre0, pre1, pre2, pre3⟩ := pr_8.open2
  exact bodyPost_ret (v := .agg #[.int .u64 ((H' : Nat) : Int), .int .u64 ((L' : Nat) : Int)]) (by simp [results, Try.results19, go_sem, pre0, pre1]) rfl ⟨rfl, hB_9⟩
set_option maxHeartbeats 4000000 in
theorem wMul_w_ff (a b : Int) (ha1 : -9223372036854775808 ≤ a) (ha2 : a < 9223372036854775808) (hb1 : -9223372036854775808 ≤ b) (hb2 : b < 9223372036854775808) (H L H' L' : Nat) (sa : ¬ a < 0) (sb : ¬ b < 0) (cm : ∀ w, Calls Try.prog 41 #[.int .u64 ((wl ((a.natAbs : Int)) : Nat) : Int), .int .u64 ((wl ((b.natAbs : Int)) : Nat) : Int)] w fun e w' => e = .returned (.tuple #[.int .u64 ((H : Nat) : Int), .int .u64 ((L : Nat) : Int)]) ∧ Below w.heap.size w w') (hac : ∀ w, Calls Try.prog 34 #[.agg #[.int .u64 ((H : Nat) : Int), .int .u64 ((L : Nat) : Int)]] w fun e w' => e = .returned (.agg #[.int .u64 ((H' : Nat) : Int), .int .u64 ((L' : Nat) : Int)]) ∧ Below w.heap.size w w') (w : World) :
    Calls Try.prog 19 #[.int .i64 a, .int .i64 b] w fun e w' => e = .returned (.agg #[.int .u64 ((H : Nat) : Int), .int .u64 ((L : Nat) : Int)]) ∧ Below w.heap.size w w' := by
  have hB_0 := Below.refl w.heap.size w
  have CM := Lib.hid cm; have CA := Lib.hid hac; have IA := Lib.hid (inW_int ha1 ha2); have IB := Lib.hid (inW_int hb1 hb2); have HA1 := Lib.hid ha1; have HA2 := Lib.hid ha2; have HB1 := Lib.hid hb1; have HB2 := Lib.hid hb2
  clear cm hac ha1 ha2 hb1 hb2
  have qa : decide (a < 0) = false := by simp [sa]
  have qb : decide (b < 0) = false := by simp [sb]
  clear sa sb
  have hfa : ∀ w : World, (Instr.field 24 (.agg #[.int .u64 ((wh ((a.natAbs : Int)) : Nat) : Int), .int .u64 ((wl ((a.natAbs : Int)) : Nat) : Int)]) 1).run Try.prog w = .ok (.int .u64 ((wl ((a.natAbs : Int)) : Nat) : Int)) w := fun _ => by kernel_rfl
  have hfb : ∀ w : World, (Instr.field 24 (.agg #[.int .u64 ((wh ((b.natAbs : Int)) : Nat) : Int), .int .u64 ((wl ((b.natAbs : Int)) : Nat) : Int)]) 1).run Try.prog w = .ok (.int .u64 ((wl ((b.natAbs : Int)) : Nat) : Int)) w := fun _ => by kernel_rfl
  obtain ⟨w1, hw1, pr_0, hb1, hs1⟩ := new_box w (w.heap.size) rfl [.int .u64 0, .int .u64 0] 24
  have hb1' : Below w.heap.size w w1 := hb1.mono (by omega)
  clear hb1
  have hB_1 := hB_0.trans (hb1'.mono hB_0.size)
  clear hb1' hB_0
  go_enter Try.func19, Try.ntmps19
  obtain ⟨pre0, pre1, pre2, pre3⟩ := pr_0.open2
  go_wp2_with fail
  refine (wOf_any a HA1.out HA2.out _).mono ?_
  rintro e w2 ⟨rfl, hb2⟩
  clear pre0 pre1 pre2 pre3
  have hB_2 := hB_1.trans (hb2.mono hB_1.size)
  have pr_1 := pr_0.below hb2
  clear hb2 hB_1 pr_0
  obtain ⟨pre0, pre1, pre2, pre3⟩ := pr_1.open2
  go_wp2_with fail
  refine (size_any a _ IA.out).mono ?_
  rintro e w3 ⟨rfl, hb3⟩
  clear pre0 pre1 pre2 pre3
  have hB_3 := hB_2.trans (hb3.mono hB_2.size)
  have pr_2 := pr_1.below hb3
  clear hb3 hB_2 pr_1
  obtain ⟨pre0, pre1, pre2, pre3⟩ := pr_2.open2
  go_wp2_with fail
  refine (wOf_any b HB1.out HB2.out _).mono ?_
  rintro e w4 ⟨rfl, hb4⟩
  clear pre0 pre1 pre2 pre3
  have hB_4 := hB_3.trans (hb4.mono hB_3.size)
  have pr_3 := pr_2.below hb4
  clear hb4 hB_3 pr_2
  obtain ⟨pre0, pre1, pre2, pre3⟩ := pr_3.open2
  go_wp2_with fail
  refine (size_any b _ IB.out).mono ?_
  rintro e w5 ⟨rfl, hb5⟩
  clear pre0 pre1 pre2 pre3
  have hB_5 := hB_4.trans (hb5.mono hB_4.size)
  have pr_4 := pr_3.below hb5
  clear hb5 hB_4 pr_3
  obtain ⟨pre0, pre1, pre2, pre3⟩ := pr_4.open2
  go_wp2_with fail
  refine (CM.out _).mono ?_
  rintro e w6 ⟨rfl, hb6⟩
  clear pre0 pre1 pre2 pre3
  have hB_6 := hB_5.trans (hb6.mono hB_5.size)
  have pr_5 := pr_4.below hb6
  clear hb6 hB_5 pr_4
  obtain ⟨pre0, pre1, pre2, pre3⟩ := pr_5.open2
  clear pre0 pre1 pre2 pre3
  have hl1pr := pr_5.lt
  have hl1B := hB_6.size
  obtain ⟨w7, hw7, pp_0, hb7, hs7⟩ := new_box w6 (w6.heap.size) rfl [.int .u64 ((H : Nat) : Int), .int .u64 ((L : Nat) : Int)] 24
  have hb7' : Below w6.heap.size w6 w7 := hb7.mono (by omega)
  clear hb7
  have hB_7 := hB_6.trans (hb7'.mono hB_6.size)
  have pr_6 := pr_5.below hb7'
  clear hb7' hB_6 pr_5
  obtain ⟨pre0, pre1, pre2, pre3⟩ := pr_6.open2
  obtain ⟨ppe0, ppe1, ppe2, ppe3⟩ := pp_0.open2
  obtain ⟨sf1a, sf1b, sf1c, sf1d⟩ := pr_6.open2
  obtain ⟨sg1a, sg1b⟩ := Box.put2 pr_6 (.int .u64 ((H : Nat) : Int))
  go_wp2
  clear pre0 pre1 pre2 pre3 ppe0 ppe1 ppe2 ppe3 sf1a sf1b sf1c sf1d sg1a sg1b
  have hB_8 := below_setAll hB_7 (g := w.heap.size) (by omega) [.int .u64 ((H : Nat) : Int), .int .u64 ((L : Nat) : Int)]
  have pp_1 := pp_0.farAll (g' := w.heap.size) (by omega) [.int .u64 ((H : Nat) : Int), .int .u64 ((L : Nat) : Int)]
  have pr_7 := pr_6.setAll [.int .u64 ((H : Nat) : Int), .int .u64 ((L : Nat) : Int)] rfl
  simp only [setAll, Nat.zero_add] at hB_8 pr_7 pp_1
  clear hB_7 pp_0 pr_6
  generalize (World.setCell (World.setCell w7 ⟨w.heap.size, 0, none⟩ (.int .u64 ((H : Nat) : Int))) ⟨w.heap.size, 1, none⟩ (.int .u64 ((L : Nat) : Int))) = w8 at *
  go_wp2
  obtain ⟨pre0, pre1, pre2, pre3⟩ := pr_7.open2
  exact bodyPost_ret (v := .agg #[.int .u64 ((H : Nat) : Int), .int .u64 ((L : Nat) : Int)]) (by simp [results, Try.results19, go_sem, pre0, pre1]) rfl ⟨rfl, hB_8⟩
theorem wMul_any (a b : Int) (ha1 : -9223372036854775808 ≤ a) (ha2 : a < 9223372036854775808) (hb1 : -9223372036854775808 ≤ b) (hb2 : b < 9223372036854775808) (w : World) :
    Calls Try.prog 19 #[.int .i64 a, .int .i64 b] w fun e w' => AnsW w w' e (a * b) := by
  obtain ⟨ea, la⟩ := w_abs_int ha1 ha2
  obtain ⟨eb, lb⟩ := w_abs_int hb1 hb2
  obtain ⟨x, hx⟩ : ∃ x : Int, x = ((a.natAbs * b.natAbs : Nat) : Int) := ⟨_, rfl⟩
  have hlt : a.natAbs * b.natAbs < B * B := Nat.mul_lt_mul'' la lb
  have hw := w_mod x
  have h1 := wh_lt x; have h2 := wl_lt x
  have q1 : a.natAbs * b.natAbs / B = wh x := by
    simp only [B_eq] at *; omega
  have q2 : a.natAbs * b.natAbs % B = wl x := by
    simp only [B_eq] at *; omega
  have cm := fun w => mul64_is a.natAbs b.natAbs (wh x) (wl x) w la lb q1 q2
  rw [← ea, ← eb] at cm
  have hac := fun w => across_any x w
  have hm : ((a.natAbs * b.natAbs : Nat) : Int) = (a.natAbs : Int) * (b.natAbs : Int) := Int.natCast_mul _ _
  by_cases sa : a < 0 <;> by_cases sb : b < 0
  · have e : a * b = x := by
      rw [hx, hm, show (a.natAbs : Int) = -a by omega, show (b.natAbs : Int) = -b by omega]; simp [Int.neg_mul, Int.mul_neg]
    rw [e]; exact wMul_w_tt a b ha1 ha2 hb1 hb2 _ _ _ _ sa sb cm hac w
  · have e : a * b = -x := by
      rw [hx, hm, show (a.natAbs : Int) = -a by omega, show (b.natAbs : Int) = b by omega]; simp [Int.neg_mul]
    rw [e]; exact wMul_w_tf a b ha1 ha2 hb1 hb2 _ _ _ _ sa sb cm hac w
  · have e : a * b = -x := by
      rw [hx, hm, show (a.natAbs : Int) = a by omega, show (b.natAbs : Int) = -b by omega]; simp [Int.mul_neg]
    rw [e]; exact wMul_w_ft a b ha1 ha2 hb1 hb2 _ _ _ _ sa sb cm hac w
  · have e : a * b = x := by
      rw [hx, hm, show (a.natAbs : Int) = a by omega, show (b.natAbs : Int) = b by omega]
    rw [e]; exact wMul_w_ff a b ha1 ha2 hb1 hb2 _ _ _ _ sa sb cm hac w
set_option maxHeartbeats 4000000 in
theorem wDet_w (a b c d x y : Int) (c1 : ∀ w, Calls Try.prog 19 #[.int .i64 a, .int .i64 d] w fun e w' => AnsW w w' e x) (c2 : ∀ w, Calls Try.prog 19 #[.int .i64 b, .int .i64 c] w fun e w' => AnsW w w' e y) (w : World) :
    Calls Try.prog 28 #[.int .i64 a, .int .i64 b, .int .i64 c, .int .i64 d] w fun e w' => AnsW w w' e (x - y) := by
  have hB_0 := Below.refl w.heap.size w
  have C1 := Lib.hid c1; have C2 := Lib.hid c2
  clear c1 c2
  obtain ⟨w1, hw1, pr_0, hb1, hs1⟩ := new_box w (w.heap.size) rfl [.int .u64 0, .int .u64 0] 24
  have hb1' : Below w.heap.size w w1 := hb1.mono (by omega)
  clear hb1
  have hB_1 := hB_0.trans (hb1'.mono hB_0.size)
  clear hb1' hB_0
  go_enter Try.func28, Try.ntmps28
  obtain ⟨pre0, pre1, pre2, pre3⟩ := pr_0.open2
  go_wp2_with fail
  refine (C1.out _).mono ?_
  rintro e w2 ⟨rfl, hb2⟩
  clear pre0 pre1 pre2 pre3
  have hB_2 := hB_1.trans (hb2.mono hB_1.size)
  have pr_1 := pr_0.below hb2
  clear hb2 hB_1 pr_0
  obtain ⟨pre0, pre1, pre2, pre3⟩ := pr_1.open2
  go_wp2_with fail
  refine (C2.out _).mono ?_
  rintro e w3 ⟨rfl, hb3⟩
  clear pre0 pre1 pre2 pre3
  have hB_3 := hB_2.trans (hb3.mono hB_2.size)
  have pr_2 := pr_1.below hb3
  clear hb3 hB_2 pr_1
  obtain ⟨pre0, pre1, pre2, pre3⟩ := pr_2.open2
  go_wp2_with fail
  refine (less_any x y _).mono ?_
  rintro e w4 ⟨rfl, hb4⟩
  clear pre0 pre1 pre2 pre3
  have hB_4 := hB_3.trans (hb4.mono hB_3.size)
  have pr_3 := pr_2.below hb4
  clear hb4 hB_3 pr_2
  obtain ⟨pre0, pre1, pre2, pre3⟩ := pr_3.open2
  obtain ⟨sf1a, sf1b, sf1c, sf1d⟩ := pr_3.open2
  obtain ⟨sg1a, sg1b⟩ := Box.put2 pr_3 (.int .u64 ((wh (x - y) : Nat) : Int))
  go_wp2
  clear pre0 pre1 pre2 pre3 sf1a sf1b sf1c sf1d sg1a sg1b
  have hB_5 := below_setAll hB_4 (g := w.heap.size) (by omega) [.int .u64 ((wh (x - y) : Nat) : Int), .int .u64 ((wl (x - y) : Nat) : Int)]
  have pr_4 := pr_3.setAll [.int .u64 ((wh (x - y) : Nat) : Int), .int .u64 ((wl (x - y) : Nat) : Int)] rfl
  simp only [setAll, Nat.zero_add] at hB_5 pr_4
  clear hB_4 pr_3
  generalize (World.setCell (World.setCell w4 ⟨w.heap.size, 0, none⟩ (.int .u64 ((wh (x - y) : Nat) : Int))) ⟨w.heap.size, 1, none⟩ (.int .u64 ((wl (x - y) : Nat) : Int))) = w5 at *
  go_wp2
  obtain ⟨pre0, pre1, pre2, pre3⟩ := pr_4.open2
  exact bodyPost_ret (v := .agg #[.int .u64 ((wh (x - y) : Nat) : Int), .int .u64 ((wl (x - y) : Nat) : Int)]) (by simp [results, Try.results28, go_sem, pre0, pre1]) rfl ⟨rfl, hB_5⟩
theorem wDet_any (a b c d : Int) (ha1 : -9223372036854775808 ≤ a) (ha2 : a < 9223372036854775808) (hb1 : -9223372036854775808 ≤ b) (hb2 : b < 9223372036854775808) (hc1 : -9223372036854775808 ≤ c) (hc2 : c < 9223372036854775808) (hd1 : -9223372036854775808 ≤ d) (hd2 : d < 9223372036854775808) (w : World) :
    Calls Try.prog 28 #[.int .i64 a, .int .i64 b, .int .i64 c, .int .i64 d] w fun e w' => AnsW w w' e (a * d - b * c) :=
  wDet_w a b c d _ _ (fun w => wMul_any a d ha1 ha2 hd1 hd2 w) (fun w => wMul_any b c hb1 hb2 hc1 hc2 w) w
end Go.Proofs.Ytkigfccbhkcedaa
/- The calls of wide, walked: Times. -/
namespace Go.Proofs.Ytkigfccbhkcedaa
open Go.RowKit Go.MagM
set_option maxHeartbeats 8000000 in
theorem wTimes_w_over (x n : Int) (hx : InW x) (hn1 : -9223372036854775808 ≤ n) (hn2 : n < 9223372036854775808) (hi lo mid cy ov mo : Nat) (m1 : ∀ w, Calls Try.prog 41 #[.int .u64 ((wl ((x.natAbs : Int)) : Nat) : Int), .int .u64 ((wl ((n.natAbs : Int)) : Nat) : Int)] w fun e w' => e = .returned (.tuple #[.int .u64 ((cy : Nat) : Int), .int .u64 ((lo : Nat) : Int)]) ∧ Below w.heap.size w w') (m2 : ∀ w, Calls Try.prog 41 #[.int .u64 ((wh ((x.natAbs : Int)) : Nat) : Int), .int .u64 ((wl ((n.natAbs : Int)) : Nat) : Int)] w fun e w' => e = .returned (.tuple #[.int .u64 ((ov : Nat) : Int), .int .u64 ((mid : Nat) : Int)]) ∧ Below w.heap.size w w') (hrun : ∀ w, (callFunc 32 #[.int .u64 ((mid : Nat) : Int), .int .u64 ((cy : Nat) : Int), .int .u64 0]).run Try.prog w = .ok (.value (.tuple #[.int .u64 ((hi : Nat) : Int), .int .u64 ((mo : Nat) : Int)])) w) (h0 : ¬ ov = 0) (w : World) :
    Calls Try.prog 20 #[.agg #[.int .u64 ((wh (x) : Nat) : Int), .int .u64 ((wl (x) : Nat) : Int)], .int .i64 n] w fun e w' => e = .returned (.tuple #[.agg #[.int .u64 0, .int .u64 0], .bool false]) ∧ Below w.heap.size w w' := by
  have hB_0 := Below.refl w.heap.size w
  have HX := Lib.hid hx; have HN1 := Lib.hid hn1; have HN2 := Lib.hid hn2; have M1 := Lib.hid m1; have M2 := Lib.hid m2
  clear hx hn1 hn2 m1 m2
  have hfn : ∀ w : World, (Instr.field 24 (.agg #[.int .u64 ((wh ((n.natAbs : Int)) : Nat) : Int), .int .u64 ((wl ((n.natAbs : Int)) : Nat) : Int)]) 1).run Try.prog w = .ok (.int .u64 ((wl ((n.natAbs : Int)) : Nat) : Int)) w := fun _ => by kernel_rfl
  obtain ⟨w1, hw1, pa_0, hb1, hs1⟩ := new_box w (w.heap.size) rfl [.int .u64 ((wh (x) : Nat) : Int), .int .u64 ((wl (x) : Nat) : Int)] 24
  have hb1' : Below w.heap.size w w1 := hb1.mono (by omega)
  clear hb1
  have hB_1 := hB_0.trans (hb1'.mono hB_0.size)
  clear hb1' hB_0
  obtain ⟨w2, hw2, pr_0, hb2, hs2⟩ := new_box w1 (w.heap.size + 1) hs1 [.int .u64 0, .int .u64 0] 24
  have hb2' : Below w1.heap.size w1 w2 := hb2.mono (by omega)
  clear hb2
  have hB_2 := hB_1.trans (hb2'.mono hB_1.size)
  have pa_1 := pa_0.below hb2'
  clear hb2' hB_1 pa_0
  go_enter Try.func20, Try.ntmps20
  obtain ⟨pae0, pae1, pae2, pae3⟩ := pa_1.open2
  obtain ⟨pre0, pre1, pre2, pre3⟩ := pr_0.open2
  go_wp2_with fail
  refine (size_any x _ HX.out).mono ?_
  rintro e w3 ⟨rfl, hb3⟩
  clear pae0 pae1 pae2 pae3 pre0 pre1 pre2 pre3
  have hB_3 := hB_2.trans (hb3.mono hB_2.size)
  have pa_2 := pa_1.below hb3
  have pr_1 := pr_0.below hb3
  clear hb3 hB_2 pa_1 pr_0
  obtain ⟨pae0, pae1, pae2, pae3⟩ := pa_2.open2
  obtain ⟨pre0, pre1, pre2, pre3⟩ := pr_1.open2
  go_wp2_with fail
  refine (wOf_any n HN1.out HN2.out _).mono ?_
  rintro e w4 ⟨rfl, hb4⟩
  clear pae0 pae1 pae2 pae3 pre0 pre1 pre2 pre3
  have hB_4 := hB_3.trans (hb4.mono hB_3.size)
  have pa_3 := pa_2.below hb4
  have pr_2 := pr_1.below hb4
  clear hb4 hB_3 pa_2 pr_1
  obtain ⟨pae0, pae1, pae2, pae3⟩ := pa_3.open2
  obtain ⟨pre0, pre1, pre2, pre3⟩ := pr_2.open2
  go_wp2_with fail
  refine (size_any n _ (inW_int HN1.out HN2.out)).mono ?_
  rintro e w5 ⟨rfl, hb5⟩
  clear pae0 pae1 pae2 pae3 pre0 pre1 pre2 pre3
  have hB_5 := hB_4.trans (hb5.mono hB_4.size)
  have pa_4 := pa_3.below hb5
  have pr_3 := pr_2.below hb5
  clear hb5 hB_4 pa_3 pr_2
  obtain ⟨pae0, pae1, pae2, pae3⟩ := pa_4.open2
  obtain ⟨pre0, pre1, pre2, pre3⟩ := pr_3.open2
  clear pae0 pae1 pae2 pae3 pre0 pre1 pre2 pre3
  have hl1pa := pa_4.lt
  have hl1pr := pr_3.lt
  have hl1B := hB_5.size
  obtain ⟨w6, hw6, ps_0, hb6, hs6⟩ := new_box w5 (w5.heap.size) rfl [.int .u64 ((wh ((x.natAbs : Int)) : Nat) : Int), .int .u64 ((wl ((x.natAbs : Int)) : Nat) : Int)] 24
  have hb6' : Below w5.heap.size w5 w6 := hb6.mono (by omega)
  clear hb6
  have hB_6 := hB_5.trans (hb6'.mono hB_5.size)
  have pa_5 := pa_4.below hb6'
  have pr_4 := pr_3.below hb6'
  clear hb6' hB_5 pa_4 pr_3
  obtain ⟨pae0, pae1, pae2, pae3⟩ := pa_5.open2
  obtain ⟨pre0, pre1, pre2, pre3⟩ := pr_4.open2
  obtain ⟨pse0, pse1, pse2, pse3⟩ := ps_0.open2
  go_wp2_with fail
  refine (M1.out _).mono ?_
  rintro e w7 ⟨rfl, hb7⟩
  clear pae0 pae1 pae2 pae3 pre0 pre1 pre2 pre3 pse0 pse1 pse2 pse3
  have hB_7 := hB_6.trans (hb7.mono hB_6.size)
  have pa_6 := pa_5.below hb7
  have pr_5 := pr_4.below hb7
  have ps_1 := ps_0.below hb7
  clear hb7 hB_6 pa_5 pr_4 ps_0
  obtain ⟨pae0, pae1, pae2, pae3⟩ := pa_6.open2
  obtain ⟨pre0, pre1, pre2, pre3⟩ := pr_5.open2
  obtain ⟨pse0, pse1, pse2, pse3⟩ := ps_1.open2
  go_wp2_with fail
  refine (M2.out _).mono ?_
  rintro e w8 ⟨rfl, hb8⟩
  clear pae0 pae1 pae2 pae3 pre0 pre1 pre2 pre3 pse0 pse1 pse2 pse3
  have hB_8 := hB_7.trans (hb8.mono hB_7.size)
  have pa_7 := pa_6.below hb8
  have pr_6 := pr_5.below hb8
  have ps_2 := ps_1.below hb8
  clear hb8 hB_7 pa_6 pr_5 ps_1
  obtain ⟨pae0, pae1, pae2, pae3⟩ := pa_7.open2
  obtain ⟨pre0, pre1, pre2, pre3⟩ := pr_6.open2
  obtain ⟨pse0, pse1, pse2, pse3⟩ := ps_2.open2
  obtain ⟨sf1a, sf1b, sf1c, sf1d⟩ := pr_6.open2
  obtain ⟨sg1a, sg1b⟩ := Box.put2 pr_6 (.int .u64 0)
  go_wp2
  clear pae0 pae1 pae2 pae3 pre0 pre1 pre2 pre3 pse0 pse1 pse2 pse3 sf1a sf1b sf1c sf1d sg1a sg1b
  have hB_9 := below_setAll hB_8 (g := w.heap.size + 1) (by omega) [.int .u64 0, .int .u64 0]
  have pa_8 := pa_7.farAll (g' := w.heap.size + 1) (by omega) [.int .u64 0, .int .u64 0]
  have ps_3 := ps_2.farAll (g' := w.heap.size + 1) (by omega) [.int .u64 0, .int .u64 0]
  have pr_7 := pr_6.setAll [.int .u64 0, .int .u64 0] rfl
  simp only [setAll, Nat.zero_add] at hB_9 pa_8 pr_7 ps_3
  clear hB_8 pa_7 ps_2 pr_6
  generalize (World.setCell (World.setCell w8 ⟨w.heap.size + 1, 0, none⟩ (.int .u64 0)) ⟨w.heap.size + 1, 1, none⟩ (.int .u64 0)) = w9 at *
  go_wp2
  obtain ⟨pre0, pre1, pre2, pre3⟩ := pr_7.open2
  exact bodyPost_ret (v := .tuple #[.agg #[.int .u64 0, .int .u64 0], .bool false]) (by simp [results, Try.results20, go_sem, pre0, pre1]) rfl ⟨rfl, hB_9⟩
set_option maxHeartbeats 8000000 in
theorem wTimes_w_more (x n : Int) (hx : InW x) (hn1 : -9223372036854775808 ≤ n) (hn2 : n < 9223372036854775808) (hi lo mid cy mo : Nat) (m1 : ∀ w, Calls Try.prog 41 #[.int .u64 ((wl ((x.natAbs : Int)) : Nat) : Int), .int .u64 ((wl ((n.natAbs : Int)) : Nat) : Int)] w fun e w' => e = .returned (.tuple #[.int .u64 ((cy : Nat) : Int), .int .u64 ((lo : Nat) : Int)]) ∧ Below w.heap.size w w') (m2 : ∀ w, Calls Try.prog 41 #[.int .u64 ((wh ((x.natAbs : Int)) : Nat) : Int), .int .u64 ((wl ((n.natAbs : Int)) : Nat) : Int)] w fun e w' => e = .returned (.tuple #[.int .u64 0, .int .u64 ((mid : Nat) : Int)]) ∧ Below w.heap.size w w') (hrun : ∀ w, (callFunc 32 #[.int .u64 ((mid : Nat) : Int), .int .u64 ((cy : Nat) : Int), .int .u64 0]).run Try.prog w = .ok (.value (.tuple #[.int .u64 ((hi : Nat) : Int), .int .u64 ((mo : Nat) : Int)])) w) (h0 : ¬ mo = 0) (w : World) :
    Calls Try.prog 20 #[.agg #[.int .u64 ((wh (x) : Nat) : Int), .int .u64 ((wl (x) : Nat) : Int)], .int .i64 n] w fun e w' => e = .returned (.tuple #[.agg #[.int .u64 0, .int .u64 0], .bool false]) ∧ Below w.heap.size w w' := by
  have hB_0 := Below.refl w.heap.size w
  have HX := Lib.hid hx; have HN1 := Lib.hid hn1; have HN2 := Lib.hid hn2; have M1 := Lib.hid m1; have M2 := Lib.hid m2
  clear hx hn1 hn2 m1 m2
  have hfn : ∀ w : World, (Instr.field 24 (.agg #[.int .u64 ((wh ((n.natAbs : Int)) : Nat) : Int), .int .u64 ((wl ((n.natAbs : Int)) : Nat) : Int)]) 1).run Try.prog w = .ok (.int .u64 ((wl ((n.natAbs : Int)) : Nat) : Int)) w := fun _ => by kernel_rfl
  obtain ⟨w1, hw1, pa_0, hb1, hs1⟩ := new_box w (w.heap.size) rfl [.int .u64 ((wh (x) : Nat) : Int), .int .u64 ((wl (x) : Nat) : Int)] 24
  have hb1' : Below w.heap.size w w1 := hb1.mono (by omega)
  clear hb1
  have hB_1 := hB_0.trans (hb1'.mono hB_0.size)
  clear hb1' hB_0
  obtain ⟨w2, hw2, pr_0, hb2, hs2⟩ := new_box w1 (w.heap.size + 1) hs1 [.int .u64 0, .int .u64 0] 24
  have hb2' : Below w1.heap.size w1 w2 := hb2.mono (by omega)
  clear hb2
  have hB_2 := hB_1.trans (hb2'.mono hB_1.size)
  have pa_1 := pa_0.below hb2'
  clear hb2' hB_1 pa_0
  go_enter Try.func20, Try.ntmps20
  obtain ⟨pae0, pae1, pae2, pae3⟩ := pa_1.open2
  obtain ⟨pre0, pre1, pre2, pre3⟩ := pr_0.open2
  go_wp2_with fail
  refine (size_any x _ HX.out).mono ?_
  rintro e w3 ⟨rfl, hb3⟩
  clear pae0 pae1 pae2 pae3 pre0 pre1 pre2 pre3
  have hB_3 := hB_2.trans (hb3.mono hB_2.size)
  have pa_2 := pa_1.below hb3
  have pr_1 := pr_0.below hb3
  clear hb3 hB_2 pa_1 pr_0
  obtain ⟨pae0, pae1, pae2, pae3⟩ := pa_2.open2
  obtain ⟨pre0, pre1, pre2, pre3⟩ := pr_1.open2
  go_wp2_with fail
  refine (wOf_any n HN1.out HN2.out _).mono ?_
  rintro e w4 ⟨rfl, hb4⟩
  clear pae0 pae1 pae2 pae3 pre0 pre1 pre2 pre3
  have hB_4 := hB_3.trans (hb4.mono hB_3.size)
  have pa_3 := pa_2.below hb4
  have pr_2 := pr_1.below hb4
  clear hb4 hB_3 pa_2 pr_1
  obtain ⟨pae0, pae1, pae2, pae3⟩ := pa_3.open2
  obtain ⟨pre0, pre1, pre2, pre3⟩ := pr_2.open2
  go_wp2_with fail
  refine (size_any n _ (inW_int HN1.out HN2.out)).mono ?_
  rintro e w5 ⟨rfl, hb5⟩
  clear pae0 pae1 pae2 pae3 pre0 pre1 pre2 pre3
  have hB_5 := hB_4.trans (hb5.mono hB_4.size)
  have pa_4 := pa_3.below hb5
  have pr_3 := pr_2.below hb5
  clear hb5 hB_4 pa_3 pr_2
  obtain ⟨pae0, pae1, pae2, pae3⟩ := pa_4.open2
  obtain ⟨pre0, pre1, pre2, pre3⟩ := pr_3.open2
  clear pae0 pae1 pae2 pae3 pre0 pre1 pre2 pre3
  have hl1pa := pa_4.lt
  have hl1pr := pr_3.lt
  have hl1B := hB_5.size
  obtain ⟨w6, hw6, ps_0, hb6, hs6⟩ := new_box w5 (w5.heap.size) rfl [.int .u64 ((wh ((x.natAbs : Int)) : Nat) : Int), .int .u64 ((wl ((x.natAbs : Int)) : Nat) : Int)] 24
  have hb6' : Below w5.heap.size w5 w6 := hb6.mono (by omega)
  clear hb6
  have hB_6 := hB_5.trans (hb6'.mono hB_5.size)
  have pa_5 := pa_4.below hb6'
  have pr_4 := pr_3.below hb6'
  clear hb6' hB_5 pa_4 pr_3
  obtain ⟨pae0, pae1, pae2, pae3⟩ := pa_5.open2
  obtain ⟨pre0, pre1, pre2, pre3⟩ := pr_4.open2
  obtain ⟨pse0, pse1, pse2, pse3⟩ := ps_0.open2
  go_wp2_with fail
  refine (M1.out _).mono ?_
  rintro e w7 ⟨rfl, hb7⟩
  clear pae0 pae1 pae2 pae3 pre0 pre1 pre2 pre3 pse0 pse1 pse2 pse3
  have hB_7 := hB_6.trans (hb7.mono hB_6.size)
  have pa_6 := pa_5.below hb7
  have pr_5 := pr_4.below hb7
  have ps_1 := ps_0.below hb7
  clear hb7 hB_6 pa_5 pr_4 ps_0
  obtain ⟨pae0, pae1, pae2, pae3⟩ := pa_6.open2
  obtain ⟨pre0, pre1, pre2, pre3⟩ := pr_5.open2
  obtain ⟨pse0, pse1, pse2, pse3⟩ := ps_1.open2
  go_wp2_with fail
  refine (M2.out _).mono ?_
  rintro e w8 ⟨rfl, hb8⟩
  clear pae0 pae1 pae2 pae3 pre0 pre1 pre2 pre3 pse0 pse1 pse2 pse3
  have hB_8 := hB_7.trans (hb8.mono hB_7.size)
  have pa_7 := pa_6.below hb8
  have pr_6 := pr_5.below hb8
  have ps_2 := ps_1.below hb8
  clear hb8 hB_7 pa_6 pr_5 ps_1
  obtain ⟨pae0, pae1, pae2, pae3⟩ := pa_7.open2
  obtain ⟨pre0, pre1, pre2, pre3⟩ := pr_6.open2
  obtain ⟨pse0, pse1, pse2, pse3⟩ := ps_2.open2
  obtain ⟨sf1a, sf1b, sf1c, sf1d⟩ := pr_6.open2
  obtain ⟨sg1a, sg1b⟩ := Box.put2 pr_6 (.int .u64 0)
  go_wp2
  clear pae0 pae1 pae2 pae3 pre0 pre1 pre2 pre3 pse0 pse1 pse2 pse3 sf1a sf1b sf1c sf1d sg1a sg1b
  have hB_9 := below_setAll hB_8 (g := w.heap.size + 1) (by omega) [.int .u64 0, .int .u64 0]
  have pa_8 := pa_7.farAll (g' := w.heap.size + 1) (by omega) [.int .u64 0, .int .u64 0]
  have ps_3 := ps_2.farAll (g' := w.heap.size + 1) (by omega) [.int .u64 0, .int .u64 0]
  have pr_7 := pr_6.setAll [.int .u64 0, .int .u64 0] rfl
  simp only [setAll, Nat.zero_add] at hB_9 pa_8 pr_7 ps_3
  clear hB_8 pa_7 ps_2 pr_6
  generalize (World.setCell (World.setCell w8 ⟨w.heap.size + 1, 0, none⟩ (.int .u64 0)) ⟨w.heap.size + 1, 1, none⟩ (.int .u64 0)) = w9 at *
  go_wp2
  obtain ⟨pre0, pre1, pre2, pre3⟩ := pr_7.open2
  exact bodyPost_ret (v := .tuple #[.agg #[.int .u64 0, .int .u64 0], .bool false]) (by simp [results, Try.results20, go_sem, pre0, pre1]) rfl ⟨rfl, hB_9⟩
end Go.Proofs.Ytkigfccbhkcedaa
/- The calls of wide, walked: Times. -/
namespace Go.Proofs.Ytkigfccbhkcedaa
open Go.RowKit Go.MagM
set_option maxHeartbeats 8000000 in
theorem wTimes_w_nn (x n : Int) (hx : InW x) (hn1 : -9223372036854775808 ≤ n) (hn2 : n < 9223372036854775808) (hi lo mid cy : Nat) (m1 : ∀ w, Calls Try.prog 41 #[.int .u64 ((wl ((x.natAbs : Int)) : Nat) : Int), .int .u64 ((wl ((n.natAbs : Int)) : Nat) : Int)] w fun e w' => e = .returned (.tuple #[.int .u64 ((cy : Nat) : Int), .int .u64 ((lo : Nat) : Int)]) ∧ Below w.heap.size w w') (m2 : ∀ w, Calls Try.prog 41 #[.int .u64 ((wh ((x.natAbs : Int)) : Nat) : Int), .int .u64 ((wl ((n.natAbs : Int)) : Nat) : Int)] w fun e w' => e = .returned (.tuple #[.int .u64 0, .int .u64 ((mid : Nat) : Int)]) ∧ Below w.heap.size w w') (hrun : ∀ w, (callFunc 32 #[.int .u64 ((mid : Nat) : Int), .int .u64 ((cy : Nat) : Int), .int .u64 0]).run Try.prog w = .ok (.value (.tuple #[.int .u64 ((hi : Nat) : Int), .int .u64 0])) w) (sx sn : Int) (c1 : ∀ w, Calls Try.prog 26 #[.agg #[.int .u64 ((wh (x) : Nat) : Int), .int .u64 ((wl (x) : Nat) : Int)]] w fun e w' => e = .returned (.int .i64 (sx)) ∧ Below w.heap.size w w') (c2 : ∀ w, Calls Try.prog 26 #[.agg #[.int .u64 ((wh (n) : Nat) : Int), .int .u64 ((wl (n) : Nat) : Int)]] w fun e w' => e = .returned (.int .i64 (sn)) ∧ Below w.heap.size w w') (hside : IntKind.i64.wrap (sx * sn) = -1) (hi' lo' : Nat) (c4 : ∀ w, Calls Try.prog 34 #[.agg #[.int .u64 ((hi : Nat) : Int), .int .u64 ((lo : Nat) : Int)]] w fun e w' => e = .returned (.agg #[.int .u64 ((hi' : Nat) : Int), .int .u64 ((lo' : Nat) : Int)]) ∧ Below w.heap.size w w') (c3 : ∀ w, Calls Try.prog 26 #[.agg #[.int .u64 ((hi' : Nat) : Int), .int .u64 ((lo' : Nat) : Int)]] w fun e w' => e = .returned (.int .i64 (-1)) ∧ Below w.heap.size w w') (w : World) :
    Calls Try.prog 20 #[.agg #[.int .u64 ((wh (x) : Nat) : Int), .int .u64 ((wl (x) : Nat) : Int)], .int .i64 n] w fun e w' => e = .returned (.tuple #[.agg #[.int .u64 ((hi' : Nat) : Int), .int .u64 ((lo' : Nat) : Int)], .bool true]) ∧ Below w.heap.size w w' := by
  have hB_0 := Below.refl w.heap.size w
  have HX := Lib.hid hx; have HN1 := Lib.hid hn1; have HN2 := Lib.hid hn2; have M1 := Lib.hid m1; have M2 := Lib.hid m2; have C1 := Lib.hid c1; have C2 := Lib.hid c2; have C3 := Lib.hid c3; have C4 := Lib.hid c4
  clear hx hn1 hn2 m1 m2 c1 c2 c3 c4
  have hfn : ∀ w : World, (Instr.field 24 (.agg #[.int .u64 ((wh ((n.natAbs : Int)) : Nat) : Int), .int .u64 ((wl ((n.natAbs : Int)) : Nat) : Int)]) 1).run Try.prog w = .ok (.int .u64 ((wl ((n.natAbs : Int)) : Nat) : Int)) w := fun _ => by kernel_rfl
  obtain ⟨w1, hw1, pa_0, hb1, hs1⟩ := new_box w (w.heap.size) rfl [.int .u64 ((wh (x) : Nat) : Int), .int .u64 ((wl (x) : Nat) : Int)] 24
  have hb1' : Below w.heap.size w w1 := hb1.mono (by omega)
  clear hb1
  have hB_1 := hB_0.trans (hb1'.mono hB_0.size)
  clear hb1' hB_0
  obtain ⟨w2, hw2, pr_0, hb2, hs2⟩ := new_box w1 (w.heap.size + 1) hs1 [.int .u64 0, .int .u64 0] 24
  have hb2' : Below w1.heap.size w1 w2 := hb2.mono (by omega)
  clear hb2
  have hB_2 := hB_1.trans (hb2'.mono hB_1.size)
  have pa_1 := pa_0.below hb2'
  clear hb2' hB_1 pa_0
  go_enter Try.func20, Try.ntmps20
  obtain ⟨pae0, pae1, pae2, pae3⟩ := pa_1.open2
  obtain ⟨pre0, pre1, pre2, pre3⟩ := pr_0.open2
  go_wp2_with fail
  refine (size_any x _ HX.out).mono ?_
  rintro e w3 ⟨rfl, hb3⟩
  clear pae0 pae1 pae2 pae3 pre0 pre1 pre2 pre3
  have hB_3 := hB_2.trans (hb3.mono hB_2.size)
  have pa_2 := pa_1.below hb3
  have pr_1 := pr_0.below hb3
  clear hb3 hB_2 pa_1 pr_0
  obtain ⟨pae0, pae1, pae2, pae3⟩ := pa_2.open2
  obtain ⟨pre0, pre1, pre2, pre3⟩ := pr_1.open2
  go_wp2_with fail
  refine (wOf_any n HN1.out HN2.out _).mono ?_
  rintro e w4 ⟨rfl, hb4⟩
  clear pae0 pae1 pae2 pae3 pre0 pre1 pre2 pre3
  have hB_4 := hB_3.trans (hb4.mono hB_3.size)
  have pa_3 := pa_2.below hb4
  have pr_2 := pr_1.below hb4
  clear hb4 hB_3 pa_2 pr_1
  obtain ⟨pae0, pae1, pae2, pae3⟩ := pa_3.open2
  obtain ⟨pre0, pre1, pre2, pre3⟩ := pr_2.open2
  go_wp2_with fail
  refine (size_any n _ (inW_int HN1.out HN2.out)).mono ?_
  rintro e w5 ⟨rfl, hb5⟩
  clear pae0 pae1 pae2 pae3 pre0 pre1 pre2 pre3
  have hB_5 := hB_4.trans (hb5.mono hB_4.size)
  have pa_4 := pa_3.below hb5
  have pr_3 := pr_2.below hb5
  clear hb5 hB_4 pa_3 pr_2
  obtain ⟨pae0, pae1, pae2, pae3⟩ := pa_4.open2
  obtain ⟨pre0, pre1, pre2, pre3⟩ := pr_3.open2
  clear pae0 pae1 pae2 pae3 pre0 pre1 pre2 pre3
  have hl1pa := pa_4.lt
  have hl1pr := pr_3.lt
  have hl1B := hB_5.size
  obtain ⟨w6, hw6, ps_0, hb6, hs6⟩ := new_box w5 (w5.heap.size) rfl [.int .u64 ((wh ((x.natAbs : Int)) : Nat) : Int), .int .u64 ((wl ((x.natAbs : Int)) : Nat) : Int)] 24
  have hb6' : Below w5.heap.size w5 w6 := hb6.mono (by omega)
  clear hb6
  have hB_6 := hB_5.trans (hb6'.mono hB_5.size)
  have pa_5 := pa_4.below hb6'
  have pr_4 := pr_3.below hb6'
  clear hb6' hB_5 pa_4 pr_3
  obtain ⟨pae0, pae1, pae2, pae3⟩ := pa_5.open2
  obtain ⟨pre0, pre1, pre2, pre3⟩ := pr_4.open2
  obtain ⟨pse0, pse1, pse2, pse3⟩ := ps_0.open2
  go_wp2_with fail
  refine (M1.out _).mono ?_
  rintro e w7 ⟨rfl, hb7⟩
  clear pae0 pae1 pae2 pae3 pre0 pre1 pre2 pre3 pse0 pse1 pse2 pse3
  have hB_7 := hB_6.trans (hb7.mono hB_6.size)
  have pa_6 := pa_5.below hb7
  have pr_5 := pr_4.below hb7
  have ps_1 := ps_0.below hb7
  clear hb7 hB_6 pa_5 pr_4 ps_0
  obtain ⟨pae0, pae1, pae2, pae3⟩ := pa_6.open2
  obtain ⟨pre0, pre1, pre2, pre3⟩ := pr_5.open2
  obtain ⟨pse0, pse1, pse2, pse3⟩ := ps_1.open2
  go_wp2_with fail
  refine (M2.out _).mono ?_
  rintro e w8 ⟨rfl, hb8⟩
  clear pae0 pae1 pae2 pae3 pre0 pre1 pre2 pre3 pse0 pse1 pse2 pse3
  have hB_8 := hB_7.trans (hb8.mono hB_7.size)
  have pa_7 := pa_6.below hb8
  have pr_6 := pr_5.below hb8
  have ps_2 := ps_1.below hb8
  clear hb8 hB_7 pa_6 pr_5 ps_1
  obtain ⟨pae0, pae1, pae2, pae3⟩ := pa_7.open2
  obtain ⟨pre0, pre1, pre2, pre3⟩ := pr_6.open2
  obtain ⟨pse0, pse1, pse2, pse3⟩ := ps_2.open2
  go_wp2_with fail
  refine (C1.out _).mono ?_
  rintro e w9 ⟨rfl, hb9⟩
  clear pae0 pae1 pae2 pae3 pre0 pre1 pre2 pre3 pse0 pse1 pse2 pse3
  have hB_9 := hB_8.trans (hb9.mono hB_8.size)
  have pa_8 := pa_7.below hb9
  have pr_7 := pr_6.below hb9
  have ps_3 := ps_2.below hb9
  clear hb9 hB_8 pa_7 pr_6 ps_2
  obtain ⟨pae0, pae1, pae2, pae3⟩ := pa_8.open2
  obtain ⟨pre0, pre1, pre2, pre3⟩ := pr_7.open2
  go_wp2_with fail
  refine (wOf_any n HN1.out HN2.out _).mono ?_
  rintro e w10 ⟨rfl, hb10⟩
  clear pae0 pae1 pae2 pae3 pre0 pre1 pre2 pre3
  have hB_10 := hB_9.trans (hb10.mono hB_9.size)
  have pa_9 := pa_8.below hb10
  have pr_8 := pr_7.below hb10
  have ps_4 := ps_3.below hb10
  clear hb10 hB_9 pa_8 pr_7 ps_3
  obtain ⟨pae0, pae1, pae2, pae3⟩ := pa_9.open2
  obtain ⟨pre0, pre1, pre2, pre3⟩ := pr_8.open2
  go_wp2_with fail
  refine (C2.out _).mono ?_
  rintro e w11 ⟨rfl, hb11⟩
  clear pae0 pae1 pae2 pae3 pre0 pre1 pre2 pre3
  have hB_11 := hB_10.trans (hb11.mono hB_10.size)
  have pa_10 := pa_9.below hb11
  have pr_9 := pr_8.below hb11
  have ps_5 := ps_4.below hb11
  clear hb11 hB_10 pa_9 pr_8 ps_4
  obtain ⟨pae0, pae1, pae2, pae3⟩ := pa_10.open2
  obtain ⟨pre0, pre1, pre2, pre3⟩ := pr_9.open2
  clear pae0 pae1 pae2 pae3 pre0 pre1 pre2 pre3
  have hl2pa := pa_10.lt
  have hl2pr := pr_9.lt
  have hl2ps := ps_5.lt
  have hl2B := hB_11.size
  obtain ⟨w12, hw12, pp_0, hb12, hs12⟩ := new_box w11 (w11.heap.size) rfl [.int .u64 ((hi : Nat) : Int), .int .u64 ((lo : Nat) : Int)] 24
  have hb12' : Below w11.heap.size w11 w12 := hb12.mono (by omega)
  clear hb12
  have hB_12 := hB_11.trans (hb12'.mono hB_11.size)
  have pa_11 := pa_10.below hb12'
  have pr_10 := pr_9.below hb12'
  have ps_6 := ps_5.below hb12'
  clear hb12' hB_11 pa_10 pr_9 ps_5
  obtain ⟨ppe0, ppe1, ppe2, ppe3⟩ := pp_0.open2
  obtain ⟨pre0, pre1, pre2, pre3⟩ := pr_10.open2
  go_wp2_with fail
  refine (C4.out _).mono ?_
  rintro e w13 ⟨rfl, hb13⟩
  clear ppe0 ppe1 ppe2 ppe3 pre0 pre1 pre2 pre3
  have hB_13 := hB_12.trans (hb13.mono hB_12.size)
  have pa_12 := pa_11.below hb13
  have pr_11 := pr_10.below hb13
  have ps_7 := ps_6.below hb13
  have pp_1 := pp_0.below hb13
  clear hb13 hB_12 pa_11 pr_10 ps_6 pp_0
  obtain ⟨ppe0, ppe1, ppe2, ppe3⟩ := pp_1.open2
  obtain ⟨pre0, pre1, pre2, pre3⟩ := pr_11.open2
  clear ppe0 ppe1 ppe2 ppe3 pre0 pre1 pre2 pre3
  obtain ⟨sf1a, sf1b, sf1c, sf1d⟩ := pp_1.open2
  obtain ⟨sg1a, sg1b⟩ := Box.put2 pp_1 (.int .u64 ((hi' : Nat) : Int))
  have hB_14 := below_setAll hB_13 (g := w11.heap.size) (by omega) [.int .u64 ((hi' : Nat) : Int), .int .u64 ((lo' : Nat) : Int)]
  have pa_13 := pa_12.farAll (g' := w11.heap.size) (by omega) [.int .u64 ((hi' : Nat) : Int), .int .u64 ((lo' : Nat) : Int)]
  have pr_12 := pr_11.farAll (g' := w11.heap.size) (by omega) [.int .u64 ((hi' : Nat) : Int), .int .u64 ((lo' : Nat) : Int)]
  have ps_8 := ps_7.farAll (g' := w11.heap.size) (by omega) [.int .u64 ((hi' : Nat) : Int), .int .u64 ((lo' : Nat) : Int)]
  have pp_2 := pp_1.setAll [.int .u64 ((hi' : Nat) : Int), .int .u64 ((lo' : Nat) : Int)] rfl
  simp only [setAll, Nat.zero_add] at hB_14 pa_13 pr_12 ps_8 pp_2
  obtain ⟨ppe0, ppe1, ppe2, ppe3⟩ := pp_2.open2
  obtain ⟨pre0, pre1, pre2, pre3⟩ := pr_12.open2
  go_wp2_with fail
  clear sf1a sf1b sf1c sf1d sg1a sg1b hB_13 pa_12 pr_11 ps_7 pp_1
  generalize (World.setCell (World.setCell w13 ⟨w11.heap.size, 0, none⟩ (.int .u64 ((hi' : Nat) : Int))) ⟨w11.heap.size, 1, none⟩ (.int .u64 ((lo' : Nat) : Int))) = w14 at *
  go_wp2_with fail
  refine (C3.out _).mono ?_
  rintro e w15 ⟨rfl, hb15⟩
  clear ppe0 ppe1 ppe2 ppe3 pre0 pre1 pre2 pre3
  have hB_15 := hB_14.trans (hb15.mono hB_14.size)
  have pa_14 := pa_13.below hb15
  have pr_13 := pr_12.below hb15
  have ps_9 := ps_8.below hb15
  have pp_3 := pp_2.below hb15
  clear hb15 hB_14 pa_13 pr_12 ps_8 pp_2
  obtain ⟨ppe0, ppe1, ppe2, ppe3⟩ := pp_3.open2
  obtain ⟨pre0, pre1, pre2, pre3⟩ := pr_13.open2
  obtain ⟨sf2a, sf2b, sf2c, sf2d⟩ := pr_13.open2
  obtain ⟨sg2a, sg2b⟩ := Box.put2 pr_13 (.int .u64 ((hi' : Nat) : Int))
  go_wp2
  clear ppe0 ppe1 ppe2 ppe3 pre0 pre1 pre2 pre3 sf2a sf2b sf2c sf2d sg2a sg2b
  have hB_16 := below_setAll hB_15 (g := w.heap.size + 1) (by omega) [.int .u64 ((hi' : Nat) : Int), .int .u64 ((lo' : Nat) : Int)]
  have pa_15 := pa_14.farAll (g' := w.heap.size + 1) (by omega) [.int .u64 ((hi' : Nat) : Int), .int .u64 ((lo' : Nat) : Int)]
  have ps_10 := ps_9.farAll (g' := w.heap.size + 1) (by omega) [.int .u64 ((hi' : Nat) : Int), .int .u64 ((lo' : Nat) : Int)]
  have pp_4 := pp_3.farAll (g' := w.heap.size + 1) (by omega) [.int .u64 ((hi' : Nat) : Int), .int .u64 ((lo' : Nat) : Int)]
  have pr_14 := pr_13.setAll [.int .u64 ((hi' : Nat) : Int), .int .u64 ((lo' : Nat) : Int)] rfl
  simp only [setAll, Nat.zero_add] at hB_16 pa_15 pr_14 ps_10 pp_4
  clear hB_15 pa_14 ps_9 pp_3 pr_13
  generalize (World.setCell (World.setCell w15 ⟨w.heap.size + 1, 0, none⟩ (.int .u64 ((hi' : Nat) : Int))) ⟨w.heap.size + 1, 1, none⟩ (.int .u64 ((lo' : Nat) : Int))) = w16 at *
  go_wp2
  obtain ⟨pre0, pre1, pre2, pre3⟩ := pr_14.open2
  exact bodyPost_ret (v := .tuple #[.agg #[.int .u64 ((hi' : Nat) : Int), .int .u64 ((lo' : Nat) : Int)], .bool true]) (by simp [results, Try.results20, go_sem, pre0, pre1]) rfl ⟨rfl, hB_16⟩
set_option maxHeartbeats 8000000 in
theorem wTimes_w_np (x n : Int) (hx : InW x) (hn1 : -9223372036854775808 ≤ n) (hn2 : n < 9223372036854775808) (hi lo mid cy : Nat) (m1 : ∀ w, Calls Try.prog 41 #[.int .u64 ((wl ((x.natAbs : Int)) : Nat) : Int), .int .u64 ((wl ((n.natAbs : Int)) : Nat) : Int)] w fun e w' => e = .returned (.tuple #[.int .u64 ((cy : Nat) : Int), .int .u64 ((lo : Nat) : Int)]) ∧ Below w.heap.size w w') (m2 : ∀ w, Calls Try.prog 41 #[.int .u64 ((wh ((x.natAbs : Int)) : Nat) : Int), .int .u64 ((wl ((n.natAbs : Int)) : Nat) : Int)] w fun e w' => e = .returned (.tuple #[.int .u64 0, .int .u64 ((mid : Nat) : Int)]) ∧ Below w.heap.size w w') (hrun : ∀ w, (callFunc 32 #[.int .u64 ((mid : Nat) : Int), .int .u64 ((cy : Nat) : Int), .int .u64 0]).run Try.prog w = .ok (.value (.tuple #[.int .u64 ((hi : Nat) : Int), .int .u64 0])) w) (sx sn : Int) (c1 : ∀ w, Calls Try.prog 26 #[.agg #[.int .u64 ((wh (x) : Nat) : Int), .int .u64 ((wl (x) : Nat) : Int)]] w fun e w' => e = .returned (.int .i64 (sx)) ∧ Below w.heap.size w w') (c2 : ∀ w, Calls Try.prog 26 #[.agg #[.int .u64 ((wh (n) : Nat) : Int), .int .u64 ((wl (n) : Nat) : Int)]] w fun e w' => e = .returned (.int .i64 (sn)) ∧ Below w.heap.size w w') (hside : IntKind.i64.wrap (sx * sn) = -1) (hi' lo' : Nat) (c4 : ∀ w, Calls Try.prog 34 #[.agg #[.int .u64 ((hi : Nat) : Int), .int .u64 ((lo : Nat) : Int)]] w fun e w' => e = .returned (.agg #[.int .u64 ((hi' : Nat) : Int), .int .u64 ((lo' : Nat) : Int)]) ∧ Below w.heap.size w w') (c3 : ∀ w, Calls Try.prog 26 #[.agg #[.int .u64 ((hi' : Nat) : Int), .int .u64 ((lo' : Nat) : Int)]] w fun e w' => e = .returned (.int .i64 (1)) ∧ Below w.heap.size w w') (w : World) :
    Calls Try.prog 20 #[.agg #[.int .u64 ((wh (x) : Nat) : Int), .int .u64 ((wl (x) : Nat) : Int)], .int .i64 n] w fun e w' => e = .returned (.tuple #[.agg #[.int .u64 0, .int .u64 0], .bool false]) ∧ Below w.heap.size w w' := by
  have hB_0 := Below.refl w.heap.size w
  have HX := Lib.hid hx; have HN1 := Lib.hid hn1; have HN2 := Lib.hid hn2; have M1 := Lib.hid m1; have M2 := Lib.hid m2; have C1 := Lib.hid c1; have C2 := Lib.hid c2; have C3 := Lib.hid c3; have C4 := Lib.hid c4
  clear hx hn1 hn2 m1 m2 c1 c2 c3 c4
  have hfn : ∀ w : World, (Instr.field 24 (.agg #[.int .u64 ((wh ((n.natAbs : Int)) : Nat) : Int), .int .u64 ((wl ((n.natAbs : Int)) : Nat) : Int)]) 1).run Try.prog w = .ok (.int .u64 ((wl ((n.natAbs : Int)) : Nat) : Int)) w := fun _ => by kernel_rfl
  obtain ⟨w1, hw1, pa_0, hb1, hs1⟩ := new_box w (w.heap.size) rfl [.int .u64 ((wh (x) : Nat) : Int), .int .u64 ((wl (x) : Nat) : Int)] 24
  have hb1' : Below w.heap.size w w1 := hb1.mono (by omega)
  clear hb1
  have hB_1 := hB_0.trans (hb1'.mono hB_0.size)
  clear hb1' hB_0
  obtain ⟨w2, hw2, pr_0, hb2, hs2⟩ := new_box w1 (w.heap.size + 1) hs1 [.int .u64 0, .int .u64 0] 24
  have hb2' : Below w1.heap.size w1 w2 := hb2.mono (by omega)
  clear hb2
  have hB_2 := hB_1.trans (hb2'.mono hB_1.size)
  have pa_1 := pa_0.below hb2'
  clear hb2' hB_1 pa_0
  go_enter Try.func20, Try.ntmps20
  obtain ⟨pae0, pae1, pae2, pae3⟩ := pa_1.open2
  obtain ⟨pre0, pre1, pre2, pre3⟩ := pr_0.open2
  go_wp2_with fail
  refine (size_any x _ HX.out).mono ?_
  rintro e w3 ⟨rfl, hb3⟩
  clear pae0 pae1 pae2 pae3 pre0 pre1 pre2 pre3
  have hB_3 := hB_2.trans (hb3.mono hB_2.size)
  have pa_2 := pa_1.below hb3
  have pr_1 := pr_0.below hb3
  clear hb3 hB_2 pa_1 pr_0
  obtain ⟨pae0, pae1, pae2, pae3⟩ := pa_2.open2
  obtain ⟨pre0, pre1, pre2, pre3⟩ := pr_1.open2
  go_wp2_with fail
  refine (wOf_any n HN1.out HN2.out _).mono ?_
  rintro e w4 ⟨rfl, hb4⟩
  clear pae0 pae1 pae2 pae3 pre0 pre1 pre2 pre3
  have hB_4 := hB_3.trans (hb4.mono hB_3.size)
  have pa_3 := pa_2.below hb4
  have pr_2 := pr_1.below hb4
  clear hb4 hB_3 pa_2 pr_1
  obtain ⟨pae0, pae1, pae2, pae3⟩ := pa_3.open2
  obtain ⟨pre0, pre1, pre2, pre3⟩ := pr_2.open2
  go_wp2_with fail
  refine (size_any n _ (inW_int HN1.out HN2.out)).mono ?_
  rintro e w5 ⟨rfl, hb5⟩
  clear pae0 pae1 pae2 pae3 pre0 pre1 pre2 pre3
  have hB_5 := hB_4.trans (hb5.mono hB_4.size)
  have pa_4 := pa_3.below hb5
  have pr_3 := pr_2.below hb5
  clear hb5 hB_4 pa_3 pr_2
  obtain ⟨pae0, pae1, pae2, pae3⟩ := pa_4.open2
  obtain ⟨pre0, pre1, pre2, pre3⟩ := pr_3.open2
  clear pae0 pae1 pae2 pae3 pre0 pre1 pre2 pre3
  have hl1pa := pa_4.lt
  have hl1pr := pr_3.lt
  have hl1B := hB_5.size
  obtain ⟨w6, hw6, ps_0, hb6, hs6⟩ := new_box w5 (w5.heap.size) rfl [.int .u64 ((wh ((x.natAbs : Int)) : Nat) : Int), .int .u64 ((wl ((x.natAbs : Int)) : Nat) : Int)] 24
  have hb6' : Below w5.heap.size w5 w6 := hb6.mono (by omega)
  clear hb6
  have hB_6 := hB_5.trans (hb6'.mono hB_5.size)
  have pa_5 := pa_4.below hb6'
  have pr_4 := pr_3.below hb6'
  clear hb6' hB_5 pa_4 pr_3
  obtain ⟨pae0, pae1, pae2, pae3⟩ := pa_5.open2
  obtain ⟨pre0, pre1, pre2, pre3⟩ := pr_4.open2
  obtain ⟨pse0, pse1, pse2, pse3⟩ := ps_0.open2
  go_wp2_with fail
  refine (M1.out _).mono ?_
  rintro e w7 ⟨rfl, hb7⟩
  clear pae0 pae1 pae2 pae3 pre0 pre1 pre2 pre3 pse0 pse1 pse2 pse3
  have hB_7 := hB_6.trans (hb7.mono hB_6.size)
  have pa_6 := pa_5.below hb7
  have pr_5 := pr_4.below hb7
  have ps_1 := ps_0.below hb7
  clear hb7 hB_6 pa_5 pr_4 ps_0
  obtain ⟨pae0, pae1, pae2, pae3⟩ := pa_6.open2
  obtain ⟨pre0, pre1, pre2, pre3⟩ := pr_5.open2
  obtain ⟨pse0, pse1, pse2, pse3⟩ := ps_1.open2
  go_wp2_with fail
  refine (M2.out _).mono ?_
  rintro e w8 ⟨rfl, hb8⟩
  clear pae0 pae1 pae2 pae3 pre0 pre1 pre2 pre3 pse0 pse1 pse2 pse3
  have hB_8 := hB_7.trans (hb8.mono hB_7.size)
  have pa_7 := pa_6.below hb8
  have pr_6 := pr_5.below hb8
  have ps_2 := ps_1.below hb8
  clear hb8 hB_7 pa_6 pr_5 ps_1
  obtain ⟨pae0, pae1, pae2, pae3⟩ := pa_7.open2
  obtain ⟨pre0, pre1, pre2, pre3⟩ := pr_6.open2
  obtain ⟨pse0, pse1, pse2, pse3⟩ := ps_2.open2
  go_wp2_with fail
  refine (C1.out _).mono ?_
  rintro e w9 ⟨rfl, hb9⟩
  clear pae0 pae1 pae2 pae3 pre0 pre1 pre2 pre3 pse0 pse1 pse2 pse3
  have hB_9 := hB_8.trans (hb9.mono hB_8.size)
  have pa_8 := pa_7.below hb9
  have pr_7 := pr_6.below hb9
  have ps_3 := ps_2.below hb9
  clear hb9 hB_8 pa_7 pr_6 ps_2
  obtain ⟨pae0, pae1, pae2, pae3⟩ := pa_8.open2
  obtain ⟨pre0, pre1, pre2, pre3⟩ := pr_7.open2
  go_wp2_with fail
  refine (wOf_any n HN1.out HN2.out _).mono ?_
  rintro e w10 ⟨rfl, hb10⟩
  clear pae0 pae1 pae2 pae3 pre0 pre1 pre2 pre3
  have hB_10 := hB_9.trans (hb10.mono hB_9.size)
  have pa_9 := pa_8.below hb10
  have pr_8 := pr_7.below hb10
  have ps_4 := ps_3.below hb10
  clear hb10 hB_9 pa_8 pr_7 ps_3
  obtain ⟨pae0, pae1, pae2, pae3⟩ := pa_9.open2
  obtain ⟨pre0, pre1, pre2, pre3⟩ := pr_8.open2
  go_wp2_with fail
  refine (C2.out _).mono ?_
  rintro e w11 ⟨rfl, hb11⟩
  clear pae0 pae1 pae2 pae3 pre0 pre1 pre2 pre3
  have hB_11 := hB_10.trans (hb11.mono hB_10.size)
  have pa_10 := pa_9.below hb11
  have pr_9 := pr_8.below hb11
  have ps_5 := ps_4.below hb11
  clear hb11 hB_10 pa_9 pr_8 ps_4
  obtain ⟨pae0, pae1, pae2, pae3⟩ := pa_10.open2
  obtain ⟨pre0, pre1, pre2, pre3⟩ := pr_9.open2
  clear pae0 pae1 pae2 pae3 pre0 pre1 pre2 pre3
  have hl2pa := pa_10.lt
  have hl2pr := pr_9.lt
  have hl2ps := ps_5.lt
  have hl2B := hB_11.size
  obtain ⟨w12, hw12, pp_0, hb12, hs12⟩ := new_box w11 (w11.heap.size) rfl [.int .u64 ((hi : Nat) : Int), .int .u64 ((lo : Nat) : Int)] 24
  have hb12' : Below w11.heap.size w11 w12 := hb12.mono (by omega)
  clear hb12
  have hB_12 := hB_11.trans (hb12'.mono hB_11.size)
  have pa_11 := pa_10.below hb12'
  have pr_10 := pr_9.below hb12'
  have ps_6 := ps_5.below hb12'
  clear hb12' hB_11 pa_10 pr_9 ps_5
  obtain ⟨ppe0, ppe1, ppe2, ppe3⟩ := pp_0.open2
  obtain ⟨pre0, pre1, pre2, pre3⟩ := pr_10.open2
  go_wp2_with fail
  refine (C4.out _).mono ?_
  rintro e w13 ⟨rfl, hb13⟩
  clear ppe0 ppe1 ppe2 ppe3 pre0 pre1 pre2 pre3
  have hB_13 := hB_12.trans (hb13.mono hB_12.size)
  have pa_12 := pa_11.below hb13
  have pr_11 := pr_10.below hb13
  have ps_7 := ps_6.below hb13
  have pp_1 := pp_0.below hb13
  clear hb13 hB_12 pa_11 pr_10 ps_6 pp_0
  obtain ⟨ppe0, ppe1, ppe2, ppe3⟩ := pp_1.open2
  obtain ⟨pre0, pre1, pre2, pre3⟩ := pr_11.open2
  clear ppe0 ppe1 ppe2 ppe3 pre0 pre1 pre2 pre3
  obtain ⟨sf1a, sf1b, sf1c, sf1d⟩ := pp_1.open2
  obtain ⟨sg1a, sg1b⟩ := Box.put2 pp_1 (.int .u64 ((hi' : Nat) : Int))
  have hB_14 := below_setAll hB_13 (g := w11.heap.size) (by omega) [.int .u64 ((hi' : Nat) : Int), .int .u64 ((lo' : Nat) : Int)]
  have pa_13 := pa_12.farAll (g' := w11.heap.size) (by omega) [.int .u64 ((hi' : Nat) : Int), .int .u64 ((lo' : Nat) : Int)]
  have pr_12 := pr_11.farAll (g' := w11.heap.size) (by omega) [.int .u64 ((hi' : Nat) : Int), .int .u64 ((lo' : Nat) : Int)]
  have ps_8 := ps_7.farAll (g' := w11.heap.size) (by omega) [.int .u64 ((hi' : Nat) : Int), .int .u64 ((lo' : Nat) : Int)]
  have pp_2 := pp_1.setAll [.int .u64 ((hi' : Nat) : Int), .int .u64 ((lo' : Nat) : Int)] rfl
  simp only [setAll, Nat.zero_add] at hB_14 pa_13 pr_12 ps_8 pp_2
  obtain ⟨ppe0, ppe1, ppe2, ppe3⟩ := pp_2.open2
  obtain ⟨pre0, pre1, pre2, pre3⟩ := pr_12.open2
  go_wp2_with fail
  clear sf1a sf1b sf1c sf1d sg1a sg1b hB_13 pa_12 pr_11 ps_7 pp_1
  generalize (World.setCell (World.setCell w13 ⟨w11.heap.size, 0, none⟩ (.int .u64 ((hi' : Nat) : Int))) ⟨w11.heap.size, 1, none⟩ (.int .u64 ((lo' : Nat) : Int))) = w14 at *
  go_wp2_with fail
  refine (C3.out _).mono ?_
  rintro e w15 ⟨rfl, hb15⟩
  clear ppe0 ppe1 ppe2 ppe3 pre0 pre1 pre2 pre3
  have hB_15 := hB_14.trans (hb15.mono hB_14.size)
  have pa_14 := pa_13.below hb15
  have pr_13 := pr_12.below hb15
  have ps_9 := ps_8.below hb15
  have pp_3 := pp_2.below hb15
  clear hb15 hB_14 pa_13 pr_12 ps_8 pp_2
  obtain ⟨ppe0, ppe1, ppe2, ppe3⟩ := pp_3.open2
  obtain ⟨pre0, pre1, pre2, pre3⟩ := pr_13.open2
  obtain ⟨sf2a, sf2b, sf2c, sf2d⟩ := pr_13.open2
  obtain ⟨sg2a, sg2b⟩ := Box.put2 pr_13 (.int .u64 0)
  go_wp2
  clear ppe0 ppe1 ppe2 ppe3 pre0 pre1 pre2 pre3 sf2a sf2b sf2c sf2d sg2a sg2b
  have hB_16 := below_setAll hB_15 (g := w.heap.size + 1) (by omega) [.int .u64 0, .int .u64 0]
  have pa_15 := pa_14.farAll (g' := w.heap.size + 1) (by omega) [.int .u64 0, .int .u64 0]
  have ps_10 := ps_9.farAll (g' := w.heap.size + 1) (by omega) [.int .u64 0, .int .u64 0]
  have pp_4 := pp_3.farAll (g' := w.heap.size + 1) (by omega) [.int .u64 0, .int .u64 0]
  have pr_14 := pr_13.setAll [.int .u64 0, .int .u64 0] rfl
  simp only [setAll, Nat.zero_add] at hB_16 pa_15 pr_14 ps_10 pp_4
  clear hB_15 pa_14 ps_9 pp_3 pr_13
  generalize (World.setCell (World.setCell w15 ⟨w.heap.size + 1, 0, none⟩ (.int .u64 0)) ⟨w.heap.size + 1, 1, none⟩ (.int .u64 0)) = w16 at *
  go_wp2
  obtain ⟨pre0, pre1, pre2, pre3⟩ := pr_14.open2
  exact bodyPost_ret (v := .tuple #[.agg #[.int .u64 0, .int .u64 0], .bool false]) (by simp [results, Try.results20, go_sem, pre0, pre1]) rfl ⟨rfl, hB_16⟩
end Go.Proofs.Ytkigfccbhkcedaa
/- The calls of wide, walked: Times. -/
namespace Go.Proofs.Ytkigfccbhkcedaa
open Go.RowKit Go.MagM
set_option maxHeartbeats 8000000 in
theorem wTimes_w_pp (x n : Int) (hx : InW x) (hn1 : -9223372036854775808 ≤ n) (hn2 : n < 9223372036854775808) (hi lo mid cy : Nat) (m1 : ∀ w, Calls Try.prog 41 #[.int .u64 ((wl ((x.natAbs : Int)) : Nat) : Int), .int .u64 ((wl ((n.natAbs : Int)) : Nat) : Int)] w fun e w' => e = .returned (.tuple #[.int .u64 ((cy : Nat) : Int), .int .u64 ((lo : Nat) : Int)]) ∧ Below w.heap.size w w') (m2 : ∀ w, Calls Try.prog 41 #[.int .u64 ((wh ((x.natAbs : Int)) : Nat) : Int), .int .u64 ((wl ((n.natAbs : Int)) : Nat) : Int)] w fun e w' => e = .returned (.tuple #[.int .u64 0, .int .u64 ((mid : Nat) : Int)]) ∧ Below w.heap.size w w') (hrun : ∀ w, (callFunc 32 #[.int .u64 ((mid : Nat) : Int), .int .u64 ((cy : Nat) : Int), .int .u64 0]).run Try.prog w = .ok (.value (.tuple #[.int .u64 ((hi : Nat) : Int), .int .u64 0])) w) (sx sn : Int) (c1 : ∀ w, Calls Try.prog 26 #[.agg #[.int .u64 ((wh (x) : Nat) : Int), .int .u64 ((wl (x) : Nat) : Int)]] w fun e w' => e = .returned (.int .i64 (sx)) ∧ Below w.heap.size w w') (c2 : ∀ w, Calls Try.prog 26 #[.agg #[.int .u64 ((wh (n) : Nat) : Int), .int .u64 ((wl (n) : Nat) : Int)]] w fun e w' => e = .returned (.int .i64 (sn)) ∧ Below w.heap.size w w') (hside : IntKind.i64.wrap (sx * sn) = 1) (c3 : ∀ w, Calls Try.prog 26 #[.agg #[.int .u64 ((hi : Nat) : Int), .int .u64 ((lo : Nat) : Int)]] w fun e w' => e = .returned (.int .i64 (1)) ∧ Below w.heap.size w w') (w : World) :
    Calls Try.prog 20 #[.agg #[.int .u64 ((wh (x) : Nat) : Int), .int .u64 ((wl (x) : Nat) : Int)], .int .i64 n] w fun e w' => e = .returned (.tuple #[.agg #[.int .u64 ((hi : Nat) : Int), .int .u64 ((lo : Nat) : Int)], .bool true]) ∧ Below w.heap.size w w' := by
  have hB_0 := Below.refl w.heap.size w
  have HX := Lib.hid hx; have HN1 := Lib.hid hn1; have HN2 := Lib.hid hn2; have M1 := Lib.hid m1; have M2 := Lib.hid m2; have C1 := Lib.hid c1; have C2 := Lib.hid c2; have C3 := Lib.hid c3
  clear hx hn1 hn2 m1 m2 c1 c2 c3
  have hfn : ∀ w : World, (Instr.field 24 (.agg #[.int .u64 ((wh ((n.natAbs : Int)) : Nat) : Int), .int .u64 ((wl ((n.natAbs : Int)) : Nat) : Int)]) 1).run Try.prog w = .ok (.int .u64 ((wl ((n.natAbs : Int)) : Nat) : Int)) w := fun _ => by kernel_rfl
  obtain ⟨w1, hw1, pa_0, hb1, hs1⟩ := new_box w (w.heap.size) rfl [.int .u64 ((wh (x) : Nat) : Int), .int .u64 ((wl (x) : Nat) : Int)] 24
  have hb1' : Below w.heap.size w w1 := hb1.mono (by omega)
  clear hb1
  have hB_1 := hB_0.trans (hb1'.mono hB_0.size)
  clear hb1' hB_0
  obtain ⟨w2, hw2, pr_0, hb2, hs2⟩ := new_box w1 (w.heap.size + 1) hs1 [.int .u64 0, .int .u64 0] 24
  have hb2' : Below w1.heap.size w1 w2 := hb2.mono (by omega)
  clear hb2
  have hB_2 := hB_1.trans (hb2'.mono hB_1.size)
  have pa_1 := pa_0.below hb2'
  clear hb2' hB_1 pa_0
  go_enter Try.func20, Try.ntmps20
  obtain ⟨pae0, pae1, pae2, pae3⟩ := pa_1.open2
  obtain ⟨pre0, pre1, pre2, pre3⟩ := pr_0.open2
  go_wp2_with fail
  refine (size_any x _ HX.out).mono ?_
  rintro e w3 ⟨rfl, hb3⟩
  clear pae0 pae1 pae2 pae3 pre0 pre1 pre2 pre3
  have hB_3 := hB_2.trans (hb3.mono hB_2.size)
  have pa_2 := pa_1.below hb3
  have pr_1 := pr_0.below hb3
  clear hb3 hB_2 pa_1 pr_0
  obtain ⟨pae0, pae1, pae2, pae3⟩ := pa_2.open2
  obtain ⟨pre0, pre1, pre2, pre3⟩ := pr_1.open2
  go_wp2_with fail
  refine (wOf_any n HN1.out HN2.out _).mono ?_
  rintro e w4 ⟨rfl, hb4⟩
  clear pae0 pae1 pae2 pae3 pre0 pre1 pre2 pre3
  have hB_4 := hB_3.trans (hb4.mono hB_3.size)
  have pa_3 := pa_2.below hb4
  have pr_2 := pr_1.below hb4
  clear hb4 hB_3 pa_2 pr_1
  obtain ⟨pae0, pae1, pae2, pae3⟩ := pa_3.open2
  obtain ⟨pre0, pre1, pre2, pre3⟩ := pr_2.open2
  go_wp2_with fail
  refine (size_any n _ (inW_int HN1.out HN2.out)).mono ?_
  rintro e w5 ⟨rfl, hb5⟩
  clear pae0 pae1 pae2 pae3 pre0 pre1 pre2 pre3
  have hB_5 := hB_4.trans (hb5.mono hB_4.size)
  have pa_4 := pa_3.below hb5
  have pr_3 := pr_2.below hb5
  clear hb5 hB_4 pa_3 pr_2
  obtain ⟨pae0, pae1, pae2, pae3⟩ := pa_4.open2
  obtain ⟨pre0, pre1, pre2, pre3⟩ := pr_3.open2
  clear pae0 pae1 pae2 pae3 pre0 pre1 pre2 pre3
  have hl1pa := pa_4.lt
  have hl1pr := pr_3.lt
  have hl1B := hB_5.size
  obtain ⟨w6, hw6, ps_0, hb6, hs6⟩ := new_box w5 (w5.heap.size) rfl [.int .u64 ((wh ((x.natAbs : Int)) : Nat) : Int), .int .u64 ((wl ((x.natAbs : Int)) : Nat) : Int)] 24
  have hb6' : Below w5.heap.size w5 w6 := hb6.mono (by omega)
  clear hb6
  have hB_6 := hB_5.trans (hb6'.mono hB_5.size)
  have pa_5 := pa_4.below hb6'
  have pr_4 := pr_3.below hb6'
  clear hb6' hB_5 pa_4 pr_3
  obtain ⟨pae0, pae1, pae2, pae3⟩ := pa_5.open2
  obtain ⟨pre0, pre1, pre2, pre3⟩ := pr_4.open2
  obtain ⟨pse0, pse1, pse2, pse3⟩ := ps_0.open2
  go_wp2_with fail
  refine (M1.out _).mono ?_
  rintro e w7 ⟨rfl, hb7⟩
  clear pae0 pae1 pae2 pae3 pre0 pre1 pre2 pre3 pse0 pse1 pse2 pse3
  have hB_7 := hB_6.trans (hb7.mono hB_6.size)
  have pa_6 := pa_5.below hb7
  have pr_5 := pr_4.below hb7
  have ps_1 := ps_0.below hb7
  clear hb7 hB_6 pa_5 pr_4 ps_0
  obtain ⟨pae0, pae1, pae2, pae3⟩ := pa_6.open2
  obtain ⟨pre0, pre1, pre2, pre3⟩ := pr_5.open2
  obtain ⟨pse0, pse1, pse2, pse3⟩ := ps_1.open2
  go_wp2_with fail
  refine (M2.out _).mono ?_
  rintro e w8 ⟨rfl, hb8⟩
  clear pae0 pae1 pae2 pae3 pre0 pre1 pre2 pre3 pse0 pse1 pse2 pse3
  have hB_8 := hB_7.trans (hb8.mono hB_7.size)
  have pa_7 := pa_6.below hb8
  have pr_6 := pr_5.below hb8
  have ps_2 := ps_1.below hb8
  clear hb8 hB_7 pa_6 pr_5 ps_1
  obtain ⟨pae0, pae1, pae2, pae3⟩ := pa_7.open2
  obtain ⟨pre0, pre1, pre2, pre3⟩ := pr_6.open2
  obtain ⟨pse0, pse1, pse2, pse3⟩ := ps_2.open2
  go_wp2_with fail
  refine (C1.out _).mono ?_
  rintro e w9 ⟨rfl, hb9⟩
  clear pae0 pae1 pae2 pae3 pre0 pre1 pre2 pre3 pse0 pse1 pse2 pse3
  have hB_9 := hB_8.trans (hb9.mono hB_8.size)
  have pa_8 := pa_7.below hb9
  have pr_7 := pr_6.below hb9
  have ps_3 := ps_2.below hb9
  clear hb9 hB_8 pa_7 pr_6 ps_2
  obtain ⟨pae0, pae1, pae2, pae3⟩ := pa_8.open2
  obtain ⟨pre0, pre1, pre2, pre3⟩ := pr_7.open2
  go_wp2_with fail
  refine (wOf_any n HN1.out HN2.out _).mono ?_
  rintro e w10 ⟨rfl, hb10⟩
  clear pae0 pae1 pae2 pae3 pre0 pre1 pre2 pre3
  have hB_10 := hB_9.trans (hb10.mono hB_9.size)
  have pa_9 := pa_8.below hb10
  have pr_8 := pr_7.below hb10
  have ps_4 := ps_3.below hb10
  clear hb10 hB_9 pa_8 pr_7 ps_3
  obtain ⟨pae0, pae1, pae2, pae3⟩ := pa_9.open2
  obtain ⟨pre0, pre1, pre2, pre3⟩ := pr_8.open2
  go_wp2_with fail
  refine (C2.out _).mono ?_
  rintro e w11 ⟨rfl, hb11⟩
  clear pae0 pae1 pae2 pae3 pre0 pre1 pre2 pre3
  have hB_11 := hB_10.trans (hb11.mono hB_10.size)
  have pa_10 := pa_9.below hb11
  have pr_9 := pr_8.below hb11
  have ps_5 := ps_4.below hb11
  clear hb11 hB_10 pa_9 pr_8 ps_4
  obtain ⟨pae0, pae1, pae2, pae3⟩ := pa_10.open2
  obtain ⟨pre0, pre1, pre2, pre3⟩ := pr_9.open2
  clear pae0 pae1 pae2 pae3 pre0 pre1 pre2 pre3
  have hl2pa := pa_10.lt
  have hl2pr := pr_9.lt
  have hl2ps := ps_5.lt
  have hl2B := hB_11.size
  obtain ⟨w12, hw12, pp_0, hb12, hs12⟩ := new_box w11 (w11.heap.size) rfl [.int .u64 ((hi : Nat) : Int), .int .u64 ((lo : Nat) : Int)] 24
  have hb12' : Below w11.heap.size w11 w12 := hb12.mono (by omega)
  clear hb12
  have hB_12 := hB_11.trans (hb12'.mono hB_11.size)
  have pa_11 := pa_10.below hb12'
  have pr_10 := pr_9.below hb12'
  have ps_6 := ps_5.below hb12'
  clear hb12' hB_11 pa_10 pr_9 ps_5
  obtain ⟨ppe0, ppe1, ppe2, ppe3⟩ := pp_0.open2
  obtain ⟨pre0, pre1, pre2, pre3⟩ := pr_10.open2
  go_wp2_with fail
  refine (C3.out _).mono ?_
  rintro e w13 ⟨rfl, hb13⟩
  clear ppe0 ppe1 ppe2 ppe3 pre0 pre1 pre2 pre3
  have hB_13 := hB_12.trans (hb13.mono hB_12.size)
  have pa_12 := pa_11.below hb13
  have pr_11 := pr_10.below hb13
  have ps_7 := ps_6.below hb13
  have pp_1 := pp_0.below hb13
  clear hb13 hB_12 pa_11 pr_10 ps_6 pp_0
  obtain ⟨ppe0, ppe1, ppe2, ppe3⟩ := pp_1.open2
  obtain ⟨pre0, pre1, pre2, pre3⟩ := pr_11.open2
  obtain ⟨sf1a, sf1b, sf1c, sf1d⟩ := pr_11.open2
  obtain ⟨sg1a, sg1b⟩ := Box.put2 pr_11 (.int .u64 ((hi : Nat) : Int))
  go_wp2
  clear ppe0 ppe1 ppe2 ppe3 pre0 pre1 pre2 pre3 sf1a sf1b sf1c sf1d sg1a sg1b
  have hB_14 := below_setAll hB_13 (g := w.heap.size + 1) (by omega) [.int .u64 ((hi : Nat) : Int), .int .u64 ((lo : Nat) : Int)]
  have pa_13 := pa_12.farAll (g' := w.heap.size + 1) (by omega) [.int .u64 ((hi : Nat) : Int), .int .u64 ((lo : Nat) : Int)]
  have ps_8 := ps_7.farAll (g' := w.heap.size + 1) (by omega) [.int .u64 ((hi : Nat) : Int), .int .u64 ((lo : Nat) : Int)]
  have pp_2 := pp_1.farAll (g' := w.heap.size + 1) (by omega) [.int .u64 ((hi : Nat) : Int), .int .u64 ((lo : Nat) : Int)]
  have pr_12 := pr_11.setAll [.int .u64 ((hi : Nat) : Int), .int .u64 ((lo : Nat) : Int)] rfl
  simp only [setAll, Nat.zero_add] at hB_14 pa_13 pr_12 ps_8 pp_2
  clear hB_13 pa_12 ps_7 pp_1 pr_11
  generalize (World.setCell (World.setCell w13 ⟨w.heap.size + 1, 0, none⟩ (.int .u64 ((hi : Nat) : Int))) ⟨w.heap.size + 1, 1, none⟩ (.int .u64 ((lo : Nat) : Int))) = w14 at *
  go_wp2
  obtain ⟨pre0, pre1, pre2, pre3⟩ := pr_12.open2
  exact bodyPost_ret (v := .tuple #[.agg #[.int .u64 ((hi : Nat) : Int), .int .u64 ((lo : Nat) : Int)], .bool true]) (by simp [results, Try.results20, go_sem, pre0, pre1]) rfl ⟨rfl, hB_14⟩
set_option maxHeartbeats 8000000 in
theorem wTimes_w_pn (x n : Int) (hx : InW x) (hn1 : -9223372036854775808 ≤ n) (hn2 : n < 9223372036854775808) (hi lo mid cy : Nat) (m1 : ∀ w, Calls Try.prog 41 #[.int .u64 ((wl ((x.natAbs : Int)) : Nat) : Int), .int .u64 ((wl ((n.natAbs : Int)) : Nat) : Int)] w fun e w' => e = .returned (.tuple #[.int .u64 ((cy : Nat) : Int), .int .u64 ((lo : Nat) : Int)]) ∧ Below w.heap.size w w') (m2 : ∀ w, Calls Try.prog 41 #[.int .u64 ((wh ((x.natAbs : Int)) : Nat) : Int), .int .u64 ((wl ((n.natAbs : Int)) : Nat) : Int)] w fun e w' => e = .returned (.tuple #[.int .u64 0, .int .u64 ((mid : Nat) : Int)]) ∧ Below w.heap.size w w') (hrun : ∀ w, (callFunc 32 #[.int .u64 ((mid : Nat) : Int), .int .u64 ((cy : Nat) : Int), .int .u64 0]).run Try.prog w = .ok (.value (.tuple #[.int .u64 ((hi : Nat) : Int), .int .u64 0])) w) (sx sn : Int) (c1 : ∀ w, Calls Try.prog 26 #[.agg #[.int .u64 ((wh (x) : Nat) : Int), .int .u64 ((wl (x) : Nat) : Int)]] w fun e w' => e = .returned (.int .i64 (sx)) ∧ Below w.heap.size w w') (c2 : ∀ w, Calls Try.prog 26 #[.agg #[.int .u64 ((wh (n) : Nat) : Int), .int .u64 ((wl (n) : Nat) : Int)]] w fun e w' => e = .returned (.int .i64 (sn)) ∧ Below w.heap.size w w') (hside : IntKind.i64.wrap (sx * sn) = 1) (c3 : ∀ w, Calls Try.prog 26 #[.agg #[.int .u64 ((hi : Nat) : Int), .int .u64 ((lo : Nat) : Int)]] w fun e w' => e = .returned (.int .i64 (-1)) ∧ Below w.heap.size w w') (w : World) :
    Calls Try.prog 20 #[.agg #[.int .u64 ((wh (x) : Nat) : Int), .int .u64 ((wl (x) : Nat) : Int)], .int .i64 n] w fun e w' => e = .returned (.tuple #[.agg #[.int .u64 0, .int .u64 0], .bool false]) ∧ Below w.heap.size w w' := by
  have hB_0 := Below.refl w.heap.size w
  have HX := Lib.hid hx; have HN1 := Lib.hid hn1; have HN2 := Lib.hid hn2; have M1 := Lib.hid m1; have M2 := Lib.hid m2; have C1 := Lib.hid c1; have C2 := Lib.hid c2; have C3 := Lib.hid c3
  clear hx hn1 hn2 m1 m2 c1 c2 c3
  have hfn : ∀ w : World, (Instr.field 24 (.agg #[.int .u64 ((wh ((n.natAbs : Int)) : Nat) : Int), .int .u64 ((wl ((n.natAbs : Int)) : Nat) : Int)]) 1).run Try.prog w = .ok (.int .u64 ((wl ((n.natAbs : Int)) : Nat) : Int)) w := fun _ => by kernel_rfl
  obtain ⟨w1, hw1, pa_0, hb1, hs1⟩ := new_box w (w.heap.size) rfl [.int .u64 ((wh (x) : Nat) : Int), .int .u64 ((wl (x) : Nat) : Int)] 24
  have hb1' : Below w.heap.size w w1 := hb1.mono (by omega)
  clear hb1
  have hB_1 := hB_0.trans (hb1'.mono hB_0.size)
  clear hb1' hB_0
  obtain ⟨w2, hw2, pr_0, hb2, hs2⟩ := new_box w1 (w.heap.size + 1) hs1 [.int .u64 0, .int .u64 0] 24
  have hb2' : Below w1.heap.size w1 w2 := hb2.mono (by omega)
  clear hb2
  have hB_2 := hB_1.trans (hb2'.mono hB_1.size)
  have pa_1 := pa_0.below hb2'
  clear hb2' hB_1 pa_0
  go_enter Try.func20, Try.ntmps20
  obtain ⟨pae0, pae1, pae2, pae3⟩ := pa_1.open2
  obtain ⟨pre0, pre1, pre2, pre3⟩ := pr_0.open2
  go_wp2_with fail
  refine (size_any x _ HX.out).mono ?_
  rintro e w3 ⟨rfl, hb3⟩
  clear pae0 pae1 pae2 pae3 pre0 pre1 pre2 pre3
  have hB_3 := hB_2.trans (hb3.mono hB_2.size)
  have pa_2 := pa_1.below hb3
  have pr_1 := pr_0.below hb3
  clear hb3 hB_2 pa_1 pr_0
  obtain ⟨pae0, pae1, pae2, pae3⟩ := pa_2.open2
  obtain ⟨pre0, pre1, pre2, pre3⟩ := pr_1.open2
  go_wp2_with fail
  refine (wOf_any n HN1.out HN2.out _).mono ?_
  rintro e w4 ⟨rfl, hb4⟩
  clear pae0 pae1 pae2 pae3 pre0 pre1 pre2 pre3
  have hB_4 := hB_3.trans (hb4.mono hB_3.size)
  have pa_3 := pa_2.below hb4
  have pr_2 := pr_1.below hb4
  clear hb4 hB_3 pa_2 pr_1
  obtain ⟨pae0, pae1, pae2, pae3⟩ := pa_3.open2
  obtain ⟨pre0, pre1, pre2, pre3⟩ := pr_2.open2
  go_wp2_with fail
  refine (size_any n _ (inW_int HN1.out HN2.out)).mono ?_
  rintro e w5 ⟨rfl, hb5⟩
  clear pae0 pae1 pae2 pae3 pre0 pre1 pre2 pre3
  have hB_5 := hB_4.trans (hb5.mono hB_4.size)
  have pa_4 := pa_3.below hb5
  have pr_3 := pr_2.below hb5
  clear hb5 hB_4 pa_3 pr_2
  obtain ⟨pae0, pae1, pae2, pae3⟩ := pa_4.open2
  obtain ⟨pre0, pre1, pre2, pre3⟩ := pr_3.open2
  clear pae0 pae1 pae2 pae3 pre0 pre1 pre2 pre3
  have hl1pa := pa_4.lt
  have hl1pr := pr_3.lt
  have hl1B := hB_5.size
  obtain ⟨w6, hw6, ps_0, hb6, hs6⟩ := new_box w5 (w5.heap.size) rfl [.int .u64 ((wh ((x.natAbs : Int)) : Nat) : Int), .int .u64 ((wl ((x.natAbs : Int)) : Nat) : Int)] 24
  have hb6' : Below w5.heap.size w5 w6 := hb6.mono (by omega)
  clear hb6
  have hB_6 := hB_5.trans (hb6'.mono hB_5.size)
  have pa_5 := pa_4.below hb6'
  have pr_4 := pr_3.below hb6'
  clear hb6' hB_5 pa_4 pr_3
  obtain ⟨pae0, pae1, pae2, pae3⟩ := pa_5.open2
  obtain ⟨pre0, pre1, pre2, pre3⟩ := pr_4.open2
  obtain ⟨pse0, pse1, pse2, pse3⟩ := ps_0.open2
  go_wp2_with fail
  refine (M1.out _).mono ?_
  rintro e w7 ⟨rfl, hb7⟩
  clear pae0 pae1 pae2 pae3 pre0 pre1 pre2 pre3 pse0 pse1 pse2 pse3
  have hB_7 := hB_6.trans (hb7.mono hB_6.size)
  have pa_6 := pa_5.below hb7
  have pr_5 := pr_4.below hb7
  have ps_1 := ps_0.below hb7
  clear hb7 hB_6 pa_5 pr_4 ps_0
  obtain ⟨pae0, pae1, pae2, pae3⟩ := pa_6.open2
  obtain ⟨pre0, pre1, pre2, pre3⟩ := pr_5.open2
  obtain ⟨pse0, pse1, pse2, pse3⟩ := ps_1.open2
  go_wp2_with fail
  refine (M2.out _).mono ?_
  rintro e w8 ⟨rfl, hb8⟩
  clear pae0 pae1 pae2 pae3 pre0 pre1 pre2 pre3 pse0 pse1 pse2 pse3
  have hB_8 := hB_7.trans (hb8.mono hB_7.size)
  have pa_7 := pa_6.below hb8
  have pr_6 := pr_5.below hb8
  have ps_2 := ps_1.below hb8
  clear hb8 hB_7 pa_6 pr_5 ps_1
  obtain ⟨pae0, pae1, pae2, pae3⟩ := pa_7.open2
  obtain ⟨pre0, pre1, pre2, pre3⟩ := pr_6.open2
  obtain ⟨pse0, pse1, pse2, pse3⟩ := ps_2.open2
  go_wp2_with fail
  refine (C1.out _).mono ?_
  rintro e w9 ⟨rfl, hb9⟩
  clear pae0 pae1 pae2 pae3 pre0 pre1 pre2 pre3 pse0 pse1 pse2 pse3
  have hB_9 := hB_8.trans (hb9.mono hB_8.size)
  have pa_8 := pa_7.below hb9
  have pr_7 := pr_6.below hb9
  have ps_3 := ps_2.below hb9
  clear hb9 hB_8 pa_7 pr_6 ps_2
  obtain ⟨pae0, pae1, pae2, pae3⟩ := pa_8.open2
  obtain ⟨pre0, pre1, pre2, pre3⟩ := pr_7.open2
  go_wp2_with fail
  refine (wOf_any n HN1.out HN2.out _).mono ?_
  rintro e w10 ⟨rfl, hb10⟩
  clear pae0 pae1 pae2 pae3 pre0 pre1 pre2 pre3
  have hB_10 := hB_9.trans (hb10.mono hB_9.size)
  have pa_9 := pa_8.below hb10
  have pr_8 := pr_7.below hb10
  have ps_4 := ps_3.below hb10
  clear hb10 hB_9 pa_8 pr_7 ps_3
  obtain ⟨pae0, pae1, pae2, pae3⟩ := pa_9.open2
  obtain ⟨pre0, pre1, pre2, pre3⟩ := pr_8.open2
  go_wp2_with fail
  refine (C2.out _).mono ?_
  rintro e w11 ⟨rfl, hb11⟩
  clear pae0 pae1 pae2 pae3 pre0 pre1 pre2 pre3
  have hB_11 := hB_10.trans (hb11.mono hB_10.size)
  have pa_10 := pa_9.below hb11
  have pr_9 := pr_8.below hb11
  have ps_5 := ps_4.below hb11
  clear hb11 hB_10 pa_9 pr_8 ps_4
  obtain ⟨pae0, pae1, pae2, pae3⟩ := pa_10.open2
  obtain ⟨pre0, pre1, pre2, pre3⟩ := pr_9.open2
  clear pae0 pae1 pae2 pae3 pre0 pre1 pre2 pre3
  have hl2pa := pa_10.lt
  have hl2pr := pr_9.lt
  have hl2ps := ps_5.lt
  have hl2B := hB_11.size
  obtain ⟨w12, hw12, pp_0, hb12, hs12⟩ := new_box w11 (w11.heap.size) rfl [.int .u64 ((hi : Nat) : Int), .int .u64 ((lo : Nat) : Int)] 24
  have hb12' : Below w11.heap.size w11 w12 := hb12.mono (by omega)
  clear hb12
  have hB_12 := hB_11.trans (hb12'.mono hB_11.size)
  have pa_11 := pa_10.below hb12'
  have pr_10 := pr_9.below hb12'
  have ps_6 := ps_5.below hb12'
  clear hb12' hB_11 pa_10 pr_9 ps_5
  obtain ⟨ppe0, ppe1, ppe2, ppe3⟩ := pp_0.open2
  obtain ⟨pre0, pre1, pre2, pre3⟩ := pr_10.open2
  go_wp2_with fail
  refine (C3.out _).mono ?_
  rintro e w13 ⟨rfl, hb13⟩
  clear ppe0 ppe1 ppe2 ppe3 pre0 pre1 pre2 pre3
  have hB_13 := hB_12.trans (hb13.mono hB_12.size)
  have pa_12 := pa_11.below hb13
  have pr_11 := pr_10.below hb13
  have ps_7 := ps_6.below hb13
  have pp_1 := pp_0.below hb13
  clear hb13 hB_12 pa_11 pr_10 ps_6 pp_0
  obtain ⟨ppe0, ppe1, ppe2, ppe3⟩ := pp_1.open2
  obtain ⟨pre0, pre1, pre2, pre3⟩ := pr_11.open2
  obtain ⟨sf1a, sf1b, sf1c, sf1d⟩ := pr_11.open2
  obtain ⟨sg1a, sg1b⟩ := Box.put2 pr_11 (.int .u64 0)
  go_wp2
  clear ppe0 ppe1 ppe2 ppe3 pre0 pre1 pre2 pre3 sf1a sf1b sf1c sf1d sg1a sg1b
  have hB_14 := below_setAll hB_13 (g := w.heap.size + 1) (by omega) [.int .u64 0, .int .u64 0]
  have pa_13 := pa_12.farAll (g' := w.heap.size + 1) (by omega) [.int .u64 0, .int .u64 0]
  have ps_8 := ps_7.farAll (g' := w.heap.size + 1) (by omega) [.int .u64 0, .int .u64 0]
  have pp_2 := pp_1.farAll (g' := w.heap.size + 1) (by omega) [.int .u64 0, .int .u64 0]
  have pr_12 := pr_11.setAll [.int .u64 0, .int .u64 0] rfl
  simp only [setAll, Nat.zero_add] at hB_14 pa_13 pr_12 ps_8 pp_2
  clear hB_13 pa_12 ps_7 pp_1 pr_11
  generalize (World.setCell (World.setCell w13 ⟨w.heap.size + 1, 0, none⟩ (.int .u64 0)) ⟨w.heap.size + 1, 1, none⟩ (.int .u64 0)) = w14 at *
  go_wp2
  obtain ⟨pre0, pre1, pre2, pre3⟩ := pr_12.open2
  exact bodyPost_ret (v := .tuple #[.agg #[.int .u64 0, .int .u64 0], .bool false]) (by simp [results, Try.results20, go_sem, pre0, pre1]) rfl ⟨rfl, hB_14⟩
end Go.Proofs.Ytkigfccbhkcedaa
/- The calls of wide, walked: Times. -/
namespace Go.Proofs.Ytkigfccbhkcedaa
open Go.RowKit Go.MagM
set_option maxHeartbeats 8000000 in
theorem wTimes_w_zz (x n : Int) (hx : InW x) (hn1 : -9223372036854775808 ≤ n) (hn2 : n < 9223372036854775808) (hi lo mid cy : Nat) (m1 : ∀ w, Calls Try.prog 41 #[.int .u64 ((wl ((x.natAbs : Int)) : Nat) : Int), .int .u64 ((wl ((n.natAbs : Int)) : Nat) : Int)] w fun e w' => e = .returned (.tuple #[.int .u64 ((cy : Nat) : Int), .int .u64 ((lo : Nat) : Int)]) ∧ Below w.heap.size w w') (m2 : ∀ w, Calls Try.prog 41 #[.int .u64 ((wh ((x.natAbs : Int)) : Nat) : Int), .int .u64 ((wl ((n.natAbs : Int)) : Nat) : Int)] w fun e w' => e = .returned (.tuple #[.int .u64 0, .int .u64 ((mid : Nat) : Int)]) ∧ Below w.heap.size w w') (hrun : ∀ w, (callFunc 32 #[.int .u64 ((mid : Nat) : Int), .int .u64 ((cy : Nat) : Int), .int .u64 0]).run Try.prog w = .ok (.value (.tuple #[.int .u64 ((hi : Nat) : Int), .int .u64 0])) w) (sx sn : Int) (c1 : ∀ w, Calls Try.prog 26 #[.agg #[.int .u64 ((wh (x) : Nat) : Int), .int .u64 ((wl (x) : Nat) : Int)]] w fun e w' => e = .returned (.int .i64 (sx)) ∧ Below w.heap.size w w') (c2 : ∀ w, Calls Try.prog 26 #[.agg #[.int .u64 ((wh (n) : Nat) : Int), .int .u64 ((wl (n) : Nat) : Int)]] w fun e w' => e = .returned (.int .i64 (sn)) ∧ Below w.heap.size w w') (hside : IntKind.i64.wrap (sx * sn) = 0) (c3 : ∀ w, Calls Try.prog 26 #[.agg #[.int .u64 ((hi : Nat) : Int), .int .u64 ((lo : Nat) : Int)]] w fun e w' => e = .returned (.int .i64 (0)) ∧ Below w.heap.size w w') (w : World) :
    Calls Try.prog 20 #[.agg #[.int .u64 ((wh (x) : Nat) : Int), .int .u64 ((wl (x) : Nat) : Int)], .int .i64 n] w fun e w' => e = .returned (.tuple #[.agg #[.int .u64 ((hi : Nat) : Int), .int .u64 ((lo : Nat) : Int)], .bool true]) ∧ Below w.heap.size w w' := by
  have hB_0 := Below.refl w.heap.size w
  have HX := Lib.hid hx; have HN1 := Lib.hid hn1; have HN2 := Lib.hid hn2; have M1 := Lib.hid m1; have M2 := Lib.hid m2; have C1 := Lib.hid c1; have C2 := Lib.hid c2; have C3 := Lib.hid c3
  clear hx hn1 hn2 m1 m2 c1 c2 c3
  have hfn : ∀ w : World, (Instr.field 24 (.agg #[.int .u64 ((wh ((n.natAbs : Int)) : Nat) : Int), .int .u64 ((wl ((n.natAbs : Int)) : Nat) : Int)]) 1).run Try.prog w = .ok (.int .u64 ((wl ((n.natAbs : Int)) : Nat) : Int)) w := fun _ => by kernel_rfl
  obtain ⟨w1, hw1, pa_0, hb1, hs1⟩ := new_box w (w.heap.size) rfl [.int .u64 ((wh (x) : Nat) : Int), .int .u64 ((wl (x) : Nat) : Int)] 24
  have hb1' : Below w.heap.size w w1 := hb1.mono (by omega)
  clear hb1
  have hB_1 := hB_0.trans (hb1'.mono hB_0.size)
  clear hb1' hB_0
  obtain ⟨w2, hw2, pr_0, hb2, hs2⟩ := new_box w1 (w.heap.size + 1) hs1 [.int .u64 0, .int .u64 0] 24
  have hb2' : Below w1.heap.size w1 w2 := hb2.mono (by omega)
  clear hb2
  have hB_2 := hB_1.trans (hb2'.mono hB_1.size)
  have pa_1 := pa_0.below hb2'
  clear hb2' hB_1 pa_0
  go_enter Try.func20, Try.ntmps20
  obtain ⟨pae0, pae1, pae2, pae3⟩ := pa_1.open2
  obtain ⟨pre0, pre1, pre2, pre3⟩ := pr_0.open2
  go_wp2_with fail
  refine (size_any x _ HX.out).mono ?_
  rintro e w3 ⟨rfl, hb3⟩
  clear pae0 pae1 pae2 pae3 pre0 pre1 pre2 pre3
  have hB_3 := hB_2.trans (hb3.mono hB_2.size)
  have pa_2 := pa_1.below hb3
  have pr_1 := pr_0.below hb3
  clear hb3 hB_2 pa_1 pr_0
  obtain ⟨pae0, pae1, pae2, pae3⟩ := pa_2.open2
  obtain ⟨pre0, pre1, pre2, pre3⟩ := pr_1.open2
  go_wp2_with fail
  refine (wOf_any n HN1.out HN2.out _).mono ?_
  rintro e w4 ⟨rfl, hb4⟩
  clear pae0 pae1 pae2 pae3 pre0 pre1 pre2 pre3
  have hB_4 := hB_3.trans (hb4.mono hB_3.size)
  have pa_3 := pa_2.below hb4
  have pr_2 := pr_1.below hb4
  clear hb4 hB_3 pa_2 pr_1
  obtain ⟨pae0, pae1, pae2, pae3⟩ := pa_3.open2
  obtain ⟨pre0, pre1, pre2, pre3⟩ := pr_2.open2
  go_wp2_with fail
  refine (size_any n _ (inW_int HN1.out HN2.out)).mono ?_
  rintro e w5 ⟨rfl, hb5⟩
  clear pae0 pae1 pae2 pae3 pre0 pre1 pre2 pre3
  have hB_5 := hB_4.trans (hb5.mono hB_4.size)
  have pa_4 := pa_3.below hb5
  have pr_3 := pr_2.below hb5
  clear hb5 hB_4 pa_3 pr_2
  obtain ⟨pae0, pae1, pae2, pae3⟩ := pa_4.open2
  obtain ⟨pre0, pre1, pre2, pre3⟩ := pr_3.open2
  clear pae0 pae1 pae2 pae3 pre0 pre1 pre2 pre3
  have hl1pa := pa_4.lt
  have hl1pr := pr_3.lt
  have hl1B := hB_5.size
  obtain ⟨w6, hw6, ps_0, hb6, hs6⟩ := new_box w5 (w5.heap.size) rfl [.int .u64 ((wh ((x.natAbs : Int)) : Nat) : Int), .int .u64 ((wl ((x.natAbs : Int)) : Nat) : Int)] 24
  have hb6' : Below w5.heap.size w5 w6 := hb6.mono (by omega)
  clear hb6
  have hB_6 := hB_5.trans (hb6'.mono hB_5.size)
  have pa_5 := pa_4.below hb6'
  have pr_4 := pr_3.below hb6'
  clear hb6' hB_5 pa_4 pr_3
  obtain ⟨pae0, pae1, pae2, pae3⟩ := pa_5.open2
  obtain ⟨pre0, pre1, pre2, pre3⟩ := pr_4.open2
  obtain ⟨pse0, pse1, pse2, pse3⟩ := ps_0.open2
  go_wp2_with fail
  refine (M1.out _).mono ?_
  rintro e w7 ⟨rfl, hb7⟩
  clear pae0 pae1 pae2 pae3 pre0 pre1 pre2 pre3 pse0 pse1 pse2 pse3
  have hB_7 := hB_6.trans (hb7.mono hB_6.size)
  have pa_6 := pa_5.below hb7
  have pr_5 := pr_4.below hb7
  have ps_1 := ps_0.below hb7
  clear hb7 hB_6 pa_5 pr_4 ps_0
  obtain ⟨pae0, pae1, pae2, pae3⟩ := pa_6.open2
  obtain ⟨pre0, pre1, pre2, pre3⟩ := pr_5.open2
  obtain ⟨pse0, pse1, pse2, pse3⟩ := ps_1.open2
  go_wp2_with fail
  refine (M2.out _).mono ?_
  rintro e w8 ⟨rfl, hb8⟩
  clear pae0 pae1 pae2 pae3 pre0 pre1 pre2 pre3 pse0 pse1 pse2 pse3
  have hB_8 := hB_7.trans (hb8.mono hB_7.size)
  have pa_7 := pa_6.below hb8
  have pr_6 := pr_5.below hb8
  have ps_2 := ps_1.below hb8
  clear hb8 hB_7 pa_6 pr_5 ps_1
  obtain ⟨pae0, pae1, pae2, pae3⟩ := pa_7.open2
  obtain ⟨pre0, pre1, pre2, pre3⟩ := pr_6.open2
  obtain ⟨pse0, pse1, pse2, pse3⟩ := ps_2.open2
  go_wp2_with fail
  refine (C1.out _).mono ?_
  rintro e w9 ⟨rfl, hb9⟩
  clear pae0 pae1 pae2 pae3 pre0 pre1 pre2 pre3 pse0 pse1 pse2 pse3
  have hB_9 := hB_8.trans (hb9.mono hB_8.size)
  have pa_8 := pa_7.below hb9
  have pr_7 := pr_6.below hb9
  have ps_3 := ps_2.below hb9
  clear hb9 hB_8 pa_7 pr_6 ps_2
  obtain ⟨pae0, pae1, pae2, pae3⟩ := pa_8.open2
  obtain ⟨pre0, pre1, pre2, pre3⟩ := pr_7.open2
  go_wp2_with fail
  refine (wOf_any n HN1.out HN2.out _).mono ?_
  rintro e w10 ⟨rfl, hb10⟩
  clear pae0 pae1 pae2 pae3 pre0 pre1 pre2 pre3
  have hB_10 := hB_9.trans (hb10.mono hB_9.size)
  have pa_9 := pa_8.below hb10
  have pr_8 := pr_7.below hb10
  have ps_4 := ps_3.below hb10
  clear hb10 hB_9 pa_8 pr_7 ps_3
  obtain ⟨pae0, pae1, pae2, pae3⟩ := pa_9.open2
  obtain ⟨pre0, pre1, pre2, pre3⟩ := pr_8.open2
  go_wp2_with fail
  refine (C2.out _).mono ?_
  rintro e w11 ⟨rfl, hb11⟩
  clear pae0 pae1 pae2 pae3 pre0 pre1 pre2 pre3
  have hB_11 := hB_10.trans (hb11.mono hB_10.size)
  have pa_10 := pa_9.below hb11
  have pr_9 := pr_8.below hb11
  have ps_5 := ps_4.below hb11
  clear hb11 hB_10 pa_9 pr_8 ps_4
  obtain ⟨pae0, pae1, pae2, pae3⟩ := pa_10.open2
  obtain ⟨pre0, pre1, pre2, pre3⟩ := pr_9.open2
  clear pae0 pae1 pae2 pae3 pre0 pre1 pre2 pre3
  have hl2pa := pa_10.lt
  have hl2pr := pr_9.lt
  have hl2ps := ps_5.lt
  have hl2B := hB_11.size
  obtain ⟨w12, hw12, pp_0, hb12, hs12⟩ := new_box w11 (w11.heap.size) rfl [.int .u64 ((hi : Nat) : Int), .int .u64 ((lo : Nat) : Int)] 24
  have hb12' : Below w11.heap.size w11 w12 := hb12.mono (by omega)
  clear hb12
  have hB_12 := hB_11.trans (hb12'.mono hB_11.size)
  have pa_11 := pa_10.below hb12'
  have pr_10 := pr_9.below hb12'
  have ps_6 := ps_5.below hb12'
  clear hb12' hB_11 pa_10 pr_9 ps_5
  obtain ⟨ppe0, ppe1, ppe2, ppe3⟩ := pp_0.open2
  obtain ⟨pre0, pre1, pre2, pre3⟩ := pr_10.open2
  go_wp2_with fail
  refine (C3.out _).mono ?_
  rintro e w13 ⟨rfl, hb13⟩
  clear ppe0 ppe1 ppe2 ppe3 pre0 pre1 pre2 pre3
  have hB_13 := hB_12.trans (hb13.mono hB_12.size)
  have pa_12 := pa_11.below hb13
  have pr_11 := pr_10.below hb13
  have ps_7 := ps_6.below hb13
  have pp_1 := pp_0.below hb13
  clear hb13 hB_12 pa_11 pr_10 ps_6 pp_0
  obtain ⟨ppe0, ppe1, ppe2, ppe3⟩ := pp_1.open2
  obtain ⟨pre0, pre1, pre2, pre3⟩ := pr_11.open2
  obtain ⟨sf1a, sf1b, sf1c, sf1d⟩ := pr_11.open2
  obtain ⟨sg1a, sg1b⟩ := Box.put2 pr_11 (.int .u64 ((hi : Nat) : Int))
  go_wp2
  clear ppe0 ppe1 ppe2 ppe3 pre0 pre1 pre2 pre3 sf1a sf1b sf1c sf1d sg1a sg1b
  have hB_14 := below_setAll hB_13 (g := w.heap.size + 1) (by omega) [.int .u64 ((hi : Nat) : Int), .int .u64 ((lo : Nat) : Int)]
  have pa_13 := pa_12.farAll (g' := w.heap.size + 1) (by omega) [.int .u64 ((hi : Nat) : Int), .int .u64 ((lo : Nat) : Int)]
  have ps_8 := ps_7.farAll (g' := w.heap.size + 1) (by omega) [.int .u64 ((hi : Nat) : Int), .int .u64 ((lo : Nat) : Int)]
  have pp_2 := pp_1.farAll (g' := w.heap.size + 1) (by omega) [.int .u64 ((hi : Nat) : Int), .int .u64 ((lo : Nat) : Int)]
  have pr_12 := pr_11.setAll [.int .u64 ((hi : Nat) : Int), .int .u64 ((lo : Nat) : Int)] rfl
  simp only [setAll, Nat.zero_add] at hB_14 pa_13 pr_12 ps_8 pp_2
  clear hB_13 pa_12 ps_7 pp_1 pr_11
  generalize (World.setCell (World.setCell w13 ⟨w.heap.size + 1, 0, none⟩ (.int .u64 ((hi : Nat) : Int))) ⟨w.heap.size + 1, 1, none⟩ (.int .u64 ((lo : Nat) : Int))) = w14 at *
  go_wp2
  obtain ⟨pre0, pre1, pre2, pre3⟩ := pr_12.open2
  exact bodyPost_ret (v := .tuple #[.agg #[.int .u64 ((hi : Nat) : Int), .int .u64 ((lo : Nat) : Int)], .bool true]) (by simp [results, Try.results20, go_sem, pre0, pre1]) rfl ⟨rfl, hB_14⟩
end Go.Proofs.Ytkigfccbhkcedaa
/- The calls of wide: Times. -/
namespace Go.Proofs.Ytkigfccbhkcedaa
open Go.RowKit Go.MagM
theorem sg_is {z : Int} {r : Int} (h : (wrapW z).sign = r) : ∀ w, Calls Try.prog 26 #[.agg #[.int .u64 ((wh (z) : Nat) : Int), .int .u64 ((wl (z) : Nat) : Int)]] w fun e w' => e = .returned (.int .i64 r) ∧ Below w.heap.size w w' := by
  intro w; subst h; exact wSign_all z w
theorem side_wrap (x y : Int) : IntKind.i64.wrap (x.sign * y.sign) = x.sign * y.sign := by
  rcases Int.lt_trichotomy x 0 with h | h | h <;> rcases Int.lt_trichotomy y 0 with k | k | k <;>
    simp [h, k, Int.sign_eq_neg_one_of_neg, Int.sign_eq_one_of_pos, IntKind.wrap_i64]
theorem add64_zero (mid cy hi more : Nat) (h1 : (mid + cy + 0) % B = hi) (h2 : (mid + cy + 0) / B = more) :
    ∀ w, (callFunc 32 #[.int .u64 ((mid : Nat) : Int), .int .u64 ((cy : Nat) : Int), .int .u64 0]).run Try.prog w = .ok (.value (.tuple #[.int .u64 ((hi : Nat) : Int), .int .u64 ((more : Nat) : Int)])) w := by
  intro w; subst h1; subst h2; exact add64_run mid cy 0 (by omega) w
theorem wTimes_any (x n : Int) (hx : InW x) (hn1 : -9223372036854775808 ≤ n) (hn2 : n < 9223372036854775808) (w : World) :
    Calls Try.prog 20 #[.agg #[.int .u64 ((wh (x) : Nat) : Int), .int .u64 ((wl (x) : Nat) : Int)], .int .i64 n] w fun e w' => AnsWB w w' e (fitW (x * n)) (decide (InW (x * n))) := by
  obtain ⟨en, ln⟩ := w_abs_int hn1 hn2
  have hsz := w_size hx
  have hhB := wh_lt (x.natAbs : Int); have hlB := wl_lt (x.natAbs : Int)
  have hP : ((x * n).natAbs : Int) = (x.natAbs : Int) * (n.natAbs : Int) := by rw [Int.natAbs_mul, Int.natCast_mul]
  have mul_n : ∀ a : Nat, ∀ c : Nat, c < B → wl (n.natAbs : Int) < B → ∃ H L : Nat, H < B ∧ L < B ∧ H * B + L = c * wl (n.natAbs : Int) ∧ (∀ w, Calls Try.prog 41 #[.int .u64 ((c : Nat) : Int), .int .u64 ((wl (n.natAbs : Int) : Nat) : Int)] w fun e w' => e = .returned (.tuple #[.int .u64 ((H : Nat) : Int), .int .u64 ((L : Nat) : Int)]) ∧ Below w.heap.size w w') := by
    intro _ c hc hn
    refine ⟨_, _, Nat.div_lt_of_lt_mul (Nat.mul_lt_mul'' hc hn), mod_lt _, ?_, fun w => mul64_is c _ _ _ w hc hn rfl rfl⟩
    have := Nat.div_add_mod (c * wl (n.natAbs : Int)) B; rw [Nat.mul_comm] at this; exact this
  obtain ⟨cy, lo, hcy, hlo, e1, m1⟩ := mul_n 0 _ hlB (wl_lt _)
  obtain ⟨ov, mid, hov, hmid, e2, m2⟩ := mul_n 0 _ hhB (wl_lt _)
  clear mul_n
  rw [en] at e1 e2
  have hr0 := add64_zero mid cy _ _ rfl rfl
  have hmore : (mid + cy + 0) / B ≤ 1 := by simp only [B_eq] at *; omega
  have hhi : (mid + cy + 0) % B < B := mod_lt _
  have hsum : (mid + cy + 0) / B * B + (mid + cy + 0) % B = mid + cy := by have := Nat.div_add_mod (mid + cy + 0) B; rw [Nat.mul_comm] at this; omega
  generalize (mid + cy + 0) / B = more at *
  generalize (mid + cy + 0) % B = hi at *
  have hv : ((x * n).natAbs : Int) = (ov : Int) * 340282366920938463463374607431768211456 + (more : Int) * 340282366920938463463374607431768211456 + (hi : Int) * 18446744073709551616 + (lo : Int) := by
    rw [hP, ← hsz, Int.add_mul, Int.mul_right_comm]
    have a1 : ((wl (x.natAbs : Int) : Nat) : Int) * (n.natAbs : Int) = ((cy * B + lo : Nat) : Int) := by rw [e1, Int.natCast_mul]
    have a2 : ((wh (x.natAbs : Int) : Nat) : Int) * (n.natAbs : Int) = ((ov * B + mid : Nat) : Int) := by rw [e2, Int.natCast_mul]
    rw [a1, a2]
    simp only [B_eq] at *
    omega
  have hzero : ∀ m : Nat, m = 0 → (Value.int IntKind.u64 ((m : Nat) : Int)) = .int .u64 0 := by rintro _ rfl; rfl
  by_cases h0 : ov = 0
  · rw [hzero ov h0] at m2
    subst h0
    by_cases h1 : more = 0
    · rw [hzero more h1] at hr0
      subst h1
      obtain ⟨P, hPe⟩ : ∃ P : Int, P = ((x * n).natAbs : Int) := ⟨_, rfl⟩
      rw [← hPe] at hv
      obtain ⟨q1, q2⟩ := w_of (z := P) hhi hlo 0 (by omega)
      have cs1 := sg_is (z := x) (r := x.sign) (by rw [wrapW_self hx])
      have cs2 := sg_is (z := n) (r := n.sign) (by rw [wrapW_self (inW_int hn1 hn2)])
      have hsd : IntKind.i64.wrap (x.sign * n.sign) = (x * n).sign := by rw [Int.sign_mul]; exact side_wrap x n
      have hPlt : P < 340282366920938463463374607431768211456 := by simp only [B_eq] at *; omega
      rcases Int.lt_trichotomy (x * n) 0 with c | c | c
      · have hPn : x * n = -P := by omega
        rw [Int.sign_eq_neg_one_of_neg c] at hsd
        have hac := fun w => across_any P w
        rw [← q1, ← q2] at hac
        by_cases hin : InW (x * n)
        · have c3 := sg_is (z := -P) (r := -1) (by rw [← hPn, wrapW_self hin]; exact Int.sign_eq_neg_one_of_neg c)
          refine (wTimes_w_nn x n hx hn1 hn2 hi lo mid cy m1 m2 hr0 _ _ cs1 cs2 hsd _ _ hac c3 w).mono fun e w' h => ?_
          rw [← hPn] at h
          exact answb_yes hin h
        · have c3 := sg_is (z := -P) (r := 1) (by apply Int.sign_eq_one_of_pos; unfold wrapW; unfold InW at hin; omega)
          exact (wTimes_w_np x n hx hn1 hn2 hi lo mid cy m1 m2 hr0 _ _ cs1 cs2 hsd _ _ hac c3 w).mono fun e w' h => answb_no hin h
      · have hin : InW (x * n) := by rw [c]; unfold InW; omega
        have hP0 : P = 0 := by omega
        have c3 := sg_is (z := P) (r := 0) (by rw [hP0]; rfl)
        rw [c, Int.sign_zero] at hsd
        rw [← q1, ← q2] at c3
        refine (wTimes_w_zz x n hx hn1 hn2 hi lo mid cy m1 m2 hr0 _ _ cs1 cs2 hsd c3 w).mono fun e w' h => ?_
        rw [q1, q2, hP0, ← c] at h
        exact answb_yes hin h
      · have hPp : x * n = P := by omega
        rw [Int.sign_eq_one_of_pos c] at hsd
        by_cases hin : InW (x * n)
        · have c3 := sg_is (z := P) (r := 1) (by rw [← hPp, wrapW_self hin]; exact Int.sign_eq_one_of_pos c)
          rw [← q1, ← q2] at c3
          refine (wTimes_w_pp x n hx hn1 hn2 hi lo mid cy m1 m2 hr0 _ _ cs1 cs2 hsd c3 w).mono fun e w' h => ?_
          rw [q1, q2, ← hPp] at h
          exact answb_yes hin h
        · have c3 := sg_is (z := P) (r := -1) (by apply Int.sign_eq_neg_one_of_neg; unfold wrapW; unfold InW at hin; omega)
          rw [← q1, ← q2] at c3
          exact (wTimes_w_pn x n hx hn1 hn2 hi lo mid cy m1 m2 hr0 _ _ cs1 cs2 hsd c3 w).mono fun e w' h => answb_no hin h
    · have hin : ¬ InW (x * n) := by unfold InW; omega
      exact (wTimes_w_more x n hx hn1 hn2 hi lo mid cy more m1 m2 hr0 h1 w).mono fun e w' h => answb_no hin h
  · have hin : ¬ InW (x * n) := by unfold InW; omega
    exact (wTimes_w_over x n hx hn1 hn2 hi lo mid cy ov more m1 m2 hr0 h0 w).mono fun e w' h => answb_no hin h
end Go.Proofs.Ytkigfccbhkcedaa
/- The document's small determinant. -/
namespace Go.Proofs.Ytkigfccbhkcedaa
open Go.RowKit Go.MagM
theorem wCmp_is (x y c : Int) (hx : InW x) (hy : InW y) (h : icmp x y = c) (w : World) : Calls Try.prog 25 #[.agg #[.int .u64 ((wh (x) : Nat) : Int), .int .u64 ((wl (x) : Nat) : Int)], .agg #[.int .u64 ((wh (y) : Nat) : Int), .int .u64 ((wl (y) : Nat) : Int)]] w fun e w' => e = .returned (.int .i64 c) ∧ Below w.heap.size w w' := by
  subst h; exact wCmp_any x y hx hy w
set_option maxHeartbeats 4000000 in
theorem wfit_any (w : World) :
    Calls Try.prog 8 #[] w fun e w' => e = .returned (.bool true) ∧ Below w.heap.size w w' := by
  have hB_0 := Below.refl w.heap.size w
  have d1 : ∀ w, Calls Try.prog 28 #[.int .i64 1, .int .i64 2, .int .i64 3, .int .i64 4] w fun e w' => AnsW w w' e (-2) := fun w => wDet_any 1 2 3 4 (by omega) (by omega) (by omega) (by omega) (by omega) (by omega) (by omega) (by omega) w
  have D1 := Lib.hid d1; clear d1
  go_enter Try.func8, Try.ntmps8
  go_wp2_with fail
  refine (D1.out _).mono ?_
  rintro e w1 ⟨rfl, hb1⟩
  have hB_1 := hB_0.trans (hb1.mono hB_0.size)
  clear hb1 hB_0
  have hl1B := hB_1.size
  obtain ⟨w2, hw2, pd_0, hb2, hs2⟩ := new_box w1 (w1.heap.size) rfl [.int .u64 ((wh (-2) : Nat) : Int), .int .u64 ((wl (-2) : Nat) : Int)] 24
  have hb2' : Below w1.heap.size w1 w2 := hb2.mono (by omega)
  clear hb2
  have hB_2 := hB_1.trans (hb2'.mono hB_1.size)
  clear hb2' hB_1
  obtain ⟨pde0, pde1, pde2, pde3⟩ := pd_0.open2
  go_wp2
  clear pde0 pde1 pde2 pde3
  have hB_3 := hB_2.drew'
  have pd_1 := pd_0.drew
  clear hB_2 pd_0
  go_region_held3 (fun w' => w'.cell? ⟨w1.heap.size, 0, none⟩ = some (.int .u64 ((wh (-2) : Nat) : Int)) ∧ w'.cell? ⟨w1.heap.size, 1, none⟩ = some (.int .u64 ((wl (-2) : Nat) : Int)))
    (first | with_reducible exact ⟨pd_1.c0, pd_1.c1⟩ | with_reducible exact ⟨pd_2.c0, pd_2.c1⟩ | with_reducible exact ⟨pd_3.c0, pd_3.c1⟩ | with_reducible exact ⟨pd_4.c0, pd_4.c1⟩ | with_reducible exact ⟨pd_5.c0, pd_5.c1⟩ | with_reducible exact ⟨pd_6.c0, pd_6.c1⟩ | with_reducible exact ⟨pd_7.c0, pd_7.c1⟩ | fail)
    (first
      | (go_at_call 26; (with_reducible refine (sg_is (z := -2) (r := -1) rfl _).mono ?_); rintro e w3 ⟨rfl, hb3⟩; have hB_4 := hB_3.trans (hb3.mono hB_3.size); have pd_2 := pd_1.below hb3; clear hb3 hB_3 pd_1)
      | (go_at_call 9; (with_reducible refine (wNum_any (-2) (by unfold InW; omega) _).mono ?_); rintro e w4 ⟨m1, o1, n1, c1, rfl, f1_0, hb4⟩; have hB_5 := hB_4.trans (hb4.mono hB_4.size); have pd_3 := pd_2.below hb4; clear hb4 hB_4 pd_2)
      | (go_at_call 23; (with_reducible refine (nOf_any (-2) (by omega) (by omega) _).mono ?_); rintro e w5 ⟨m2, o2, n2, c2, rfl, f2_0, hb5⟩; have hB_6 := hB_5.trans (hb5.mono hB_5.size); have pd_4 := pd_3.below hb5; have f1_1 := f1_0.below hb5; clear hb5 hB_5 pd_3 f1_0)
      | (go_at_call 21; (with_reducible refine (wnCmp_is _ _ 2 1 (-2) (-2) 0 _ (by omega) (by omega) f1_1.num f2_0.num rfl).mono ?_); rintro e w6 ⟨rfl, hb6⟩; have hB_7 := hB_6.trans (hb6.mono hB_6.size); have pd_5 := pd_4.below hb6; have f1_2 := f1_1.below hb6; have f2_1 := f2_0.below hb6; clear hb6 hB_6 pd_4 f1_1 f2_0)
      | (go_at_call 24; (with_reducible refine (wOf_any (-2) (by omega) (by omega) _).mono ?_); rintro e w7 ⟨rfl, hb7⟩; have hB_8 := hB_7.trans (hb7.mono hB_7.size); have pd_6 := pd_5.below hb7; have f1_3 := f1_2.below hb7; have f2_2 := f2_1.below hb7; clear hb7 hB_7 pd_5 f1_2 f2_1)
      | (go_at_call 25; (with_reducible refine (wCmp_is (-2) (-2) 0 (by unfold InW; omega) (by unfold InW; omega) rfl _).mono ?_); rintro e w8 ⟨rfl, hb8⟩; have hB_9 := hB_8.trans (hb8.mono hB_8.size); have pd_7 := pd_6.below hb8; have f1_4 := f1_3.below hb8; have f2_3 := f2_2.below hb8; clear hb8 hB_8 pd_6 f1_3 f2_2))
  go_wp2
  go_ret
  exact ⟨rfl, hB_9⟩
end Go.Proofs.Ytkigfccbhkcedaa
/- The statement WideMuls, walked. -/
namespace Go.Proofs.Ytkigfccbhkcedaa
open Go.RowKit Go.MagM
theorem inW_mul {a b : Int} (ha1 : -9223372036854775808 ≤ a) (ha2 : a < 9223372036854775808) (hb1 : -9223372036854775808 ≤ b) (hb2 : b < 9223372036854775808) : InW (a * b) := by
  have h := Nat.mul_le_mul (show a.natAbs ≤ 9223372036854775808 by omega) (show b.natAbs ≤ 9223372036854775808 by omega)
  rw [← Int.natAbs_mul] at h
  unfold InW; omega
set_option maxRecDepth 100000 in
set_option maxHeartbeats 16000000 in
theorem WideMuls_walk (a b z : Int) (w : World) (ha1 : -9223372036854775808 ≤ a) (ha2 : a < 9223372036854775808) (hb1 : -9223372036854775808 ≤ b) (hb2 : b < 9223372036854775808) (hz : InW z) :
    Calls Try.prog 4 #[.int .i64 a, .int .i64 b, .agg #[.int .u64 ((wh (z) : Nat) : Int), .int .u64 ((wl (z) : Nat) : Int)]] w fun e w' => e = .returned (.bool true) ∧ Below w.heap.size w w' := by
  have hB_0 := Below.refl w.heap.size w
  have HZ := Lib.hid hz; have HP := Lib.hid (inW_mul ha1 ha2 hb1 hb2); have HA1 := Lib.hid ha1; have HA2 := Lib.hid ha2; have HB1 := Lib.hid hb1; have HB2 := Lib.hid hb2; clear hz ha1 ha2 hb1 hb2
  obtain ⟨w1, hw1, pw_0, hb1, hs1⟩ := new_box w (w.heap.size) rfl [.int .u64 ((wh (z) : Nat) : Int), .int .u64 ((wl (z) : Nat) : Int)] 24
  have hb1' : Below w.heap.size w w1 := hb1.mono (by omega)
  clear hb1
  have hB_1 := hB_0.trans (hb1'.mono hB_0.size)
  clear hb1' hB_0
  go_enter Try.func4, Try.ntmps4
  obtain ⟨pwe0, pwe1, pwe2, pwe3⟩ := pw_0.open2
  go_wp2_with fail
  refine (wfit_any _).mono ?_
  rintro e w2 ⟨rfl, hb2⟩
  clear pwe0 pwe1 pwe2 pwe3
  have hB_2 := hB_1.trans (hb2.mono hB_1.size)
  have pw_1 := pw_0.below hb2
  clear hb2 hB_1 pw_0
  obtain ⟨pwe0, pwe1, pwe2, pwe3⟩ := pw_1.open2
  go_wp2_with fail
  refine (wMul_any a b HA1.out HA2.out HB1.out HB2.out _).mono ?_
  rintro e w3 ⟨rfl, hb3⟩
  clear pwe0 pwe1 pwe2 pwe3
  have hB_3 := hB_2.trans (hb3.mono hB_2.size)
  have pw_2 := pw_1.below hb3
  clear hb3 hB_2 pw_1
  obtain ⟨pwe0, pwe1, pwe2, pwe3⟩ := pw_2.open2
  clear pwe0 pwe1 pwe2 pwe3
  have hl1pw := pw_2.lt
  have hl1B := hB_3.size
  obtain ⟨w4, hw4, pp_0, hb4, hs4⟩ := new_box w3 (w3.heap.size) rfl [.int .u64 ((wh (a * b) : Nat) : Int), .int .u64 ((wl (a * b) : Nat) : Int)] 24
  have hb4' : Below w3.heap.size w3 w4 := hb4.mono (by omega)
  clear hb4
  have hB_4 := hB_3.trans (hb4'.mono hB_3.size)
  have pw_3 := pw_2.below hb4'
  clear hb4' hB_3 pw_2
  obtain ⟨pwe0, pwe1, pwe2, pwe3⟩ := pw_3.open2
  go_wp2_with fail
  refine (wTimes_any z a HZ.out HA1.out HA2.out _).mono ?_
  rintro e w5 ⟨rfl, hb5⟩
  clear pwe0 pwe1 pwe2 pwe3
  have hB_5 := hB_4.trans (hb5.mono hB_4.size)
  have pw_4 := pw_3.below hb5
  have pp_1 := pp_0.below hb5
  clear hb5 hB_4 pw_3 pp_0
  obtain ⟨pwe0, pwe1, pwe2, pwe3⟩ := pw_4.open2
  clear pwe0 pwe1 pwe2 pwe3
  have hl2pw := pw_4.lt
  have hl2pp := pp_1.lt
  have hl2B := hB_5.size
  obtain ⟨w6, hw6, pt_0, hb6, hs6⟩ := new_box w5 (w5.heap.size) rfl [.int .u64 ((wh (fitW (z * a)) : Nat) : Int), .int .u64 ((wl (fitW (z * a)) : Nat) : Int)] 24
  have hb6' : Below w5.heap.size w5 w6 := hb6.mono (by omega)
  clear hb6
  have hB_6 := hB_5.trans (hb6'.mono hB_5.size)
  have pw_5 := pw_4.below hb6'
  have pp_2 := pp_1.below hb6'
  clear hb6' hB_5 pw_4 pp_1
  obtain ⟨pwe0, pwe1, pwe2, pwe3⟩ := pw_5.open2
  go_wp2
  clear pwe0 pwe1 pwe2 pwe3
  have hB_7 := hB_6.drew'
  have pw_6 := pw_5.drew
  have pp_3 := pp_2.drew
  have pt_1 := pt_0.drew
  clear hB_6 pw_5 pp_2 pt_0
  go_region_held3 (fun w' => w'.cell? ⟨w3.heap.size, 0, none⟩ = some (.int .u64 ((wh (a * b) : Nat) : Int)) ∧ w'.cell? ⟨w3.heap.size, 1, none⟩ = some (.int .u64 ((wl (a * b) : Nat) : Int)) ∧ w'.cell? ⟨w5.heap.size, 0, none⟩ = some (.int .u64 ((wh (fitW (z * a)) : Nat) : Int)) ∧ w'.cell? ⟨w5.heap.size, 1, none⟩ = some (.int .u64 ((wl (fitW (z * a)) : Nat) : Int)) ∧ w'.cell? ⟨w.heap.size, 0, none⟩ = some (.int .u64 ((wh (z) : Nat) : Int)) ∧ w'.cell? ⟨w.heap.size, 1, none⟩ = some (.int .u64 ((wl (z) : Nat) : Int)))
    (first | with_reducible exact ⟨pp_3.c0, pp_3.c1, pt_1.c0, pt_1.c1, pw_6.c0, pw_6.c1⟩ | with_reducible exact ⟨pp_4.c0, pp_4.c1, pt_2.c0, pt_2.c1, pw_7.c0, pw_7.c1⟩ | with_reducible exact ⟨pp_5.c0, pp_5.c1, pt_3.c0, pt_3.c1, pw_8.c0, pw_8.c1⟩ | with_reducible exact ⟨pp_6.c0, pp_6.c1, pt_4.c0, pt_4.c1, pw_9.c0, pw_9.c1⟩ | with_reducible exact ⟨pp_7.c0, pp_7.c1, pt_5.c0, pt_5.c1, pw_10.c0, pw_10.c1⟩ | with_reducible exact ⟨pp_8.c0, pp_8.c1, pt_6.c0, pt_6.c1, pw_11.c0, pw_11.c1⟩ | with_reducible exact ⟨pp_9.c0, pp_9.c1, pt_7.c0, pt_7.c1, pw_12.c0, pw_12.c1⟩ | with_reducible exact ⟨pp_10.c0, pp_10.c1, pt_8.c0, pt_8.c1, pw_13.c0, pw_13.c1⟩ | with_reducible exact ⟨pp_11.c0, pp_11.c1, pt_9.c0, pt_9.c1, pw_14.c0, pw_14.c1⟩ | with_reducible exact ⟨pp_12.c0, pp_12.c1, pt_10.c0, pt_10.c1, pw_15.c0, pw_15.c1⟩ | with_reducible exact ⟨pp_13.c0, pp_13.c1, pt_11.c0, pt_11.c1, pw_16.c0, pw_16.c1⟩ | with_reducible exact ⟨pp_14.c0, pp_14.c1, pt_12.c0, pt_12.c1, pw_17.c0, pw_17.c1⟩ | with_reducible exact ⟨pp_15.c0, pp_15.c1, pt_13.c0, pt_13.c1, pw_18.c0, pw_18.c1⟩ | with_reducible exact ⟨pp_16.c0, pp_16.c1, pt_14.c0, pt_14.c1, pw_19.c0, pw_19.c1⟩ | fail)
    (first
      | (go_at_call 9; (with_reducible refine (wNum_any (a * b) HP.out _).mono ?_); rintro e w7 ⟨m1, o1, n1, c1, rfl, f1_0, hb7⟩; have hB_8 := hB_7.trans (hb7.mono hB_7.size); have pw_7 := pw_6.below hb7; have pp_4 := pp_3.below hb7; have pt_2 := pt_1.below hb7; clear hb7 hB_7 pw_6 pp_3 pt_1)
      | (go_at_call 23; (with_reducible refine (nOf_any a HA1.out HA2.out _).mono ?_); rintro e w8 ⟨m2, o2, n2, c2, rfl, f2_0, hb8⟩; have hB_9 := hB_8.trans (hb8.mono hB_8.size); have pw_8 := pw_7.below hb8; have pp_5 := pp_4.below hb8; have pt_3 := pt_2.below hb8; have f1_1 := f1_0.below hb8; clear hb8 hB_8 pw_7 pp_4 pt_2 f1_0)
      | (go_at_call 23; (with_reducible refine (nOf_any b HB1.out HB2.out _).mono ?_); rintro e w9 ⟨m3, o3, n3, c3, rfl, f3_0, hb9⟩; have hB_10 := hB_9.trans (hb9.mono hB_9.size); have pw_9 := pw_8.below hb9; have pp_6 := pp_5.below hb9; have pt_4 := pt_3.below hb9; have f1_2 := f1_1.below hb9; have f2_1 := f2_0.below hb9; clear hb9 hB_9 pw_8 pp_5 pt_3 f1_1 f2_0)
      | (go_at_call 22; (with_reducible refine (nMul_any _ _ 1 1 a b _ (by omega) (by omega) f2_1.num f3_0.num).mono ?_); rintro e w10 ⟨m4, o4, n4, c4, rfl, f4_0, hb10⟩; have hB_11 := hB_10.trans (hb10.mono hB_10.size); have pw_10 := pw_9.below hb10; have pp_7 := pp_6.below hb10; have pt_5 := pt_4.below hb10; have f1_3 := f1_2.below hb10; clear hb10 hB_10 pw_9 pp_6 pt_4 f1_2 f2_1 f3_0)
      | (go_at_call 21; (with_reducible refine (wnCmp_is _ _ 2 (1 + 1) (a * b) (a * b) 0 _ (by omega) (by omega) f1_3.num f4_0.num (icmp_self _)).mono ?_); rintro e w11 ⟨rfl, hb11⟩; have hB_12 := hB_11.trans (hb11.mono hB_11.size); have pw_11 := pw_10.below hb11; have pp_8 := pp_7.below hb11; have pt_6 := pt_5.below hb11; clear hb11 hB_11 pw_10 pp_7 pt_5 f1_3 f4_0)
      | (go_at_call 9; (with_reducible refine (wNum_any z HZ.out _).mono ?_); rintro e w12 ⟨m5, o5, n5, c5, rfl, f5_0, hb12⟩; have hB_13 := hB_12.trans (hb12.mono hB_12.size); have pw_12 := pw_11.below hb12; have pp_9 := pp_8.below hb12; have pt_7 := pt_6.below hb12; clear hb12 hB_12 pw_11 pp_8 pt_6)
      | (go_at_call 23; (with_reducible refine (nOf_any a HA1.out HA2.out _).mono ?_); rintro e w13 ⟨m6, o6, n6, c6, rfl, f6_0, hb13⟩; have hB_14 := hB_13.trans (hb13.mono hB_13.size); have pw_13 := pw_12.below hb13; have pp_10 := pp_9.below hb13; have pt_8 := pt_7.below hb13; have f5_1 := f5_0.below hb13; clear hb13 hB_13 pw_12 pp_9 pt_7 f5_0)
      | (go_at_call 22; (with_reducible refine (nMul_any _ _ 2 1 z a _ (by omega) (by omega) f5_1.num f6_0.num).mono ?_); rintro e w14 ⟨m7, o7, n7, c7, rfl, f7_0, hb14⟩; have hB_15 := hB_14.trans (hb14.mono hB_14.size); have pw_14 := pw_13.below hb14; have pp_11 := pp_10.below hb14; have pt_9 := pt_8.below hb14; clear hb14 hB_14 pw_13 pp_10 pt_8 f5_1 f6_0)
      | (go_at_call 13; (with_reducible refine (is_same (Y := z * a) _ _ _ (by omega) f7_0 rfl).mono ?_); rintro e w15 ⟨rfl, hb15⟩; have hB_16 := hB_15.trans (hb15.mono hB_15.size); have pw_15 := pw_14.below hb15; have pp_12 := pp_11.below hb15; have pt_10 := pt_9.below hb15; clear hb15 hB_15 pw_14 pp_11 pt_9 f7_0)
      | (go_at_call 24; (with_reducible refine (wOf_any a HA1.out HA2.out _).mono ?_); rintro e w16 ⟨rfl, hb16⟩; have hB_17 := hB_16.trans (hb16.mono hB_16.size); have pw_16 := pw_15.below hb16; have pp_13 := pp_12.below hb16; have pt_11 := pt_10.below hb16; clear hb16 hB_16 pw_15 pp_12 pt_10)
      | (go_at_call 9; (with_reducible refine (wNum_any a (inW_int HA1.out HA2.out) _).mono ?_); rintro e w17 ⟨m8, o8, n8, c8, rfl, f8_0, hb17⟩; have hB_18 := hB_17.trans (hb17.mono hB_17.size); have pw_17 := pw_16.below hb17; have pp_14 := pp_13.below hb17; have pt_12 := pt_11.below hb17; clear hb17 hB_17 pw_16 pp_13 pt_11)
      | (go_at_call 23; (with_reducible refine (nOf_any a HA1.out HA2.out _).mono ?_); rintro e w18 ⟨m9, o9, n9, c9, rfl, f9_0, hb18⟩; have hB_19 := hB_18.trans (hb18.mono hB_18.size); have pw_18 := pw_17.below hb18; have pp_15 := pp_14.below hb18; have pt_13 := pt_12.below hb18; have f8_1 := f8_0.below hb18; clear hb18 hB_18 pw_17 pp_14 pt_12 f8_0)
      | (go_at_call 21; (with_reducible refine (wnCmp_is _ _ 2 1 a a 0 _ (by omega) (by omega) f8_1.num f9_0.num (icmp_self _)).mono ?_); rintro e w19 ⟨rfl, hb19⟩; have hB_20 := hB_19.trans (hb19.mono hB_19.size); have pw_19 := pw_18.below hb19; have pp_16 := pp_15.below hb19; have pt_14 := pt_13.below hb19; have f8_2 := f8_1.below hb19; have f9_1 := f9_0.below hb19; clear hb19 hB_19 pw_18 pp_15 pt_13 f8_1 f9_0))
  go_wp2
  go_ret
  exact ⟨rfl, hB_20⟩
end Go.Proofs.Ytkigfccbhkcedaa
