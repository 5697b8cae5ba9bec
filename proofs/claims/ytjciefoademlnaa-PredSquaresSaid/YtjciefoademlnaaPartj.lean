/- The calls of wide: Sign, Cmp. -/
import Derived.Test.YtjciefoademlnaaParti
import Derived.Test.YtjciefoademlnaaParth
namespace Go.Proofs.Ytjciefoademlnaa
open Go.RowKit Go.MagM
set_option maxHeartbeats 4000000 in
theorem Sign_w_zero  (w : World) :
    Calls Try.prog 36 #[.agg #[.int .u64 0, .int .u64 0]] w fun e w' => e = .returned (.int .i64 (0)) ∧ Below w.heap.size w w' := by
  have hB_0 := Below.refl w.heap.size w
  obtain ⟨w1, hw1, pa_0, hb1, hs1⟩ := new_box w (w.heap.size) rfl [.int .u64 0, .int .u64 0] 53
  have hb1' : Below w.heap.size w w1 := hb1.mono (by omega)
  clear hb1
  have hB_1 := hB_0.trans (hb1'.mono hB_0.size)
  clear hb1' hB_0
  go_enter Try.func36, Try.ntmps36
  obtain ⟨pae0, pae1, pae2, pae3⟩ := pa_0.open2
  go_wp2
  go_ret
  exact ⟨rfl, hB_1⟩
set_option maxHeartbeats 4000000 in
theorem Sign_w_neg (ah al : Nat) (h0 : ¬ ah = 0) (hbel : ∀ w, Calls Try.prog 49 #[.agg #[.int .u64 ((ah : Nat) : Int), .int .u64 ((al : Nat) : Int)]] w fun e w' => e = .returned (.bool true) ∧ Below w.heap.size w w') (w : World) :
    Calls Try.prog 36 #[.agg #[.int .u64 ((ah : Nat) : Int), .int .u64 ((al : Nat) : Int)]] w fun e w' => e = .returned (.int .i64 (-1)) ∧ Below w.heap.size w w' := by
  have hB_0 := Below.refl w.heap.size w
  obtain ⟨w1, hw1, pa_0, hb1, hs1⟩ := new_box w (w.heap.size) rfl [.int .u64 ((ah : Nat) : Int), .int .u64 ((al : Nat) : Int)] 53
  have hb1' : Below w.heap.size w w1 := hb1.mono (by omega)
  clear hb1
  have hB_1 := hB_0.trans (hb1'.mono hB_0.size)
  clear hb1' hB_0
  go_enter Try.func36, Try.ntmps36
  obtain ⟨pae0, pae1, pae2, pae3⟩ := pa_0.open2
  go_wp2_with fail
  refine (hbel _).mono ?_
  rintro e w2 ⟨rfl, hb2⟩
  clear pae0 pae1 pae2 pae3
  have hB_2 := hB_1.trans (hb2.mono hB_1.size)
  have pa_1 := pa_0.below hb2
  clear hb2 hB_1 pa_0
  obtain ⟨pae0, pae1, pae2, pae3⟩ := pa_1.open2
  go_wp2
  go_ret
  exact ⟨rfl, hB_2⟩
set_option maxHeartbeats 4000000 in
theorem Sign_w_pos (ah al : Nat) (h0 : ¬ ah = 0) (hbel : ∀ w, Calls Try.prog 49 #[.agg #[.int .u64 ((ah : Nat) : Int), .int .u64 ((al : Nat) : Int)]] w fun e w' => e = .returned (.bool false) ∧ Below w.heap.size w w') (w : World) :
    Calls Try.prog 36 #[.agg #[.int .u64 ((ah : Nat) : Int), .int .u64 ((al : Nat) : Int)]] w fun e w' => e = .returned (.int .i64 (1)) ∧ Below w.heap.size w w' := by
  have hB_0 := Below.refl w.heap.size w
  obtain ⟨w1, hw1, pa_0, hb1, hs1⟩ := new_box w (w.heap.size) rfl [.int .u64 ((ah : Nat) : Int), .int .u64 ((al : Nat) : Int)] 53
  have hb1' : Below w.heap.size w w1 := hb1.mono (by omega)
  clear hb1
  have hB_1 := hB_0.trans (hb1'.mono hB_0.size)
  clear hb1' hB_0
  go_enter Try.func36, Try.ntmps36
  obtain ⟨pae0, pae1, pae2, pae3⟩ := pa_0.open2
  go_wp2_with fail
  refine (hbel _).mono ?_
  rintro e w2 ⟨rfl, hb2⟩
  clear pae0 pae1 pae2 pae3
  have hB_2 := hB_1.trans (hb2.mono hB_1.size)
  have pa_1 := pa_0.below hb2
  clear hb2 hB_1 pa_0
  obtain ⟨pae0, pae1, pae2, pae3⟩ := pa_1.open2
  go_wp2
  go_ret
  exact ⟨rfl, hB_2⟩
set_option maxHeartbeats 4000000 in
theorem Sign_w_low (al : Nat) (h0 : ¬ al = 0) (hbel : ∀ w, Calls Try.prog 49 #[.agg #[.int .u64 0, .int .u64 ((al : Nat) : Int)]] w fun e w' => e = .returned (.bool false) ∧ Below w.heap.size w w') (w : World) :
    Calls Try.prog 36 #[.agg #[.int .u64 0, .int .u64 ((al : Nat) : Int)]] w fun e w' => e = .returned (.int .i64 (1)) ∧ Below w.heap.size w w' := by
  have hB_0 := Below.refl w.heap.size w
  obtain ⟨w1, hw1, pa_0, hb1, hs1⟩ := new_box w (w.heap.size) rfl [.int .u64 0, .int .u64 ((al : Nat) : Int)] 53
  have hb1' : Below w.heap.size w w1 := hb1.mono (by omega)
  clear hb1
  have hB_1 := hB_0.trans (hb1'.mono hB_0.size)
  clear hb1' hB_0
  go_enter Try.func36, Try.ntmps36
  obtain ⟨pae0, pae1, pae2, pae3⟩ := pa_0.open2
  go_wp2_with fail
  refine (hbel _).mono ?_
  rintro e w2 ⟨rfl, hb2⟩
  clear pae0 pae1 pae2 pae3
  have hB_2 := hB_1.trans (hb2.mono hB_1.size)
  have pa_1 := pa_0.below hb2
  clear hb2 hB_1 pa_0
  obtain ⟨pae0, pae1, pae2, pae3⟩ := pa_1.open2
  go_wp2
  go_ret
  exact ⟨rfl, hB_2⟩
/-- The number of 128 bits that has these words. -/
def wrapW (z : Int) : Int := (z + 170141183460469231731687303715884105728) % 340282366920938463463374607431768211456 - 170141183460469231731687303715884105728
theorem wrapW_in (z : Int) : InW (wrapW z) := by unfold wrapW InW; omega
theorem wrapW_h (z : Int) : wh (wrapW z) = wh z := by unfold wrapW wh; omega
theorem wrapW_l (z : Int) : wl (wrapW z) = wl z := by unfold wrapW wl; omega
theorem wrapW_self {z : Int} (h : InW z) : wrapW z = z := by unfold wrapW; unfold InW at h; omega
theorem wbelow_all (z : Int) (w : World) : Calls Try.prog 49 #[.agg #[.int .u64 ((wh (z) : Nat) : Int), .int .u64 ((wl (z) : Nat) : Int)]] w fun e w' => e = .returned (.bool (decide (wrapW z < 0))) ∧ Below w.heap.size w w' := by
  have h := wbelow_any (wrapW z) (wrapW_in z) w
  rw [wrapW_h, wrapW_l] at h
  exact h
theorem wSign_all (z : Int) (w : World) : Calls Try.prog 36 #[.agg #[.int .u64 ((wh (z) : Nat) : Int), .int .u64 ((wl (z) : Nat) : Int)]] w fun e w' => e = .returned (.int .i64 (wrapW z).sign) ∧ Below w.heap.size w w' := by
  have hz := wrapW_in z
  have h1 := wrapW_h z; have h2 := wrapW_l z
  have hbel := fun w => wbelow_all z w
  rw [← h1, ← h2] at *
  generalize wrapW z = x at *
  have hm := w_neg hz
  have hw := w_mod x
  by_cases hh : wh x = 0
  · by_cases hl : wl x = 0
    · have hx : x = 0 := by rw [hh, hl] at hw; unfold InW at hz; omega
      subst hx
      rw [wh_zero, wl_zero]
      exact Sign_w_zero w
    · have hx : 0 < x := by rw [hh] at hw; unfold InW at hz; omega
      rw [Int.sign_eq_one_of_pos hx]
      rw [hh] at hbel ⊢
      refine Sign_w_low _ hl ?_ w
      intro w
      have := hbel w
      rwa [decide_eq_false (by omega : ¬ x < 0)] at this
  · by_cases hx : x < 0
    · rw [Int.sign_eq_neg_one_of_neg hx]
      refine Sign_w_neg _ _ hh ?_ w
      intro w
      have := hbel w
      rwa [decide_eq_true hx] at this
    · have hx0 : 0 < x := by unfold InW at hz; omega
      rw [Int.sign_eq_one_of_pos hx0]
      refine Sign_w_pos _ _ hh ?_ w
      intro w
      have := hbel w
      rwa [decide_eq_false hx] at this
theorem cmp_u64_is (x y : Nat) (c : Int) (w : World) (h : cmpn x y = c) : Calls Try.prog 52 #[.int .u64 x, .int .u64 y] w fun e w' => e = .returned (.int .i64 c) ∧ Below w.heap.size w w' := by
  subst h; exact (cmp_u64 x y w).mono fun e w' h => by obtain ⟨h1, rfl⟩ := h; exact ⟨h1, Below.refl _ _⟩
theorem w_high {z : Int} (h : InW z) : IntKind.i64.wrap ((wh z : Nat) : Int) = z / 18446744073709551616 := by
  unfold InW at h; rw [IntKind.wrap_i64]; unfold wh; omega
theorem w_low (z : Int) : ((wl z : Nat) : Int) = z % 18446744073709551616 := by unfold wl; omega
end Go.Proofs.Ytjciefoademlnaa
/- The calls of wide, walked: Add (below). -/
namespace Go.Proofs.Ytjciefoademlnaa
open Go.RowKit Go.MagM
end Go.Proofs.Ytjciefoademlnaa
/- The calls of wide, walked: Add (not below). -/
namespace Go.Proofs.Ytjciefoademlnaa
open Go.RowKit Go.MagM
end Go.Proofs.Ytjciefoademlnaa
/- The calls of wide, walked: Sub (below). -/
namespace Go.Proofs.Ytjciefoademlnaa
open Go.RowKit Go.MagM
end Go.Proofs.Ytjciefoademlnaa
/- The calls of wide, walked: Sub (not below). -/
namespace Go.Proofs.Ytjciefoademlnaa
open Go.RowKit Go.MagM
end Go.Proofs.Ytjciefoademlnaa
/- The calls of wide: Add, Sub, Neg. -/
namespace Go.Proofs.Ytjciefoademlnaa
open Go.RowKit Go.MagM
/-- A call's answer is a number of 128 bits, and whether it is one. -/
def AnsWB (w w' : World) (e : Ending) (z : Int) (b : Bool) : Prop := e = .returned (.tuple #[.agg #[.int .u64 ((wh z : Nat) : Int), .int .u64 ((wl z : Nat) : Int)], .bool b]) ∧ Below w.heap.size w w'
/-- What is told of a number: that number, if it is one of 128 bits, else 0 and false. -/
def fitW (z : Int) : Int := if InW z then z else 0
theorem fitW_yes {z : Int} (h : InW z) : fitW z = z := if_pos h
theorem fitW_no {z : Int} (h : ¬ InW z) : fitW z = 0 := if_neg h
theorem answb_yes {w w' : World} {e : Ending} {z : Int} (h : InW z) (he : e = .returned (.tuple #[.agg #[.int .u64 ((wh (z) : Nat) : Int), .int .u64 ((wl (z) : Nat) : Int)], .bool true]) ∧ Below w.heap.size w w') : AnsWB w w' e (fitW z) (decide (InW z)) := by
  rw [fitW_yes h, decide_eq_true h]; exact he
theorem answb_no {w w' : World} {e : Ending} {z : Int} (h : ¬ InW z) (he : e = .returned (.tuple #[.agg #[.int .u64 0, .int .u64 0], .bool false]) ∧ Below w.heap.size w w') : AnsWB w w' e (fitW z) (decide (InW z)) := by
  rw [fitW_no h, decide_eq_false h]; unfold AnsWB; rw [wh_zero, wl_zero]; exact he
theorem bel_is {z : Int} {b : Bool} (h : decide (wrapW z < 0) = b) : ∀ w, Calls Try.prog 49 #[.agg #[.int .u64 ((wh (z) : Nat) : Int), .int .u64 ((wl (z) : Nat) : Int)]] w fun e w' => e = .returned (.bool b) ∧ Below w.heap.size w w' := by
  intro w; subst h; exact wbelow_all z w
theorem carry_le (x y : Int) : (wl x + wl y + 0) / B ≤ 1 := by have := wl_lt x; have := wl_lt y; simp only [B_eq] at *; omega
end Go.Proofs.Ytjciefoademlnaa
/- The calls of wide: Mul, Det. -/
namespace Go.Proofs.Ytjciefoademlnaa
open Go.RowKit Go.MagM
theorem mul64_is (x y H L : Nat) (w : World) (hx : x < B) (hy : y < B) (h1 : x * y / B = H) (h2 : x * y % B = L) :
    Calls Try.prog 63 #[.int .u64 ((x : Nat) : Int), .int .u64 ((y : Nat) : Int)] w fun e w' => e = .returned (.tuple #[.int .u64 ((H : Nat) : Int), .int .u64 ((L : Nat) : Int)]) ∧ Below w.heap.size w w' := by
  subst h1; subst h2
  exact (mul64_any x y w hx hy).mono fun e w' h => by obtain ⟨h1, rfl⟩ := h; exact ⟨h1, Below.refl _ _⟩
theorem inW_int {n : Int} (h : -9223372036854775808 ≤ n) (h1 : n < 9223372036854775808) : InW n := by unfold InW; omega
set_option maxHeartbeats 4000000 in
theorem wMul_w_tt (a b : Int) (ha1 : -9223372036854775808 ≤ a) (ha2 : a < 9223372036854775808) (hb1 : -9223372036854775808 ≤ b) (hb2 : b < 9223372036854775808) (H L H' L' : Nat) (sa : a < 0) (sb : b < 0) (cm : ∀ w, Calls Try.prog 63 #[.int .u64 ((wl ((a.natAbs : Int)) : Nat) : Int), .int .u64 ((wl ((b.natAbs : Int)) : Nat) : Int)] w fun e w' => e = .returned (.tuple #[.int .u64 ((H : Nat) : Int), .int .u64 ((L : Nat) : Int)]) ∧ Below w.heap.size w w') (hac : ∀ w, Calls Try.prog 60 #[.agg #[.int .u64 ((H : Nat) : Int), .int .u64 ((L : Nat) : Int)]] w fun e w' => e = .returned (.agg #[.int .u64 ((H' : Nat) : Int), .int .u64 ((L' : Nat) : Int)]) ∧ Below w.heap.size w w') (w : World) :
    Calls Try.prog 56 #[.int .i64 a, .int .i64 b] w fun e w' => e = .returned (.agg #[.int .u64 ((H : Nat) : Int), .int .u64 ((L : Nat) : Int)]) ∧ Below w.heap.size w w' := by
  have hB_0 := Below.refl w.heap.size w
  have CM := Lib.hid cm; have CA := Lib.hid hac; have IA := Lib.hid (inW_int ha1 ha2); have IB := Lib.hid (inW_int hb1 hb2); have HA1 := Lib.hid ha1; have HA2 := Lib.hid ha2; have HB1 := Lib.hid hb1; have HB2 := Lib.hid hb2
  clear cm hac ha1 ha2 hb1 hb2
  have qa : decide (a < 0) = true := by simp [sa]
  have qb : decide (b < 0) = true := by simp [sb]
  clear sa sb
  have hfa : ∀ w : World, (Instr.field 53 (.agg #[.int .u64 ((wh ((a.natAbs : Int)) : Nat) : Int), .int .u64 ((wl ((a.natAbs : Int)) : Nat) : Int)]) 1).run Try.prog w = .ok (.int .u64 ((wl ((a.natAbs : Int)) : Nat) : Int)) w := fun _ => by kernel_rfl
  have hfb : ∀ w : World, (Instr.field 53 (.agg #[.int .u64 ((wh ((b.natAbs : Int)) : Nat) : Int), .int .u64 ((wl ((b.natAbs : Int)) : Nat) : Int)]) 1).run Try.prog w = .ok (.int .u64 ((wl ((b.natAbs : Int)) : Nat) : Int)) w := fun _ => by kernel_rfl
  obtain ⟨w1, hw1, pr_0, hb1, hs1⟩ := new_box w (w.heap.size) rfl [.int .u64 0, .int .u64 0] 53
  have hb1' : Below w.heap.size w w1 := hb1.mono (by omega)
  clear hb1
  have hB_1 := hB_0.trans (hb1'.mono hB_0.size)
  clear hb1' hB_0
  go_enter Try.func56, Try.ntmps56
  obtain ⟨pre0, pre1, pre2, pre3⟩ := pr_0.open2
  go_wp2_with fail
  refine (wOf_any a HA1.out HA2.out _).mono ?_
  rintro e w2 ⟨rfl, hb2⟩
  clear pre0 pre1 pre2 pre3
  have hB_2 := hB_1.trans (hb2.mono hB_1.size)
  have pr_1 := pr_0.below hb2
  clear hb2 hB_1 pr_0
  obtain ⟨pre0, pre1, pre2, pre3⟩ := pr_1.open2
  go_wp2_with fail
  refine (size_any a _ IA.out).mono ?_
  rintro e w3 ⟨rfl, hb3⟩
  clear pre0 pre1 pre2 pre3
  have hB_3 := hB_2.trans (hb3.mono hB_2.size)
  have pr_2 := pr_1.below hb3
  clear hb3 hB_2 pr_1
  obtain ⟨pre0, pre1, pre2, pre3⟩ := pr_2.open2
  go_wp2_with fail
  refine (wOf_any b HB1.out HB2.out _).mono ?_
  rintro e w4 ⟨rfl, hb4⟩
  clear pre0 pre1 pre2 pre3
  have hB_4 := hB_3.trans (hb4.mono hB_3.size)
  have pr_3 := pr_2.below hb4
  clear hb4 hB_3 pr_2
  obtain ⟨pre0, pre1, pre2, pre3⟩ := pr_3.open2
  go_wp2_with fail
  refine (size_any b _ IB.out).mono ?_
  rintro e w5 ⟨rfl, hb5⟩
  clear pre0 pre1 pre2 pre3
  have hB_5 := hB_4.trans (hb5.mono hB_4.size)
  have pr_4 := pr_3.below hb5
  clear hb5 hB_4 pr_3
  obtain ⟨pre0, pre1, pre2, pre3⟩ := pr_4.open2
  go_wp2_with fail
  refine (CM.out _).mono ?_
  rintro e w6 ⟨rfl, hb6⟩
  clear pre0 pre1 pre2 pre3
  have hB_6 := hB_5.trans (hb6.mono hB_5.size)
  have pr_5 := pr_4.below hb6
  clear hb6 hB_5 pr_4
  obtain ⟨pre0, pre1, pre2, pre3⟩ := pr_5.open2
  clear pre0 pre1 pre2 pre3
  have hl1pr := pr_5.lt
  have hl1B := hB_6.size
  obtain ⟨w7, hw7, pp_0, hb7, hs7⟩ := new_box w6 (w6.heap.size) rfl [.int .u64 ((H : Nat) : Int), .int .u64 ((L : Nat) : Int)] 53
  have hb7' : Below w6.heap.size w6 w7 := hb7.mono (by omega)
  clear hb7
  have hB_7 := hB_6.trans (hb7'.mono hB_6.size)
  have pr_6 := pr_5.below hb7'
  clear hb7' hB_6 pr_5
  obtain ⟨pre0, pre1, pre2, pre3⟩ := pr_6.open2
  obtain ⟨ppe0, ppe1, ppe2, ppe3⟩ := pp_0.open2
  obtain ⟨sf1a, sf1b, sf1c, sf1d⟩ := pr_6.open2
  obtain ⟨sg1a, sg1b⟩ := Box.put2 pr_6 (.int .u64 ((H : Nat) : Int))
  go_wp2
  clear pre0 pre1 pre2 pre3 ppe0 ppe1 ppe2 ppe3 sf1a sf1b sf1c sf1d sg1a sg1b
  have hB_8 := below_setAll hB_7 (g := w.heap.size) (by omega) [.int .u64 ((H : Nat) : Int), .int .u64 ((L : Nat) : Int)]
  have pp_1 := pp_0.farAll (g' := w.heap.size) (by omega) [.int .u64 ((H : Nat) : Int), .int .u64 ((L : Nat) : Int)]
  have pr_7 := pr_6.setAll [.int .u64 ((H : Nat) : Int), .int .u64 ((L : Nat) : Int)] rfl
  simp only [setAll, Nat.zero_add] at hB_8 pr_7 pp_1
  clear hB_7 pp_0 pr_6
  generalize (World.setCell (World.setCell w7 ⟨w.heap.size, 0, none⟩ (.int .u64 ((H : Nat) : Int))) ⟨w.heap.size, 1, none⟩ (.int .u64 ((L : Nat) : Int))) = w8 at *
  go_wp2
  obtain ⟨pre0, pre1, pre2, pre3⟩ := pr_7.open2
  exact bodyPost_ret (v := .agg #[.int .u64 ((H : Nat) : Int), .int .u64 ((L : Nat) : Int)]) (by simp [results, Try.results56, go_sem, pre0, pre1]) rfl ⟨rfl, hB_8⟩
set_option maxHeartbeats 4000000 in
theorem wMul_w_tf (a b : Int) (ha1 : -9223372036854775808 ≤ a) (ha2 : a < 9223372036854775808) (hb1 : -9223372036854775808 ≤ b) (hb2 : b < 9223372036854775808) (H L H' L' : Nat) (sa : a < 0) (sb : ¬ b < 0) (cm : ∀ w, Calls Try.prog 63 #[.int .u64 ((wl ((a.natAbs : Int)) : Nat) : Int), .int .u64 ((wl ((b.natAbs : Int)) : Nat) : Int)] w fun e w' => e = .returned (.tuple #[.int .u64 ((H : Nat) : Int), .int .u64 ((L : Nat) : Int)]) ∧ Below w.heap.size w w') (hac : ∀ w, Calls Try.prog 60 #[.agg #[.int .u64 ((H : Nat) : Int), .int .u64 ((L : Nat) : Int)]] w fun e w' => e = .returned (.agg #[.int .u64 ((H' : Nat) : Int), .int .u64 ((L' : Nat) : Int)]) ∧ Below w.heap.size w w') (w : World) :
    Calls Try.prog 56 #[.int .i64 a, .int .i64 b] w fun e w' => e = .returned (.agg #[.int .u64 ((H' : Nat) : Int), .int .u64 ((L' : Nat) : Int)]) ∧ Below w.heap.size w w' := by
  have hB_0 := Below.refl w.heap.size w
  have CM := Lib.hid cm; have CA := Lib.hid hac; have IA := Lib.hid (inW_int ha1 ha2); have IB := Lib.hid (inW_int hb1 hb2); have HA1 := Lib.hid ha1; have HA2 := Lib.hid ha2; have HB1 := Lib.hid hb1; have HB2 := Lib.hid hb2
  clear cm hac ha1 ha2 hb1 hb2
  have qa : decide (a < 0) = true := by simp [sa]
  have qb : decide (b < 0) = false := by simp [sb]
  clear sa sb
  have hfa : ∀ w : World, (Instr.field 53 (.agg #[.int .u64 ((wh ((a.natAbs : Int)) : Nat) : Int), .int .u64 ((wl ((a.natAbs : Int)) : Nat) : Int)]) 1).run Try.prog w = .ok (.int .u64 ((wl ((a.natAbs : Int)) : Nat) : Int)) w := fun _ => by kernel_rfl
  have hfb : ∀ w : World, (Instr.field 53 (.agg #[.int .u64 ((wh ((b.natAbs : Int)) : Nat) : Int), .int .u64 ((wl ((b.natAbs : Int)) : Nat) : Int)]) 1).run Try.prog w = .ok (.int .u64 ((wl ((b.natAbs : Int)) : Nat) : Int)) w := fun _ => by kernel_rfl
  obtain ⟨w1, hw1, pr_0, hb1, hs1⟩ := new_box w (w.heap.size) rfl [.int .u64 0, .int .u64 0] 53
  have hb1' : Below w.heap.size w w1 := hb1.mono (by omega)
  clear hb1
  have hB_1 := hB_0.trans (hb1'.mono hB_0.size)
  clear hb1' hB_0
  go_enter Try.func56, Try.ntmps56
  obtain ⟨pre0, pre1, pre2, pre3⟩ := pr_0.open2
  go_wp2_with fail
  refine (wOf_any a HA1.out HA2.out _).mono ?_
  rintro e w2 ⟨rfl, hb2⟩
  clear pre0 pre1 pre2 pre3
  have hB_2 := hB_1.trans (hb2.mono hB_1.size)
  have pr_1 := pr_0.below hb2
  clear hb2 hB_1 pr_0
  obtain ⟨pre0, pre1, pre2, pre3⟩ := pr_1.open2
  go_wp2_with fail
  refine (size_any a _ IA.out).mono ?_
  rintro e w3 ⟨rfl, hb3⟩
  clear pre0 pre1 pre2 pre3
  have hB_3 := hB_2.trans (hb3.mono hB_2.size)
  have pr_2 := pr_1.below hb3
  clear hb3 hB_2 pr_1
  obtain ⟨pre0, pre1, pre2, pre3⟩ := pr_2.open2
  go_wp2_with fail
  refine (wOf_any b HB1.out HB2.out _).mono ?_
  rintro e w4 ⟨rfl, hb4⟩
  clear pre0 pre1 pre2 pre3
  have hB_4 := hB_3.trans (hb4.mono hB_3.size)
  have pr_3 := pr_2.below hb4
  clear hb4 hB_3 pr_2
  obtain ⟨pre0, pre1, pre2, pre3⟩ := pr_3.open2
  go_wp2_with fail
  refine (size_any b _ IB.out).mono ?_
  rintro e w5 ⟨rfl, hb5⟩
  clear pre0 pre1 pre2 pre3
  have hB_5 := hB_4.trans (hb5.mono hB_4.size)
  have pr_4 := pr_3.below hb5
  clear hb5 hB_4 pr_3
  obtain ⟨pre0, pre1, pre2, pre3⟩ := pr_4.open2
  go_wp2_with fail
  refine (CM.out _).mono ?_
  rintro e w6 ⟨rfl, hb6⟩
  clear pre0 pre1 pre2 pre3
  have hB_6 := hB_5.trans (hb6.mono hB_5.size)
  have pr_5 := pr_4.below hb6
  clear hb6 hB_5 pr_4
  obtain ⟨pre0, pre1, pre2, pre3⟩ := pr_5.open2
  clear pre0 pre1 pre2 pre3
  have hl1pr := pr_5.lt
  have hl1B := hB_6.size
  obtain ⟨w7, hw7, pp_0, hb7, hs7⟩ := new_box w6 (w6.heap.size) rfl [.int .u64 ((H : Nat) : Int), .int .u64 ((L : Nat) : Int)] 53
  have hb7' : Below w6.heap.size w6 w7 := hb7.mono (by omega)
  clear hb7
  have hB_7 := hB_6.trans (hb7'.mono hB_6.size)
  have pr_6 := pr_5.below hb7'
  clear hb7' hB_6 pr_5
  obtain ⟨pre0, pre1, pre2, pre3⟩ := pr_6.open2
  obtain ⟨ppe0, ppe1, ppe2, ppe3⟩ := pp_0.open2
  go_wp2_with fail
  refine (CA.out _).mono ?_
  rintro e w8 ⟨rfl, hb8⟩
  clear pre0 pre1 pre2 pre3 ppe0 ppe1 ppe2 ppe3
  have hB_8 := hB_7.trans (hb8.mono hB_7.size)
  have pr_7 := pr_6.below hb8
  have pp_1 := pp_0.below hb8
  clear hb8 hB_7 pr_6 pp_0
  obtain ⟨pre0, pre1, pre2, pre3⟩ := pr_7.open2
  obtain ⟨ppe0, ppe1, ppe2, ppe3⟩ := pp_1.open2
  obtain ⟨sf1a, sf1b, sf1c, sf1d⟩ := pr_7.open2
  obtain ⟨sg1a, sg1b⟩ := Box.put2 pr_7 (.int .u64 ((H' : Nat) : Int))
  go_wp2
  clear pre0 pre1 pre2 pre3 ppe0 ppe1 ppe2 ppe3 sf1a sf1b sf1c sf1d sg1a sg1b
  have hB_9 := below_setAll hB_8 (g := w.heap.size) (by omega) [.int .u64 ((H' : Nat) : Int), .int .u64 ((L' : Nat) : Int)]
  have pp_2 := pp_1.farAll (g' := w.heap.size) (by omega) [.int .u64 ((H' : Nat) : Int), .int .u64 ((L' : Nat) : Int)]
  have pr_8 := pr_7.setAll [.int .u64 ((H' : Nat) : Int), .int .u64 ((L' : Nat) : Int)] rfl
  simp only [setAll, Nat.zero_add] at hB_9 pr_8 pp_2
  clear hB_8 pp_1 pr_7
  generalize (World.setCell (World.setCell w8 ⟨w.heap.size, 0, none⟩ (.int .u64 ((H' : Nat) : Int))) ⟨w.heap.size, 1, none⟩ (.int .u64 ((L' : Nat) : Int))) = w9 at *
  go_wp2
  obtain ⟨pre0, pre1, pre2, pre3⟩ := pr_8.open2
  exact bodyPost_ret (v := .agg #[.int .u64 ((H' : Nat) : Int), .int .u64 ((L' : Nat) : Int)]) (by simp [results, Try.results56, go_sem, pre0, pre1]) rfl ⟨rfl, hB_9⟩
set_option maxHeartbeats 4000000 in
theorem wMul_w_ft (a b : Int) (ha1 : -9223372036854775808 ≤ a) (ha2 : a < 9223372036854775808) (hb1 : -9223372036854775808 ≤ b) (hb2 : b < 9223372036854775808) (H L H' L' : Nat) (sa : ¬ a < 0) (sb : b < 0) (cm : ∀ w, Calls Try.prog 63 #[.int .u64 ((wl ((a.natAbs : Int)) : Nat) : Int), .int .u64 ((wl ((b.natAbs : Int)) : Nat) : Int)] w fun e w' => e = .returned (.tuple #[.int .u64 ((H : Nat) : Int), .int .u64 ((L : Nat) : Int)]) ∧ Below w.heap.size w w') (hac : ∀ w, Calls Try.prog 60 #[.agg #[.int .u64 ((H : Nat) : Int), .int .u64 ((L : Nat) : Int)]] w fun e w' => e = .returned (.agg #[.int .u64 ((H' : Nat) : Int), .int .u64 ((L' : Nat) : Int)]) ∧ Below w.heap.size w w') (w : World) :
    Calls Try.prog 56 #[.int .i64 a, .int .i64 b] w fun e w' => e = .returned (.agg #[.int .u64 ((H' : Nat) : Int), .int .u64 ((L' : Nat) : Int)]) ∧ Below w.heap.size w w' := by
  have hB_0 := Below.refl w.heap.size w
  have CM := Lib.hid cm; have CA := Lib.hid hac; have IA := Lib.hid (inW_int ha1 ha2); have IB := Lib.hid (inW_int hb1 hb2); have HA1 := Lib.hid ha1; have HA2 := Lib.hid ha2; have HB1 := Lib.hid hb1; have HB2 := Lib.hid hb2
  clear cm hac ha1 ha2 hb1 hb2
  have qa : decide (a < 0) = false := by simp [sa]
  have qb : decide (b < 0) = true := by simp [sb]
  clear sa sb
  have hfa : ∀ w : World, (Instr.field 53 (.agg #[.int .u64 ((wh ((a.natAbs : Int)) : Nat) : Int), .int .u64 ((wl ((a.natAbs : Int)) : Nat) : Int)]) 1).run Try.prog w = .ok (.int .u64 ((wl ((a.natAbs : Int)) : Nat) : Int)) w := fun _ => by kernel_rfl
  have hfb : ∀ w : World, (Instr.field 53 (.agg #[.int .u64 ((wh ((b.natAbs : Int)) : Nat) : Int), .int .u64 ((wl ((b.natAbs : Int)) : Nat) : Int)]) 1).run Try.prog w = .ok (.int .u64 ((wl ((b.natAbs : Int)) : Nat) : Int)) w := fun _ => by kernel_rfl
  obtain ⟨w1, hw1, pr_0, hb1, hs1⟩ := new_box w (w.heap.size) rfl [.int .u64 0, .int .u64 0] 53
  have hb1' : Below w.heap.size w w1 := hb1.mono (by omega)
  clear hb1
  have hB_1 := hB_0.trans (hb1'.mono hB_0.size)
  clear hb1' hB_0
  go_enter Try.func56, Try.ntmps56
  obtain ⟨pre0, pre1, pre2, pre3⟩ := pr_0.open2
  go_wp2_with fail
  refine (wOf_any a HA1.out HA2.out _).mono ?_
  rintro e w2 ⟨rfl, hb2⟩
  clear pre0 pre1 pre2 pre3
  have hB_2 := hB_1.trans (hb2.mono hB_1.size)
  have pr_1 := pr_0.below hb2
  clear hb2 hB_1 pr_0
  obtain ⟨pre0, pre1, pre2, pre3⟩ := pr_1.open2
  go_wp2_with fail
  refine (size_any a _ IA.out).mono ?_
  rintro e w3 ⟨rfl, hb3⟩
  clear pre0 pre1 pre2 pre3
  have hB_3 := hB_2.trans (hb3.mono hB_2.size)
  have pr_2 := pr_1.below hb3
  clear hb3 hB_2 pr_1
  obtain ⟨pre0, pre1, pre2, pre3⟩ := pr_2.open2
  go_wp2_with fail
  refine (wOf_any b HB1.out HB2.out _).mono ?_
  rintro e w4 ⟨rfl, hb4⟩
  clear pre0 pre1 pre2 pre3
  have hB_4 := hB_3.trans (hb4.mono hB_3.size)
  have pr_3 := pr_2.below hb4
  clear hb4 hB_3 pr_2
  obtain ⟨pre0, pre1, pre2, pre3⟩ := pr_3.open2
  go_wp2_with fail
  refine (size_any b _ IB.out).mono ?_
  rintro e w5 ⟨rfl, hb5⟩
  clear pre0 pre1 pre2 pre3
  have hB_5 := hB_4.trans (hb5.mono hB_4.size)
  have pr_4 := pr_3.below hb5
  clear hb5 hB_4 pr_3
  obtain ⟨pre0, pre1, pre2, pre3⟩ := pr_4.open2
  go_wp2_with fail
  refine (CM.out _).mono ?_
  rintro e w6 ⟨rfl, hb6⟩
  clear pre0 pre1 pre2 pre3
  have hB_6 := hB_5.trans (hb6.mono hB_5.size)
  have pr_5 := pr_4.below hb6
  clear hb6 hB_5 pr_4
  obtain ⟨pre0, pre1, pre2, pre3⟩ := pr_5.open2
  clear pre0 pre1 pre2 pre3
  have hl1pr := pr_5.lt
  have hl1B := hB_6.size
  obtain ⟨w7, hw7, pp_0, hb7, hs7⟩ := new_box w6 (w6.heap.size) rfl [.int .u64 ((H : Nat) : Int), .int .u64 ((L : Nat) : Int)] 53
  have hb7' : Below w6.heap.size w6 w7 := hb7.mono (by omega)
  clear hb7
  have hB_7 := hB_6.trans (hb7'.mono hB_6.size)
  have pr_6 := pr_5.below hb7'
  clear hb7' hB_6 pr_5
  obtain ⟨pre0, pre1, pre2, pre3⟩ := pr_6.open2
  obtain ⟨ppe0, ppe1, ppe2, ppe3⟩ := pp_0.open2
  go_wp2_with fail
  refine (CA.out _).mono ?_
  rintro e w8 ⟨rfl, hb8⟩
  clear pre0 pre1 pre2 pre3 ppe0 ppe1 ppe2 ppe3
  have hB_8 := hB_7.trans (hb8.mono hB_7.size)
  have pr_7 := pr_6.below hb8
  have pp_1 := pp_0.below hb8
  clear hb8 hB_7 pr_6 pp_0
  obtain ⟨pre0, pre1, pre2, pre3⟩ := pr_7.open2
  obtain ⟨ppe0, ppe1, ppe2, ppe3⟩ := pp_1.open2
  obtain ⟨sf1a, sf1b, sf1c, sf1d⟩ := pr_7.open2
  obtain ⟨sg1a, sg1b⟩ := Box.put2 pr_7 (.int .u64 ((H' : Nat) : Int))
  go_wp2
  clear pre0 pre1 pre2 pre3 ppe0 ppe1 ppe2 ppe3 sf1a sf1b sf1c sf1d sg1a sg1b
  have hB_9 := below_setAll hB_8 (g := w.heap.size) (by omega) [.int .u64 ((H' : Nat) : Int), .int .u64 ((L' : Nat) : Int)]
  have pp_2 := pp_1.farAll (g' := w.heap.size) (by omega) [.int .u64 ((H' : Nat) : Int), .int .u64 ((L' : Nat) : Int)]
  have pr_8 := pr_7.setAll [.int .u64 ((H' : Nat) : Int), .int .u64 ((L' : Nat) : Int)] rfl
  simp only [setAll, Nat.zero_add] at hB_9 pr_8 pp_2
  clear hB_8 pp_1 pr_7
  generalize (World.setCell (World.setCell w8 ⟨w.heap.size, 0, none⟩ (.int .u64 ((H' : Nat) : Int))) ⟨w.heap.size, 1, none⟩ (.int .u64 ((L' : Nat) : Int))) = w9 at *
  go_wp2
  obtain ⟨pre0, pre1, pre2, pre3⟩ := pr_8.open2
  exact bodyPost_ret (v := .agg #[.int .u64 ((H' : Nat) : Int), .int .u64 ((L' : Nat) : Int)]) (by simp [results, Try.results56, go_sem, pre0, pre1]) rfl ⟨rfl, hB_9⟩
set_option maxHeartbeats 4000000 in
theorem wMul_w_ff (a b : Int) (ha1 : -9223372036854775808 ≤ a) (ha2 : a < 9223372036854775808) (hb1 : -9223372036854775808 ≤ b) (hb2 : b < 9223372036854775808) (H L H' L' : Nat) (sa : ¬ a < 0) (sb : ¬ b < 0) (cm : ∀ w, Calls Try.prog 63 #[.int .u64 ((wl ((a.natAbs : Int)) : Nat) : Int), .int .u64 ((wl ((b.natAbs : Int)) : Nat) : Int)] w fun e w' => e = .returned (.tuple #[.int .u64 ((H : Nat) : Int), .int .u64 ((L : Nat) : Int)]) ∧ Below w.heap.size w w') (hac : ∀ w, Calls Try.prog 60 #[.agg #[.int .u64 ((H : Nat) : Int), .int .u64 ((L : Nat) : Int)]] w fun e w' => e = .returned (.agg #[.int .u64 ((H' : Nat) : Int), .int .u64 ((L' : Nat) : Int)]) ∧ Below w.heap.size w w') (w : World) :
    Calls Try.prog 56 #[.int .i64 a, .int .i64 b] w fun e w' => e = .returned (.agg #[.int .u64 ((H : Nat) : Int), .int .u64 ((L : Nat) : Int)]) ∧ Below w.heap.size w w' := by
  have hB_0 := Below.refl w.heap.size w
  have CM := Lib.hid cm; have CA := Lib.hid hac; have IA := Lib.hid (inW_int ha1 ha2); have IB := Lib.hid (inW_int hb1 hb2); have HA1 := Lib.hid ha1; have HA2 := Lib.hid ha2; have HB1 := Lib.hid hb1; have HB2 := Lib.hid hb2
  clear cm hac ha1 ha2 hb1 hb2
  have qa : decide (a < 0) = false := by simp [sa]
  have qb : decide (b < 0) = false := by simp [sb]
  clear sa sb
  have hfa : ∀ w : World, (Instr.field 53 (.agg #[.int .u64 ((wh ((a.natAbs : Int)) : Nat) : Int), .int .u64 ((wl ((a.natAbs : Int)) : Nat) : Int)]) 1).run Try.prog w = .ok (.int .u64 ((wl ((a.natAbs : Int)) : Nat) : Int)) w := fun _ => by kernel_rfl
  have hfb : ∀ w : World, (Instr.field 53 (.agg #[.int .u64 ((wh ((b.natAbs : Int)) : Nat) : Int), .int .u64 ((wl ((b.natAbs : Int)) : Nat) : Int)]) 1).run Try.prog w = .ok (.int .u64 ((wl ((b.natAbs : Int)) : Nat) : Int)) w := fun _ => by kernel_rfl
  obtain ⟨w1, hw1, pr_0, hb1, hs1⟩ := new_box w (w.heap.size) rfl [.int .u64 0, .int .u64 0] 53
  have hb1' : Below w.heap.size w w1 := hb1.mono (by omega)
  clear hb1
  have hB_1 := hB_0.trans (hb1'.mono hB_0.size)
  clear hb1' hB_0
  go_enter Try.func56, Try.ntmps56
  obtain ⟨pre0, pre1, pre2, pre3⟩ := pr_0.open2
  go_wp2_with fail
  refine (wOf_any a HA1.out HA2.out _).mono ?_
  rintro e w2 ⟨rfl, hb2⟩
  clear pre0 pre1 pre2 pre3
  have hB_2 := hB_1.trans (hb2.mono hB_1.size)
  have pr_1 := pr_0.below hb2
  clear hb2 hB_1 pr_0
  obtain ⟨pre0, pre1, pre2, pre3⟩ := pr_1.open2
  go_wp2_with fail
  refine (size_any a _ IA.out).mono ?_
  rintro e w3 ⟨rfl, hb3⟩
  clear pre0 pre1 pre2 pre3
  have hB_3 := hB_2.trans (hb3.mono hB_2.size)
  have pr_2 := pr_1.below hb3
  clear hb3 hB_2 pr_1
  obtain ⟨pre0, pre1, pre2, pre3⟩ := pr_2.open2
  go_wp2_with fail
  refine (wOf_any b HB1.out HB2.out _).mono ?_
  rintro e w4 ⟨rfl, hb4⟩
  clear pre0 pre1 pre2 pre3
  have hB_4 := hB_3.trans (hb4.mono hB_3.size)
  have pr_3 := pr_2.below hb4
  clear hb4 hB_3 pr_2
  obtain ⟨pre0, pre1, pre2, pre3⟩ := pr_3.open2
  go_wp2_with fail
  refine (size_any b _ IB.out).mono ?_
  rintro e w5 ⟨rfl, hb5⟩
  clear pre0 pre1 pre2 pre3
  have hB_5 := hB_4.trans (hb5.mono hB_4.size)
  have pr_4 := pr_3.below hb5
  clear hb5 hB_4 pr_3
  obtain ⟨pre0, pre1, pre2, pre3⟩ := pr_4.open2
  go_wp2_with fail
  refine (CM.out _).mono ?_
  rintro e w6 ⟨rfl, hb6⟩
  clear pre0 pre1 pre2 pre3
  have hB_6 := hB_5.trans (hb6.mono hB_5.size)
  have pr_5 := pr_4.below hb6
  clear hb6 hB_5 pr_4
  obtain ⟨pre0, pre1, pre2, pre3⟩ := pr_5.open2
  clear pre0 pre1 pre2 pre3
  have hl1pr := pr_5.lt
  have hl1B := hB_6.size
  obtain ⟨w7, hw7, pp_0, hb7, hs7⟩ := new_box w6 (w6.heap.size) rfl [.int .u64 ((H : Nat) : Int), .int .u64 ((L : Nat) : Int)] 53
  have hb7' : Below w6.heap.size w6 w7 := hb7.mono (by omega)
  clear hb7
  have hB_7 := hB_6.trans (hb7'.mono hB_6.size)
  have pr_6 := pr_5.below hb7'
  clear hb7' hB_6 pr_5
  obtain ⟨pre0, pre1, pre2, pre3⟩ := pr_6.open2
  obtain ⟨ppe0, ppe1, ppe2, ppe3⟩ := pp_0.open2
  obtain ⟨sf1a, sf1b, sf1c, sf1d⟩ := pr_6.open2
  obtain ⟨sg1a, sg1b⟩ := Box.put2 pr_6 (.int .u64 ((H : Nat) : Int))
  go_wp2
  clear pre0 pre1 pre2 pre3 ppe0 ppe1 ppe2 ppe3 sf1a sf1b sf1c sf1d sg1a sg1b
  have hB_8 := below_setAll hB_7 (g := w.heap.size) (by omega) [.int .u64 ((H : Nat) : Int), .int .u64 ((L : Nat) : Int)]
  have pp_1 := pp_0.farAll (g' := w.heap.size) (by omega) [.int .u64 ((H : Nat) : Int), .int .u64 ((L : Nat) : Int)]
  have pr_7 := pr_6.setAll [.int .u64 ((H : Nat) : Int), .int .u64 ((L : Nat) : Int)] rfl
  simp only [setAll, Nat.zero_add] at hB_8 pr_7 pp_1
  clear hB_7 pp_0 pr_6
  generalize (World.setCell (World.setCell w7 ⟨w.heap.size, 0, none⟩ (.int .u64 ((H : Nat) : Int))) ⟨w.heap.size, 1, none⟩ (.int .u64 ((L : Nat) : Int))) = w8 at *
  go_wp2
  obtain ⟨pre0, pre1, pre2, pre3⟩ := pr_7.open2
  exact bodyPost_ret (v := .agg #[.int .u64 ((H : Nat) : Int), .int .u64 ((L : Nat) : Int)]) (by simp [results, Try.results56, go_sem, pre0, pre1]) rfl ⟨rfl, hB_8⟩
theorem wMul_any (a b : Int) (ha1 : -9223372036854775808 ≤ a) (ha2 : a < 9223372036854775808) (hb1 : -9223372036854775808 ≤ b) (hb2 : b < 9223372036854775808) (w : World) :
    Calls Try.prog 56 #[.int .i64 a, .int .i64 b] w fun e w' => AnsW w w' e (a * b) := by
  obtain ⟨ea, la⟩ := w_abs_int ha1 ha2
  obtain ⟨eb, lb⟩ := w_abs_int hb1 hb2
  obtain ⟨x, hx⟩ : ∃ x : Int, x = ((a.natAbs * b.natAbs : Nat) : Int) := ⟨_, rfl⟩
  have hlt : a.natAbs * b.natAbs < B * B := Nat.mul_lt_mul'' la lb
  have hw := w_mod x
  have h1 := wh_lt x; have h2 := wl_lt x
  have q1 : a.natAbs * b.natAbs / B = wh x := by
    simp only [B_eq] at *; omega
  have q2 : a.natAbs * b.natAbs % B = wl x := by
    simp only [B_eq] at *; omega
  have cm := fun w => mul64_is a.natAbs b.natAbs (wh x) (wl x) w la lb q1 q2
  rw [← ea, ← eb] at cm
  have hac := fun w => across_any x w
  have hm : ((a.natAbs * b.natAbs : Nat) : Int) = (a.natAbs : Int) * (b.natAbs : Int) := Int.natCast_mul _ _
  by_cases sa : a < 0 <;> by_cases sb : b < 0
  · have e : a * b = x := by
      rw [hx, hm, show (a.natAbs : Int) = -a by omega, show (b.natAbs : Int) = -b by omega]; simp [Int.neg_mul, Int.mul_neg]
    rw [e]; exact wMul_w_tt a b ha1 ha2 hb1 hb2 _ _ _ _ sa sb cm hac w
  · have e : a * b = -x := by
      rw [hx, hm, show (a.natAbs : Int) = -a by omega, show (b.natAbs : Int) = b by omega]; simp [Int.neg_mul]
    rw [e]; exact wMul_w_tf a b ha1 ha2 hb1 hb2 _ _ _ _ sa sb cm hac w
  · have e : a * b = -x := by
      rw [hx, hm, show (a.natAbs : Int) = a by omega, show (b.natAbs : Int) = -b by omega]; simp [Int.mul_neg]
    rw [e]; exact wMul_w_ft a b ha1 ha2 hb1 hb2 _ _ _ _ sa sb cm hac w
  · have e : a * b = x := by
      rw [hx, hm, show (a.natAbs : Int) = a by omega, show (b.natAbs : Int) = b by omega]
    rw [e]; exact wMul_w_ff a b ha1 ha2 hb1 hb2 _ _ _ _ sa sb cm hac w
set_option maxHeartbeats 4000000 in
theorem wDet_w (a b c d x y : Int) (c1 : ∀ w, Calls Try.prog 56 #[.int .i64 a, .int .i64 d] w fun e w' => AnsW w w' e x) (c2 : ∀ w, Calls Try.prog 56 #[.int .i64 b, .int .i64 c] w fun e w' => AnsW w w' e y) (w : World) :
    Calls Try.prog 43 #[.int .i64 a, .int .i64 b, .int .i64 c, .int .i64 d] w fun e w' => AnsW w w' e (x - y) := by
  have hB_0 := Below.refl w.heap.size w
  have C1 := Lib.hid c1; have C2 := Lib.hid c2
  clear c1 c2
  obtain ⟨w1, hw1, pr_0, hb1, hs1⟩ := new_box w (w.heap.size) rfl [.int .u64 0, .int .u64 0] 53
  have hb1' : Below w.heap.size w w1 := hb1.mono (by omega)
  clear hb1
  have hB_1 := hB_0.trans (hb1'.mono hB_0.size)
  clear hb1' hB_0
  go_enter Try.func43, Try.ntmps43
  obtain ⟨pre0, pre1, pre2, pre3⟩ := pr_0.open2
  go_wp2_with fail
  refine (C1.out _).mono ?_
  rintro e w2 ⟨rfl, hb2⟩
  clear pre0 pre1 pre2 pre3
  have hB_2 := hB_1.trans (hb2.mono hB_1.size)
  have pr_1 := pr_0.below hb2
  clear hb2 hB_1 pr_0
  obtain ⟨pre0, pre1, pre2, pre3⟩ := pr_1.open2
  go_wp2_with fail
  refine (C2.out _).mono ?_
  rintro e w3 ⟨rfl, hb3⟩
  clear pre0 pre1 pre2 pre3
  have hB_3 := hB_2.trans (hb3.mono hB_2.size)
  have pr_2 := pr_1.below hb3
  clear hb3 hB_2 pr_1
  obtain ⟨pre0, pre1, pre2, pre3⟩ := pr_2.open2
  go_wp2_with fail
  refine (less_any x y _).mono ?_
  rintro e w4 ⟨rfl, hb4⟩
  clear pre0 pre1 pre2 pre3
  have hB_4 := hB_3.trans (hb4.mono hB_3.size)
  have pr_3 := pr_2.below hb4
  clear hb4 hB_3 pr_2
  obtain ⟨pre0, pre1, pre2, pre3⟩ := pr_3.open2
  obtain ⟨sf1a, sf1b, sf1c, sf1d⟩ := pr_3.open2
  obtain ⟨sg1a, sg1b⟩ := Box.put2 pr_3 (.int .u64 ((wh (x - y) : Nat) : Int))
  go_wp2
  clear pre0 pre1 pre2 pre3 sf1a sf1b sf1c sf1d sg1a sg1b
  have hB_5 := below_setAll hB_4 (g := w.heap.size) (by omega) [.int .u64 ((wh (x - y) : Nat) : Int), .int .u64 ((wl (x - y) : Nat) : Int)]
  have pr_4 := pr_3.setAll [.int .u64 ((wh (x - y) : Nat) : Int), .int .u64 ((wl (x - y) : Nat) : Int)] rfl
  simp only [setAll, Nat.zero_add] at hB_5 pr_4
  clear hB_4 pr_3
  generalize (World.setCell (World.setCell w4 ⟨w.heap.size, 0, none⟩ (.int .u64 ((wh (x - y) : Nat) : Int))) ⟨w.heap.size, 1, none⟩ (.int .u64 ((wl (x - y) : Nat) : Int))) = w5 at *
  go_wp2
  obtain ⟨pre0, pre1, pre2, pre3⟩ := pr_4.open2
  exact bodyPost_ret (v := .agg #[.int .u64 ((wh (x - y) : Nat) : Int), .int .u64 ((wl (x - y) : Nat) : Int)]) (by simp [results, Try.results43, go_sem, pre0, pre1]) rfl ⟨rfl, hB_5⟩
theorem wDet_any (a b c d : Int) (ha1 : -9223372036854775808 ≤ a) (ha2 : a < 9223372036854775808) (hb1 : -9223372036854775808 ≤ b) (hb2 : b < 9223372036854775808) (hc1 : -9223372036854775808 ≤ c) (hc2 : c < 9223372036854775808) (hd1 : -9223372036854775808 ≤ d) (hd2 : d < 9223372036854775808) (w : World) :
    Calls Try.prog 43 #[.int .i64 a, .int .i64 b, .int .i64 c, .int .i64 d] w fun e w' => AnsW w w' e (a * d - b * c) :=
  wDet_w a b c d _ _ (fun w => wMul_any a d ha1 ha2 hd1 hd2 w) (fun w => wMul_any b c hb1 hb2 hc1 hc2 w) w
end Go.Proofs.Ytjciefoademlnaa
/- The calls of wide: Num. -/
namespace Go.Proofs.Ytjciefoademlnaa
open Go.RowKit Go.MagM
theorem make_two (b : Bool) (g lo hi : Nat) (w : World) (h : Box w g [.int .u64 ((lo : Nat) : Int), .int .u64 ((hi : Nat) : Int)]) (hl : lo < B) (hh : hi < B) :
    Calls Try.prog 48 #[.bool b, .slice (some ⟨g, 0, none⟩) 2 2] w fun e w' => AnsNum w w' e 2 (sgn b (lo + hi * B)) := by
  refine Make_any b _ 2 _ w (by omega) ⟨some ⟨g, 0, none⟩, 2, 2, fun i => if i = 0 then lo else hi, rfl, Nat.le_refl _, Nat.le_refl _, ?_, ?_⟩
  · intro i hi2
    refine ⟨g, 0, rfl, ?_, ?_⟩
    · rcases (by omega : i = 0 ∨ i = 1) with rfl | rfl
      · exact h.c0
      · exact h.c1
    · dsimp only
      split
      · exact hl
      · exact hh
  · simp [V]
set_option maxHeartbeats 8000000 in
theorem wNum_w_t (z : Int) (hz : InW z) (cb : ∀ w, Calls Try.prog 49 #[.agg #[.int .u64 ((wh (z) : Nat) : Int), .int .u64 ((wl (z) : Nat) : Int)]] w fun e w' => e = .returned (.bool true) ∧ Below w.heap.size w w') (w : World) :
    Calls Try.prog 32 #[.agg #[.int .u64 ((wh (z) : Nat) : Int), .int .u64 ((wl (z) : Nat) : Int)]] w fun e w' => AnsNum w w' e 2 (sgn true (wl (z.natAbs : Int) + wh (z.natAbs : Int) * B)) := by
  have hB_0 := Below.refl w.heap.size w
  have CB := Lib.hid cb; have HZ := Lib.hid hz
  clear cb hz
  obtain ⟨w1, hw1, pa_0, hb1, hs1⟩ := new_box w (w.heap.size) rfl [.int .u64 ((wh (z) : Nat) : Int), .int .u64 ((wl (z) : Nat) : Int)] 53
  have hb1' : Below w.heap.size w w1 := hb1.mono (by omega)
  clear hb1
  have hB_1 := hB_0.trans (hb1'.mono hB_0.size)
  clear hb1' hB_0
  obtain ⟨w2, hw2, pr_0, hb2, hs2⟩ := new_box w1 (w.heap.size + 1) hs1 [.bool false, .slice none 0 0] 29
  have hb2' : Below w1.heap.size w1 w2 := hb2.mono (by omega)
  clear hb2
  have hB_2 := hB_1.trans (hb2'.mono hB_1.size)
  have pa_1 := pa_0.below hb2'
  clear hb2' hB_1 pa_0
  go_enter Try.func32, Try.ntmps32
  obtain ⟨pae0, pae1, pae2, pae3⟩ := pa_1.open2
  obtain ⟨pre0, pre1, pre2, pre3⟩ := pr_0.open2
  go_wp2_with fail
  refine (size_any z _ HZ.out).mono ?_
  rintro e w3 ⟨rfl, hb3⟩
  clear pae0 pae1 pae2 pae3 pre0 pre1 pre2 pre3
  have hB_3 := hB_2.trans (hb3.mono hB_2.size)
  have pa_2 := pa_1.below hb3
  have pr_1 := pr_0.below hb3
  clear hb3 hB_2 pa_1 pr_0
  obtain ⟨pae0, pae1, pae2, pae3⟩ := pa_2.open2
  obtain ⟨pre0, pre1, pre2, pre3⟩ := pr_1.open2
  clear pae0 pae1 pae2 pae3 pre0 pre1 pre2 pre3
  have hl1pa := pa_2.lt
  have hl1pr := pr_1.lt
  have hl1B := hB_3.size
  obtain ⟨w4, hw4, ps_0, hb4, hs4⟩ := new_box w3 (w3.heap.size) rfl [.int .u64 ((wh ((z.natAbs : Int)) : Nat) : Int), .int .u64 ((wl ((z.natAbs : Int)) : Nat) : Int)] 53
  have hb4' : Below w3.heap.size w3 w4 := hb4.mono (by omega)
  clear hb4
  have hB_4 := hB_3.trans (hb4'.mono hB_3.size)
  have pa_3 := pa_2.below hb4'
  have pr_2 := pr_1.below hb4'
  clear hb4' hB_3 pa_2 pr_1
  obtain ⟨pae0, pae1, pae2, pae3⟩ := pa_3.open2
  obtain ⟨pre0, pre1, pre2, pre3⟩ := pr_2.open2
  obtain ⟨pse0, pse1, pse2, pse3⟩ := ps_0.open2
  go_wp2
  clear pae0 pae1 pae2 pae3 pre0 pre1 pre2 pre3 pse0 pse1 pse2 pse3
  have hWq_0 := Below.refl w4.heap.size w4
  have hsq : w.heap.size ≤ w4.heap.size := hB_4.size
  have hlqpa := pa_3.lt
  have hlqpr := pr_2.lt
  have hlqps := ps_0.lt
  have hB_5 := hB_4.drew'
  have pa_4 := pa_3.drew
  have pr_3 := pr_2.drew
  have ps_1 := ps_0.drew
  have hWq_1 := hWq_0.drew'
  clear hB_4 pa_3 pr_2 ps_0 hWq_0
  refine wp_region_noPanic ?_
  refine wp_region_held_drew (S := fun w' => w'.cell? ⟨w.heap.size, 0, none⟩ = some (.int .u64 ((wh (z) : Nat) : Int)) ∧ w'.cell? ⟨w.heap.size, 1, none⟩ = some (.int .u64 ((wl (z) : Nat) : Int)) ∧ w'.cell? ⟨w3.heap.size, 0, none⟩ = some (.int .u64 ((wh ((z.natAbs : Int)) : Nat) : Int)) ∧ w'.cell? ⟨w3.heap.size, 1, none⟩ = some (.int .u64 ((wl ((z.natAbs : Int)) : Nat) : Int))) (by kernel_rfl) (⟨pa_4.c0, pa_4.c1, ps_1.c0, ps_1.c1⟩) (fun hHeld => ?_)
  refine reg_take 0 ?_ ?_ ?_ (by kernel_rfl) (by kernel_rfl) (by kernel_rfl) (fun _ _ _ h => h) ?_ ?_ (by assumption) ?_
  rotate_left 2
  · simp only [List.getElem?_toArray, List.getElem?_cons_zero]; exact rfl
  · rfl
  · intro w hSw; (try dsimp only at hSw); go_simp; try with_reducible rfl
  try simp only [Act.put]
  try simp only [List.setIfInBounds_toArray, List.set_cons_zero, List.set_cons_succ]
  refine reg_take 2 ?_ ?_ ?_ (by kernel_rfl) (by kernel_rfl) (by kernel_rfl) (fun _ _ _ h => h) ?_ ?_ (by assumption) ?_
  rotate_left 2
  · simp only [List.getElem?_toArray, List.getElem?_cons_succ, List.getElem?_cons_zero]; exact rfl
  · rfl
  · intro w hSw; (try dsimp only at hSw); go_simp; try with_reducible rfl
  try simp only [Act.put]
  try simp only [List.setIfInBounds_toArray, List.set_cons_zero, List.set_cons_succ]
  refine reg_take 3 ?_ ?_ ?_ (by kernel_rfl) (by kernel_rfl) (by kernel_rfl) (fun _ _ _ h => h) ?_ ?_ (by assumption) ?_
  rotate_left 2
  · simp only [List.getElem?_toArray, List.getElem?_cons_succ, List.getElem?_cons_zero]; exact rfl
  · rfl
  · intro w hSw; (try dsimp only at hSw); go_simp; try with_reducible rfl
  try simp only [Act.put]
  try simp only [List.setIfInBounds_toArray, List.set_cons_zero, List.set_cons_succ]
  refine reg_take 4 ?_ ?_ ?_ (by kernel_rfl) (by kernel_rfl) (by kernel_rfl) (fun _ _ _ h => h) ?_ ?_ (by assumption) ?_
  rotate_left 2
  · simp only [List.getElem?_toArray, List.getElem?_cons_succ, List.getElem?_cons_zero]; exact rfl
  · rfl
  · intro w hSw; (try dsimp only at hSw); go_simp; try with_reducible rfl
  try simp only [Act.put]
  try simp only [List.setIfInBounds_toArray, List.set_cons_zero, List.set_cons_succ]
  refine reg_take 5 ?_ ?_ ?_ (by kernel_rfl) (by kernel_rfl) (by kernel_rfl) (fun _ _ _ h => h) ?_ ?_ (by assumption) ?_
  rotate_left 2
  · simp only [List.getElem?_toArray, List.getElem?_cons_succ, List.getElem?_cons_zero]; exact rfl
  · rfl
  · intro w hSw; (try dsimp only at hSw); go_simp; try with_reducible rfl
  try simp only [Act.put]
  try simp only [List.setIfInBounds_toArray, List.set_cons_zero, List.set_cons_succ]
  refine reg_grab (fun WWq aq hWW hAA => ?_)
  have HWq := Lib.hid hWW; have HAq := Lib.hid hAA; clear hWW hAA hHeld
  have stq_2t : ∀ (w' : World) (m2 : Bool) (o2 : Option Addr) (n2 : Nat) (c2 : Nat) (gpq : Nat), Below w.heap.size w w' → Box w' (w.heap.size) [.int .u64 ((wh (z) : Nat) : Int), .int .u64 ((wl (z) : Nat) : Int)] → Box w' (w.heap.size + 1) [.bool false, .slice none 0 0] → Box w' (w3.heap.size) [.int .u64 ((wh ((z.natAbs : Int)) : Nat) : Int), .int .u64 ((wl ((z.natAbs : Int)) : Nat) : Int)] → Below w4.heap.size w4 w' → RNum w' (.agg #[.bool m2, .slice o2 n2 c2]) (2) (sgn true (wl (z.natAbs : Int) + wh (z.natAbs : Int) * B)) → Box w' gpq [.int .u64 ((wl ((z.natAbs : Int)) : Nat) : Int), .int .u64 ((wh ((z.natAbs : Int)) : Nat) : Int)] → w4.heap.size ≤ gpq → WWq 1 #[true, true, true, true, true, true, true, true, false] (((aq.put (some 7) (.bool true)).put (some 12) (.slice (some ⟨gpq, 0, none⟩) 2 2)).put (some 13) (.agg #[.bool m2, .slice o2 n2 c2])) w' := by
    intro w5 m2 o2 n2 c2 gpq hB_0 pa_0 pr_0 ps_0 hWq_0 f2_0 pq_0 hgpq
    rw [HWq.out, HAq.out]
    try simp only [Act.put]
    try simp only [List.setIfInBounds_toArray, List.set_cons_zero, List.set_cons_succ]
    clear hWq_0
    obtain ⟨sf1a, sf1b, sf1c, sf1d⟩ := pr_0.open2
    obtain ⟨sg1a, sg1b⟩ := Box.put2 pr_0 (.bool m2)
    refine reg_call 8 ?_ (by kernel_rfl) ?_ (fun K hK => ?_)
    rotate_left 1
    · simp only [List.getElem?_toArray, List.getElem?_cons_succ, List.getElem?_cons_zero]; exact rfl
    go_simp
    have hB_1 := below_setAll hB_0 (g := w.heap.size + 1) (by omega) [.bool m2, .slice o2 n2 c2]
    have pa_1 := pa_0.farAll (g' := w.heap.size + 1) (by omega) [.bool m2, .slice o2 n2 c2]
    have ps_1 := ps_0.farAll (g' := w.heap.size + 1) (by omega) [.bool m2, .slice o2 n2 c2]
    have f2_1 := f2_0.setAll pr_0 (noWord2 _ _ _ _) [.bool m2, .slice o2 n2 c2] rfl
    have pq_1 := pq_0.farAll (g' := w.heap.size + 1) (by omega) [.bool m2, .slice o2 n2 c2]
    have pr_1 := pr_0.setAll [.bool m2, .slice o2 n2 c2] rfl
    simp only [setAll, Nat.zero_add] at hB_1 pa_1 pr_1 ps_1 f2_1 pq_1
    clear sf1a sf1b sf1c sf1d sg1a sg1b
    clear hB_0 pa_0 ps_0 f2_0 pq_0 pr_0
    refine hK.out _ _ ⟨pa_1.c0, pa_1.c1, ps_1.c0, ps_1.c1⟩ (fun hHeld => ?_)
    clear hK K
    try simp only [Act.put]
    try simp only [List.setIfInBounds_toArray, List.set_cons_zero, List.set_cons_succ]
    generalize (World.setCell (World.setCell w5 ⟨w.heap.size + 1, 0, none⟩ (.bool m2)) ⟨w.heap.size + 1, 1, none⟩ (.slice o2 n2 c2)) = w6 at *
    refine wpAnyH_done (by kernel_rfl) ?_ _
    refine NoPanic.normal ?_
    go_wp2
    obtain ⟨pre0, pre1, pre2, pre3⟩ := pr_1.open2
    exact bodyPost_ret (v := .agg #[.bool m2, .slice o2 n2 c2]) (by simp [results, Try.results32, go_sem, pre0, pre1]) rfl ⟨_, _, _, _, rfl, f2_1, hB_1⟩
  simp only [HAq.out, Act.put, List.setIfInBounds_toArray, List.set_cons_zero, List.set_cons_succ] at stq_2t
  have stq_1t : ∀ (w' : World) (gpq : Nat), Below w.heap.size w w' → Box w' (w.heap.size) [.int .u64 ((wh (z) : Nat) : Int), .int .u64 ((wl (z) : Nat) : Int)] → Box w' (w.heap.size + 1) [.bool false, .slice none 0 0] → Box w' (w3.heap.size) [.int .u64 ((wh ((z.natAbs : Int)) : Nat) : Int), .int .u64 ((wl ((z.natAbs : Int)) : Nat) : Int)] → Below w4.heap.size w4 w' → Box w' gpq [.int .u64 ((wl ((z.natAbs : Int)) : Nat) : Int), .int .u64 ((wh ((z.natAbs : Int)) : Nat) : Int)] → w4.heap.size ≤ gpq → WWq 2 #[true, true, true, true, true, true, true, false, false] ((aq.put (some 7) (.bool true)).put (some 12) (.slice (some ⟨gpq, 0, none⟩) 2 2)) w' := by
    intro w7 gpq hB_0 pa_0 pr_0 ps_0 hWq_0 pq_0 hgpq
    rw [HWq.out, HAq.out]
    try simp only [Act.put]
    try simp only [List.setIfInBounds_toArray, List.set_cons_zero, List.set_cons_succ]
    refine reg_all1 7 ?_ (by kernel_rfl) ?_ (fun K hK => ?_)
    rotate_left 1
    · simp only [List.getElem?_toArray, List.getElem?_cons_succ, List.getElem?_cons_zero]; exact rfl
    · go_simp
      refine (make_two true gpq _ _ _ pq_0 (wl_lt _) (wh_lt _)).mono ?_
      rintro e w8 ⟨m2, o2, n2, c2, rfl, f2_0, hb8⟩
      have hB_1 := hB_0.trans (hb8.mono hB_0.size)
      have pa_1 := pa_0.below hb8
      have pr_1 := pr_0.below hb8
      have ps_1 := ps_0.below hb8
      have hWq_1 := hWq_0.trans (hb8.mono hWq_0.size)
      have pq_1 := pq_0.below hb8
      clear hb8 hB_0 pa_0 pr_0 ps_0 hWq_0 pq_0
      go_wp2_with fail
      refine hK.out _ _ ⟨pa_1.c0, pa_1.c1, ps_1.c0, ps_1.c1⟩ (fun hHeld => ?_)
      clear hK K
      try simp only [Act.put]
      try simp only [List.setIfInBounds_toArray, List.set_cons_zero, List.set_cons_succ]
      rw [← HWq.out]
      exact stq_2t _ m2 o2 n2 c2 gpq hB_1 pa_1 pr_1 ps_1 hWq_1 f2_0 pq_1 (by omega)
  try simp only [HAq.out, Act.put, List.setIfInBounds_toArray, List.set_cons_zero, List.set_cons_succ] at stq_1t
  have stq_1f : ∀ (w' : World), Below w.heap.size w w' → Box w' (w.heap.size) [.int .u64 ((wh (z) : Nat) : Int), .int .u64 ((wl (z) : Nat) : Int)] → Box w' (w.heap.size + 1) [.bool false, .slice none 0 0] → Box w' (w3.heap.size) [.int .u64 ((wh ((z.natAbs : Int)) : Nat) : Int), .int .u64 ((wl ((z.natAbs : Int)) : Nat) : Int)] → Below w4.heap.size w4 w' → WWq 3 #[true, true, true, true, true, true, false, false, false] (aq.put (some 7) (.bool true)) w' := by
    intro w9 hB_0 pa_0 pr_0 ps_0 hWq_0
    rw [HWq.out, HAq.out]
    try simp only [Act.put]
    try simp only [List.setIfInBounds_toArray, List.set_cons_zero, List.set_cons_succ]
    refine reg_all1 6 ?_ (by kernel_rfl) ?_ (fun K hK => ?_)
    rotate_left 1
    · simp only [List.getElem?_toArray, List.getElem?_cons_succ, List.getElem?_cons_zero]; exact rfl
    · go_simp
      have hgn : w4.heap.size ≤ w9.heap.size := hWq_0.size
      obtain ⟨w10, hww10, pq_0, hb10, -⟩ := new_box w9 _ rfl [.int .u64 ((wl ((z.natAbs : Int)) : Nat) : Int), .int .u64 ((wh ((z.natAbs : Int)) : Nat) : Int)] 51
      rw [hww10]
      have hB_1 := hB_0.trans (hb10.mono hB_0.size)
      have pa_1 := pa_0.below hb10
      have pr_1 := pr_0.below hb10
      have ps_1 := ps_0.below hb10
      have hWq_1 := hWq_0.trans (hb10.mono hWq_0.size)
      clear hb10 hB_0 pa_0 pr_0 ps_0 hWq_0
      refine hK.out _ _ ⟨pa_1.c0, pa_1.c1, ps_1.c0, ps_1.c1⟩ (fun hHeld => ?_)
      clear hK K
      try simp only [Act.put]
      try simp only [List.setIfInBounds_toArray, List.set_cons_zero, List.set_cons_succ]
      rw [← HWq.out]
      exact stq_1t _ w9.heap.size hB_1 pa_1 pr_1 ps_1 hWq_1 pq_0 (by omega)
  try simp only [HAq.out, Act.put, List.setIfInBounds_toArray, List.set_cons_zero, List.set_cons_succ] at stq_1f
  have stq_0t : ∀ (w' : World) (gpq : Nat), Below w.heap.size w w' → Box w' (w.heap.size) [.int .u64 ((wh (z) : Nat) : Int), .int .u64 ((wl (z) : Nat) : Int)] → Box w' (w.heap.size + 1) [.bool false, .slice none 0 0] → Box w' (w3.heap.size) [.int .u64 ((wh ((z.natAbs : Int)) : Nat) : Int), .int .u64 ((wl ((z.natAbs : Int)) : Nat) : Int)] → Below w4.heap.size w4 w' → Box w' gpq [.int .u64 ((wl ((z.natAbs : Int)) : Nat) : Int), .int .u64 ((wh ((z.natAbs : Int)) : Nat) : Int)] → w4.heap.size ≤ gpq → WWq 3 #[true, false, true, true, true, true, true, false, false] (aq.put (some 12) (.slice (some ⟨gpq, 0, none⟩) 2 2)) w' := by
    intro w11 gpq hB_0 pa_0 pr_0 ps_0 hWq_0 pq_0 hgpq
    rw [HWq.out, HAq.out]
    try simp only [Act.put]
    try simp only [List.setIfInBounds_toArray, List.set_cons_zero, List.set_cons_succ]
    refine reg_all1 1 ?_ (by kernel_rfl) ?_ (fun K hK => ?_)
    rotate_left 1
    · simp only [List.getElem?_toArray, List.getElem?_cons_succ, List.getElem?_cons_zero]; exact rfl
    · go_simp
      refine (CB.out _).mono ?_
      rintro e w12 ⟨rfl, hb12⟩
      have hB_1 := hB_0.trans (hb12.mono hB_0.size)
      have pa_1 := pa_0.below hb12
      have pr_1 := pr_0.below hb12
      have ps_1 := ps_0.below hb12
      have hWq_1 := hWq_0.trans (hb12.mono hWq_0.size)
      have pq_1 := pq_0.below hb12
      clear hb12 hB_0 pa_0 pr_0 ps_0 hWq_0 pq_0
      go_wp2_with fail
      refine hK.out _ _ ⟨pa_1.c0, pa_1.c1, ps_1.c0, ps_1.c1⟩ (fun hHeld => ?_)
      clear hK K
      try simp only [Act.put]
      try simp only [List.setIfInBounds_toArray, List.set_cons_zero, List.set_cons_succ]
      rw [← HWq.out]
      exact stq_1t _ gpq hB_1 pa_1 pr_1 ps_1 hWq_1 pq_1 (by omega)
  try simp only [HAq.out, Act.put, List.setIfInBounds_toArray, List.set_cons_zero, List.set_cons_succ] at stq_0t
  have stq_0f : ∀ (w' : World), Below w.heap.size w w' → Box w' (w.heap.size) [.int .u64 ((wh (z) : Nat) : Int), .int .u64 ((wl (z) : Nat) : Int)] → Box w' (w.heap.size + 1) [.bool false, .slice none 0 0] → Box w' (w3.heap.size) [.int .u64 ((wh ((z.natAbs : Int)) : Nat) : Int), .int .u64 ((wl ((z.natAbs : Int)) : Nat) : Int)] → Below w4.heap.size w4 w' → WWq 4 #[true, false, true, true, true, true, false, false, false] aq w' := by
    intro w13 hB_0 pa_0 pr_0 ps_0 hWq_0
    rw [HWq.out, HAq.out]
    try simp only [Act.put]
    try simp only [List.setIfInBounds_toArray, List.set_cons_zero, List.set_cons_succ]
    refine reg_all2 1 6 ?_ ?_ (by kernel_rfl) ?_ ?_ (fun K hK => ?_) (fun K hK => ?_)
    rotate_left 2
    · simp only [List.getElem?_toArray, List.getElem?_cons_succ, List.getElem?_cons_zero]; exact rfl
    · simp only [List.getElem?_toArray, List.getElem?_cons_succ, List.getElem?_cons_zero]; exact rfl
    · go_simp
      refine (CB.out _).mono ?_
      rintro e w14 ⟨rfl, hb14⟩
      have hB_1 := hB_0.trans (hb14.mono hB_0.size)
      have pa_1 := pa_0.below hb14
      have pr_1 := pr_0.below hb14
      have ps_1 := ps_0.below hb14
      have hWq_1 := hWq_0.trans (hb14.mono hWq_0.size)
      clear hb14 hB_0 pa_0 pr_0 ps_0 hWq_0
      go_wp2_with fail
      refine hK.out _ _ ⟨pa_1.c0, pa_1.c1, ps_1.c0, ps_1.c1⟩ (fun hHeld => ?_)
      clear hK K
      try simp only [Act.put]
      try simp only [List.setIfInBounds_toArray, List.set_cons_zero, List.set_cons_succ]
      rw [← HWq.out]
      exact stq_1f _ hB_1 pa_1 pr_1 ps_1 hWq_1
    · go_simp
      have hgn : w4.heap.size ≤ w13.heap.size := hWq_0.size
      obtain ⟨w15, hww15, pq_0, hb15, -⟩ := new_box w13 _ rfl [.int .u64 ((wl ((z.natAbs : Int)) : Nat) : Int), .int .u64 ((wh ((z.natAbs : Int)) : Nat) : Int)] 51
      rw [hww15]
      have hB_1 := hB_0.trans (hb15.mono hB_0.size)
      have pa_1 := pa_0.below hb15
      have pr_1 := pr_0.below hb15
      have ps_1 := ps_0.below hb15
      have hWq_1 := hWq_0.trans (hb15.mono hWq_0.size)
      clear hb15 hB_0 pa_0 pr_0 ps_0 hWq_0
      refine hK.out _ _ ⟨pa_1.c0, pa_1.c1, ps_1.c0, ps_1.c1⟩ (fun hHeld => ?_)
      clear hK K
      try simp only [Act.put]
      try simp only [List.setIfInBounds_toArray, List.set_cons_zero, List.set_cons_succ]
      rw [← HWq.out]
      exact stq_0t _ w13.heap.size hB_1 pa_1 pr_1 ps_1 hWq_1 pq_0 (by omega)
  exact stq_0f _ hB_5 pa_4 pr_3 ps_1 hWq_1
set_option maxHeartbeats 8000000 in
theorem wNum_w_f (z : Int) (hz : InW z) (cb : ∀ w, Calls Try.prog 49 #[.agg #[.int .u64 ((wh (z) : Nat) : Int), .int .u64 ((wl (z) : Nat) : Int)]] w fun e w' => e = .returned (.bool false) ∧ Below w.heap.size w w') (w : World) :
    Calls Try.prog 32 #[.agg #[.int .u64 ((wh (z) : Nat) : Int), .int .u64 ((wl (z) : Nat) : Int)]] w fun e w' => AnsNum w w' e 2 (sgn false (wl (z.natAbs : Int) + wh (z.natAbs : Int) * B)) := by
  have hB_0 := Below.refl w.heap.size w
  have CB := Lib.hid cb; have HZ := Lib.hid hz
  clear cb hz
  obtain ⟨w1, hw1, pa_0, hb1, hs1⟩ := new_box w (w.heap.size) rfl [.int .u64 ((wh (z) : Nat) : Int), .int .u64 ((wl (z) : Nat) : Int)] 53
  have hb1' : Below w.heap.size w w1 := hb1.mono (by omega)
  clear hb1
  have hB_1 := hB_0.trans (hb1'.mono hB_0.size)
  clear hb1' hB_0
  obtain ⟨w2, hw2, pr_0, hb2, hs2⟩ := new_box w1 (w.heap.size + 1) hs1 [.bool false, .slice none 0 0] 29
  have hb2' : Below w1.heap.size w1 w2 := hb2.mono (by omega)
  clear hb2
  have hB_2 := hB_1.trans (hb2'.mono hB_1.size)
  have pa_1 := pa_0.below hb2'
  clear hb2' hB_1 pa_0
  go_enter Try.func32, Try.ntmps32
  obtain ⟨pae0, pae1, pae2, pae3⟩ := pa_1.open2
  obtain ⟨pre0, pre1, pre2, pre3⟩ := pr_0.open2
  go_wp2_with fail
  refine (size_any z _ HZ.out).mono ?_
  rintro e w3 ⟨rfl, hb3⟩
  clear pae0 pae1 pae2 pae3 pre0 pre1 pre2 pre3
  have hB_3 := hB_2.trans (hb3.mono hB_2.size)
  have pa_2 := pa_1.below hb3
  have pr_1 := pr_0.below hb3
  clear hb3 hB_2 pa_1 pr_0
  obtain ⟨pae0, pae1, pae2, pae3⟩ := pa_2.open2
  obtain ⟨pre0, pre1, pre2, pre3⟩ := pr_1.open2
  clear pae0 pae1 pae2 pae3 pre0 pre1 pre2 pre3
  have hl1pa := pa_2.lt
  have hl1pr := pr_1.lt
  have hl1B := hB_3.size
  obtain ⟨w4, hw4, ps_0, hb4, hs4⟩ := new_box w3 (w3.heap.size) rfl [.int .u64 ((wh ((z.natAbs : Int)) : Nat) : Int), .int .u64 ((wl ((z.natAbs : Int)) : Nat) : Int)] 53
  have hb4' : Below w3.heap.size w3 w4 := hb4.mono (by omega)
  clear hb4
  have hB_4 := hB_3.trans (hb4'.mono hB_3.size)
  have pa_3 := pa_2.below hb4'
  have pr_2 := pr_1.below hb4'
  clear hb4' hB_3 pa_2 pr_1
  obtain ⟨pae0, pae1, pae2, pae3⟩ := pa_3.open2
  obtain ⟨pre0, pre1, pre2, pre3⟩ := pr_2.open2
  obtain ⟨pse0, pse1, pse2, pse3⟩ := ps_0.open2
  go_wp2
  clear pae0 pae1 pae2 pae3 pre0 pre1 pre2 pre3 pse0 pse1 pse2 pse3
  have hWq_0 := Below.refl w4.heap.size w4
  have hsq : w.heap.size ≤ w4.heap.size := hB_4.size
  have hlqpa := pa_3.lt
  have hlqpr := pr_2.lt
  have hlqps := ps_0.lt
  have hB_5 := hB_4.drew'
  have pa_4 := pa_3.drew
  have pr_3 := pr_2.drew
  have ps_1 := ps_0.drew
  have hWq_1 := hWq_0.drew'
  clear hB_4 pa_3 pr_2 ps_0 hWq_0
  refine wp_region_noPanic ?_
  refine wp_region_held_drew (S := fun w' => w'.cell? ⟨w.heap.size, 0, none⟩ = some (.int .u64 ((wh (z) : Nat) : Int)) ∧ w'.cell? ⟨w.heap.size, 1, none⟩ = some (.int .u64 ((wl (z) : Nat) : Int)) ∧ w'.cell? ⟨w3.heap.size, 0, none⟩ = some (.int .u64 ((wh ((z.natAbs : Int)) : Nat) : Int)) ∧ w'.cell? ⟨w3.heap.size, 1, none⟩ = some (.int .u64 ((wl ((z.natAbs : Int)) : Nat) : Int))) (by kernel_rfl) (⟨pa_4.c0, pa_4.c1, ps_1.c0, ps_1.c1⟩) (fun hHeld => ?_)
  refine reg_take 0 ?_ ?_ ?_ (by kernel_rfl) (by kernel_rfl) (by kernel_rfl) (fun _ _ _ h => h) ?_ ?_ (by assumption) ?_
  rotate_left 2
  · simp only [List.getElem?_toArray, List.getElem?_cons_zero]; exact rfl
  · rfl
  · intro w hSw; (try dsimp only at hSw); go_simp; try with_reducible rfl
  try simp only [Act.put]
  try simp only [List.setIfInBounds_toArray, List.set_cons_zero, List.set_cons_succ]
  refine reg_take 2 ?_ ?_ ?_ (by kernel_rfl) (by kernel_rfl) (by kernel_rfl) (fun _ _ _ h => h) ?_ ?_ (by assumption) ?_
  rotate_left 2
  · simp only [List.getElem?_toArray, List.getElem?_cons_succ, List.getElem?_cons_zero]; exact rfl
  · rfl
  · intro w hSw; (try dsimp only at hSw); go_simp; try with_reducible rfl
  try simp only [Act.put]
  try simp only [List.setIfInBounds_toArray, List.set_cons_zero, List.set_cons_succ]
  refine reg_take 3 ?_ ?_ ?_ (by kernel_rfl) (by kernel_rfl) (by kernel_rfl) (fun _ _ _ h => h) ?_ ?_ (by assumption) ?_
  rotate_left 2
  · simp only [List.getElem?_toArray, List.getElem?_cons_succ, List.getElem?_cons_zero]; exact rfl
  · rfl
  · intro w hSw; (try dsimp only at hSw); go_simp; try with_reducible rfl
  try simp only [Act.put]
  try simp only [List.setIfInBounds_toArray, List.set_cons_zero, List.set_cons_succ]
  refine reg_take 4 ?_ ?_ ?_ (by kernel_rfl) (by kernel_rfl) (by kernel_rfl) (fun _ _ _ h => h) ?_ ?_ (by assumption) ?_
  rotate_left 2
  · simp only [List.getElem?_toArray, List.getElem?_cons_succ, List.getElem?_cons_zero]; exact rfl
  · rfl
  · intro w hSw; (try dsimp only at hSw); go_simp; try with_reducible rfl
  try simp only [Act.put]
  try simp only [List.setIfInBounds_toArray, List.set_cons_zero, List.set_cons_succ]
  refine reg_take 5 ?_ ?_ ?_ (by kernel_rfl) (by kernel_rfl) (by kernel_rfl) (fun _ _ _ h => h) ?_ ?_ (by assumption) ?_
  rotate_left 2
  · simp only [List.getElem?_toArray, List.getElem?_cons_succ, List.getElem?_cons_zero]; exact rfl
  · rfl
  · intro w hSw; (try dsimp only at hSw); go_simp; try with_reducible rfl
  try simp only [Act.put]
  try simp only [List.setIfInBounds_toArray, List.set_cons_zero, List.set_cons_succ]
  refine reg_grab (fun WWq aq hWW hAA => ?_)
  have HWq := Lib.hid hWW; have HAq := Lib.hid hAA; clear hWW hAA hHeld
  have stq_2t : ∀ (w' : World) (m2 : Bool) (o2 : Option Addr) (n2 : Nat) (c2 : Nat) (gpq : Nat), Below w.heap.size w w' → Box w' (w.heap.size) [.int .u64 ((wh (z) : Nat) : Int), .int .u64 ((wl (z) : Nat) : Int)] → Box w' (w.heap.size + 1) [.bool false, .slice none 0 0] → Box w' (w3.heap.size) [.int .u64 ((wh ((z.natAbs : Int)) : Nat) : Int), .int .u64 ((wl ((z.natAbs : Int)) : Nat) : Int)] → Below w4.heap.size w4 w' → RNum w' (.agg #[.bool m2, .slice o2 n2 c2]) (2) (sgn false (wl (z.natAbs : Int) + wh (z.natAbs : Int) * B)) → Box w' gpq [.int .u64 ((wl ((z.natAbs : Int)) : Nat) : Int), .int .u64 ((wh ((z.natAbs : Int)) : Nat) : Int)] → w4.heap.size ≤ gpq → WWq 1 #[true, true, true, true, true, true, true, true, false] (((aq.put (some 7) (.bool false)).put (some 12) (.slice (some ⟨gpq, 0, none⟩) 2 2)).put (some 13) (.agg #[.bool m2, .slice o2 n2 c2])) w' := by
    intro w5 m2 o2 n2 c2 gpq hB_0 pa_0 pr_0 ps_0 hWq_0 f2_0 pq_0 hgpq
    rw [HWq.out, HAq.out]
    try simp only [Act.put]
    try simp only [List.setIfInBounds_toArray, List.set_cons_zero, List.set_cons_succ]
    clear hWq_0
    obtain ⟨sf1a, sf1b, sf1c, sf1d⟩ := pr_0.open2
    obtain ⟨sg1a, sg1b⟩ := Box.put2 pr_0 (.bool m2)
    refine reg_call 8 ?_ (by kernel_rfl) ?_ (fun K hK => ?_)
    rotate_left 1
    · simp only [List.getElem?_toArray, List.getElem?_cons_succ, List.getElem?_cons_zero]; exact rfl
    go_simp
    have hB_1 := below_setAll hB_0 (g := w.heap.size + 1) (by omega) [.bool m2, .slice o2 n2 c2]
    have pa_1 := pa_0.farAll (g' := w.heap.size + 1) (by omega) [.bool m2, .slice o2 n2 c2]
    have ps_1 := ps_0.farAll (g' := w.heap.size + 1) (by omega) [.bool m2, .slice o2 n2 c2]
    have f2_1 := f2_0.setAll pr_0 (noWord2 _ _ _ _) [.bool m2, .slice o2 n2 c2] rfl
    have pq_1 := pq_0.farAll (g' := w.heap.size + 1) (by omega) [.bool m2, .slice o2 n2 c2]
    have pr_1 := pr_0.setAll [.bool m2, .slice o2 n2 c2] rfl
    simp only [setAll, Nat.zero_add] at hB_1 pa_1 pr_1 ps_1 f2_1 pq_1
    clear sf1a sf1b sf1c sf1d sg1a sg1b
    clear hB_0 pa_0 ps_0 f2_0 pq_0 pr_0
    refine hK.out _ _ ⟨pa_1.c0, pa_1.c1, ps_1.c0, ps_1.c1⟩ (fun hHeld => ?_)
    clear hK K
    try simp only [Act.put]
    try simp only [List.setIfInBounds_toArray, List.set_cons_zero, List.set_cons_succ]
    generalize (World.setCell (World.setCell w5 ⟨w.heap.size + 1, 0, none⟩ (.bool m2)) ⟨w.heap.size + 1, 1, none⟩ (.slice o2 n2 c2)) = w6 at *
    refine wpAnyH_done (by kernel_rfl) ?_ _
    refine NoPanic.normal ?_
    go_wp2
    obtain ⟨pre0, pre1, pre2, pre3⟩ := pr_1.open2
    exact bodyPost_ret (v := .agg #[.bool m2, .slice o2 n2 c2]) (by simp [results, Try.results32, go_sem, pre0, pre1]) rfl ⟨_, _, _, _, rfl, f2_1, hB_1⟩
  simp only [HAq.out, Act.put, List.setIfInBounds_toArray, List.set_cons_zero, List.set_cons_succ] at stq_2t
  have stq_1t : ∀ (w' : World) (gpq : Nat), Below w.heap.size w w' → Box w' (w.heap.size) [.int .u64 ((wh (z) : Nat) : Int), .int .u64 ((wl (z) : Nat) : Int)] → Box w' (w.heap.size + 1) [.bool false, .slice none 0 0] → Box w' (w3.heap.size) [.int .u64 ((wh ((z.natAbs : Int)) : Nat) : Int), .int .u64 ((wl ((z.natAbs : Int)) : Nat) : Int)] → Below w4.heap.size w4 w' → Box w' gpq [.int .u64 ((wl ((z.natAbs : Int)) : Nat) : Int), .int .u64 ((wh ((z.natAbs : Int)) : Nat) : Int)] → w4.heap.size ≤ gpq → WWq 2 #[true, true, true, true, true, true, true, false, false] ((aq.put (some 7) (.bool false)).put (some 12) (.slice (some ⟨gpq, 0, none⟩) 2 2)) w' := by
    intro w7 gpq hB_0 pa_0 pr_0 ps_0 hWq_0 pq_0 hgpq
    rw [HWq.out, HAq.out]
    try simp only [Act.put]
    try simp only [List.setIfInBounds_toArray, List.set_cons_zero, List.set_cons_succ]
    refine reg_all1 7 ?_ (by kernel_rfl) ?_ (fun K hK => ?_)
    rotate_left 1
    · simp only [List.getElem?_toArray, List.getElem?_cons_succ, List.getElem?_cons_zero]; exact rfl
    · go_simp
      refine (make_two false gpq _ _ _ pq_0 (wl_lt _) (wh_lt _)).mono ?_
      rintro e w8 ⟨m2, o2, n2, c2, rfl, f2_0, hb8⟩
      have hB_1 := hB_0.trans (hb8.mono hB_0.size)
      have pa_1 := pa_0.below hb8
      have pr_1 := pr_0.below hb8
      have ps_1 := ps_0.below hb8
      have hWq_1 := hWq_0.trans (hb8.mono hWq_0.size)
      have pq_1 := pq_0.below hb8
      clear hb8 hB_0 pa_0 pr_0 ps_0 hWq_0 pq_0
      go_wp2_with fail
      refine hK.out _ _ ⟨pa_1.c0, pa_1.c1, ps_1.c0, ps_1.c1⟩ (fun hHeld => ?_)
      clear hK K
      try simp only [Act.put]
      try simp only [List.setIfInBounds_toArray, List.set_cons_zero, List.set_cons_succ]
      rw [← HWq.out]
      exact stq_2t _ m2 o2 n2 c2 gpq hB_1 pa_1 pr_1 ps_1 hWq_1 f2_0 pq_1 (by omega)
  try simp only [HAq.out, Act.put, List.setIfInBounds_toArray, List.set_cons_zero, List.set_cons_succ] at stq_1t
  have stq_1f : ∀ (w' : World), Below w.heap.size w w' → Box w' (w.heap.size) [.int .u64 ((wh (z) : Nat) : Int), .int .u64 ((wl (z) : Nat) : Int)] → Box w' (w.heap.size + 1) [.bool false, .slice none 0 0] → Box w' (w3.heap.size) [.int .u64 ((wh ((z.natAbs : Int)) : Nat) : Int), .int .u64 ((wl ((z.natAbs : Int)) : Nat) : Int)] → Below w4.heap.size w4 w' → WWq 3 #[true, true, true, true, true, true, false, false, false] (aq.put (some 7) (.bool false)) w' := by
    intro w9 hB_0 pa_0 pr_0 ps_0 hWq_0
    rw [HWq.out, HAq.out]
    try simp only [Act.put]
    try simp only [List.setIfInBounds_toArray, List.set_cons_zero, List.set_cons_succ]
    refine reg_all1 6 ?_ (by kernel_rfl) ?_ (fun K hK => ?_)
    rotate_left 1
    · simp only [List.getElem?_toArray, List.getElem?_cons_succ, List.getElem?_cons_zero]; exact rfl
    · go_simp
      have hgn : w4.heap.size ≤ w9.heap.size := hWq_0.size
      obtain ⟨w10, hww10, pq_0, hb10, -⟩ := new_box w9 _ rfl [.int .u64 ((wl ((z.natAbs : Int)) : Nat) : Int), .int .u64 ((wh ((z.natAbs : Int)) : Nat) : Int)] 51
      rw [hww10]
      have hB_1 := hB_0.trans (hb10.mono hB_0.size)
      have pa_1 := pa_0.below hb10
      have pr_1 := pr_0.below hb10
      have ps_1 := ps_0.below hb10
      have hWq_1 := hWq_0.trans (hb10.mono hWq_0.size)
      clear hb10 hB_0 pa_0 pr_0 ps_0 hWq_0
      refine hK.out _ _ ⟨pa_1.c0, pa_1.c1, ps_1.c0, ps_1.c1⟩ (fun hHeld => ?_)
      clear hK K
      try simp only [Act.put]
      try simp only [List.setIfInBounds_toArray, List.set_cons_zero, List.set_cons_succ]
      rw [← HWq.out]
      exact stq_1t _ w9.heap.size hB_1 pa_1 pr_1 ps_1 hWq_1 pq_0 (by omega)
  try simp only [HAq.out, Act.put, List.setIfInBounds_toArray, List.set_cons_zero, List.set_cons_succ] at stq_1f
  have stq_0t : ∀ (w' : World) (gpq : Nat), Below w.heap.size w w' → Box w' (w.heap.size) [.int .u64 ((wh (z) : Nat) : Int), .int .u64 ((wl (z) : Nat) : Int)] → Box w' (w.heap.size + 1) [.bool false, .slice none 0 0] → Box w' (w3.heap.size) [.int .u64 ((wh ((z.natAbs : Int)) : Nat) : Int), .int .u64 ((wl ((z.natAbs : Int)) : Nat) : Int)] → Below w4.heap.size w4 w' → Box w' gpq [.int .u64 ((wl ((z.natAbs : Int)) : Nat) : Int), .int .u64 ((wh ((z.natAbs : Int)) : Nat) : Int)] → w4.heap.size ≤ gpq → WWq 3 #[true, false, true, true, true, true, true, false, false] (aq.put (some 12) (.slice (some ⟨gpq, 0, none⟩) 2 2)) w' := by
    intro w11 gpq hB_0 pa_0 pr_0 ps_0 hWq_0 pq_0 hgpq
    rw [HWq.out, HAq.out]
    try simp only [Act.put]
    try simp only [List.setIfInBounds_toArray, List.set_cons_zero, List.set_cons_succ]
    refine reg_all1 1 ?_ (by kernel_rfl) ?_ (fun K hK => ?_)
    rotate_left 1
    · simp only [List.getElem?_toArray, List.getElem?_cons_succ, List.getElem?_cons_zero]; exact rfl
    · go_simp
      refine (CB.out _).mono ?_
      rintro e w12 ⟨rfl, hb12⟩
      have hB_1 := hB_0.trans (hb12.mono hB_0.size)
      have pa_1 := pa_0.below hb12
      have pr_1 := pr_0.below hb12
      have ps_1 := ps_0.below hb12
      have hWq_1 := hWq_0.trans (hb12.mono hWq_0.size)
      have pq_1 := pq_0.below hb12
      clear hb12 hB_0 pa_0 pr_0 ps_0 hWq_0 pq_0
      go_wp2_with fail
      refine hK.out _ _ ⟨pa_1.c0, pa_1.c1, ps_1.c0, ps_1.c1⟩ (fun hHeld => ?_)
      clear hK K
      try simp only [Act.put]
      try simp only [List.setIfInBounds_toArray, List.set_cons_zero, List.set_cons_succ]
      rw [← HWq.out]
      exact stq_1t _ gpq hB_1 pa_1 pr_1 ps_1 hWq_1 pq_1 (by omega)
  try simp only [HAq.out, Act.put, List.setIfInBounds_toArray, List.set_cons_zero, List.set_cons_succ] at stq_0t
  have stq_0f : ∀ (w' : World), Below w.heap.size w w' → Box w' (w.heap.size) [.int .u64 ((wh (z) : Nat) : Int), .int .u64 ((wl (z) : Nat) : Int)] → Box w' (w.heap.size + 1) [.bool false, .slice none 0 0] → Box w' (w3.heap.size) [.int .u64 ((wh ((z.natAbs : Int)) : Nat) : Int), .int .u64 ((wl ((z.natAbs : Int)) : Nat) : Int)] → Below w4.heap.size w4 w' → WWq 4 #[true, false, true, true, true, true, false, false, false] aq w' := by
    intro w13 hB_0 pa_0 pr_0 ps_0 hWq_0
    rw [HWq.out, HAq.out]
    try simp only [Act.put]
    try simp only [List.setIfInBounds_toArray, List.set_cons_zero, List.set_cons_succ]
    refine reg_all2 1 6 ?_ ?_ (by kernel_rfl) ?_ ?_ (fun K hK => ?_) (fun K hK => ?_)
    rotate_left 2
    · simp only [List.getElem?_toArray, List.getElem?_cons_succ, List.getElem?_cons_zero]; exact rfl
    · simp only [List.getElem?_toArray, List.getElem?_cons_succ, List.getElem?_cons_zero]; exact rfl
    · go_simp
      refine (CB.out _).mono ?_
      rintro e w14 ⟨rfl, hb14⟩
      have hB_1 := hB_0.trans (hb14.mono hB_0.size)
      have pa_1 := pa_0.below hb14
      have pr_1 := pr_0.below hb14
      have ps_1 := ps_0.below hb14
      have hWq_1 := hWq_0.trans (hb14.mono hWq_0.size)
      clear hb14 hB_0 pa_0 pr_0 ps_0 hWq_0
      go_wp2_with fail
      refine hK.out _ _ ⟨pa_1.c0, pa_1.c1, ps_1.c0, ps_1.c1⟩ (fun hHeld => ?_)
      clear hK K
      try simp only [Act.put]
      try simp only [List.setIfInBounds_toArray, List.set_cons_zero, List.set_cons_succ]
      rw [← HWq.out]
      exact stq_1f _ hB_1 pa_1 pr_1 ps_1 hWq_1
    · go_simp
      have hgn : w4.heap.size ≤ w13.heap.size := hWq_0.size
      obtain ⟨w15, hww15, pq_0, hb15, -⟩ := new_box w13 _ rfl [.int .u64 ((wl ((z.natAbs : Int)) : Nat) : Int), .int .u64 ((wh ((z.natAbs : Int)) : Nat) : Int)] 51
      rw [hww15]
      have hB_1 := hB_0.trans (hb15.mono hB_0.size)
      have pa_1 := pa_0.below hb15
      have pr_1 := pr_0.below hb15
      have ps_1 := ps_0.below hb15
      have hWq_1 := hWq_0.trans (hb15.mono hWq_0.size)
      clear hb15 hB_0 pa_0 pr_0 ps_0 hWq_0
      refine hK.out _ _ ⟨pa_1.c0, pa_1.c1, ps_1.c0, ps_1.c1⟩ (fun hHeld => ?_)
      clear hK K
      try simp only [Act.put]
      try simp only [List.setIfInBounds_toArray, List.set_cons_zero, List.set_cons_succ]
      rw [← HWq.out]
      exact stq_0t _ w13.heap.size hB_1 pa_1 pr_1 ps_1 hWq_1 pq_0 (by omega)
  exact stq_0f _ hB_5 pa_4 pr_3 ps_1 hWq_1
theorem wNum_any (z : Int) (hz : InW z) (w : World) : Calls Try.prog 32 #[.agg #[.int .u64 ((wh (z) : Nat) : Int), .int .u64 ((wl (z) : Nat) : Int)]] w fun e w' => AnsNum w w' e 2 z := by
  have hs := w_size hz
  have e : ((wl (z.natAbs : Int) + wh (z.natAbs : Int) * B : Nat) : Int) = (z.natAbs : Int) := by simp only [B_eq]; omega
  by_cases c : z < 0
  · refine (wNum_w_t z hz (bel_is (by rw [wrapW_self hz]; simp [c])) w).mono fun e' w' h => h.of (Nat.le_refl _) ?_
    rw [sgn_true, e]; omega
  · refine (wNum_w_f z hz (bel_is (by rw [wrapW_self hz]; simp [c])) w).mono fun e' w' h => h.of (Nat.le_refl _) ?_
    rw [sgn_false, e]; omega
end Go.Proofs.Ytjciefoademlnaa
/- The calls of pred: turn, Orient, Area2, Dist2. -/
namespace Go.Proofs.Ytjciefoademlnaa
open Go.RowKit Go.MagM
set_option maxHeartbeats 4000000 in
theorem turn_w (a0 a1 b0 b1 v0 v1 : Int) (p q r s z : Int) (e1 : IntKind.i64.wrap (b0 - a0) = p) (e2 : IntKind.i64.wrap (b1 - a1) = q) (e3 : IntKind.i64.wrap (v0 - a0) = r) (e4 : IntKind.i64.wrap (v1 - a1) = s) (cd : ∀ w, Calls Try.prog 43 #[.int .i64 p, .int .i64 q, .int .i64 r, .int .i64 s] w fun e w' => AnsW w w' e z) (w : World) :
    Calls Try.prog 33 #[.agg #[.int .i64 a0, .int .i64 a1], .agg #[.int .i64 b0, .int .i64 b1], .agg #[.int .i64 v0, .int .i64 v1]] w fun e w' => AnsW w w' e z := by
  have hB_0 := Below.refl w.heap.size w
  have CD := Lib.hid cd
  clear cd
  obtain ⟨w1, hw1, pa_0, hb1, hs1⟩ := new_box w (w.heap.size) rfl [.int .i64 a0, .int .i64 a1] 23
  have hb1' : Below w.heap.size w w1 := hb1.mono (by omega)
  clear hb1
  have hB_1 := hB_0.trans (hb1'.mono hB_0.size)
  clear hb1' hB_0
  obtain ⟨w2, hw2, pb_0, hb2, hs2⟩ := new_box w1 (w.heap.size + 1) hs1 [.int .i64 b0, .int .i64 b1] 23
  have hb2' : Below w1.heap.size w1 w2 := hb2.mono (by omega)
  clear hb2
  have hB_2 := hB_1.trans (hb2'.mono hB_1.size)
  have pa_1 := pa_0.below hb2'
  clear hb2' hB_1 pa_0
  obtain ⟨w3, hw3, pv_0, hb3, hs3⟩ := new_box w2 (w.heap.size + 1 + 1) hs2 [.int .i64 v0, .int .i64 v1] 23
  have hb3' : Below w2.heap.size w2 w3 := hb3.mono (by omega)
  clear hb3
  have hB_3 := hB_2.trans (hb3'.mono hB_2.size)
  have pa_2 := pa_1.below hb3'
  have pb_1 := pb_0.below hb3'
  clear hb3' hB_2 pa_1 pb_0
  obtain ⟨w4, hw4, pr_0, hb4, hs4⟩ := new_box w3 (w.heap.size + 1 + 1 + 1) hs3 [.int .u64 0, .int .u64 0] 53
  have hb4' : Below w3.heap.size w3 w4 := hb4.mono (by omega)
  clear hb4
  have hB_4 := hB_3.trans (hb4'.mono hB_3.size)
  have pa_3 := pa_2.below hb4'
  have pb_2 := pb_1.below hb4'
  have pv_1 := pv_0.below hb4'
  clear hb4' hB_3 pa_2 pb_1 pv_0
  go_enter Try.func33, Try.ntmps33
  obtain ⟨pae0, pae1, pae2, pae3⟩ := pa_3.open2
  obtain ⟨pbe0, pbe1, pbe2, pbe3⟩ := pb_2.open2
  obtain ⟨pve0, pve1, pve2, pve3⟩ := pv_1.open2
  obtain ⟨pre0, pre1, pre2, pre3⟩ := pr_0.open2
  go_wp2_with fail
  refine (CD.out _).mono ?_
  rintro e w5 ⟨rfl, hb5⟩
  clear pae0 pae1 pae2 pae3 pbe0 pbe1 pbe2 pbe3 pve0 pve1 pve2 pve3 pre0 pre1 pre2 pre3
  have hB_5 := hB_4.trans (hb5.mono hB_4.size)
  have pa_4 := pa_3.below hb5
  have pb_3 := pb_2.below hb5
  have pv_2 := pv_1.below hb5
  have pr_1 := pr_0.below hb5
  clear hb5 hB_4 pa_3 pb_2 pv_1 pr_0
  obtain ⟨pae0, pae1, pae2, pae3⟩ := pa_4.open2
  obtain ⟨pbe0, pbe1, pbe2, pbe3⟩ := pb_3.open2
  obtain ⟨pve0, pve1, pve2, pve3⟩ := pv_2.open2
  obtain ⟨pre0, pre1, pre2, pre3⟩ := pr_1.open2
  obtain ⟨sf1a, sf1b, sf1c, sf1d⟩ := pr_1.open2
  obtain ⟨sg1a, sg1b⟩ := Box.put2 pr_1 (.int .u64 ((wh (z) : Nat) : Int))
  go_wp2
  clear pae0 pae1 pae2 pae3 pbe0 pbe1 pbe2 pbe3 pve0 pve1 pve2 pve3 pre0 pre1 pre2 pre3 sf1a sf1b sf1c sf1d sg1a sg1b
  have hB_6 := below_setAll hB_5 (g := w.heap.size + 1 + 1 + 1) (by omega) [.int .u64 ((wh (z) : Nat) : Int), .int .u64 ((wl (z) : Nat) : Int)]
  have pa_5 := pa_4.farAll (g' := w.heap.size + 1 + 1 + 1) (by omega) [.int .u64 ((wh (z) : Nat) : Int), .int .u64 ((wl (z) : Nat) : Int)]
  have pb_4 := pb_3.farAll (g' := w.heap.size + 1 + 1 + 1) (by omega) [.int .u64 ((wh (z) : Nat) : Int), .int .u64 ((wl (z) : Nat) : Int)]
  have pv_3 := pv_2.farAll (g' := w.heap.size + 1 + 1 + 1) (by omega) [.int .u64 ((wh (z) : Nat) : Int), .int .u64 ((wl (z) : Nat) : Int)]
  have pr_2 := pr_1.setAll [.int .u64 ((wh (z) : Nat) : Int), .int .u64 ((wl (z) : Nat) : Int)] rfl
  simp only [setAll, Nat.zero_add] at hB_6 pa_5 pb_4 pv_3 pr_2
  clear hB_5 pa_4 pb_3 pv_2 pr_1
  generalize (World.setCell (World.setCell w5 ⟨w.heap.size + 1 + 1 + 1, 0, none⟩ (.int .u64 ((wh (z) : Nat) : Int))) ⟨w.heap.size + 1 + 1 + 1, 1, none⟩ (.int .u64 ((wl (z) : Nat) : Int))) = w6 at *
  go_wp2
  obtain ⟨pre0, pre1, pre2, pre3⟩ := pr_2.open2
  exact bodyPost_ret (v := .agg #[.int .u64 ((wh (z) : Nat) : Int), .int .u64 ((wl (z) : Nat) : Int)]) (by simp [results, Try.results33, go_sem, pre0, pre1]) rfl ⟨rfl, hB_6⟩
theorem turn_any (a0 a1 b0 b1 v0 v1 : Int) (ha0 : InP a0) (ha1 : InP a1) (hb0 : InP b0) (hb1 : InP b1) (hv0 : InP v0) (hv1 : InP v1) (w : World) :
    Calls Try.prog 33 #[.agg #[.int .i64 a0, .int .i64 a1], .agg #[.int .i64 b0, .int .i64 b1], .agg #[.int .i64 v0, .int .i64 v1]] w fun e w' => AnsW w w' e (crs a0 a1 b0 b1 v0 v1) :=
  turn_w a0 a1 b0 b1 v0 v1 _ _ _ _ _ (hb0.wrap ha0) (hb1.wrap ha1) (hv0.wrap ha0) (hv1.wrap ha1) (fun w => wDet_any _ _ _ _ (hb0.lo ha0) (hb0.hi ha0) (hb1.lo ha1) (hb1.hi ha1) (hv0.lo ha0) (hv0.hi ha0) (hv1.lo ha1) (hv1.hi ha1) w) w
theorem wsgn_is (z : Int) (hz : InW z) (w : World) : Calls Try.prog 36 #[.agg #[.int .u64 ((wh (z) : Nat) : Int), .int .u64 ((wl (z) : Nat) : Int)]] w fun e w' => e = .returned (.int .i64 z.sign) ∧ Below w.heap.size w w' := by
  have := wSign_all z w; rwa [wrapW_self hz] at this
set_option maxHeartbeats 4000000 in
theorem Orient_w (a0 a1 b0 b1 v0 v1 : Int) (z t : Int) (ct : ∀ w, Calls Try.prog 33 #[.agg #[.int .i64 a0, .int .i64 a1], .agg #[.int .i64 b0, .int .i64 b1], .agg #[.int .i64 v0, .int .i64 v1]] w fun e w' => AnsW w w' e z) (cs : ∀ w, Calls Try.prog 36 #[.agg #[.int .u64 ((wh (z) : Nat) : Int), .int .u64 ((wl (z) : Nat) : Int)]] w fun e w' => e = .returned (.int .i64 t) ∧ Below w.heap.size w w') (w : World) :
    Calls Try.prog 15 #[.agg #[.int .i64 a0, .int .i64 a1], .agg #[.int .i64 b0, .int .i64 b1], .agg #[.int .i64 v0, .int .i64 v1]] w fun e w' => e = .returned (.int .i64 t) ∧ Below w.heap.size w w' := by
  have hB_0 := Below.refl w.heap.size w
  have CT := Lib.hid ct; have CS := Lib.hid cs
  clear ct cs
  obtain ⟨w1, hw1, pa_0, hb1, hs1⟩ := new_box w (w.heap.size) rfl [.int .i64 a0, .int .i64 a1] 23
  have hb1' : Below w.heap.size w w1 := hb1.mono (by omega)
  clear hb1
  have hB_1 := hB_0.trans (hb1'.mono hB_0.size)
  clear hb1' hB_0
  obtain ⟨w2, hw2, pb_0, hb2, hs2⟩ := new_box w1 (w.heap.size + 1) hs1 [.int .i64 b0, .int .i64 b1] 23
  have hb2' : Below w1.heap.size w1 w2 := hb2.mono (by omega)
  clear hb2
  have hB_2 := hB_1.trans (hb2'.mono hB_1.size)
  have pa_1 := pa_0.below hb2'
  clear hb2' hB_1 pa_0
  obtain ⟨w3, hw3, pv_0, hb3, hs3⟩ := new_box w2 (w.heap.size + 1 + 1) hs2 [.int .i64 v0, .int .i64 v1] 23
  have hb3' : Below w2.heap.size w2 w3 := hb3.mono (by omega)
  clear hb3
  have hB_3 := hB_2.trans (hb3'.mono hB_2.size)
  have pa_2 := pa_1.below hb3'
  have pb_1 := pb_0.below hb3'
  clear hb3' hB_2 pa_1 pb_0
  go_enter Try.func15, Try.ntmps15
  obtain ⟨pae0, pae1, pae2, pae3⟩ := pa_2.open2
  obtain ⟨pbe0, pbe1, pbe2, pbe3⟩ := pb_1.open2
  obtain ⟨pve0, pve1, pve2, pve3⟩ := pv_0.open2
  go_wp2_with fail
  refine (CT.out _).mono ?_
  rintro e w4 ⟨rfl, hb4⟩
  clear pae0 pae1 pae2 pae3 pbe0 pbe1 pbe2 pbe3 pve0 pve1 pve2 pve3
  have hB_4 := hB_3.trans (hb4.mono hB_3.size)
  have pa_3 := pa_2.below hb4
  have pb_2 := pb_1.below hb4
  have pv_1 := pv_0.below hb4
  clear hb4 hB_3 pa_2 pb_1 pv_0
  obtain ⟨pae0, pae1, pae2, pae3⟩ := pa_3.open2
  obtain ⟨pbe0, pbe1, pbe2, pbe3⟩ := pb_2.open2
  obtain ⟨pve0, pve1, pve2, pve3⟩ := pv_1.open2
  go_wp2_with fail
  refine (CS.out _).mono ?_
  rintro e w5 ⟨rfl, hb5⟩
  clear pae0 pae1 pae2 pae3 pbe0 pbe1 pbe2 pbe3 pve0 pve1 pve2 pve3
  have hB_5 := hB_4.trans (hb5.mono hB_4.size)
  have pa_4 := pa_3.below hb5
  have pb_3 := pb_2.below hb5
  have pv_2 := pv_1.below hb5
  clear hb5 hB_4 pa_3 pb_2 pv_1
  obtain ⟨pae0, pae1, pae2, pae3⟩ := pa_4.open2
  obtain ⟨pbe0, pbe1, pbe2, pbe3⟩ := pb_3.open2
  obtain ⟨pve0, pve1, pve2, pve3⟩ := pv_2.open2
  go_wp2
  go_ret
  exact ⟨rfl, hB_5⟩
theorem Orient_any (a0 a1 b0 b1 v0 v1 : Int) (ha0 : InP a0) (ha1 : InP a1) (hb0 : InP b0) (hb1 : InP b1) (hv0 : InP v0) (hv1 : InP v1) (w : World) :
    Calls Try.prog 15 #[.agg #[.int .i64 a0, .int .i64 a1], .agg #[.int .i64 b0, .int .i64 b1], .agg #[.int .i64 v0, .int .i64 v1]] w fun e w' => e = .returned (.int .i64 (crs a0 a1 b0 b1 v0 v1).sign) ∧ Below w.heap.size w w' :=
  Orient_w a0 a1 b0 b1 v0 v1 _ _ (fun w => turn_any a0 a1 b0 b1 v0 v1 ha0 ha1 hb0 hb1 hv0 hv1 w) (fun w => wsgn_is _ (inW_crs ha0 ha1 hb0 hb1 hv0 hv1) w) w
theorem Orient_is (a0 a1 b0 b1 v0 v1 : Int) {s : Int} (ha0 : InP a0) (ha1 : InP a1) (hb0 : InP b0) (hb1 : InP b1) (hv0 : InP v0) (hv1 : InP v1) (h : (crs a0 a1 b0 b1 v0 v1).sign = s) (w : World) :
    Calls Try.prog 15 #[.agg #[.int .i64 a0, .int .i64 a1], .agg #[.int .i64 b0, .int .i64 b1], .agg #[.int .i64 v0, .int .i64 v1]] w fun e w' => e = .returned (.int .i64 s) ∧ Below w.heap.size w w' := by subst h; exact Orient_any a0 a1 b0 b1 v0 v1 ha0 ha1 hb0 hb1 hv0 hv1 w
set_option maxHeartbeats 4000000 in
theorem Area2_w (a0 a1 b0 b1 v0 v1 : Int) (z : Int) (ct : ∀ w, Calls Try.prog 33 #[.agg #[.int .i64 a0, .int .i64 a1], .agg #[.int .i64 b0, .int .i64 b1], .agg #[.int .i64 v0, .int .i64 v1]] w fun e w' => AnsW w w' e z) (cn : ∀ w, Calls Try.prog 32 #[.agg #[.int .u64 ((wh (z) : Nat) : Int), .int .u64 ((wl (z) : Nat) : Int)]] w fun e w' => AnsNum w w' e 2 z) (w : World) :
    Calls Try.prog 12 #[.agg #[.int .i64 a0, .int .i64 a1], .agg #[.int .i64 b0, .int .i64 b1], .agg #[.int .i64 v0, .int .i64 v1]] w fun e w' => AnsNum w w' e 2 z := by
  have hB_0 := Below.refl w.heap.size w
  have CT := Lib.hid ct; have CN := Lib.hid cn
  clear ct cn
  obtain ⟨w1, hw1, pa_0, hb1, hs1⟩ := new_box w (w.heap.size) rfl [.int .i64 a0, .int .i64 a1] 23
  have hb1' : Below w.heap.size w w1 := hb1.mono (by omega)
  clear hb1
  have hB_1 := hB_0.trans (hb1'.mono hB_0.size)
  clear hb1' hB_0
  obtain ⟨w2, hw2, pb_0, hb2, hs2⟩ := new_box w1 (w.heap.size + 1) hs1 [.int .i64 b0, .int .i64 b1] 23
  have hb2' : Below w1.heap.size w1 w2 := hb2.mono (by omega)
  clear hb2
  have hB_2 := hB_1.trans (hb2'.mono hB_1.size)
  have pa_1 := pa_0.below hb2'
  clear hb2' hB_1 pa_0
  obtain ⟨w3, hw3, pv_0, hb3, hs3⟩ := new_box w2 (w.heap.size + 1 + 1) hs2 [.int .i64 v0, .int .i64 v1] 23
  have hb3' : Below w2.heap.size w2 w3 := hb3.mono (by omega)
  clear hb3
  have hB_3 := hB_2.trans (hb3'.mono hB_2.size)
  have pa_2 := pa_1.below hb3'
  have pb_1 := pb_0.below hb3'
  clear hb3' hB_2 pa_1 pb_0
  obtain ⟨w4, hw4, pr_0, hb4, hs4⟩ := new_box w3 (w.heap.size + 1 + 1 + 1) hs3 [.bool false, .slice none 0 0] 29
  have hb4' : Below w3.heap.size w3 w4 := hb4.mono (by omega)
  clear hb4
  have hB_4 := hB_3.trans (hb4'.mono hB_3.size)
  have pa_3 := pa_2.below hb4'
  have pb_2 := pb_1.below hb4'
  have pv_1 := pv_0.below hb4'
  clear hb4' hB_3 pa_2 pb_1 pv_0
  go_enter Try.func12, Try.ntmps12
  obtain ⟨pae0, pae1, pae2, pae3⟩ := pa_3.open2
  obtain ⟨pbe0, pbe1, pbe2, pbe3⟩ := pb_2.open2
  obtain ⟨pve0, pve1, pve2, pve3⟩ := pv_1.open2
  obtain ⟨pre0, pre1, pre2, pre3⟩ := pr_0.open2
  go_wp2_with fail
  refine (CT.out _).mono ?_
  rintro e w5 ⟨rfl, hb5⟩
  clear pae0 pae1 pae2 pae3 pbe0 pbe1 pbe2 pbe3 pve0 pve1 pve2 pve3 pre0 pre1 pre2 pre3
  have hB_5 := hB_4.trans (hb5.mono hB_4.size)
  have pa_4 := pa_3.below hb5
  have pb_3 := pb_2.below hb5
  have pv_2 := pv_1.below hb5
  have pr_1 := pr_0.below hb5
  clear hb5 hB_4 pa_3 pb_2 pv_1 pr_0
  obtain ⟨pae0, pae1, pae2, pae3⟩ := pa_4.open2
  obtain ⟨pbe0, pbe1, pbe2, pbe3⟩ := pb_3.open2
  obtain ⟨pve0, pve1, pve2, pve3⟩ := pv_2.open2
  obtain ⟨pre0, pre1, pre2, pre3⟩ := pr_1.open2
  go_wp2_with fail
  refine (CN.out _).mono ?_
  rintro e w6 ⟨m1, o1, n1, c1, rfl, f1_0, hb6⟩
  clear pae0 pae1 pae2 pae3 pbe0 pbe1 pbe2 pbe3 pve0 pve1 pve2 pve3 pre0 pre1 pre2 pre3
  have hB_6 := hB_5.trans (hb6.mono hB_5.size)
  have pa_5 := pa_4.below hb6
  have pb_4 := pb_3.below hb6
  have pv_3 := pv_2.below hb6
  have pr_2 := pr_1.below hb6
  clear hb6 hB_5 pa_4 pb_3 pv_2 pr_1
  obtain ⟨pae0, pae1, pae2, pae3⟩ := pa_5.open2
  obtain ⟨pbe0, pbe1, pbe2, pbe3⟩ := pb_4.open2
  obtain ⟨pve0, pve1, pve2, pve3⟩ := pv_3.open2
  obtain ⟨pre0, pre1, pre2, pre3⟩ := pr_2.open2
  obtain ⟨sf1a, sf1b, sf1c, sf1d⟩ := pr_2.open2
  obtain ⟨sg1a, sg1b⟩ := Box.put2 pr_2 (.bool m1)
  go_wp2
  clear pae0 pae1 pae2 pae3 pbe0 pbe1 pbe2 pbe3 pve0 pve1 pve2 pve3 pre0 pre1 pre2 pre3 sf1a sf1b sf1c sf1d sg1a sg1b
  have hB_7 := below_setAll hB_6 (g := w.heap.size + 1 + 1 + 1) (by omega) [.bool m1, .slice o1 n1 c1]
  have pa_6 := pa_5.farAll (g' := w.heap.size + 1 + 1 + 1) (by omega) [.bool m1, .slice o1 n1 c1]
  have pb_5 := pb_4.farAll (g' := w.heap.size + 1 + 1 + 1) (by omega) [.bool m1, .slice o1 n1 c1]
  have pv_4 := pv_3.farAll (g' := w.heap.size + 1 + 1 + 1) (by omega) [.bool m1, .slice o1 n1 c1]
  have f1_1 := f1_0.setAll pr_2 (noWord2 _ _ _ _) [.bool m1, .slice o1 n1 c1] rfl
  have pr_3 := pr_2.setAll [.bool m1, .slice o1 n1 c1] rfl
  simp only [setAll, Nat.zero_add] at hB_7 pa_6 pb_5 pv_4 pr_3 f1_1
  clear hB_6 pa_5 pb_4 pv_3 f1_0 pr_2
  generalize (World.setCell (World.setCell w6 ⟨w.heap.size + 1 + 1 + 1, 0, none⟩ (.bool m1)) ⟨w.heap.size + 1 + 1 + 1, 1, none⟩ (.slice o1 n1 c1)) = w7 at *
  go_wp2
  obtain ⟨pre0, pre1, pre2, pre3⟩ := pr_3.open2
  exact bodyPost_ret (v := .agg #[.bool m1, .slice o1 n1 c1]) (by simp [results, Try.results12, go_sem, pre0, pre1]) rfl ⟨_, _, _, _, rfl, f1_1, hB_7⟩
theorem Area2_any (a0 a1 b0 b1 v0 v1 : Int) (ha0 : InP a0) (ha1 : InP a1) (hb0 : InP b0) (hb1 : InP b1) (hv0 : InP v0) (hv1 : InP v1) (w : World) :
    Calls Try.prog 12 #[.agg #[.int .i64 a0, .int .i64 a1], .agg #[.int .i64 b0, .int .i64 b1], .agg #[.int .i64 v0, .int .i64 v1]] w fun e w' => AnsNum w w' e 2 (crs a0 a1 b0 b1 v0 v1) :=
  Area2_w a0 a1 b0 b1 v0 v1 _ (fun w => turn_any a0 a1 b0 b1 v0 v1 ha0 ha1 hb0 hb1 hv0 hv1 w) (fun w => wNum_any _ (inW_crs ha0 ha1 hb0 hb1 hv0 hv1) w) w
set_option maxHeartbeats 4000000 in
theorem Dist2_w (a0 a1 b0 b1 : Int) (p q q' z : Int) (e1 : IntKind.i64.wrap (b0 - a0) = p) (e2 : IntKind.i64.wrap (b1 - a1) = q) (e3 : IntKind.i64.wrap (-q) = q') (cd : ∀ w, Calls Try.prog 43 #[.int .i64 p, .int .i64 q', .int .i64 q, .int .i64 p] w fun e w' => AnsW w w' e z) (cn : ∀ w, Calls Try.prog 32 #[.agg #[.int .u64 ((wh (z) : Nat) : Int), .int .u64 ((wl (z) : Nat) : Int)]] w fun e w' => AnsNum w w' e 2 z) (w : World) :
    Calls Try.prog 25 #[.agg #[.int .i64 a0, .int .i64 a1], .agg #[.int .i64 b0, .int .i64 b1]] w fun e w' => AnsNum w w' e 2 z := by
  have hB_0 := Below.refl w.heap.size w
  have CD := Lib.hid cd; have CN := Lib.hid cn
  clear cd cn
  obtain ⟨w1, hw1, pa_0, hb1, hs1⟩ := new_box w (w.heap.size) rfl [.int .i64 a0, .int .i64 a1] 23
  have hb1' : Below w.heap.size w w1 := hb1.mono (by omega)
  clear hb1
  have hB_1 := hB_0.trans (hb1'.mono hB_0.size)
  clear hb1' hB_0
  obtain ⟨w2, hw2, pb_0, hb2, hs2⟩ := new_box w1 (w.heap.size + 1) hs1 [.int .i64 b0, .int .i64 b1] 23
  have hb2' : Below w1.heap.size w1 w2 := hb2.mono (by omega)
  clear hb2
  have hB_2 := hB_1.trans (hb2'.mono hB_1.size)
  have pa_1 := pa_0.below hb2'
  clear hb2' hB_1 pa_0
  obtain ⟨w3, hw3, pr_0, hb3, hs3⟩ := new_box w2 (w.heap.size + 1 + 1) hs2 [.bool false, .slice none 0 0] 29
  have hb3' : Below w2.heap.size w2 w3 := hb3.mono (by omega)
  clear hb3
  have hB_3 := hB_2.trans (hb3'.mono hB_2.size)
  have pa_2 := pa_1.below hb3'
  have pb_1 := pb_0.below hb3'
  clear hb3' hB_2 pa_1 pb_0
  go_enter Try.func25, Try.ntmps25
  obtain ⟨pae0, pae1, pae2, pae3⟩ := pa_2.open2
  obtain ⟨pbe0, pbe1, pbe2, pbe3⟩ := pb_1.open2
  obtain ⟨pre0, pre1, pre2, pre3⟩ := pr_0.open2
  go_wp2
  clear pae0 pae1 pae2 pae3 pbe0 pbe1 pbe2 pbe3 pre0 pre1 pre2 pre3
  have hB_4 := hB_3.drew'
  have pa_3 := pa_2.drew
  have pb_2 := pb_1.drew
  have pr_1 := pr_0.drew
  clear hB_3 pa_2 pb_1 pr_0
  go_region_held3 (fun w' => w'.cell? ⟨w.heap.size, 0, none⟩ = some (.int .i64 a0) ∧ w'.cell? ⟨w.heap.size, 1, none⟩ = some (.int .i64 a1) ∧ w'.cell? ⟨w.heap.size + 1, 0, none⟩ = some (.int .i64 b0) ∧ w'.cell? ⟨w.heap.size + 1, 1, none⟩ = some (.int .i64 b1))
    (first | with_reducible exact ⟨pa_3.c0, pa_3.c1, pb_2.c0, pb_2.c1⟩ | fail)
    (fail)
  obtain ⟨pae0, pae1, pae2, pae3⟩ := pa_3.open2
  obtain ⟨pbe0, pbe1, pbe2, pbe3⟩ := pb_2.open2
  obtain ⟨pre0, pre1, pre2, pre3⟩ := pr_1.open2
  go_wp2_with fail
  refine (CD.out _).mono ?_
  rintro e w4 ⟨rfl, hb4⟩
  clear pae0 pae1 pae2 pae3 pbe0 pbe1 pbe2 pbe3 pre0 pre1 pre2 pre3
  have hB_5 := hB_4.trans (hb4.mono hB_4.size)
  have pa_4 := pa_3.below hb4
  have pb_3 := pb_2.below hb4
  have pr_2 := pr_1.below hb4
  clear hb4 hB_4 pa_3 pb_2 pr_1
  obtain ⟨pae0, pae1, pae2, pae3⟩ := pa_4.open2
  obtain ⟨pbe0, pbe1, pbe2, pbe3⟩ := pb_3.open2
  obtain ⟨pre0, pre1, pre2, pre3⟩ := pr_2.open2
  go_wp2_with fail
  refine (CN.out _).mono ?_
  rintro e w5 ⟨m1, o1, n1, c1, rfl, f1_0, hb5⟩
  clear pae0 pae1 pae2 pae3 pbe0 pbe1 pbe2 pbe3 pre0 pre1 pre2 pre3
  have hB_6 := hB_5.trans (hb5.mono hB_5.size)
  have pa_5 := pa_4.below hb5
  have pb_4 := pb_3.below hb5
  have pr_3 := pr_2.below hb5
  clear hb5 hB_5 pa_4 pb_3 pr_2
  obtain ⟨pae0, pae1, pae2, pae3⟩ := pa_5.open2
  obtain ⟨pbe0, pbe1, pbe2, pbe3⟩ := pb_4.open2
  obtain ⟨pre0, pre1, pre2, pre3⟩ := pr_3.open2
  obtain ⟨sf1a, sf1b, sf1c, sf1d⟩ := pr_3.open2
  obtain ⟨sg1a, sg1b⟩ := Box.put2 pr_3 (.bool m1)
  go_wp2
  clear pae0 pae1 pae2 pae3 pbe0 pbe1 pbe2 pbe3 pre0 pre1 pre2 pre3 sf1a sf1b sf1c sf1d sg1a sg1b
  have hB_7 := below_setAll hB_6 (g := w.heap.size + 1 + 1) (by omega) [.bool m1, .slice o1 n1 c1]
  have pa_6 := pa_5.farAll (g' := w.heap.size + 1 + 1) (by omega) [.bool m1, .slice o1 n1 c1]
  have pb_5 := pb_4.farAll (g' := w.heap.size + 1 + 1) (by omega) [.bool m1, .slice o1 n1 c1]
  have f1_1 := f1_0.setAll pr_3 (noWord2 _ _ _ _) [.bool m1, .slice o1 n1 c1] rfl
  have pr_4 := pr_3.setAll [.bool m1, .slice o1 n1 c1] rfl
  simp only [setAll, Nat.zero_add] at hB_7 pa_6 pb_5 pr_4 f1_1
  clear hB_6 pa_5 pb_4 f1_0 pr_3
  generalize (World.setCell (World.setCell w5 ⟨w.heap.size + 1 + 1, 0, none⟩ (.bool m1)) ⟨w.heap.size + 1 + 1, 1, none⟩ (.slice o1 n1 c1)) = w6 at *
  go_wp2
  obtain ⟨pre0, pre1, pre2, pre3⟩ := pr_4.open2
  exact bodyPost_ret (v := .agg #[.bool m1, .slice o1 n1 c1]) (by simp [results, Try.results25, go_sem, pre0, pre1]) rfl ⟨_, _, _, _, rfl, f1_1, hB_7⟩
theorem Dist2_any (a0 a1 b0 b1 : Int) (ha0 : InP a0) (ha1 : InP a1) (hb0 : InP b0) (hb1 : InP b1) (w : World) :
    Calls Try.prog 25 #[.agg #[.int .i64 a0, .int .i64 a1], .agg #[.int .i64 b0, .int .i64 b1]] w fun e w' => AnsNum w w' e 2 (sqd a0 a1 b0 b1) := by
  refine Dist2_w a0 a1 b0 b1 _ _ _ _ (hb0.wrap ha0) (hb1.wrap ha1) (hb1.neg ha1) (fun w => ?_) (fun w => wNum_any _ (inW_sqd ha0 ha1 hb0 hb1) w) w
  have := wDet_any (b0 - a0) (-(b1 - a1)) (b1 - a1) (b0 - a0) (hb0.lo ha0) (hb0.hi ha0) (hb1.lo' ha1) (hb1.hi' ha1) (hb1.lo ha1) (hb1.hi ha1) (hb0.lo ha0) (hb0.hi ha0) w
  rwa [sqd_det] at this
end Go.Proofs.Ytjciefoademlnaa
/- The statement NumDivs, walked. -/
namespace Go.Proofs.Ytjciefoademlnaa
open Go.RowKit Go.MagM
theorem nCmp_even (va vb : Value) (L L' : Nat) (X Y : Int) (w : World) (hL : L ≤ 4000000000) (hL' : L' ≤ 4000000000) (ha : Num w va L X) (hb : Num w vb L' Y) (h : X = Y) :
    Calls Try.prog 13 #[va, vb] w fun e w' => e = .returned (.int .i64 0) ∧ Below w.heap.size w w' := by
  have := nCmp_any va vb L L' X Y w hL hL' ha hb
  rw [h, icmp_self] at this; exact this
theorem nCmp_less (va vb : Value) (L L' : Nat) (X Y : Int) (w : World) (hL : L ≤ 4000000000) (hL' : L' ≤ 4000000000) (ha : Num w va L X) (hb : Num w vb L' Y) (h : X < Y) :
    Calls Try.prog 13 #[va, vb] w fun e w' => e = .returned (.int .i64 (-1)) ∧ Below w.heap.size w w' := by
  have := nCmp_any va vb L L' X Y w hL hL' ha hb
  rw [icmp_lt h] at this; exact this
theorem nCmp_more (va vb : Value) (L L' : Nat) (X Y : Int) (w : World) (hL : L ≤ 4000000000) (hL' : L' ≤ 4000000000) (ha : Num w va L X) (hb : Num w vb L' Y) (h : Y < X) :
    Calls Try.prog 13 #[va, vb] w fun e w' => e = .returned (.int .i64 1) ∧ Below w.heap.size w w' := by
  have := nCmp_any va vb L L' X Y w hL hL' ha hb
  rw [icmp_gt h] at this; exact this
theorem Sign_is (va : Value) (L : Nat) (X s : Int) (w : World) (hL : L ≤ 4000000000) (ha : Num w va L X) (h : X.sign = s) :
    Calls Try.prog 16 #[va] w fun e w' => e = .returned (.int .i64 s) ∧ Below w.heap.size w w' := by
  have := Sign_any va L X w hL ha
  rw [h] at this; exact this
theorem fmod_sign {X Y : Int} (h : Y ≠ 0) (h0 : X.fmod Y ≠ 0) : (X.fmod Y).sign = Y.sign := by
  rcases Int.lt_or_gt_of_ne h with hy | hy
  · have := (Int.fdiv_fmod_unique' (a := X) (r := X.fmod Y) (q := X.fdiv Y) hy).1 ⟨rfl, rfl⟩
    rw [Int.sign_eq_neg_one_of_neg hy, Int.sign_eq_neg_one_of_neg (by omega)]
  · have := (Int.fdiv_fmod_unique (a := X) (r := X.fmod Y) (q := X.fdiv Y) hy).1 ⟨rfl, rfl⟩
    rw [Int.sign_eq_one_of_pos hy, Int.sign_eq_one_of_pos (by omega)]
theorem fmod_abs {X Y : Int} (h : Y ≠ 0) : ((X.fmod Y).natAbs : Int) < (Y.natAbs : Int) := by
  rcases Int.lt_or_gt_of_ne h with hy | hy
  · have := (Int.fdiv_fmod_unique' (a := X) (r := X.fmod Y) (q := X.fdiv Y) hy).1 ⟨rfl, rfl⟩
    omega
  · have := (Int.fdiv_fmod_unique (a := X) (r := X.fmod Y) (q := X.fdiv Y) hy).1 ⟨rfl, rfl⟩
    omega
theorem sign_ne {X : Int} (h : X ≠ 0) : (X.sign == 0) = false := by
  rcases Int.lt_or_gt_of_ne h with hy | hy
  · rw [Int.sign_eq_neg_one_of_neg hy]; rfl
  · rw [Int.sign_eq_one_of_pos hy]; rfl
end Go.Proofs.Ytjciefoademlnaa
/- The statement NumOrders, walked. -/
namespace Go.Proofs.Ytjciefoademlnaa
open Go.RowKit Go.MagM
theorem icmp_sub (X Y : Int) : (X - Y).sign = icmp X Y := by
  rcases Int.lt_trichotomy X Y with h | h | h
  · rw [icmp_lt h, Int.sign_eq_neg_one_of_neg (by omega)]
  · rw [h, icmp_self, Int.sub_self, Int.sign_zero]
  · rw [icmp_gt h, Int.sign_eq_one_of_pos (by omega)]
theorem icmp_flip (X Y : Int) : icmp Y X = -icmp X Y := by
  rcases Int.lt_trichotomy X Y with h | h | h
  · rw [icmp_lt h, icmp_gt h]; rfl
  · rw [h, icmp_self]; rfl
  · rw [icmp_gt h, icmp_lt h]
theorem icmp_add (X Y Z : Int) : icmp (X + Z) (Y + Z) = icmp X Y := by
  rcases Int.lt_trichotomy X Y with h | h | h
  · rw [icmp_lt h, icmp_lt (by omega)]
  · rw [h, icmp_self, icmp_self]
  · rw [icmp_gt h, icmp_gt (by omega)]
theorem icmp_three (X Y : Int) : icmp X Y = -1 ∨ icmp X Y = 0 ∨ icmp X Y = 1 := by have := icmp_bd X Y; omega
theorem icmp_ge {X Y : Int} : icmp X Y = 0 ∨ icmp X Y = 1 → Y ≤ X := by
  intro h
  rcases Int.lt_trichotomy X Y with g | g | g
  · rw [icmp_lt g] at h; omega
  · omega
  · omega
theorem ge_icmp {X Y : Int} (h : Y ≤ X) : 0 ≤ icmp X Y := by
  rcases Int.lt_or_eq_of_le h with g | g
  · rw [icmp_gt g]; omega
  · rw [g, icmp_self]; omega
theorem nCmp_is (va vb : Value) (L L' : Nat) (X Y c : Int) (w : World) (hL : L ≤ 4000000000) (hL' : L' ≤ 4000000000) (ha : Num w va L X) (hb : Num w vb L' Y) (h : icmp X Y = c) :
    Calls Try.prog 13 #[va, vb] w fun e w' => e = .returned (.int .i64 c) ∧ Below w.heap.size w w' := by
  have := nCmp_any va vb L L' X Y w hL hL' ha hb
  rw [h] at this; exact this
theorem num_parts {w : World} {m : Bool} {vm : Value} {L : Nat} {X : Int} (h : Num w (.agg #[.bool m, vm]) L X) : ∃ N, Mag w vm L N ∧ X = sgn m N := by
  obtain ⟨m', vm', N, he, hm, hx⟩ := h
  simp at he
  obtain ⟨rfl, rfl⟩ := he
  exact ⟨N, hm, hx⟩
end Go.Proofs.Ytjciefoademlnaa
/- Sums of two and three, and of none. -/
namespace Go.Proofs.Ytjciefoademlnaa
open Go.RowKit Go.MagM
theorem nums_two (w : World) (T : TypeId) {L1 L2 : Nat} {X Y : Int} {m1 m2 : Bool} {o1 o2 : Option Addr} {n1 c1 n2 c2 : Nat} (h1 : Num w (.agg #[.bool m1, .slice o1 n1 c1]) L1 X) (h2 : Num w (.agg #[.bool m2, .slice o2 n2 c2]) L2 Y) :
    Nums (w.alloc (.cells #[.bool m1, .slice o1 n1 c1, .bool m2, .slice o2 n2 c2] T)) (some ⟨w.heap.size, 0, none⟩) [(L1, X), (L2, Y)] := by
  have hb : Below w.heap.size w (w.alloc (.cells #[.bool m1, .slice o1 n1 c1, .bool m2, .slice o2 n2 c2] T)) := (Below.refl _ _).alloc (Nat.le_refl _) _
  intro i L Z hi
  have hi2 : i < 2 := by have := (List.getElem?_eq_some_iff.1 hi).1; simpa using this
  obtain rfl | rfl : i = 0 ∨ i = 1 := by omega
  · simp at hi; obtain ⟨rfl, rfl⟩ := hi
    exact ⟨_, 0, m1, o1, n1, c1, rfl, by simp [go_sem], by simp [go_sem], h1.below hb⟩
  · simp at hi; obtain ⟨rfl, rfl⟩ := hi
    exact ⟨_, 0, m2, o2, n2, c2, rfl, by simp [go_sem], by simp [go_sem], h2.below hb⟩
theorem nums_three (w : World) (T : TypeId) {L1 L2 L3 : Nat} {X Y Z : Int} {m1 m2 m3 : Bool} {o1 o2 o3 : Option Addr} {n1 c1 n2 c2 n3 c3 : Nat} (h1 : Num w (.agg #[.bool m1, .slice o1 n1 c1]) L1 X) (h2 : Num w (.agg #[.bool m2, .slice o2 n2 c2]) L2 Y) (h3 : Num w (.agg #[.bool m3, .slice o3 n3 c3]) L3 Z) :
    Nums (w.alloc (.cells #[.bool m1, .slice o1 n1 c1, .bool m2, .slice o2 n2 c2, .bool m3, .slice o3 n3 c3] T)) (some ⟨w.heap.size, 0, none⟩) [(L1, X), (L2, Y), (L3, Z)] := by
  have hb : Below w.heap.size w (w.alloc (.cells #[.bool m1, .slice o1 n1 c1, .bool m2, .slice o2 n2 c2, .bool m3, .slice o3 n3 c3] T)) := (Below.refl _ _).alloc (Nat.le_refl _) _
  intro i L Z hi
  have hi2 : i < 3 := by have := (List.getElem?_eq_some_iff.1 hi).1; simpa using this
  obtain rfl | rfl | rfl : i = 0 ∨ i = 1 ∨ i = 2 := by omega
  · simp at hi; obtain ⟨rfl, rfl⟩ := hi
    exact ⟨_, 0, m1, o1, n1, c1, rfl, by simp [go_sem], by simp [go_sem], h1.below hb⟩
  · simp at hi; obtain ⟨rfl, rfl⟩ := hi
    exact ⟨_, 0, m2, o2, n2, c2, rfl, by simp [go_sem], by simp [go_sem], h2.below hb⟩
  · simp at hi; obtain ⟨rfl, rfl⟩ := hi
    exact ⟨_, 0, m3, o3, n3, c3, rfl, by simp [go_sem], by simp [go_sem], h3.below hb⟩
theorem sum_two (ao : Option Addr) (c L1 L2 : Nat) (X Y : Int) (w : World) (h1 : L1 ≤ 1000000000) (h2 : L2 ≤ 1000000000) (h : Nums w ao [(L1, X), (L2, Y)]) :
    Calls Try.prog 29 #[.slice ao 2 c] w fun e w' => AnsNum w w' e (max L1 L2 + 2) (X + Y) := by
  refine (Sum_go ao 2 c _ w rfl (by omega) (fun L Z hm => ?_) h).mono fun e w' g => g.of ?_ ?_
  · simp at hm; omega
  · simp [sumLen]; omega
  · simp [sumVal]
theorem sum_three (ao : Option Addr) (c L1 L2 L3 : Nat) (X Y Z : Int) (w : World) (h1 : L1 ≤ 1000000000) (h2 : L2 ≤ 1000000000) (h3 : L3 ≤ 1000000000) (h : Nums w ao [(L1, X), (L2, Y), (L3, Z)]) :
    Calls Try.prog 29 #[.slice ao 3 c] w fun e w' => AnsNum w w' e (max L1 (max L2 L3) + 3) (X + Y + Z) := by
  refine (Sum_go ao 3 c _ w rfl (by omega) (fun L Z hm => ?_) h).mono fun e w' g => g.of ?_ ?_
  · simp at hm; omega
  · simp [sumLen]; omega
  · simp [sumVal, Int.add_assoc]
theorem sum_none (w : World) : Calls Try.prog 29 #[.slice none 0 0] w fun e w' => AnsNum w w' e 0 0 := by
  refine (Sum_go none 0 0 [] w rfl (by omega) (fun L Z hm => by cases hm) (fun i L X hi => by simp at hi)).mono fun e w' g => g.of ?_ ?_
  · simp [sumLen]
  · simp [sumVal]
theorem box_lt {w : World} {g : Nat} {u v : Value} (h : Box2 w g u v) : g < w.heap.size := World.block_lt_of_cell? w ⟨g, 0, none⟩ h.c0
theorem Nums.drew {w : World} {ao : Option Addr} {l : List (Nat × Int)} (h : Nums w ao l) : Nums w.drew ao l := h
end Go.Proofs.Ytjciefoademlnaa
/- The calls of pred: Circle. -/
namespace Go.Proofs.Ytjciefoademlnaa
open Go.RowKit Go.MagM
theorem nums3_box {w : World} {g : Nat} {L1 L2 L3 : Nat} {X Y Z : Int} {m1 m2 m3 : Bool} {o1 o2 o3 : Option Addr} {n1 c1 n2 c2 n3 c3 : Nat} (h : Box w g [.bool m1, .slice o1 n1 c1, .bool m2, .slice o2 n2 c2, .bool m3, .slice o3 n3 c3])
    (h1 : Num w (.agg #[.bool m1, .slice o1 n1 c1]) L1 X) (h2 : Num w (.agg #[.bool m2, .slice o2 n2 c2]) L2 Y) (h3 : Num w (.agg #[.bool m3, .slice o3 n3 c3]) L3 Z) :
    Nums w (some ⟨g, 0, none⟩) [(L1, X), (L2, Y), (L3, Z)] := by
  intro i L Z hi
  have hi2 : i < 3 := by have := (List.getElem?_eq_some_iff.1 hi).1; simpa using this
  obtain rfl | rfl | rfl : i = 0 ∨ i = 1 ∨ i = 2 := by omega
  · simp at hi; obtain ⟨rfl, rfl⟩ := hi
    exact ⟨_, 0, m1, o1, n1, c1, rfl, h.c0, h.c1, h1⟩
  · simp at hi; obtain ⟨rfl, rfl⟩ := hi
    exact ⟨_, 0, m2, o2, n2, c2, rfl, h.c2, h.c3, h2⟩
  · simp at hi; obtain ⟨rfl, rfl⟩ := hi
    exact ⟨_, 0, m3, o3, n3, c3, rfl, h.c4, h.c5, h3⟩
theorem Sign_named (va : Value) (L : Nat) (X s : Int) (w : World) (hL : L ≤ 4000000000) (ha : Num w va L X) (h : X.sign = s) :
    Calls Try.prog 16 #[va] w fun e w' => e = .returned (.int .i64 s) ∧ Below w.heap.size w w' := by
  subst h; exact Sign_any va L X w hL ha
theorem Cmp_named (va vb : Value) (L L' : Nat) (X Y s : Int) (w : World) (hL : L ≤ 4000000000) (hL' : L' ≤ 4000000000) (ha : Num w va L X) (hb : Num w vb L' Y) (h : icmp X Y = s) :
    Calls Try.prog 13 #[va, vb] w fun e w' => e = .returned (.int .i64 s) ∧ Below w.heap.size w w' := by
  subst h; exact nCmp_any va vb L L' X Y w hL hL' ha hb
set_option maxHeartbeats 16000000 in
theorem Circle_w (a0 a1 b0 b1 v0 v1 u0 u1 : Int) (D0 A0 D1 A1 D2 A2 t : Int) (k0 : ∀ w, Calls Try.prog 25 #[.agg #[.int .i64 a0, .int .i64 a1], .agg #[.int .i64 u0, .int .i64 u1]] w fun e w' => AnsNum w w' e 2 D0) (k1 : ∀ w, Calls Try.prog 12 #[.agg #[.int .i64 u0, .int .i64 u1], .agg #[.int .i64 b0, .int .i64 b1], .agg #[.int .i64 v0, .int .i64 v1]] w fun e w' => AnsNum w w' e 2 A0) (k3 : ∀ w, Calls Try.prog 25 #[.agg #[.int .i64 b0, .int .i64 b1], .agg #[.int .i64 u0, .int .i64 u1]] w fun e w' => AnsNum w w' e 2 D1) (k4 : ∀ w, Calls Try.prog 12 #[.agg #[.int .i64 u0, .int .i64 u1], .agg #[.int .i64 v0, .int .i64 v1], .agg #[.int .i64 a0, .int .i64 a1]] w fun e w' => AnsNum w w' e 2 A1) (k6 : ∀ w, Calls Try.prog 25 #[.agg #[.int .i64 v0, .int .i64 v1], .agg #[.int .i64 u0, .int .i64 u1]] w fun e w' => AnsNum w w' e 2 D2) (k7 : ∀ w, Calls Try.prog 12 #[.agg #[.int .i64 u0, .int .i64 u1], .agg #[.int .i64 a0, .int .i64 a1], .agg #[.int .i64 b0, .int .i64 b1]] w fun e w' => AnsNum w w' e 2 A2) (ht : (D0 * A0 + D1 * A1 + D2 * A2).sign = t) (w : World) :
    Calls Try.prog 17 #[.agg #[.int .i64 a0, .int .i64 a1], .agg #[.int .i64 b0, .int .i64 b1], .agg #[.int .i64 v0, .int .i64 v1], .agg #[.int .i64 u0, .int .i64 u1]] w fun e w' => e = .returned (.int .i64 t) ∧ Below w.heap.size w w' := by
  have hB_0 := Below.refl w.heap.size w
  have K0 := Lib.hid k0; have K1 := Lib.hid k1; have K3 := Lib.hid k3; have K4 := Lib.hid k4; have K6 := Lib.hid k6; have K7 := Lib.hid k7; have HT := Lib.hid ht
  clear k0 k1 k3 k4 k6 k7 ht
  obtain ⟨w1, hw1, pa_0, hb1, hs1⟩ := new_box w (w.heap.size) rfl [.int .i64 a0, .int .i64 a1] 23
  have hb1' : Below w.heap.size w w1 := hb1.mono (by omega)
  clear hb1
  have hB_1 := hB_0.trans (hb1'.mono hB_0.size)
  clear hb1' hB_0
  obtain ⟨w2, hw2, pb_0, hb2, hs2⟩ := new_box w1 (w.heap.size + 1) hs1 [.int .i64 b0, .int .i64 b1] 23
  have hb2' : Below w1.heap.size w1 w2 := hb2.mono (by omega)
  clear hb2
  have hB_2 := hB_1.trans (hb2'.mono hB_1.size)
  have pa_1 := pa_0.below hb2'
  clear hb2' hB_1 pa_0
  obtain ⟨w3, hw3, pv_0, hb3, hs3⟩ := new_box w2 (w.heap.size + 1 + 1) hs2 [.int .i64 v0, .int .i64 v1] 23
  have hb3' : Below w2.heap.size w2 w3 := hb3.mono (by omega)
  clear hb3
  have hB_3 := hB_2.trans (hb3'.mono hB_2.size)
  have pa_2 := pa_1.below hb3'
  have pb_1 := pb_0.below hb3'
  clear hb3' hB_2 pa_1 pb_0
  obtain ⟨w4, hw4, pu_0, hb4, hs4⟩ := new_box w3 (w.heap.size + 1 + 1 + 1) hs3 [.int .i64 u0, .int .i64 u1] 23
  have hb4' : Below w3.heap.size w3 w4 := hb4.mono (by omega)
  clear hb4
  have hB_4 := hB_3.trans (hb4'.mono hB_3.size)
  have pa_3 := pa_2.below hb4'
  have pb_2 := pb_1.below hb4'
  have pv_1 := pv_0.below hb4'
  clear hb4' hB_3 pa_2 pb_1 pv_0
  go_enter Try.func17, Try.ntmps17
  obtain ⟨pae0, pae1, pae2, pae3⟩ := pa_3.open2
  obtain ⟨pbe0, pbe1, pbe2, pbe3⟩ := pb_2.open2
  obtain ⟨pve0, pve1, pve2, pve3⟩ := pv_1.open2
  obtain ⟨pue0, pue1, pue2, pue3⟩ := pu_0.open2
  go_wp2
  clear pae0 pae1 pae2 pae3 pbe0 pbe1 pbe2 pbe3 pve0 pve1 pve2 pve3 pue0 pue1 pue2 pue3
  have hWq_0 := Below.refl w4.heap.size w4
  have hsq : w.heap.size ≤ w4.heap.size := hB_4.size
  have hlqpa := pa_3.lt
  have hlqpb := pb_2.lt
  have hlqpv := pv_1.lt
  have hlqpu := pu_0.lt
  have hB_5 := hB_4.drew'
  have pa_4 := pa_3.drew
  have pb_3 := pb_2.drew
  have pv_2 := pv_1.drew
  have pu_1 := pu_0.drew
  have hWq_1 := hWq_0.drew'
  clear hB_4 pa_3 pb_2 pv_1 pu_0 hWq_0
  refine wp_region_noPanic ?_
  refine wp_region_held_drew (S := fun w' => w'.cell? ⟨w.heap.size, 0, none⟩ = some (.int .i64 a0) ∧ w'.cell? ⟨w.heap.size, 1, none⟩ = some (.int .i64 a1) ∧ w'.cell? ⟨w.heap.size + 1, 0, none⟩ = some (.int .i64 b0) ∧ w'.cell? ⟨w.heap.size + 1, 1, none⟩ = some (.int .i64 b1) ∧ w'.cell? ⟨w.heap.size + 1 + 1, 0, none⟩ = some (.int .i64 v0) ∧ w'.cell? ⟨w.heap.size + 1 + 1, 1, none⟩ = some (.int .i64 v1) ∧ w'.cell? ⟨w.heap.size + 1 + 1 + 1, 0, none⟩ = some (.int .i64 u0) ∧ w'.cell? ⟨w.heap.size + 1 + 1 + 1, 1, none⟩ = some (.int .i64 u1)) (by kernel_rfl) (⟨pa_4.c0, pa_4.c1, pb_3.c0, pb_3.c1, pv_2.c0, pv_2.c1, pu_1.c0, pu_1.c1⟩) (fun hHeld => ?_)
  refine reg_take 0 ?_ ?_ ?_ (by kernel_rfl) (by kernel_rfl) (by kernel_rfl) (fun _ _ _ h => h) ?_ ?_ (by assumption) ?_
  rotate_left 2
  · simp only [List.getElem?_toArray, List.getElem?_cons_zero]; exact rfl
  · rfl
  · intro w hSw; (try dsimp only at hSw); go_simp; try with_reducible rfl
  try simp only [Act.put]
  try simp only [List.setIfInBounds_toArray, List.set_cons_zero, List.set_cons_succ]
  refine reg_take 1 ?_ ?_ ?_ (by kernel_rfl) (by kernel_rfl) (by kernel_rfl) (fun _ _ _ h => h) ?_ ?_ (by assumption) ?_
  rotate_left 2
  · simp only [List.getElem?_toArray, List.getElem?_cons_succ, List.getElem?_cons_zero]; exact rfl
  · rfl
  · intro w hSw; (try dsimp only at hSw); go_simp; try with_reducible rfl
  try simp only [Act.put]
  try simp only [List.setIfInBounds_toArray, List.set_cons_zero, List.set_cons_succ]
  refine reg_take 3 ?_ ?_ ?_ (by kernel_rfl) (by kernel_rfl) (by kernel_rfl) (fun _ _ _ h => h) ?_ ?_ (by assumption) ?_
  rotate_left 2
  · simp only [List.getElem?_toArray, List.getElem?_cons_succ, List.getElem?_cons_zero]; exact rfl
  · rfl
  · intro w hSw; (try dsimp only at hSw); go_simp; try with_reducible rfl
  try simp only [Act.put]
  try simp only [List.setIfInBounds_toArray, List.set_cons_zero, List.set_cons_succ]
  refine reg_take 4 ?_ ?_ ?_ (by kernel_rfl) (by kernel_rfl) (by kernel_rfl) (fun _ _ _ h => h) ?_ ?_ (by assumption) ?_
  rotate_left 2
  · simp only [List.getElem?_toArray, List.getElem?_cons_succ, List.getElem?_cons_zero]; exact rfl
  · rfl
  · intro w hSw; (try dsimp only at hSw); go_simp; try with_reducible rfl
  try simp only [Act.put]
  try simp only [List.setIfInBounds_toArray, List.set_cons_zero, List.set_cons_succ]
  refine reg_take 5 ?_ ?_ ?_ (by kernel_rfl) (by kernel_rfl) (by kernel_rfl) (fun _ _ _ h => h) ?_ ?_ (by assumption) ?_
  rotate_left 2
  · simp only [List.getElem?_toArray, List.getElem?_cons_succ, List.getElem?_cons_zero]; exact rfl
  · rfl
  · intro w hSw; (try dsimp only at hSw); go_simp; try with_reducible rfl
  try simp only [Act.put]
  try simp only [List.setIfInBounds_toArray, List.set_cons_zero, List.set_cons_succ]
  refine reg_take 8 ?_ ?_ ?_ (by kernel_rfl) (by kernel_rfl) (by kernel_rfl) (fun _ _ _ h => h) ?_ ?_ (by assumption) ?_
  rotate_left 2
  · simp only [List.getElem?_toArray, List.getElem?_cons_succ, List.getElem?_cons_zero]; exact rfl
  · rfl
  · intro w hSw; (try dsimp only at hSw); go_simp; try with_reducible rfl
  try simp only [Act.put]
  try simp only [List.setIfInBounds_toArray, List.set_cons_zero, List.set_cons_succ]
  refine reg_take 9 ?_ ?_ ?_ (by kernel_rfl) (by kernel_rfl) (by kernel_rfl) (fun _ _ _ h => h) ?_ ?_ (by assumption) ?_
  rotate_left 2
  · simp only [List.getElem?_toArray, List.getElem?_cons_succ, List.getElem?_cons_zero]; exact rfl
  · rfl
  · intro w hSw; (try dsimp only at hSw); go_simp; try with_reducible rfl
  try simp only [Act.put]
  try simp only [List.setIfInBounds_toArray, List.set_cons_zero, List.set_cons_succ]
  refine reg_take 11 ?_ ?_ ?_ (by kernel_rfl) (by kernel_rfl) (by kernel_rfl) (fun _ _ _ h => h) ?_ ?_ (by assumption) ?_
  rotate_left 2
  · simp only [List.getElem?_toArray, List.getElem?_cons_succ, List.getElem?_cons_zero]; exact rfl
  · rfl
  · intro w hSw; (try dsimp only at hSw); go_simp; try with_reducible rfl
  try simp only [Act.put]
  try simp only [List.setIfInBounds_toArray, List.set_cons_zero, List.set_cons_succ]
  refine reg_take 12 ?_ ?_ ?_ (by kernel_rfl) (by kernel_rfl) (by kernel_rfl) (fun _ _ _ h => h) ?_ ?_ (by assumption) ?_
  rotate_left 2
  · simp only [List.getElem?_toArray, List.getElem?_cons_succ, List.getElem?_cons_zero]; exact rfl
  · rfl
  · intro w hSw; (try dsimp only at hSw); go_simp; try with_reducible rfl
  try simp only [Act.put]
  try simp only [List.setIfInBounds_toArray, List.set_cons_zero, List.set_cons_succ]
  refine reg_take 13 ?_ ?_ ?_ (by kernel_rfl) (by kernel_rfl) (by kernel_rfl) (fun _ _ _ h => h) ?_ ?_ (by assumption) ?_
  rotate_left 2
  · simp only [List.getElem?_toArray, List.getElem?_cons_succ, List.getElem?_cons_zero]; exact rfl
  · rfl
  · intro w hSw; (try dsimp only at hSw); go_simp; try with_reducible rfl
  try simp only [Act.put]
  try simp only [List.setIfInBounds_toArray, List.set_cons_zero, List.set_cons_succ]
  refine reg_take 16 ?_ ?_ ?_ (by kernel_rfl) (by kernel_rfl) (by kernel_rfl) (fun _ _ _ h => h) ?_ ?_ (by assumption) ?_
  rotate_left 2
  · simp only [List.getElem?_toArray, List.getElem?_cons_succ, List.getElem?_cons_zero]; exact rfl
  · rfl
  · intro w hSw; (try dsimp only at hSw); go_simp; try with_reducible rfl
  try simp only [Act.put]
  try simp only [List.setIfInBounds_toArray, List.set_cons_zero, List.set_cons_succ]
  refine reg_take 17 ?_ ?_ ?_ (by kernel_rfl) (by kernel_rfl) (by kernel_rfl) (fun _ _ _ h => h) ?_ ?_ (by assumption) ?_
  rotate_left 2
  · simp only [List.getElem?_toArray, List.getElem?_cons_succ, List.getElem?_cons_zero]; exact rfl
  · rfl
  · intro w hSw; (try dsimp only at hSw); go_simp; try with_reducible rfl
  try simp only [Act.put]
  try simp only [List.setIfInBounds_toArray, List.set_cons_zero, List.set_cons_succ]
  refine reg_take 19 ?_ ?_ ?_ (by kernel_rfl) (by kernel_rfl) (by kernel_rfl) (fun _ _ _ h => h) ?_ ?_ (by assumption) ?_
  rotate_left 2
  · simp only [List.getElem?_toArray, List.getElem?_cons_succ, List.getElem?_cons_zero]; exact rfl
  · rfl
  · intro w hSw; (try dsimp only at hSw); go_simp; try with_reducible rfl
  try simp only [Act.put]
  try simp only [List.setIfInBounds_toArray, List.set_cons_zero, List.set_cons_succ]
  refine reg_take 20 ?_ ?_ ?_ (by kernel_rfl) (by kernel_rfl) (by kernel_rfl) (fun _ _ _ h => h) ?_ ?_ (by assumption) ?_
  rotate_left 2
  · simp only [List.getElem?_toArray, List.getElem?_cons_succ, List.getElem?_cons_zero]; exact rfl
  · rfl
  · intro w hSw; (try dsimp only at hSw); go_simp; try with_reducible rfl
  try simp only [Act.put]
  try simp only [List.setIfInBounds_toArray, List.set_cons_zero, List.set_cons_succ]
  refine reg_take 21 ?_ ?_ ?_ (by kernel_rfl) (by kernel_rfl) (by kernel_rfl) (fun _ _ _ h => h) ?_ ?_ (by assumption) ?_
  rotate_left 2
  · simp only [List.getElem?_toArray, List.getElem?_cons_succ, List.getElem?_cons_zero]; exact rfl
  · rfl
  · intro w hSw; (try dsimp only at hSw); go_simp; try with_reducible rfl
  try simp only [Act.put]
  try simp only [List.setIfInBounds_toArray, List.set_cons_zero, List.set_cons_succ]
  refine reg_grab (fun WWq aq hWW hAA => ?_)
  have HWq := Lib.hid hWW; have HAq := Lib.hid hAA; clear hWW hAA hHeld
  have stq_11t : ∀ (w' : World) (m1 : Bool) (o1 : Option Addr) (n1 : Nat) (c1 : Nat) (m2 : Bool) (o2 : Option Addr) (n2 : Nat) (c2 : Nat) (m3 : Bool) (o3 : Option Addr) (n3 : Nat) (c3 : Nat) (m4 : Bool) (o4 : Option Addr) (n4 : Nat) (c4 : Nat) (m5 : Bool) (o5 : Option Addr) (n5 : Nat) (c5 : Nat) (m6 : Bool) (o6 : Option Addr) (n6 : Nat) (c6 : Nat) (m7 : Bool) (o7 : Option Addr) (n7 : Nat) (c7 : Nat) (m8 : Bool) (o8 : Option Addr) (n8 : Nat) (c8 : Nat) (m9 : Bool) (o9 : Option Addr) (n9 : Nat) (c9 : Nat) (m10 : Bool) (o10 : Option Addr) (n10 : Nat) (c10 : Nat) (gpq : Nat), Below w.heap.size w w' → Box w' (w.heap.size) [.int .i64 a0, .int .i64 a1] → Box w' (w.heap.size + 1) [.int .i64 b0, .int .i64 b1] → Box w' (w.heap.size + 1 + 1) [.int .i64 v0, .int .i64 v1] → Box w' (w.heap.size + 1 + 1 + 1) [.int .i64 u0, .int .i64 u1] → Below w4.heap.size w4 w' → RNum w' (.agg #[.bool m1, .slice o1 n1 c1]) (2) (D0) → RNum w' (.agg #[.bool m2, .slice o2 n2 c2]) (2) (A0) → RNum w' (.agg #[.bool m3, .slice o3 n3 c3]) (4) (D0 * A0) → RNum w' (.agg #[.bool m4, .slice o4 n4 c4]) (2) (D1) → RNum w' (.agg #[.bool m5, .slice o5 n5 c5]) (2) (A1) → RNum w' (.agg #[.bool m6, .slice o6 n6 c6]) (4) (D1 * A1) → RNum w' (.agg #[.bool m7, .slice o7 n7 c7]) (2) (D2) → RNum w' (.agg #[.bool m8, .slice o8 n8 c8]) (2) (A2) → RNum w' (.agg #[.bool m9, .slice o9 n9 c9]) (4) (D2 * A2) → RNum w' (.agg #[.bool m10, .slice o10 n10 c10]) (7) (D0 * A0 + D1 * A1 + D2 * A2) → Box w' gpq [.bool m3, .slice o3 n3 c3, .bool m6, .slice o6 n6 c6, .bool m9, .slice o9 n9 c9] → w4.heap.size ≤ gpq → WWq 0 #[true, true, true, true, true, true, true, true, true, true, true, true, true, true, true, true, true, true, true, true, true, true, true, true, true, true, true, true] (((((((((((((aq.put (some 11) (.agg #[.bool m1, .slice o1 n1 c1])).put (some 15) (.agg #[.bool m2, .slice o2 n2 c2])).put (some 16) (.agg #[.bool m3, .slice o3 n3 c3])).put (some 19) (.agg #[.bool m4, .slice o4 n4 c4])).put (some 23) (.agg #[.bool m5, .slice o5 n5 c5])).put (some 24) (.agg #[.bool m6, .slice o6 n6 c6])).put (some 27) (.agg #[.bool m7, .slice o7 n7 c7])).put (some 31) (.agg #[.bool m8, .slice o8 n8 c8])).put (some 32) (.agg #[.bool m9, .slice o9 n9 c9])).put (some 33) (.slice (some ⟨gpq, 0, none⟩) 3 3)).put (some 34) (.agg #[.bool m10, .slice o10 n10 c10])).put (some 35) (.int .i64 t)).put (some 8) (.int .i64 t)) w' := by
    intro w5 m1 o1 n1 c1 m2 o2 n2 c2 m3 o3 n3 c3 m4 o4 n4 c4 m5 o5 n5 c5 m6 o6 n6 c6 m7 o7 n7 c7 m8 o8 n8 c8 m9 o9 n9 c9 m10 o10 n10 c10 gpq hB_0 pa_0 pb_0 pv_0 pu_0 hWq_0 f1_0 f2_0 f3_0 f4_0 f5_0 f6_0 f7_0 f8_0 f9_0 f10_0 pq_0 hgpq
    rw [HWq.out, HAq.out]
    try simp only [Act.put]
    try simp only [List.setIfInBounds_toArray, List.set_cons_zero, List.set_cons_succ]
    clear hWq_0
    refine wpAnyH_done (by kernel_rfl) ?_ _
    refine NoPanic.normal ?_
    go_wp2
    go_ret
    exact ⟨rfl, hB_0⟩
  simp only [HAq.out, Act.put, List.setIfInBounds_toArray, List.set_cons_zero, List.set_cons_succ] at stq_11t
  have stq_10t : ∀ (w' : World) (m1 : Bool) (o1 : Option Addr) (n1 : Nat) (c1 : Nat) (m2 : Bool) (o2 : Option Addr) (n2 : Nat) (c2 : Nat) (m3 : Bool) (o3 : Option Addr) (n3 : Nat) (c3 : Nat) (m4 : Bool) (o4 : Option Addr) (n4 : Nat) (c4 : Nat) (m5 : Bool) (o5 : Option Addr) (n5 : Nat) (c5 : Nat) (m6 : Bool) (o6 : Option Addr) (n6 : Nat) (c6 : Nat) (m7 : Bool) (o7 : Option Addr) (n7 : Nat) (c7 : Nat) (m8 : Bool) (o8 : Option Addr) (n8 : Nat) (c8 : Nat) (m9 : Bool) (o9 : Option Addr) (n9 : Nat) (c9 : Nat) (m10 : Bool) (o10 : Option Addr) (n10 : Nat) (c10 : Nat) (gpq : Nat), Below w.heap.size w w' → Box w' (w.heap.size) [.int .i64 a0, .int .i64 a1] → Box w' (w.heap.size + 1) [.int .i64 b0, .int .i64 b1] → Box w' (w.heap.size + 1 + 1) [.int .i64 v0, .int .i64 v1] → Box w' (w.heap.size + 1 + 1 + 1) [.int .i64 u0, .int .i64 u1] → Below w4.heap.size w4 w' → RNum w' (.agg #[.bool m1, .slice o1 n1 c1]) (2) (D0) → RNum w' (.agg #[.bool m2, .slice o2 n2 c2]) (2) (A0) → RNum w' (.agg #[.bool m3, .slice o3 n3 c3]) (4) (D0 * A0) → RNum w' (.agg #[.bool m4, .slice o4 n4 c4]) (2) (D1) → RNum w' (.agg #[.bool m5, .slice o5 n5 c5]) (2) (A1) → RNum w' (.agg #[.bool m6, .slice o6 n6 c6]) (4) (D1 * A1) → RNum w' (.agg #[.bool m7, .slice o7 n7 c7]) (2) (D2) → RNum w' (.agg #[.bool m8, .slice o8 n8 c8]) (2) (A2) → RNum w' (.agg #[.bool m9, .slice o9 n9 c9]) (4) (D2 * A2) → RNum w' (.agg #[.bool m10, .slice o10 n10 c10]) (7) (D0 * A0 + D1 * A1 + D2 * A2) → Box w' gpq [.bool m3, .slice o3 n3 c3, .bool m6, .slice o6 n6 c6, .bool m9, .slice o9 n9 c9] → w4.heap.size ≤ gpq → WWq 2 #[true, true, true, true, true, true, true, true, true, true, true, true, true, true, true, true, true, true, true, true, true, true, true, true, true, true, false, false] (((((((((((aq.put (some 11) (.agg #[.bool m1, .slice o1 n1 c1])).put (some 15) (.agg #[.bool m2, .slice o2 n2 c2])).put (some 16) (.agg #[.bool m3, .slice o3 n3 c3])).put (some 19) (.agg #[.bool m4, .slice o4 n4 c4])).put (some 23) (.agg #[.bool m5, .slice o5 n5 c5])).put (some 24) (.agg #[.bool m6, .slice o6 n6 c6])).put (some 27) (.agg #[.bool m7, .slice o7 n7 c7])).put (some 31) (.agg #[.bool m8, .slice o8 n8 c8])).put (some 32) (.agg #[.bool m9, .slice o9 n9 c9])).put (some 33) (.slice (some ⟨gpq, 0, none⟩) 3 3)).put (some 34) (.agg #[.bool m10, .slice o10 n10 c10])) w' := by
    intro w6 m1 o1 n1 c1 m2 o2 n2 c2 m3 o3 n3 c3 m4 o4 n4 c4 m5 o5 n5 c5 m6 o6 n6 c6 m7 o7 n7 c7 m8 o8 n8 c8 m9 o9 n9 c9 m10 o10 n10 c10 gpq hB_0 pa_0 pb_0 pv_0 pu_0 hWq_0 f1_0 f2_0 f3_0 f4_0 f5_0 f6_0 f7_0 f8_0 f9_0 f10_0 pq_0 hgpq
    rw [HWq.out, HAq.out]
    try simp only [Act.put]
    try simp only [List.setIfInBounds_toArray, List.set_cons_zero, List.set_cons_succ]
    refine reg_all1 26 ?_ (by kernel_rfl) ?_ (fun K hK => ?_)
    rotate_left 1
    · simp only [List.getElem?_toArray, List.getElem?_cons_succ, List.getElem?_cons_zero]; exact rfl
    · go_simp
      refine (Sign_named _ 7 _ t _ (by omega) f10_0.num HT.out).mono ?_
      rintro e w7 ⟨rfl, hb7⟩
      have hB_1 := hB_0.trans (hb7.mono hB_0.size)
      have pa_1 := pa_0.below hb7
      have pb_1 := pb_0.below hb7
      have pv_1 := pv_0.below hb7
      have pu_1 := pu_0.below hb7
      have hWq_1 := hWq_0.trans (hb7.mono hWq_0.size)
      have f1_1 := f1_0.below hb7
      have f2_1 := f2_0.below hb7
      have f3_1 := f3_0.below hb7
      have f4_1 := f4_0.below hb7
      have f5_1 := f5_0.below hb7
      have f6_1 := f6_0.below hb7
      have f7_1 := f7_0.below hb7
      have f8_1 := f8_0.below hb7
      have f9_1 := f9_0.below hb7
      have f10_1 := f10_0.below hb7
      have pq_1 := pq_0.below hb7
      clear hb7 hB_0 pa_0 pb_0 pv_0 pu_0 hWq_0 f1_0 f2_0 f3_0 f4_0 f5_0 f6_0 f7_0 f8_0 f9_0 f10_0 pq_0
      go_wp2_with fail
      refine hK.out _ _ ⟨pa_1.c0, pa_1.c1, pb_1.c0, pb_1.c1, pv_1.c0, pv_1.c1, pu_1.c0, pu_1.c1⟩ (fun hHeld => ?_)
      clear hK K
      try simp only [Act.put]
      try simp only [List.setIfInBounds_toArray, List.set_cons_zero, List.set_cons_succ]
      refine reg_take 27 ?_ ?_ ?_ (by kernel_rfl) (by kernel_rfl) (by kernel_rfl) (fun _ _ _ h => h) ?_ ?_ (by assumption) ?_
      rotate_left 2
      · simp only [List.getElem?_toArray, List.getElem?_cons_succ, List.getElem?_cons_zero]; exact rfl
      · rfl
      · intro w hSw; (try dsimp only at hSw); go_simp; try with_reducible rfl
      try simp only [Act.put]
      try simp only [List.setIfInBounds_toArray, List.set_cons_zero, List.set_cons_succ]
      rw [← HWq.out]
      exact stq_11t _ m1 o1 n1 c1 m2 o2 n2 c2 m3 o3 n3 c3 m4 o4 n4 c4 m5 o5 n5 c5 m6 o6 n6 c6 m7 o7 n7 c7 m8 o8 n8 c8 m9 o9 n9 c9 m10 o10 n10 c10 gpq hB_1 pa_1 pb_1 pv_1 pu_1 hWq_1 f1_1 f2_1 f3_1 f4_1 f5_1 f6_1 f7_1 f8_1 f9_1 f10_1 pq_1 (by omega)
  try simp only [HAq.out, Act.put, List.setIfInBounds_toArray, List.set_cons_zero, List.set_cons_succ] at stq_10t
  have stq_9t : ∀ (w' : World) (m1 : Bool) (o1 : Option Addr) (n1 : Nat) (c1 : Nat) (m2 : Bool) (o2 : Option Addr) (n2 : Nat) (c2 : Nat) (m3 : Bool) (o3 : Option Addr) (n3 : Nat) (c3 : Nat) (m4 : Bool) (o4 : Option Addr) (n4 : Nat) (c4 : Nat) (m5 : Bool) (o5 : Option Addr) (n5 : Nat) (c5 : Nat) (m6 : Bool) (o6 : Option Addr) (n6 : Nat) (c6 : Nat) (m7 : Bool) (o7 : Option Addr) (n7 : Nat) (c7 : Nat) (m8 : Bool) (o8 : Option Addr) (n8 : Nat) (c8 : Nat) (m9 : Bool) (o9 : Option Addr) (n9 : Nat) (c9 : Nat) (gpq : Nat), Below w.heap.size w w' → Box w' (w.heap.size) [.int .i64 a0, .int .i64 a1] → Box w' (w.heap.size + 1) [.int .i64 b0, .int .i64 b1] → Box w' (w.heap.size + 1 + 1) [.int .i64 v0, .int .i64 v1] → Box w' (w.heap.size + 1 + 1 + 1) [.int .i64 u0, .int .i64 u1] → Below w4.heap.size w4 w' → RNum w' (.agg #[.bool m1, .slice o1 n1 c1]) (2) (D0) → RNum w' (.agg #[.bool m2, .slice o2 n2 c2]) (2) (A0) → RNum w' (.agg #[.bool m3, .slice o3 n3 c3]) (4) (D0 * A0) → RNum w' (.agg #[.bool m4, .slice o4 n4 c4]) (2) (D1) → RNum w' (.agg #[.bool m5, .slice o5 n5 c5]) (2) (A1) → RNum w' (.agg #[.bool m6, .slice o6 n6 c6]) (4) (D1 * A1) → RNum w' (.agg #[.bool m7, .slice o7 n7 c7]) (2) (D2) → RNum w' (.agg #[.bool m8, .slice o8 n8 c8]) (2) (A2) → RNum w' (.agg #[.bool m9, .slice o9 n9 c9]) (4) (D2 * A2) → Box w' gpq [.bool m3, .slice o3 n3 c3, .bool m6, .slice o6 n6 c6, .bool m9, .slice o9 n9 c9] → w4.heap.size ≤ gpq → WWq 3 #[true, true, true, true, true, true, true, true, true, true, true, true, true, true, true, true, true, true, true, true, true, true, true, true, true, false, false, false] ((((((((((aq.put (some 11) (.agg #[.bool m1, .slice o1 n1 c1])).put (some 15) (.agg #[.bool m2, .slice o2 n2 c2])).put (some 16) (.agg #[.bool m3, .slice o3 n3 c3])).put (some 19) (.agg #[.bool m4, .slice o4 n4 c4])).put (some 23) (.agg #[.bool m5, .slice o5 n5 c5])).put (some 24) (.agg #[.bool m6, .slice o6 n6 c6])).put (some 27) (.agg #[.bool m7, .slice o7 n7 c7])).put (some 31) (.agg #[.bool m8, .slice o8 n8 c8])).put (some 32) (.agg #[.bool m9, .slice o9 n9 c9])).put (some 33) (.slice (some ⟨gpq, 0, none⟩) 3 3)) w' := by
    intro w8 m1 o1 n1 c1 m2 o2 n2 c2 m3 o3 n3 c3 m4 o4 n4 c4 m5 o5 n5 c5 m6 o6 n6 c6 m7 o7 n7 c7 m8 o8 n8 c8 m9 o9 n9 c9 gpq hB_0 pa_0 pb_0 pv_0 pu_0 hWq_0 f1_0 f2_0 f3_0 f4_0 f5_0 f6_0 f7_0 f8_0 f9_0 pq_0 hgpq
    rw [HWq.out, HAq.out]
    try simp only [Act.put]
    try simp only [List.setIfInBounds_toArray, List.set_cons_zero, List.set_cons_succ]
    refine reg_all1 25 ?_ (by kernel_rfl) ?_ (fun K hK => ?_)
    rotate_left 1
    · simp only [List.getElem?_toArray, List.getElem?_cons_succ, List.getElem?_cons_zero]; exact rfl
    · go_simp
      refine (sum_three (some ⟨gpq, 0, none⟩) 3 4 4 4 _ _ _ _ (by omega) (by omega) (by omega) (nums3_box pq_0 f3_0.num f6_0.num f9_0.num)).mono ?_
      rintro e w9 ⟨m10, o10, n10, c10, rfl, f10_0, hb9⟩
      have hB_1 := hB_0.trans (hb9.mono hB_0.size)
      have pa_1 := pa_0.below hb9
      have pb_1 := pb_0.below hb9
      have pv_1 := pv_0.below hb9
      have pu_1 := pu_0.below hb9
      have hWq_1 := hWq_0.trans (hb9.mono hWq_0.size)
      have f1_1 := f1_0.below hb9
      have f2_1 := f2_0.below hb9
      have f3_1 := f3_0.below hb9
      have f4_1 := f4_0.below hb9
      have f5_1 := f5_0.below hb9
      have f6_1 := f6_0.below hb9
      have f7_1 := f7_0.below hb9
      have f8_1 := f8_0.below hb9
      have f9_1 := f9_0.below hb9
      have pq_1 := pq_0.below hb9
      clear hb9 hB_0 pa_0 pb_0 pv_0 pu_0 hWq_0 f1_0 f2_0 f3_0 f4_0 f5_0 f6_0 f7_0 f8_0 f9_0 pq_0
      go_wp2_with fail
      refine hK.out _ _ ⟨pa_1.c0, pa_1.c1, pb_1.c0, pb_1.c1, pv_1.c0, pv_1.c1, pu_1.c0, pu_1.c1⟩ (fun hHeld => ?_)
      clear hK K
      try simp only [Act.put]
      try simp only [List.setIfInBounds_toArray, List.set_cons_zero, List.set_cons_succ]
      rw [← HWq.out]
      exact stq_10t _ m1 o1 n1 c1 m2 o2 n2 c2 m3 o3 n3 c3 m4 o4 n4 c4 m5 o5 n5 c5 m6 o6 n6 c6 m7 o7 n7 c7 m8 o8 n8 c8 m9 o9 n9 c9 m10 o10 n10 c10 gpq hB_1 pa_1 pb_1 pv_1 pu_1 hWq_1 f1_1 f2_1 f3_1 f4_1 f5_1 f6_1 f7_1 f8_1 f9_1 f10_0 pq_1 (by omega)
  try simp only [HAq.out, Act.put, List.setIfInBounds_toArray, List.set_cons_zero, List.set_cons_succ] at stq_9t
  have stq_9f : ∀ (w' : World) (m1 : Bool) (o1 : Option Addr) (n1 : Nat) (c1 : Nat) (m2 : Bool) (o2 : Option Addr) (n2 : Nat) (c2 : Nat) (m3 : Bool) (o3 : Option Addr) (n3 : Nat) (c3 : Nat) (m4 : Bool) (o4 : Option Addr) (n4 : Nat) (c4 : Nat) (m5 : Bool) (o5 : Option Addr) (n5 : Nat) (c5 : Nat) (m6 : Bool) (o6 : Option Addr) (n6 : Nat) (c6 : Nat) (m7 : Bool) (o7 : Option Addr) (n7 : Nat) (c7 : Nat) (m8 : Bool) (o8 : Option Addr) (n8 : Nat) (c8 : Nat) (m9 : Bool) (o9 : Option Addr) (n9 : Nat) (c9 : Nat), Below w.heap.size w w' → Box w' (w.heap.size) [.int .i64 a0, .int .i64 a1] → Box w' (w.heap.size + 1) [.int .i64 b0, .int .i64 b1] → Box w' (w.heap.size + 1 + 1) [.int .i64 v0, .int .i64 v1] → Box w' (w.heap.size + 1 + 1 + 1) [.int .i64 u0, .int .i64 u1] → Below w4.heap.size w4 w' → RNum w' (.agg #[.bool m1, .slice o1 n1 c1]) (2) (D0) → RNum w' (.agg #[.bool m2, .slice o2 n2 c2]) (2) (A0) → RNum w' (.agg #[.bool m3, .slice o3 n3 c3]) (4) (D0 * A0) → RNum w' (.agg #[.bool m4, .slice o4 n4 c4]) (2) (D1) → RNum w' (.agg #[.bool m5, .slice o5 n5 c5]) (2) (A1) → RNum w' (.agg #[.bool m6, .slice o6 n6 c6]) (4) (D1 * A1) → RNum w' (.agg #[.bool m7, .slice o7 n7 c7]) (2) (D2) → RNum w' (.agg #[.bool m8, .slice o8 n8 c8]) (2) (A2) → RNum w' (.agg #[.bool m9, .slice o9 n9 c9]) (4) (D2 * A2) → WWq 4 #[true, true, true, true, true, true, true, true, true, true, true, true, true, true, true, true, true, true, true, true, true, true, true, true, false, false, false, false] (((((((((aq.put (some 11) (.agg #[.bool m1, .slice o1 n1 c1])).put (some 15) (.agg #[.bool m2, .slice o2 n2 c2])).put (some 16) (.agg #[.bool m3, .slice o3 n3 c3])).put (some 19) (.agg #[.bool m4, .slice o4 n4 c4])).put (some 23) (.agg #[.bool m5, .slice o5 n5 c5])).put (some 24) (.agg #[.bool m6, .slice o6 n6 c6])).put (some 27) (.agg #[.bool m7, .slice o7 n7 c7])).put (some 31) (.agg #[.bool m8, .slice o8 n8 c8])).put (some 32) (.agg #[.bool m9, .slice o9 n9 c9])) w' := by
    intro w10 m1 o1 n1 c1 m2 o2 n2 c2 m3 o3 n3 c3 m4 o4 n4 c4 m5 o5 n5 c5 m6 o6 n6 c6 m7 o7 n7 c7 m8 o8 n8 c8 m9 o9 n9 c9 hB_0 pa_0 pb_0 pv_0 pu_0 hWq_0 f1_0 f2_0 f3_0 f4_0 f5_0 f6_0 f7_0 f8_0 f9_0
    rw [HWq.out, HAq.out]
    try simp only [Act.put]
    try simp only [List.setIfInBounds_toArray, List.set_cons_zero, List.set_cons_succ]
    refine reg_all1 24 ?_ (by kernel_rfl) ?_ (fun K hK => ?_)
    rotate_left 1
    · simp only [List.getElem?_toArray, List.getElem?_cons_succ, List.getElem?_cons_zero]; exact rfl
    · go_simp
      have hgn : w4.heap.size ≤ w10.heap.size := hWq_0.size
      obtain ⟨w11, hww11, pq_0, hb11, -⟩ := new_box w10 _ rfl [.bool m3, .slice o3 n3 c3, .bool m6, .slice o6 n6 c6, .bool m9, .slice o9 n9 c9] 29
      rw [hww11]
      have hB_1 := hB_0.trans (hb11.mono hB_0.size)
      have pa_1 := pa_0.below hb11
      have pb_1 := pb_0.below hb11
      have pv_1 := pv_0.below hb11
      have pu_1 := pu_0.below hb11
      have hWq_1 := hWq_0.trans (hb11.mono hWq_0.size)
      have f1_1 := f1_0.below hb11
      have f2_1 := f2_0.below hb11
      have f3_1 := f3_0.below hb11
      have f4_1 := f4_0.below hb11
      have f5_1 := f5_0.below hb11
      have f6_1 := f6_0.below hb11
      have f7_1 := f7_0.below hb11
      have f8_1 := f8_0.below hb11
      have f9_1 := f9_0.below hb11
      clear hb11 hB_0 pa_0 pb_0 pv_0 pu_0 hWq_0 f1_0 f2_0 f3_0 f4_0 f5_0 f6_0 f7_0 f8_0 f9_0
      refine hK.out _ _ ⟨pa_1.c0, pa_1.c1, pb_1.c0, pb_1.c1, pv_1.c0, pv_1.c1, pu_1.c0, pu_1.c1⟩ (fun hHeld => ?_)
      clear hK K
      try simp only [Act.put]
      try simp only [List.setIfInBounds_toArray, List.set_cons_zero, List.set_cons_succ]
      rw [← HWq.out]
      exact stq_9t _ m1 o1 n1 c1 m2 o2 n2 c2 m3 o3 n3 c3 m4 o4 n4 c4 m5 o5 n5 c5 m6 o6 n6 c6 m7 o7 n7 c7 m8 o8 n8 c8 m9 o9 n9 c9 w10.heap.size hB_1 pa_1 pb_1 pv_1 pu_1 hWq_1 f1_1 f2_1 f3_1 f4_1 f5_1 f6_1 f7_1 f8_1 f9_1 pq_0 (by omega)
  try simp only [HAq.out, Act.put, List.setIfInBounds_toArray, List.set_cons_zero, List.set_cons_succ] at stq_9f
  have stq_8f : ∀ (w' : World) (m1 : Bool) (o1 : Option Addr) (n1 : Nat) (c1 : Nat) (m2 : Bool) (o2 : Option Addr) (n2 : Nat) (c2 : Nat) (m3 : Bool) (o3 : Option Addr) (n3 : Nat) (c3 : Nat) (m4 : Bool) (o4 : Option Addr) (n4 : Nat) (c4 : Nat) (m5 : Bool) (o5 : Option Addr) (n5 : Nat) (c5 : Nat) (m6 : Bool) (o6 : Option Addr) (n6 : Nat) (c6 : Nat) (m7 : Bool) (o7 : Option Addr) (n7 : Nat) (c7 : Nat) (m8 : Bool) (o8 : Option Addr) (n8 : Nat) (c8 : Nat), Below w.heap.size w w' → Box w' (w.heap.size) [.int .i64 a0, .int .i64 a1] → Box w' (w.heap.size + 1) [.int .i64 b0, .int .i64 b1] → Box w' (w.heap.size + 1 + 1) [.int .i64 v0, .int .i64 v1] → Box w' (w.heap.size + 1 + 1 + 1) [.int .i64 u0, .int .i64 u1] → Below w4.heap.size w4 w' → RNum w' (.agg #[.bool m1, .slice o1 n1 c1]) (2) (D0) → RNum w' (.agg #[.bool m2, .slice o2 n2 c2]) (2) (A0) → RNum w' (.agg #[.bool m3, .slice o3 n3 c3]) (4) (D0 * A0) → RNum w' (.agg #[.bool m4, .slice o4 n4 c4]) (2) (D1) → RNum w' (.agg #[.bool m5, .slice o5 n5 c5]) (2) (A1) → RNum w' (.agg #[.bool m6, .slice o6 n6 c6]) (4) (D1 * A1) → RNum w' (.agg #[.bool m7, .slice o7 n7 c7]) (2) (D2) → RNum w' (.agg #[.bool m8, .slice o8 n8 c8]) (2) (A2) → WWq 5 #[true, true, true, true, true, true, true, true, true, true, true, true, true, true, true, true, true, true, true, true, true, true, true, false, false, false, false, false] ((((((((aq.put (some 11) (.agg #[.bool m1, .slice o1 n1 c1])).put (some 15) (.agg #[.bool m2, .slice o2 n2 c2])).put (some 16) (.agg #[.bool m3, .slice o3 n3 c3])).put (some 19) (.agg #[.bool m4, .slice o4 n4 c4])).put (some 23) (.agg #[.bool m5, .slice o5 n5 c5])).put (some 24) (.agg #[.bool m6, .slice o6 n6 c6])).put (some 27) (.agg #[.bool m7, .slice o7 n7 c7])).put (some 31) (.agg #[.bool m8, .slice o8 n8 c8])) w' := by
    intro w12 m1 o1 n1 c1 m2 o2 n2 c2 m3 o3 n3 c3 m4 o4 n4 c4 m5 o5 n5 c5 m6 o6 n6 c6 m7 o7 n7 c7 m8 o8 n8 c8 hB_0 pa_0 pb_0 pv_0 pu_0 hWq_0 f1_0 f2_0 f3_0 f4_0 f5_0 f6_0 f7_0 f8_0
    rw [HWq.out, HAq.out]
    try simp only [Act.put]
    try simp only [List.setIfInBounds_toArray, List.set_cons_zero, List.set_cons_succ]
    refine reg_all1 23 ?_ (by kernel_rfl) ?_ (fun K hK => ?_)
    rotate_left 1
    · simp only [List.getElem?_toArray, List.getElem?_cons_succ, List.getElem?_cons_zero]; exact rfl
    · go_simp
      refine (nMul_any _ _ 2 2 D2 A2 _ (by omega) (by omega) f7_0.num f8_0.num).mono ?_
      rintro e w13 ⟨m9, o9, n9, c9, rfl, f9_0, hb13⟩
      have hB_1 := hB_0.trans (hb13.mono hB_0.size)
      have pa_1 := pa_0.below hb13
      have pb_1 := pb_0.below hb13
      have pv_1 := pv_0.below hb13
      have pu_1 := pu_0.below hb13
      have hWq_1 := hWq_0.trans (hb13.mono hWq_0.size)
      have f1_1 := f1_0.below hb13
      have f2_1 := f2_0.below hb13
      have f3_1 := f3_0.below hb13
      have f4_1 := f4_0.below hb13
      have f5_1 := f5_0.below hb13
      have f6_1 := f6_0.below hb13
      have f7_1 := f7_0.below hb13
      have f8_1 := f8_0.below hb13
      clear hb13 hB_0 pa_0 pb_0 pv_0 pu_0 hWq_0 f1_0 f2_0 f3_0 f4_0 f5_0 f6_0 f7_0 f8_0
      go_wp2_with fail
      refine hK.out _ _ ⟨pa_1.c0, pa_1.c1, pb_1.c0, pb_1.c1, pv_1.c0, pv_1.c1, pu_1.c0, pu_1.c1⟩ (fun hHeld => ?_)
      clear hK K
      try simp only [Act.put]
      try simp only [List.setIfInBounds_toArray, List.set_cons_zero, List.set_cons_succ]
      rw [← HWq.out]
      exact stq_9f _ m1 o1 n1 c1 m2 o2 n2 c2 m3 o3 n3 c3 m4 o4 n4 c4 m5 o5 n5 c5 m6 o6 n6 c6 m7 o7 n7 c7 m8 o8 n8 c8 m9 o9 n9 c9 hB_1 pa_1 pb_1 pv_1 pu_1 hWq_1 f1_1 f2_1 f3_1 f4_1 f5_1 f6_1 f7_1 f8_1 f9_0
  try simp only [HAq.out, Act.put, List.setIfInBounds_toArray, List.set_cons_zero, List.set_cons_succ] at stq_8f
  have stq_7f : ∀ (w' : World) (m1 : Bool) (o1 : Option Addr) (n1 : Nat) (c1 : Nat) (m2 : Bool) (o2 : Option Addr) (n2 : Nat) (c2 : Nat) (m3 : Bool) (o3 : Option Addr) (n3 : Nat) (c3 : Nat) (m4 : Bool) (o4 : Option Addr) (n4 : Nat) (c4 : Nat) (m5 : Bool) (o5 : Option Addr) (n5 : Nat) (c5 : Nat) (m6 : Bool) (o6 : Option Addr) (n6 : Nat) (c6 : Nat) (m7 : Bool) (o7 : Option Addr) (n7 : Nat) (c7 : Nat), Below w.heap.size w w' → Box w' (w.heap.size) [.int .i64 a0, .int .i64 a1] → Box w' (w.heap.size + 1) [.int .i64 b0, .int .i64 b1] → Box w' (w.heap.size + 1 + 1) [.int .i64 v0, .int .i64 v1] → Box w' (w.heap.size + 1 + 1 + 1) [.int .i64 u0, .int .i64 u1] → Below w4.heap.size w4 w' → RNum w' (.agg #[.bool m1, .slice o1 n1 c1]) (2) (D0) → RNum w' (.agg #[.bool m2, .slice o2 n2 c2]) (2) (A0) → RNum w' (.agg #[.bool m3, .slice o3 n3 c3]) (4) (D0 * A0) → RNum w' (.agg #[.bool m4, .slice o4 n4 c4]) (2) (D1) → RNum w' (.agg #[.bool m5, .slice o5 n5 c5]) (2) (A1) → RNum w' (.agg #[.bool m6, .slice o6 n6 c6]) (4) (D1 * A1) → RNum w' (.agg #[.bool m7, .slice o7 n7 c7]) (2) (D2) → WWq 6 #[true, true, true, true, true, true, true, true, true, true, true, true, true, true, true, true, true, true, true, true, true, true, false, false, false, false, false, false] (((((((aq.put (some 11) (.agg #[.bool m1, .slice o1 n1 c1])).put (some 15) (.agg #[.bool m2, .slice o2 n2 c2])).put (some 16) (.agg #[.bool m3, .slice o3 n3 c3])).put (some 19) (.agg #[.bool m4, .slice o4 n4 c4])).put (some 23) (.agg #[.bool m5, .slice o5 n5 c5])).put (some 24) (.agg #[.bool m6, .slice o6 n6 c6])).put (some 27) (.agg #[.bool m7, .slice o7 n7 c7])) w' := by
    intro w14 m1 o1 n1 c1 m2 o2 n2 c2 m3 o3 n3 c3 m4 o4 n4 c4 m5 o5 n5 c5 m6 o6 n6 c6 m7 o7 n7 c7 hB_0 pa_0 pb_0 pv_0 pu_0 hWq_0 f1_0 f2_0 f3_0 f4_0 f5_0 f6_0 f7_0
    rw [HWq.out, HAq.out]
    try simp only [Act.put]
    try simp only [List.setIfInBounds_toArray, List.set_cons_zero, List.set_cons_succ]
    refine reg_all1 22 ?_ (by kernel_rfl) ?_ (fun K hK => ?_)
    rotate_left 1
    · simp only [List.getElem?_toArray, List.getElem?_cons_succ, List.getElem?_cons_zero]; exact rfl
    · go_simp
      refine (K7.out _).mono ?_
      rintro e w15 ⟨m8, o8, n8, c8, rfl, f8_0, hb15⟩
      have hB_1 := hB_0.trans (hb15.mono hB_0.size)
      have pa_1 := pa_0.below hb15
      have pb_1 := pb_0.below hb15
      have pv_1 := pv_0.below hb15
      have pu_1 := pu_0.below hb15
      have hWq_1 := hWq_0.trans (hb15.mono hWq_0.size)
      have f1_1 := f1_0.below hb15
      have f2_1 := f2_0.below hb15
      have f3_1 := f3_0.below hb15
      have f4_1 := f4_0.below hb15
      have f5_1 := f5_0.below hb15
      have f6_1 := f6_0.below hb15
      have f7_1 := f7_0.below hb15
      clear hb15 hB_0 pa_0 pb_0 pv_0 pu_0 hWq_0 f1_0 f2_0 f3_0 f4_0 f5_0 f6_0 f7_0
      go_wp2_with fail
      refine hK.out _ _ ⟨pa_1.c0, pa_1.c1, pb_1.c0, pb_1.c1, pv_1.c0, pv_1.c1, pu_1.c0, pu_1.c1⟩ (fun hHeld => ?_)
      clear hK K
      try simp only [Act.put]
      try simp only [List.setIfInBounds_toArray, List.set_cons_zero, List.set_cons_succ]
      rw [← HWq.out]
      exact stq_8f _ m1 o1 n1 c1 m2 o2 n2 c2 m3 o3 n3 c3 m4 o4 n4 c4 m5 o5 n5 c5 m6 o6 n6 c6 m7 o7 n7 c7 m8 o8 n8 c8 hB_1 pa_1 pb_1 pv_1 pu_1 hWq_1 f1_1 f2_1 f3_1 f4_1 f5_1 f6_1 f7_1 f8_0
  try simp only [HAq.out, Act.put, List.setIfInBounds_toArray, List.set_cons_zero, List.set_cons_succ] at stq_7f
  have stq_6f : ∀ (w' : World) (m1 : Bool) (o1 : Option Addr) (n1 : Nat) (c1 : Nat) (m2 : Bool) (o2 : Option Addr) (n2 : Nat) (c2 : Nat) (m3 : Bool) (o3 : Option Addr) (n3 : Nat) (c3 : Nat) (m4 : Bool) (o4 : Option Addr) (n4 : Nat) (c4 : Nat) (m5 : Bool) (o5 : Option Addr) (n5 : Nat) (c5 : Nat) (m6 : Bool) (o6 : Option Addr) (n6 : Nat) (c6 : Nat), Below w.heap.size w w' → Box w' (w.heap.size) [.int .i64 a0, .int .i64 a1] → Box w' (w.heap.size + 1) [.int .i64 b0, .int .i64 b1] → Box w' (w.heap.size + 1 + 1) [.int .i64 v0, .int .i64 v1] → Box w' (w.heap.size + 1 + 1 + 1) [.int .i64 u0, .int .i64 u1] → Below w4.heap.size w4 w' → RNum w' (.agg #[.bool m1, .slice o1 n1 c1]) (2) (D0) → RNum w' (.agg #[.bool m2, .slice o2 n2 c2]) (2) (A0) → RNum w' (.agg #[.bool m3, .slice o3 n3 c3]) (4) (D0 * A0) → RNum w' (.agg #[.bool m4, .slice o4 n4 c4]) (2) (D1) → RNum w' (.agg #[.bool m5, .slice o5 n5 c5]) (2) (A1) → RNum w' (.agg #[.bool m6, .slice o6 n6 c6]) (4) (D1 * A1) → WWq 7 #[true, true, true, true, true, true, true, true, true, true, true, true, true, true, true, true, true, true, false, true, true, true, false, false, false, false, false, false] ((((((aq.put (some 11) (.agg #[.bool m1, .slice o1 n1 c1])).put (some 15) (.agg #[.bool m2, .slice o2 n2 c2])).put (some 16) (.agg #[.bool m3, .slice o3 n3 c3])).put (some 19) (.agg #[.bool m4, .slice o4 n4 c4])).put (some 23) (.agg #[.bool m5, .slice o5 n5 c5])).put (some 24) (.agg #[.bool m6, .slice o6 n6 c6])) w' := by
    intro w16 m1 o1 n1 c1 m2 o2 n2 c2 m3 o3 n3 c3 m4 o4 n4 c4 m5 o5 n5 c5 m6 o6 n6 c6 hB_0 pa_0 pb_0 pv_0 pu_0 hWq_0 f1_0 f2_0 f3_0 f4_0 f5_0 f6_0
    rw [HWq.out, HAq.out]
    try simp only [Act.put]
    try simp only [List.setIfInBounds_toArray, List.set_cons_zero, List.set_cons_succ]
    refine reg_all1 18 ?_ (by kernel_rfl) ?_ (fun K hK => ?_)
    rotate_left 1
    · simp only [List.getElem?_toArray, List.getElem?_cons_succ, List.getElem?_cons_zero]; exact rfl
    · go_simp
      refine (K6.out _).mono ?_
      rintro e w17 ⟨m7, o7, n7, c7, rfl, f7_0, hb17⟩
      have hB_1 := hB_0.trans (hb17.mono hB_0.size)
      have pa_1 := pa_0.below hb17
      have pb_1 := pb_0.below hb17
      have pv_1 := pv_0.below hb17
      have pu_1 := pu_0.below hb17
      have hWq_1 := hWq_0.trans (hb17.mono hWq_0.size)
      have f1_1 := f1_0.below hb17
      have f2_1 := f2_0.below hb17
      have f3_1 := f3_0.below hb17
      have f4_1 := f4_0.below hb17
      have f5_1 := f5_0.below hb17
      have f6_1 := f6_0.below hb17
      clear hb17 hB_0 pa_0 pb_0 pv_0 pu_0 hWq_0 f1_0 f2_0 f3_0 f4_0 f5_0 f6_0
      go_wp2_with fail
      refine hK.out _ _ ⟨pa_1.c0, pa_1.c1, pb_1.c0, pb_1.c1, pv_1.c0, pv_1.c1, pu_1.c0, pu_1.c1⟩ (fun hHeld => ?_)
      clear hK K
      try simp only [Act.put]
      try simp only [List.setIfInBounds_toArray, List.set_cons_zero, List.set_cons_succ]
      rw [← HWq.out]
      exact stq_7f _ m1 o1 n1 c1 m2 o2 n2 c2 m3 o3 n3 c3 m4 o4 n4 c4 m5 o5 n5 c5 m6 o6 n6 c6 m7 o7 n7 c7 hB_1 pa_1 pb_1 pv_1 pu_1 hWq_1 f1_1 f2_1 f3_1 f4_1 f5_1 f6_1 f7_0
  try simp only [HAq.out, Act.put, List.setIfInBounds_toArray, List.set_cons_zero, List.set_cons_succ] at stq_6f
  have stq_5f : ∀ (w' : World) (m1 : Bool) (o1 : Option Addr) (n1 : Nat) (c1 : Nat) (m2 : Bool) (o2 : Option Addr) (n2 : Nat) (c2 : Nat) (m3 : Bool) (o3 : Option Addr) (n3 : Nat) (c3 : Nat) (m4 : Bool) (o4 : Option Addr) (n4 : Nat) (c4 : Nat) (m5 : Bool) (o5 : Option Addr) (n5 : Nat) (c5 : Nat), Below w.heap.size w w' → Box w' (w.heap.size) [.int .i64 a0, .int .i64 a1] → Box w' (w.heap.size + 1) [.int .i64 b0, .int .i64 b1] → Box w' (w.heap.size + 1 + 1) [.int .i64 v0, .int .i64 v1] → Box w' (w.heap.size + 1 + 1 + 1) [.int .i64 u0, .int .i64 u1] → Below w4.heap.size w4 w' → RNum w' (.agg #[.bool m1, .slice o1 n1 c1]) (2) (D0) → RNum w' (.agg #[.bool m2, .slice o2 n2 c2]) (2) (A0) → RNum w' (.agg #[.bool m3, .slice o3 n3 c3]) (4) (D0 * A0) → RNum w' (.agg #[.bool m4, .slice o4 n4 c4]) (2) (D1) → RNum w' (.agg #[.bool m5, .slice o5 n5 c5]) (2) (A1) → WWq 8 #[true, true, true, true, true, true, true, true, true, true, true, true, true, true, true, false, true, true, false, true, true, true, false, false, false, false, false, false] (((((aq.put (some 11) (.agg #[.bool m1, .slice o1 n1 c1])).put (some 15) (.agg #[.bool m2, .slice o2 n2 c2])).put (some 16) (.agg #[.bool m3, .slice o3 n3 c3])).put (some 19) (.agg #[.bool m4, .slice o4 n4 c4])).put (some 23) (.agg #[.bool m5, .slice o5 n5 c5])) w' := by
    intro w18 m1 o1 n1 c1 m2 o2 n2 c2 m3 o3 n3 c3 m4 o4 n4 c4 m5 o5 n5 c5 hB_0 pa_0 pb_0 pv_0 pu_0 hWq_0 f1_0 f2_0 f3_0 f4_0 f5_0
    rw [HWq.out, HAq.out]
    try simp only [Act.put]
    try simp only [List.setIfInBounds_toArray, List.set_cons_zero, List.set_cons_succ]
    refine reg_all1 15 ?_ (by kernel_rfl) ?_ (fun K hK => ?_)
    rotate_left 1
    · simp only [List.getElem?_toArray, List.getElem?_cons_succ, List.getElem?_cons_zero]; exact rfl
    · go_simp
      refine (nMul_any _ _ 2 2 D1 A1 _ (by omega) (by omega) f4_0.num f5_0.num).mono ?_
      rintro e w19 ⟨m6, o6, n6, c6, rfl, f6_0, hb19⟩
      have hB_1 := hB_0.trans (hb19.mono hB_0.size)
      have pa_1 := pa_0.below hb19
      have pb_1 := pb_0.below hb19
      have pv_1 := pv_0.below hb19
      have pu_1 := pu_0.below hb19
      have hWq_1 := hWq_0.trans (hb19.mono hWq_0.size)
      have f1_1 := f1_0.below hb19
      have f2_1 := f2_0.below hb19
      have f3_1 := f3_0.below hb19
      have f4_1 := f4_0.below hb19
      have f5_1 := f5_0.below hb19
      clear hb19 hB_0 pa_0 pb_0 pv_0 pu_0 hWq_0 f1_0 f2_0 f3_0 f4_0 f5_0
      go_wp2_with fail
      refine hK.out _ _ ⟨pa_1.c0, pa_1.c1, pb_1.c0, pb_1.c1, pv_1.c0, pv_1.c1, pu_1.c0, pu_1.c1⟩ (fun hHeld => ?_)
      clear hK K
      try simp only [Act.put]
      try simp only [List.setIfInBounds_toArray, List.set_cons_zero, List.set_cons_succ]
      rw [← HWq.out]
      exact stq_6f _ m1 o1 n1 c1 m2 o2 n2 c2 m3 o3 n3 c3 m4 o4 n4 c4 m5 o5 n5 c5 m6 o6 n6 c6 hB_1 pa_1 pb_1 pv_1 pu_1 hWq_1 f1_1 f2_1 f3_1 f4_1 f5_1 f6_0
  try simp only [HAq.out, Act.put, List.setIfInBounds_toArray, List.set_cons_zero, List.set_cons_succ] at stq_5f
  have stq_4f : ∀ (w' : World) (m1 : Bool) (o1 : Option Addr) (n1 : Nat) (c1 : Nat) (m2 : Bool) (o2 : Option Addr) (n2 : Nat) (c2 : Nat) (m3 : Bool) (o3 : Option Addr) (n3 : Nat) (c3 : Nat) (m4 : Bool) (o4 : Option Addr) (n4 : Nat) (c4 : Nat), Below w.heap.size w w' → Box w' (w.heap.size) [.int .i64 a0, .int .i64 a1] → Box w' (w.heap.size + 1) [.int .i64 b0, .int .i64 b1] → Box w' (w.heap.size + 1 + 1) [.int .i64 v0, .int .i64 v1] → Box w' (w.heap.size + 1 + 1 + 1) [.int .i64 u0, .int .i64 u1] → Below w4.heap.size w4 w' → RNum w' (.agg #[.bool m1, .slice o1 n1 c1]) (2) (D0) → RNum w' (.agg #[.bool m2, .slice o2 n2 c2]) (2) (A0) → RNum w' (.agg #[.bool m3, .slice o3 n3 c3]) (4) (D0 * A0) → RNum w' (.agg #[.bool m4, .slice o4 n4 c4]) (2) (D1) → WWq 9 #[true, true, true, true, true, true, true, true, true, true, true, true, true, true, false, false, true, true, false, true, true, true, false, false, false, false, false, false] ((((aq.put (some 11) (.agg #[.bool m1, .slice o1 n1 c1])).put (some 15) (.agg #[.bool m2, .slice o2 n2 c2])).put (some 16) (.agg #[.bool m3, .slice o3 n3 c3])).put (some 19) (.agg #[.bool m4, .slice o4 n4 c4])) w' := by
    intro w20 m1 o1 n1 c1 m2 o2 n2 c2 m3 o3 n3 c3 m4 o4 n4 c4 hB_0 pa_0 pb_0 pv_0 pu_0 hWq_0 f1_0 f2_0 f3_0 f4_0
    rw [HWq.out, HAq.out]
    try simp only [Act.put]
    try simp only [List.setIfInBounds_toArray, List.set_cons_zero, List.set_cons_succ]
    refine reg_all1 14 ?_ (by kernel_rfl) ?_ (fun K hK => ?_)
    rotate_left 1
    · simp only [List.getElem?_toArray, List.getElem?_cons_succ, List.getElem?_cons_zero]; exact rfl
    · go_simp
      refine (K4.out _).mono ?_
      rintro e w21 ⟨m5, o5, n5, c5, rfl, f5_0, hb21⟩
      have hB_1 := hB_0.trans (hb21.mono hB_0.size)
      have pa_1 := pa_0.below hb21
      have pb_1 := pb_0.below hb21
      have pv_1 := pv_0.below hb21
      have pu_1 := pu_0.below hb21
      have hWq_1 := hWq_0.trans (hb21.mono hWq_0.size)
      have f1_1 := f1_0.below hb21
      have f2_1 := f2_0.below hb21
      have f3_1 := f3_0.below hb21
      have f4_1 := f4_0.below hb21
      clear hb21 hB_0 pa_0 pb_0 pv_0 pu_0 hWq_0 f1_0 f2_0 f3_0 f4_0
      go_wp2_with fail
      refine hK.out _ _ ⟨pa_1.c0, pa_1.c1, pb_1.c0, pb_1.c1, pv_1.c0, pv_1.c1, pu_1.c0, pu_1.c1⟩ (fun hHeld => ?_)
      clear hK K
      try simp only [Act.put]
      try simp only [List.setIfInBounds_toArray, List.set_cons_zero, List.set_cons_succ]
      rw [← HWq.out]
      exact stq_5f _ m1 o1 n1 c1 m2 o2 n2 c2 m3 o3 n3 c3 m4 o4 n4 c4 m5 o5 n5 c5 hB_1 pa_1 pb_1 pv_1 pu_1 hWq_1 f1_1 f2_1 f3_1 f4_1 f5_0
  try simp only [HAq.out, Act.put, List.setIfInBounds_toArray, List.set_cons_zero, List.set_cons_succ] at stq_4f
  have stq_3f : ∀ (w' : World) (m1 : Bool) (o1 : Option Addr) (n1 : Nat) (c1 : Nat) (m2 : Bool) (o2 : Option Addr) (n2 : Nat) (c2 : Nat) (m3 : Bool) (o3 : Option Addr) (n3 : Nat) (c3 : Nat), Below w.heap.size w w' → Box w' (w.heap.size) [.int .i64 a0, .int .i64 a1] → Box w' (w.heap.size + 1) [.int .i64 b0, .int .i64 b1] → Box w' (w.heap.size + 1 + 1) [.int .i64 v0, .int .i64 v1] → Box w' (w.heap.size + 1 + 1 + 1) [.int .i64 u0, .int .i64 u1] → Below w4.heap.size w4 w' → RNum w' (.agg #[.bool m1, .slice o1 n1 c1]) (2) (D0) → RNum w' (.agg #[.bool m2, .slice o2 n2 c2]) (2) (A0) → RNum w' (.agg #[.bool m3, .slice o3 n3 c3]) (4) (D0 * A0) → WWq 10 #[true, true, true, true, true, true, true, true, true, true, false, true, true, true, false, false, true, true, false, true, true, true, false, false, false, false, false, false] (((aq.put (some 11) (.agg #[.bool m1, .slice o1 n1 c1])).put (some 15) (.agg #[.bool m2, .slice o2 n2 c2])).put (some 16) (.agg #[.bool m3, .slice o3 n3 c3])) w' := by
    intro w22 m1 o1 n1 c1 m2 o2 n2 c2 m3 o3 n3 c3 hB_0 pa_0 pb_0 pv_0 pu_0 hWq_0 f1_0 f2_0 f3_0
    rw [HWq.out, HAq.out]
    try simp only [Act.put]
    try simp only [List.setIfInBounds_toArray, List.set_cons_zero, List.set_cons_succ]
    refine reg_all1 10 ?_ (by kernel_rfl) ?_ (fun K hK => ?_)
    rotate_left 1
    · simp only [List.getElem?_toArray, List.getElem?_cons_succ, List.getElem?_cons_zero]; exact rfl
    · go_simp
      refine (K3.out _).mono ?_
      rintro e w23 ⟨m4, o4, n4, c4, rfl, f4_0, hb23⟩
      have hB_1 := hB_0.trans (hb23.mono hB_0.size)
      have pa_1 := pa_0.below hb23
      have pb_1 := pb_0.below hb23
      have pv_1 := pv_0.below hb23
      have pu_1 := pu_0.below hb23
      have hWq_1 := hWq_0.trans (hb23.mono hWq_0.size)
      have f1_1 := f1_0.below hb23
      have f2_1 := f2_0.below hb23
      have f3_1 := f3_0.below hb23
      clear hb23 hB_0 pa_0 pb_0 pv_0 pu_0 hWq_0 f1_0 f2_0 f3_0
      go_wp2_with fail
      refine hK.out _ _ ⟨pa_1.c0, pa_1.c1, pb_1.c0, pb_1.c1, pv_1.c0, pv_1.c1, pu_1.c0, pu_1.c1⟩ (fun hHeld => ?_)
      clear hK K
      try simp only [Act.put]
      try simp only [List.setIfInBounds_toArray, List.set_cons_zero, List.set_cons_succ]
      rw [← HWq.out]
      exact stq_4f _ m1 o1 n1 c1 m2 o2 n2 c2 m3 o3 n3 c3 m4 o4 n4 c4 hB_1 pa_1 pb_1 pv_1 pu_1 hWq_1 f1_1 f2_1 f3_1 f4_0
  try simp only [HAq.out, Act.put, List.setIfInBounds_toArray, List.set_cons_zero, List.set_cons_succ] at stq_3f
  have stq_2f : ∀ (w' : World) (m1 : Bool) (o1 : Option Addr) (n1 : Nat) (c1 : Nat) (m2 : Bool) (o2 : Option Addr) (n2 : Nat) (c2 : Nat), Below w.heap.size w w' → Box w' (w.heap.size) [.int .i64 a0, .int .i64 a1] → Box w' (w.heap.size + 1) [.int .i64 b0, .int .i64 b1] → Box w' (w.heap.size + 1 + 1) [.int .i64 v0, .int .i64 v1] → Box w' (w.heap.size + 1 + 1 + 1) [.int .i64 u0, .int .i64 u1] → Below w4.heap.size w4 w' → RNum w' (.agg #[.bool m1, .slice o1 n1 c1]) (2) (D0) → RNum w' (.agg #[.bool m2, .slice o2 n2 c2]) (2) (A0) → WWq 11 #[true, true, true, true, true, true, true, false, true, true, false, true, true, true, false, false, true, true, false, true, true, true, false, false, false, false, false, false] ((aq.put (some 11) (.agg #[.bool m1, .slice o1 n1 c1])).put (some 15) (.agg #[.bool m2, .slice o2 n2 c2])) w' := by
    intro w24 m1 o1 n1 c1 m2 o2 n2 c2 hB_0 pa_0 pb_0 pv_0 pu_0 hWq_0 f1_0 f2_0
    rw [HWq.out, HAq.out]
    try simp only [Act.put]
    try simp only [List.setIfInBounds_toArray, List.set_cons_zero, List.set_cons_succ]
    refine reg_all1 7 ?_ (by kernel_rfl) ?_ (fun K hK => ?_)
    rotate_left 1
    · simp only [List.getElem?_toArray, List.getElem?_cons_succ, List.getElem?_cons_zero]; exact rfl
    · go_simp
      refine (nMul_any _ _ 2 2 D0 A0 _ (by omega) (by omega) f1_0.num f2_0.num).mono ?_
      rintro e w25 ⟨m3, o3, n3, c3, rfl, f3_0, hb25⟩
      have hB_1 := hB_0.trans (hb25.mono hB_0.size)
      have pa_1 := pa_0.below hb25
      have pb_1 := pb_0.below hb25
      have pv_1 := pv_0.below hb25
      have pu_1 := pu_0.below hb25
      have hWq_1 := hWq_0.trans (hb25.mono hWq_0.size)
      have f1_1 := f1_0.below hb25
      have f2_1 := f2_0.below hb25
      clear hb25 hB_0 pa_0 pb_0 pv_0 pu_0 hWq_0 f1_0 f2_0
      go_wp2_with fail
      refine hK.out _ _ ⟨pa_1.c0, pa_1.c1, pb_1.c0, pb_1.c1, pv_1.c0, pv_1.c1, pu_1.c0, pu_1.c1⟩ (fun hHeld => ?_)
      clear hK K
      try simp only [Act.put]
      try simp only [List.setIfInBounds_toArray, List.set_cons_zero, List.set_cons_succ]
      rw [← HWq.out]
      exact stq_3f _ m1 o1 n1 c1 m2 o2 n2 c2 m3 o3 n3 c3 hB_1 pa_1 pb_1 pv_1 pu_1 hWq_1 f1_1 f2_1 f3_0
  try simp only [HAq.out, Act.put, List.setIfInBounds_toArray, List.set_cons_zero, List.set_cons_succ] at stq_2f
  have stq_1f : ∀ (w' : World) (m1 : Bool) (o1 : Option Addr) (n1 : Nat) (c1 : Nat), Below w.heap.size w w' → Box w' (w.heap.size) [.int .i64 a0, .int .i64 a1] → Box w' (w.heap.size + 1) [.int .i64 b0, .int .i64 b1] → Box w' (w.heap.size + 1 + 1) [.int .i64 v0, .int .i64 v1] → Box w' (w.heap.size + 1 + 1 + 1) [.int .i64 u0, .int .i64 u1] → Below w4.heap.size w4 w' → RNum w' (.agg #[.bool m1, .slice o1 n1 c1]) (2) (D0) → WWq 12 #[true, true, true, true, true, true, false, false, true, true, false, true, true, true, false, false, true, true, false, true, true, true, false, false, false, false, false, false] (aq.put (some 11) (.agg #[.bool m1, .slice o1 n1 c1])) w' := by
    intro w26 m1 o1 n1 c1 hB_0 pa_0 pb_0 pv_0 pu_0 hWq_0 f1_0
    rw [HWq.out, HAq.out]
    try simp only [Act.put]
    try simp only [List.setIfInBounds_toArray, List.set_cons_zero, List.set_cons_succ]
    refine reg_all1 6 ?_ (by kernel_rfl) ?_ (fun K hK => ?_)
    rotate_left 1
    · simp only [List.getElem?_toArray, List.getElem?_cons_succ, List.getElem?_cons_zero]; exact rfl
    · go_simp
      refine (K1.out _).mono ?_
      rintro e w27 ⟨m2, o2, n2, c2, rfl, f2_0, hb27⟩
      have hB_1 := hB_0.trans (hb27.mono hB_0.size)
      have pa_1 := pa_0.below hb27
      have pb_1 := pb_0.below hb27
      have pv_1 := pv_0.below hb27
      have pu_1 := pu_0.below hb27
      have hWq_1 := hWq_0.trans (hb27.mono hWq_0.size)
      have f1_1 := f1_0.below hb27
      clear hb27 hB_0 pa_0 pb_0 pv_0 pu_0 hWq_0 f1_0
      go_wp2_with fail
      refine hK.out _ _ ⟨pa_1.c0, pa_1.c1, pb_1.c0, pb_1.c1, pv_1.c0, pv_1.c1, pu_1.c0, pu_1.c1⟩ (fun hHeld => ?_)
      clear hK K
      try simp only [Act.put]
      try simp only [List.setIfInBounds_toArray, List.set_cons_zero, List.set_cons_succ]
      rw [← HWq.out]
      exact stq_2f _ m1 o1 n1 c1 m2 o2 n2 c2 hB_1 pa_1 pb_1 pv_1 pu_1 hWq_1 f1_1 f2_0
  try simp only [HAq.out, Act.put, List.setIfInBounds_toArray, List.set_cons_zero, List.set_cons_succ] at stq_1f
  have stq_0f : ∀ (w' : World), Below w.heap.size w w' → Box w' (w.heap.size) [.int .i64 a0, .int .i64 a1] → Box w' (w.heap.size + 1) [.int .i64 b0, .int .i64 b1] → Box w' (w.heap.size + 1 + 1) [.int .i64 v0, .int .i64 v1] → Box w' (w.heap.size + 1 + 1 + 1) [.int .i64 u0, .int .i64 u1] → Below w4.heap.size w4 w' → WWq 13 #[true, true, false, true, true, true, false, false, true, true, false, true, true, true, false, false, true, true, false, true, true, true, false, false, false, false, false, false] aq w' := by
    intro w28 hB_0 pa_0 pb_0 pv_0 pu_0 hWq_0
    rw [HWq.out, HAq.out]
    try simp only [Act.put]
    try simp only [List.setIfInBounds_toArray, List.set_cons_zero, List.set_cons_succ]
    refine reg_all1 2 ?_ (by kernel_rfl) ?_ (fun K hK => ?_)
    rotate_left 1
    · simp only [List.getElem?_toArray, List.getElem?_cons_succ, List.getElem?_cons_zero]; exact rfl
    · go_simp
      refine (K0.out _).mono ?_
      rintro e w29 ⟨m1, o1, n1, c1, rfl, f1_0, hb29⟩
      have hB_1 := hB_0.trans (hb29.mono hB_0.size)
      have pa_1 := pa_0.below hb29
      have pb_1 := pb_0.below hb29
      have pv_1 := pv_0.below hb29
      have pu_1 := pu_0.below hb29
      have hWq_1 := hWq_0.trans (hb29.mono hWq_0.size)
      clear hb29 hB_0 pa_0 pb_0 pv_0 pu_0 hWq_0
      go_wp2_with fail
      refine hK.out _ _ ⟨pa_1.c0, pa_1.c1, pb_1.c0, pb_1.c1, pv_1.c0, pv_1.c1, pu_1.c0, pu_1.c1⟩ (fun hHeld => ?_)
      clear hK K
      try simp only [Act.put]
      try simp only [List.setIfInBounds_toArray, List.set_cons_zero, List.set_cons_succ]
      rw [← HWq.out]
      exact stq_1f _ m1 o1 n1 c1 hB_1 pa_1 pb_1 pv_1 pu_1 hWq_1 f1_0
  exact stq_0f _ hB_5 pa_4 pb_3 pv_2 pu_1 hWq_1
theorem Circle_is (a0 a1 b0 b1 v0 v1 u0 u1 : Int) {t : Int} (ha0 : InP a0) (ha1 : InP a1) (hb0 : InP b0) (hb1 : InP b1) (hv0 : InP v0) (hv1 : InP v1) (hu0 : InP u0) (hu1 : InP u1) (h : (inc a0 a1 b0 b1 v0 v1 u0 u1).sign = t) (w : World) :
    Calls Try.prog 17 #[.agg #[.int .i64 a0, .int .i64 a1], .agg #[.int .i64 b0, .int .i64 b1], .agg #[.int .i64 v0, .int .i64 v1], .agg #[.int .i64 u0, .int .i64 u1]] w fun e w' => e = .returned (.int .i64 t) ∧ Below w.heap.size w w' :=
  Circle_w a0 a1 b0 b1 v0 v1 u0 u1 _ _ _ _ _ _ t (fun w => Dist2_any a0 a1 u0 u1 ha0 ha1 hu0 hu1 w) (fun w => Area2_any u0 u1 b0 b1 v0 v1 hu0 hu1 hb0 hb1 hv0 hv1 w) (fun w => Dist2_any b0 b1 u0 u1 hb0 hb1 hu0 hu1 w) (fun w => Area2_any u0 u1 v0 v1 a0 a1 hu0 hu1 hv0 hv1 ha0 ha1 w) (fun w => Dist2_any v0 v1 u0 u1 hv0 hv1 hu0 hu1 w) (fun w => Area2_any u0 u1 a0 a1 b0 b1 hu0 hu1 ha0 ha1 hb0 hb1 w)
    (by rw [inc_circle]; exact h) w
end Go.Proofs.Ytjciefoademlnaa
/- The calls of pred: within, On, Between, parts, Crosses, Meets. -/
namespace Go.Proofs.Ytjciefoademlnaa
open Go.RowKit Go.MagM
set_option maxHeartbeats 4000000 in
theorem within_any (n a b : Int) (w : World) :
    Calls Try.prog 42 #[.int .i64 n, .int .i64 a, .int .i64 b] w fun e w' => e = .returned (.bool (decide (min a b ≤ n ∧ n ≤ max a b))) ∧ Below w.heap.size w w' := by
  have hB_0 := Below.refl w.heap.size w
  go_enter Try.func42, Try.ntmps42
  go_wp2
  all_goals go_ret
  all_goals refine ⟨?_, hB_0⟩
  all_goals refine congrArg (fun b => Ending.returned (Value.bool b)) (?_ : _ = _)
  all_goals rw [Bool.eq_iff_iff]
  all_goals simp only [decide_eq_true_eq, Bool.and_eq_true, Bool.false_eq_true, false_iff]
  all_goals omega
set_option maxHeartbeats 4000000 in
theorem parts_w (a0 a1 b0 b1 v0 v1 u0 u1 : Int) (s t v : Int) (q : Bool) (k1 : ∀ w, Calls Try.prog 15 #[.agg #[.int .i64 a0, .int .i64 a1], .agg #[.int .i64 b0, .int .i64 b1], .agg #[.int .i64 v0, .int .i64 v1]] w fun e w' => e = .returned (.int .i64 s) ∧ Below w.heap.size w w') (k2 : ∀ w, Calls Try.prog 15 #[.agg #[.int .i64 a0, .int .i64 a1], .agg #[.int .i64 b0, .int .i64 b1], .agg #[.int .i64 u0, .int .i64 u1]] w fun e w' => e = .returned (.int .i64 t) ∧ Below w.heap.size w w') (e1 : IntKind.i64.wrap (s * t) = v) (e2 : decide (v < 0) = q) (w : World) :
    Calls Try.prog 44 #[.agg #[.int .i64 a0, .int .i64 a1], .agg #[.int .i64 b0, .int .i64 b1], .agg #[.int .i64 v0, .int .i64 v1], .agg #[.int .i64 u0, .int .i64 u1]] w fun e w' => e = .returned (.bool q) ∧ Below w.heap.size w w' := by
  have hB_0 := Below.refl w.heap.size w
  have K1 := Lib.hid k1; have K2 := Lib.hid k2
  clear k1 k2
  obtain ⟨w1, hw1, pa_0, hb1, hs1⟩ := new_box w (w.heap.size) rfl [.int .i64 a0, .int .i64 a1] 23
  have hb1' : Below w.heap.size w w1 := hb1.mono (by omega)
  clear hb1
  have hB_1 := hB_0.trans (hb1'.mono hB_0.size)
  clear hb1' hB_0
  obtain ⟨w2, hw2, pb_0, hb2, hs2⟩ := new_box w1 (w.heap.size + 1) hs1 [.int .i64 b0, .int .i64 b1] 23
  have hb2' : Below w1.heap.size w1 w2 := hb2.mono (by omega)
  clear hb2
  have hB_2 := hB_1.trans (hb2'.mono hB_1.size)
  have pa_1 := pa_0.below hb2'
  clear hb2' hB_1 pa_0
  obtain ⟨w3, hw3, pv_0, hb3, hs3⟩ := new_box w2 (w.heap.size + 1 + 1) hs2 [.int .i64 v0, .int .i64 v1] 23
  have hb3' : Below w2.heap.size w2 w3 := hb3.mono (by omega)
  clear hb3
  have hB_3 := hB_2.trans (hb3'.mono hB_2.size)
  have pa_2 := pa_1.below hb3'
  have pb_1 := pb_0.below hb3'
  clear hb3' hB_2 pa_1 pb_0
  obtain ⟨w4, hw4, pu_0, hb4, hs4⟩ := new_box w3 (w.heap.size + 1 + 1 + 1) hs3 [.int .i64 u0, .int .i64 u1] 23
  have hb4' : Below w3.heap.size w3 w4 := hb4.mono (by omega)
  clear hb4
  have hB_4 := hB_3.trans (hb4'.mono hB_3.size)
  have pa_3 := pa_2.below hb4'
  have pb_2 := pb_1.below hb4'
  have pv_1 := pv_0.below hb4'
  clear hb4' hB_3 pa_2 pb_1 pv_0
  go_enter Try.func44, Try.ntmps44
  go_wp2
  have hB_5 := hB_4.drew'
  have pa_4 := pa_3.drew
  have pb_3 := pb_2.drew
  have pv_2 := pv_1.drew
  have pu_1 := pu_0.drew
  clear hB_4 pa_3 pb_2 pv_1 pu_0
  go_region_held3 (fun w' => w'.cell? ⟨w.heap.size, 0, none⟩ = some (.int .i64 a0) ∧ w'.cell? ⟨w.heap.size, 1, none⟩ = some (.int .i64 a1) ∧ w'.cell? ⟨w.heap.size + 1, 0, none⟩ = some (.int .i64 b0) ∧ w'.cell? ⟨w.heap.size + 1, 1, none⟩ = some (.int .i64 b1) ∧ w'.cell? ⟨w.heap.size + 1 + 1, 0, none⟩ = some (.int .i64 v0) ∧ w'.cell? ⟨w.heap.size + 1 + 1, 1, none⟩ = some (.int .i64 v1) ∧ w'.cell? ⟨w.heap.size + 1 + 1 + 1, 0, none⟩ = some (.int .i64 u0) ∧ w'.cell? ⟨w.heap.size + 1 + 1 + 1, 1, none⟩ = some (.int .i64 u1))
    (first | with_reducible exact ⟨pa_4.c0, pa_4.c1, pb_3.c0, pb_3.c1, pv_2.c0, pv_2.c1, pu_1.c0, pu_1.c1⟩ | with_reducible exact ⟨pa_5.c0, pa_5.c1, pb_4.c0, pb_4.c1, pv_3.c0, pv_3.c1, pu_2.c0, pu_2.c1⟩ | with_reducible exact ⟨pa_6.c0, pa_6.c1, pb_5.c0, pb_5.c1, pv_4.c0, pv_4.c1, pu_3.c0, pu_3.c1⟩ | fail)
    (first
      | (go_at_call 15; (with_reducible refine (K1.out _).mono ?_); rintro e w5 ⟨rfl, hb5⟩; have hB_6 := hB_5.trans (hb5.mono hB_5.size); have pa_5 := pa_4.below hb5; have pb_4 := pb_3.below hb5; have pv_3 := pv_2.below hb5; have pu_2 := pu_1.below hb5; clear hb5 hB_5 pa_4 pb_3 pv_2 pu_1)
      | (go_at_call 15; (with_reducible refine (K2.out _).mono ?_); rintro e w6 ⟨rfl, hb6⟩; have hB_7 := hB_6.trans (hb6.mono hB_6.size); have pa_6 := pa_5.below hb6; have pb_5 := pb_4.below hb6; have pv_4 := pv_3.below hb6; have pu_3 := pu_2.below hb6; clear hb6 hB_6 pa_5 pb_4 pv_3 pu_2))
  go_wp2
  go_ret
  exact ⟨rfl, hB_7⟩
set_option maxHeartbeats 4000000 in
theorem Crosses_w_t (a0 a1 b0 b1 v0 v1 u0 u1 : Int) (q : Bool) (k1 : ∀ w, Calls Try.prog 44 #[.agg #[.int .i64 a0, .int .i64 a1], .agg #[.int .i64 b0, .int .i64 b1], .agg #[.int .i64 v0, .int .i64 v1], .agg #[.int .i64 u0, .int .i64 u1]] w fun e w' => e = .returned (.bool true) ∧ Below w.heap.size w w') (k2 : ∀ w, Calls Try.prog 44 #[.agg #[.int .i64 v0, .int .i64 v1], .agg #[.int .i64 u0, .int .i64 u1], .agg #[.int .i64 a0, .int .i64 a1], .agg #[.int .i64 b0, .int .i64 b1]] w fun e w' => e = .returned (.bool q) ∧ Below w.heap.size w w') (w : World) :
    Calls Try.prog 27 #[.agg #[.int .i64 a0, .int .i64 a1], .agg #[.int .i64 b0, .int .i64 b1], .agg #[.int .i64 v0, .int .i64 v1], .agg #[.int .i64 u0, .int .i64 u1]] w fun e w' => e = .returned (.bool q) ∧ Below w.heap.size w w' := by
  have hB_0 := Below.refl w.heap.size w
  have K1 := Lib.hid k1; have K2 := Lib.hid k2
  clear k1 k2
  obtain ⟨w1, hw1, pa_0, hb1, hs1⟩ := new_box w (w.heap.size) rfl [.int .i64 a0, .int .i64 a1] 23
  have hb1' : Below w.heap.size w w1 := hb1.mono (by omega)
  clear hb1
  have hB_1 := hB_0.trans (hb1'.mono hB_0.size)
  clear hb1' hB_0
  obtain ⟨w2, hw2, pb_0, hb2, hs2⟩ := new_box w1 (w.heap.size + 1) hs1 [.int .i64 b0, .int .i64 b1] 23
  have hb2' : Below w1.heap.size w1 w2 := hb2.mono (by omega)
  clear hb2
  have hB_2 := hB_1.trans (hb2'.mono hB_1.size)
  have pa_1 := pa_0.below hb2'
  clear hb2' hB_1 pa_0
  obtain ⟨w3, hw3, pv_0, hb3, hs3⟩ := new_box w2 (w.heap.size + 1 + 1) hs2 [.int .i64 v0, .int .i64 v1] 23
  have hb3' : Below w2.heap.size w2 w3 := hb3.mono (by omega)
  clear hb3
  have hB_3 := hB_2.trans (hb3'.mono hB_2.size)
  have pa_2 := pa_1.below hb3'
  have pb_1 := pb_0.below hb3'
  clear hb3' hB_2 pa_1 pb_0
  obtain ⟨w4, hw4, pu_0, hb4, hs4⟩ := new_box w3 (w.heap.size + 1 + 1 + 1) hs3 [.int .i64 u0, .int .i64 u1] 23
  have hb4' : Below w3.heap.size w3 w4 := hb4.mono (by omega)
  clear hb4
  have hB_4 := hB_3.trans (hb4'.mono hB_3.size)
  have pa_3 := pa_2.below hb4'
  have pb_2 := pb_1.below hb4'
  have pv_1 := pv_0.below hb4'
  clear hb4' hB_3 pa_2 pb_1 pv_0
  go_enter Try.func27, Try.ntmps27
  obtain ⟨pae0, pae1, pae2, pae3⟩ := pa_3.open2
  obtain ⟨pbe0, pbe1, pbe2, pbe3⟩ := pb_2.open2
  obtain ⟨pve0, pve1, pve2, pve3⟩ := pv_1.open2
  obtain ⟨pue0, pue1, pue2, pue3⟩ := pu_0.open2
  go_wp2_with fail
  refine (K1.out _).mono ?_
  rintro e w5 ⟨rfl, hb5⟩
  clear pae0 pae1 pae2 pae3 pbe0 pbe1 pbe2 pbe3 pve0 pve1 pve2 pve3 pue0 pue1 pue2 pue3
  have hB_5 := hB_4.trans (hb5.mono hB_4.size)
  have pa_4 := pa_3.below hb5
  have pb_3 := pb_2.below hb5
  have pv_2 := pv_1.below hb5
  have pu_1 := pu_0.below hb5
  clear hb5 hB_4 pa_3 pb_2 pv_1 pu_0
  obtain ⟨pae0, pae1, pae2, pae3⟩ := pa_4.open2
  obtain ⟨pbe0, pbe1, pbe2, pbe3⟩ := pb_3.open2
  obtain ⟨pve0, pve1, pve2, pve3⟩ := pv_2.open2
  obtain ⟨pue0, pue1, pue2, pue3⟩ := pu_1.open2
  go_wp2_with fail
  refine (K2.out _).mono ?_
  rintro e w6 ⟨rfl, hb6⟩
  clear pae0 pae1 pae2 pae3 pbe0 pbe1 pbe2 pbe3 pve0 pve1 pve2 pve3 pue0 pue1 pue2 pue3
  have hB_6 := hB_5.trans (hb6.mono hB_5.size)
  have pa_5 := pa_4.below hb6
  have pb_4 := pb_3.below hb6
  have pv_3 := pv_2.below hb6
  have pu_2 := pu_1.below hb6
  clear hb6 hB_5 pa_4 pb_3 pv_2 pu_1
  obtain ⟨pae0, pae1, pae2, pae3⟩ := pa_5.open2
  obtain ⟨pbe0, pbe1, pbe2, pbe3⟩ := pb_4.open2
  obtain ⟨pve0, pve1, pve2, pve3⟩ := pv_3.open2
  obtain ⟨pue0, pue1, pue2, pue3⟩ := pu_2.open2
  go_wp2
  go_ret
  exact ⟨rfl, hB_6⟩
set_option maxHeartbeats 4000000 in
theorem Crosses_w_f (a0 a1 b0 b1 v0 v1 u0 u1 : Int) (_q : Bool) (k1 : ∀ w, Calls Try.prog 44 #[.agg #[.int .i64 a0, .int .i64 a1], .agg #[.int .i64 b0, .int .i64 b1], .agg #[.int .i64 v0, .int .i64 v1], .agg #[.int .i64 u0, .int .i64 u1]] w fun e w' => e = .returned (.bool false) ∧ Below w.heap.size w w') (w : World) :
    Calls Try.prog 27 #[.agg #[.int .i64 a0, .int .i64 a1], .agg #[.int .i64 b0, .int .i64 b1], .agg #[.int .i64 v0, .int .i64 v1], .agg #[.int .i64 u0, .int .i64 u1]] w fun e w' => e = .returned (.bool false) ∧ Below w.heap.size w w' := by
  have hB_0 := Below.refl w.heap.size w
  have K1 := Lib.hid k1
  clear k1
  obtain ⟨w1, hw1, pa_0, hb1, hs1⟩ := new_box w (w.heap.size) rfl [.int .i64 a0, .int .i64 a1] 23
  have hb1' : Below w.heap.size w w1 := hb1.mono (by omega)
  clear hb1
  have hB_1 := hB_0.trans (hb1'.mono hB_0.size)
  clear hb1' hB_0
  obtain ⟨w2, hw2, pb_0, hb2, hs2⟩ := new_box w1 (w.heap.size + 1) hs1 [.int .i64 b0, .int .i64 b1] 23
  have hb2' : Below w1.heap.size w1 w2 := hb2.mono (by omega)
  clear hb2
  have hB_2 := hB_1.trans (hb2'.mono hB_1.size)
  have pa_1 := pa_0.below hb2'
  clear hb2' hB_1 pa_0
  obtain ⟨w3, hw3, pv_0, hb3, hs3⟩ := new_box w2 (w.heap.size + 1 + 1) hs2 [.int .i64 v0, .int .i64 v1] 23
  have hb3' : Below w2.heap.size w2 w3 := hb3.mono (by omega)
  clear hb3
  have hB_3 := hB_2.trans (hb3'.mono hB_2.size)
  have pa_2 := pa_1.below hb3'
  have pb_1 := pb_0.below hb3'
  clear hb3' hB_2 pa_1 pb_0
  obtain ⟨w4, hw4, pu_0, hb4, hs4⟩ := new_box w3 (w.heap.size + 1 + 1 + 1) hs3 [.int .i64 u0, .int .i64 u1] 23
  have hb4' : Below w3.heap.size w3 w4 := hb4.mono (by omega)
  clear hb4
  have hB_4 := hB_3.trans (hb4'.mono hB_3.size)
  have pa_3 := pa_2.below hb4'
  have pb_2 := pb_1.below hb4'
  have pv_1 := pv_0.below hb4'
  clear hb4' hB_3 pa_2 pb_1 pv_0
  go_enter Try.func27, Try.ntmps27
  obtain ⟨pae0, pae1, pae2, pae3⟩ := pa_3.open2
  obtain ⟨pbe0, pbe1, pbe2, pbe3⟩ := pb_2.open2
  obtain ⟨pve0, pve1, pve2, pve3⟩ := pv_1.open2
  obtain ⟨pue0, pue1, pue2, pue3⟩ := pu_0.open2
  go_wp2_with fail
  refine (K1.out _).mono ?_
  rintro e w5 ⟨rfl, hb5⟩
  clear pae0 pae1 pae2 pae3 pbe0 pbe1 pbe2 pbe3 pve0 pve1 pve2 pve3 pue0 pue1 pue2 pue3
  have hB_5 := hB_4.trans (hb5.mono hB_4.size)
  have pa_4 := pa_3.below hb5
  have pb_3 := pb_2.below hb5
  have pv_2 := pv_1.below hb5
  have pu_1 := pu_0.below hb5
  clear hb5 hB_4 pa_3 pb_2 pv_1 pu_0
  obtain ⟨pae0, pae1, pae2, pae3⟩ := pa_4.open2
  obtain ⟨pbe0, pbe1, pbe2, pbe3⟩ := pb_3.open2
  obtain ⟨pve0, pve1, pve2, pve3⟩ := pv_2.open2
  obtain ⟨pue0, pue1, pue2, pue3⟩ := pu_1.open2
  go_wp2
  go_ret
  exact ⟨rfl, hB_5⟩
set_option maxHeartbeats 4000000 in
theorem On_w_n (a0 a1 b0 b1 v0 v1 : Int) (t : Int) (_q : Bool) (k1 : ∀ w, Calls Try.prog 15 #[.agg #[.int .i64 b0, .int .i64 b1], .agg #[.int .i64 v0, .int .i64 v1], .agg #[.int .i64 a0, .int .i64 a1]] w fun e w' => e = .returned (.int .i64 t) ∧ Below w.heap.size w w') (e1 : (t == 0) = false) (w : World) :
    Calls Try.prog 23 #[.agg #[.int .i64 a0, .int .i64 a1], .agg #[.int .i64 b0, .int .i64 b1], .agg #[.int .i64 v0, .int .i64 v1]] w fun e w' => e = .returned (.bool false) ∧ Below w.heap.size w w' := by
  have hB_0 := Below.refl w.heap.size w
  have K1 := Lib.hid k1; have E1 := Lib.hid e1
  clear k1 e1
  have e2 := E1.out
  obtain ⟨w1, hw1, pa_0, hb1, hs1⟩ := new_box w (w.heap.size) rfl [.int .i64 a0, .int .i64 a1] 23
  have hb1' : Below w.heap.size w w1 := hb1.mono (by omega)
  clear hb1
  have hB_1 := hB_0.trans (hb1'.mono hB_0.size)
  clear hb1' hB_0
  obtain ⟨w2, hw2, pb_0, hb2, hs2⟩ := new_box w1 (w.heap.size + 1) hs1 [.int .i64 b0, .int .i64 b1] 23
  have hb2' : Below w1.heap.size w1 w2 := hb2.mono (by omega)
  clear hb2
  have hB_2 := hB_1.trans (hb2'.mono hB_1.size)
  have pa_1 := pa_0.below hb2'
  clear hb2' hB_1 pa_0
  obtain ⟨w3, hw3, pv_0, hb3, hs3⟩ := new_box w2 (w.heap.size + 1 + 1) hs2 [.int .i64 v0, .int .i64 v1] 23
  have hb3' : Below w2.heap.size w2 w3 := hb3.mono (by omega)
  clear hb3
  have hB_3 := hB_2.trans (hb3'.mono hB_2.size)
  have pa_2 := pa_1.below hb3'
  have pb_1 := pb_0.below hb3'
  clear hb3' hB_2 pa_1 pb_0
  go_enter Try.func23, Try.ntmps23
  obtain ⟨pae0, pae1, pae2, pae3⟩ := pa_2.open2
  obtain ⟨pbe0, pbe1, pbe2, pbe3⟩ := pb_1.open2
  obtain ⟨pve0, pve1, pve2, pve3⟩ := pv_0.open2
  go_wp2_with fail
  refine (K1.out _).mono ?_
  rintro e w4 ⟨rfl, hb4⟩
  clear pae0 pae1 pae2 pae3 pbe0 pbe1 pbe2 pbe3 pve0 pve1 pve2 pve3
  have hB_4 := hB_3.trans (hb4.mono hB_3.size)
  have pa_3 := pa_2.below hb4
  have pb_2 := pb_1.below hb4
  have pv_1 := pv_0.below hb4
  clear hb4 hB_3 pa_2 pb_1 pv_0
  obtain ⟨pae0, pae1, pae2, pae3⟩ := pa_3.open2
  obtain ⟨pbe0, pbe1, pbe2, pbe3⟩ := pb_2.open2
  obtain ⟨pve0, pve1, pve2, pve3⟩ := pv_1.open2
  go_wp2
  go_ret
  exact ⟨rfl, hB_4⟩
set_option maxHeartbeats 4000000 in
theorem On_w_tf (a0 a1 b0 b1 v0 v1 : Int) (_t : Int) (_q : Bool) (k1 : ∀ w, Calls Try.prog 15 #[.agg #[.int .i64 b0, .int .i64 b1], .agg #[.int .i64 v0, .int .i64 v1], .agg #[.int .i64 a0, .int .i64 a1]] w fun e w' => e = .returned (.int .i64 0) ∧ Below w.heap.size w w') (k2 : ∀ w, Calls Try.prog 42 #[.int .i64 a0, .int .i64 b0, .int .i64 v0] w fun e w' => e = .returned (.bool false) ∧ Below w.heap.size w w') (w : World) :
    Calls Try.prog 23 #[.agg #[.int .i64 a0, .int .i64 a1], .agg #[.int .i64 b0, .int .i64 b1], .agg #[.int .i64 v0, .int .i64 v1]] w fun e w' => e = .returned (.bool false) ∧ Below w.heap.size w w' := by
  have hB_0 := Below.refl w.heap.size w
  have K1 := Lib.hid k1; have K2 := Lib.hid k2
  clear k1 k2
  obtain ⟨w1, hw1, pa_0, hb1, hs1⟩ := new_box w (w.heap.size) rfl [.int .i64 a0, .int .i64 a1] 23
  have hb1' : Below w.heap.size w w1 := hb1.mono (by omega)
  clear hb1
  have hB_1 := hB_0.trans (hb1'.mono hB_0.size)
  clear hb1' hB_0
  obtain ⟨w2, hw2, pb_0, hb2, hs2⟩ := new_box w1 (w.heap.size + 1) hs1 [.int .i64 b0, .int .i64 b1] 23
  have hb2' : Below w1.heap.size w1 w2 := hb2.mono (by omega)
  clear hb2
  have hB_2 := hB_1.trans (hb2'.mono hB_1.size)
  have pa_1 := pa_0.below hb2'
  clear hb2' hB_1 pa_0
  obtain ⟨w3, hw3, pv_0, hb3, hs3⟩ := new_box w2 (w.heap.size + 1 + 1) hs2 [.int .i64 v0, .int .i64 v1] 23
  have hb3' : Below w2.heap.size w2 w3 := hb3.mono (by omega)
  clear hb3
  have hB_3 := hB_2.trans (hb3'.mono hB_2.size)
  have pa_2 := pa_1.below hb3'
  have pb_1 := pb_0.below hb3'
  clear hb3' hB_2 pa_1 pb_0
  go_enter Try.func23, Try.ntmps23
  obtain ⟨pae0, pae1, pae2, pae3⟩ := pa_2.open2
  obtain ⟨pbe0, pbe1, pbe2, pbe3⟩ := pb_1.open2
  obtain ⟨pve0, pve1, pve2, pve3⟩ := pv_0.open2
  go_wp2_with fail
  refine (K1.out _).mono ?_
  rintro e w4 ⟨rfl, hb4⟩
  clear pae0 pae1 pae2 pae3 pbe0 pbe1 pbe2 pbe3 pve0 pve1 pve2 pve3
  have hB_4 := hB_3.trans (hb4.mono hB_3.size)
  have pa_3 := pa_2.below hb4
  have pb_2 := pb_1.below hb4
  have pv_1 := pv_0.below hb4
  clear hb4 hB_3 pa_2 pb_1 pv_0
  obtain ⟨pae0, pae1, pae2, pae3⟩ := pa_3.open2
  obtain ⟨pbe0, pbe1, pbe2, pbe3⟩ := pb_2.open2
  obtain ⟨pve0, pve1, pve2, pve3⟩ := pv_1.open2
  go_wp2_with fail
  refine (K2.out _).mono ?_
  rintro e w5 ⟨rfl, hb5⟩
  clear pae0 pae1 pae2 pae3 pbe0 pbe1 pbe2 pbe3 pve0 pve1 pve2 pve3
  have hB_5 := hB_4.trans (hb5.mono hB_4.size)
  have pa_4 := pa_3.below hb5
  have pb_3 := pb_2.below hb5
  have pv_2 := pv_1.below hb5
  clear hb5 hB_4 pa_3 pb_2 pv_1
  obtain ⟨pae0, pae1, pae2, pae3⟩ := pa_4.open2
  obtain ⟨pbe0, pbe1, pbe2, pbe3⟩ := pb_3.open2
  obtain ⟨pve0, pve1, pve2, pve3⟩ := pv_2.open2
  go_wp2
  go_ret
  exact ⟨rfl, hB_5⟩
set_option maxHeartbeats 4000000 in
theorem On_w_tt (a0 a1 b0 b1 v0 v1 : Int) (_t : Int) (q : Bool) (k1 : ∀ w, Calls Try.prog 15 #[.agg #[.int .i64 b0, .int .i64 b1], .agg #[.int .i64 v0, .int .i64 v1], .agg #[.int .i64 a0, .int .i64 a1]] w fun e w' => e = .returned (.int .i64 0) ∧ Below w.heap.size w w') (k2 : ∀ w, Calls Try.prog 42 #[.int .i64 a0, .int .i64 b0, .int .i64 v0] w fun e w' => e = .returned (.bool true) ∧ Below w.heap.size w w') (k3 : ∀ w, Calls Try.prog 42 #[.int .i64 a1, .int .i64 b1, .int .i64 v1] w fun e w' => e = .returned (.bool q) ∧ Below w.heap.size w w') (w : World) :
    Calls Try.prog 23 #[.agg #[.int .i64 a0, .int .i64 a1], .agg #[.int .i64 b0, .int .i64 b1], .agg #[.int .i64 v0, .int .i64 v1]] w fun e w' => e = .returned (.bool q) ∧ Below w.heap.size w w' := by
  have hB_0 := Below.refl w.heap.size w
  have K1 := Lib.hid k1; have K2 := Lib.hid k2; have K3 := Lib.hid k3
  clear k1 k2 k3
  obtain ⟨w1, hw1, pa_0, hb1, hs1⟩ := new_box w (w.heap.size) rfl [.int .i64 a0, .int .i64 a1] 23
  have hb1' : Below w.heap.size w w1 := hb1.mono (by omega)
  clear hb1
  have hB_1 := hB_0.trans (hb1'.mono hB_0.size)
  clear hb1' hB_0
  obtain ⟨w2, hw2, pb_0, hb2, hs2⟩ := new_box w1 (w.heap.size + 1) hs1 [.int .i64 b0, .int .i64 b1] 23
  have hb2' : Below w1.heap.size w1 w2 := hb2.mono (by omega)
  clear hb2
  have hB_2 := hB_1.trans (hb2'.mono hB_1.size)
  have pa_1 := pa_0.below hb2'
  clear hb2' hB_1 pa_0
  obtain ⟨w3, hw3, pv_0, hb3, hs3⟩ := new_box w2 (w.heap.size + 1 + 1) hs2 [.int .i64 v0, .int .i64 v1] 23
  have hb3' : Below w2.heap.size w2 w3 := hb3.mono (by omega)
  clear hb3
  have hB_3 := hB_2.trans (hb3'.mono hB_2.size)
  have pa_2 := pa_1.below hb3'
  have pb_1 := pb_0.below hb3'
  clear hb3' hB_2 pa_1 pb_0
  go_enter Try.func23, Try.ntmps23
  obtain ⟨pae0, pae1, pae2, pae3⟩ := pa_2.open2
  obtain ⟨pbe0, pbe1, pbe2, pbe3⟩ := pb_1.open2
  obtain ⟨pve0, pve1, pve2, pve3⟩ := pv_0.open2
  go_wp2_with fail
  refine (K1.out _).mono ?_
  rintro e w4 ⟨rfl, hb4⟩
  clear pae0 pae1 pae2 pae3 pbe0 pbe1 pbe2 pbe3 pve0 pve1 pve2 pve3
  have hB_4 := hB_3.trans (hb4.mono hB_3.size)
  have pa_3 := pa_2.below hb4
  have pb_2 := pb_1.below hb4
  have pv_1 := pv_0.below hb4
  clear hb4 hB_3 pa_2 pb_1 pv_0
  obtain ⟨pae0, pae1, pae2, pae3⟩ := pa_3.open2
  obtain ⟨pbe0, pbe1, pbe2, pbe3⟩ := pb_2.open2
  obtain ⟨pve0, pve1, pve2, pve3⟩ := pv_1.open2
  go_wp2_with fail
  refine (K2.out _).mono ?_
  rintro e w5 ⟨rfl, hb5⟩
  clear pae0 pae1 pae2 pae3 pbe0 pbe1 pbe2 pbe3 pve0 pve1 pve2 pve3
  have hB_5 := hB_4.trans (hb5.mono hB_4.size)
  have pa_4 := pa_3.below hb5
  have pb_3 := pb_2.below hb5
  have pv_2 := pv_1.below hb5
  clear hb5 hB_4 pa_3 pb_2 pv_1
  obtain ⟨pae0, pae1, pae2, pae3⟩ := pa_4.open2
  obtain ⟨pbe0, pbe1, pbe2, pbe3⟩ := pb_3.open2
  obtain ⟨pve0, pve1, pve2, pve3⟩ := pv_2.open2
  go_wp2_with fail
  refine (K3.out _).mono ?_
  rintro e w6 ⟨rfl, hb6⟩
  clear pae0 pae1 pae2 pae3 pbe0 pbe1 pbe2 pbe3 pve0 pve1 pve2 pve3
  have hB_6 := hB_5.trans (hb6.mono hB_5.size)
  have pa_5 := pa_4.below hb6
  have pb_4 := pb_3.below hb6
  have pv_3 := pv_2.below hb6
  clear hb6 hB_5 pa_4 pb_3 pv_2
  obtain ⟨pae0, pae1, pae2, pae3⟩ := pa_5.open2
  obtain ⟨pbe0, pbe1, pbe2, pbe3⟩ := pb_4.open2
  obtain ⟨pve0, pve1, pve2, pve3⟩ := pv_3.open2
  go_wp2
  go_ret
  exact ⟨rfl, hB_6⟩
end Go.Proofs.Ytjciefoademlnaa
/- The statements' own Tame, fit; the closure of PredCrosses. -/
namespace Go.Proofs.Ytjciefoademlnaa
open Go.RowKit Go.MagM
/-- A coordinate made to be one that may be. -/
def tame (x : Int) : Int := if 2147483648 < (if x < -2147483648 then -2147483648 else x) then 2147483648 else (if x < -2147483648 then -2147483648 else x)
theorem tame_in (x : Int) : InP (tame x) := by unfold tame InP; split <;> split <;> omega
set_option maxHeartbeats 4000000 in
theorem Tame_w (a0 a1 x y s t : Int) (e1 : (if a0 < -2147483648 then -2147483648 else a0) = x) (e2 : (if a1 < -2147483648 then -2147483648 else a1) = y) (e3 : (if 2147483648 < x then 2147483648 else x) = s) (e4 : (if 2147483648 < y then 2147483648 else y) = t) (w : World) :
    Calls Try.prog 10 #[.agg #[.int .i64 a0, .int .i64 a1]] w fun e w' => e = .returned (.agg #[.int .i64 s, .int .i64 t]) ∧ Below w.heap.size w w' := by
  have hB_0 := Below.refl w.heap.size w
  have h1 := e1; have h2 := e2; have h3 := e3; have h4 := e4
  obtain ⟨w1, hw1, pa_0, hb1, hs1⟩ := new_box w (w.heap.size) rfl [.int .i64 a0, .int .i64 a1] 23
  have hb1' : Below w.heap.size w w1 := hb1.mono (by omega)
  clear hb1
  have hB_1 := hB_0.trans (hb1'.mono hB_0.size)
  clear hb1' hB_0
  obtain ⟨w2, hw2, pr_0, hb2, hs2⟩ := new_box w1 (w.heap.size + 1) hs1 [.int .i64 0, .int .i64 0] 23
  have hb2' : Below w1.heap.size w1 w2 := hb2.mono (by omega)
  clear hb2
  have hB_2 := hB_1.trans (hb2'.mono hB_1.size)
  have pa_1 := pa_0.below hb2'
  clear hb2' hB_1 pa_0
  go_enter Try.func10, Try.ntmps10
  obtain ⟨pae0, pae1, pae2, pae3⟩ := pa_1.open2
  obtain ⟨pre0, pre1, pre2, pre3⟩ := pr_0.open2
  obtain ⟨sf1a, sf1b, sf1c, sf1d⟩ := pr_0.open2
  obtain ⟨sg1a, sg1b⟩ := Box.put2 pr_0 (.int .i64 s)
  go_wp2
  clear pae0 pae1 pae2 pae3 pre0 pre1 pre2 pre3 sf1a sf1b sf1c sf1d sg1a sg1b
  have hB_3 := below_setAll hB_2 (g := w.heap.size + 1) (by omega) [.int .i64 s, .int .i64 t]
  have pa_2 := pa_1.farAll (g' := w.heap.size + 1) (by omega) [.int .i64 s, .int .i64 t]
  have pr_1 := pr_0.setAll [.int .i64 s, .int .i64 t] rfl
  simp only [setAll, Nat.zero_add] at hB_3 pa_2 pr_1
  clear hB_2 pa_1 pr_0
  generalize (World.setCell (World.setCell w2 ⟨w.heap.size + 1, 0, none⟩ (.int .i64 s)) ⟨w.heap.size + 1, 1, none⟩ (.int .i64 t)) = w3 at *
  go_wp2
  obtain ⟨pre0, pre1, pre2, pre3⟩ := pr_1.open2
  exact bodyPost_ret (v := .agg #[.int .i64 s, .int .i64 t]) (by simp [results, Try.results10, go_sem, pre0, pre1]) rfl ⟨rfl, hB_3⟩
theorem Tame_any (a0 a1 : Int) (w : World) : Calls Try.prog 10 #[.agg #[.int .i64 a0, .int .i64 a1]] w fun e w' => e = .returned (.agg #[.int .i64 (tame a0), .int .i64 (tame a1)]) ∧ Below w.heap.size w w' :=
  Tame_w a0 a1 _ _ _ _ rfl rfl rfl rfl w
set_option maxHeartbeats 4000000 in
theorem pfit_any (w : World) :
    Calls Try.prog 9 #[] w fun e w' => e = .returned (.bool true) ∧ Below w.heap.size w w' := by
  have hB_0 := Below.refl w.heap.size w
  have h0 : InP 0 := by unfold InP; omega
  have h1 : InP 1 := by unfold InP; omega
  have h2 : InP 2 := by unfold InP; omega
  have k0 : ∀ w, Calls Try.prog 15 #[.agg #[.int .i64 0, .int .i64 0], .agg #[.int .i64 2, .int .i64 0], .agg #[.int .i64 0, .int .i64 2]] w fun e w' => e = .returned (.int .i64 1) ∧ Below w.heap.size w w' := fun w => Orient_is 0 0 2 0 0 2 h0 h0 h2 h0 h0 h2 (by decide) w
  have k1 : ∀ w, Calls Try.prog 17 #[.agg #[.int .i64 0, .int .i64 0], .agg #[.int .i64 2, .int .i64 0], .agg #[.int .i64 0, .int .i64 2], .agg #[.int .i64 2, .int .i64 2]] w fun e w' => e = .returned (.int .i64 0) ∧ Below w.heap.size w w' := fun w => Circle_is 0 0 2 0 0 2 2 2 h0 h0 h2 h0 h0 h2 h2 h2 (by decide) w
  have k2 : ∀ w, Calls Try.prog 17 #[.agg #[.int .i64 0, .int .i64 0], .agg #[.int .i64 2, .int .i64 0], .agg #[.int .i64 0, .int .i64 2], .agg #[.int .i64 1, .int .i64 1]] w fun e w' => e = .returned (.int .i64 1) ∧ Below w.heap.size w w' := fun w => Circle_is 0 0 2 0 0 2 1 1 h0 h0 h2 h0 h0 h2 h1 h1 (by decide) w
  have K0 := Lib.hid k0; have K1 := Lib.hid k1; have K2 := Lib.hid k2
  clear k0 k1 k2
  clear h0 h1 h2
  obtain ⟨w1, hw1, pa_0, hb1, hs1⟩ := new_box w (w.heap.size) rfl [.int .i64 0, .int .i64 0] 23
  have hb1' : Below w.heap.size w w1 := hb1.mono (by omega)
  clear hb1
  have hB_1 := hB_0.trans (hb1'.mono hB_0.size)
  clear hb1' hB_0
  obtain ⟨w2, hw2, pb_0, hb2, hs2⟩ := new_box w1 (w.heap.size + 1) hs1 [.int .i64 0, .int .i64 0] 23
  have hb2' : Below w1.heap.size w1 w2 := hb2.mono (by omega)
  clear hb2
  have hB_2 := hB_1.trans (hb2'.mono hB_1.size)
  have pa_1 := pa_0.below hb2'
  clear hb2' hB_1 pa_0
  obtain ⟨w3, hw3, pv_0, hb3, hs3⟩ := new_box w2 (w.heap.size + 1 + 1) hs2 [.int .i64 0, .int .i64 0] 23
  have hb3' : Below w2.heap.size w2 w3 := hb3.mono (by omega)
  clear hb3
  have hB_3 := hB_2.trans (hb3'.mono hB_2.size)
  have pa_2 := pa_1.below hb3'
  have pb_1 := pb_0.below hb3'
  clear hb3' hB_2 pa_1 pb_0
  go_enter Try.func9, Try.ntmps9
  obtain ⟨pae0, pae1, pae2, pae3⟩ := pa_2.open2
  obtain ⟨pbe0, pbe1, pbe2, pbe3⟩ := pb_1.open2
  obtain ⟨pve0, pve1, pve2, pve3⟩ := pv_0.open2
  clear pae0 pae1 pae2 pae3 pbe0 pbe1 pbe2 pbe3 pve0 pve1 pve2 pve3
  obtain ⟨sf1a, sf1b, sf1c, sf1d⟩ := pa_2.open2
  obtain ⟨sg1a, sg1b⟩ := Box.put2 pa_2 (.int .i64 0)
  have hB_4 := below_setAll hB_3 (g := w.heap.size) (by omega) [.int .i64 0, .int .i64 0]
  have pb_2 := pb_1.farAll (g' := w.heap.size) (by omega) [.int .i64 0, .int .i64 0]
  have pv_1 := pv_0.farAll (g' := w.heap.size) (by omega) [.int .i64 0, .int .i64 0]
  have pa_3 := pa_2.setAll [.int .i64 0, .int .i64 0] rfl
  simp only [setAll, Nat.zero_add] at hB_4 pa_3 pb_2 pv_1
  obtain ⟨sf2a, sf2b, sf2c, sf2d⟩ := pb_2.open2
  obtain ⟨sg2a, sg2b⟩ := Box.put2 pb_2 (.int .i64 2)
  have hB_5 := below_setAll hB_4 (g := w.heap.size + 1) (by omega) [.int .i64 2, .int .i64 0]
  have pa_4 := pa_3.farAll (g' := w.heap.size + 1) (by omega) [.int .i64 2, .int .i64 0]
  have pv_2 := pv_1.farAll (g' := w.heap.size + 1) (by omega) [.int .i64 2, .int .i64 0]
  have pb_3 := pb_2.setAll [.int .i64 2, .int .i64 0] rfl
  simp only [setAll, Nat.zero_add] at hB_5 pa_4 pb_3 pv_2
  obtain ⟨sf3a, sf3b, sf3c, sf3d⟩ := pv_2.open2
  obtain ⟨sg3a, sg3b⟩ := Box.put2 pv_2 (.int .i64 0)
  have hB_6 := below_setAll hB_5 (g := w.heap.size + 1 + 1) (by omega) [.int .i64 0, .int .i64 2]
  have pa_5 := pa_4.farAll (g' := w.heap.size + 1 + 1) (by omega) [.int .i64 0, .int .i64 2]
  have pb_4 := pb_3.farAll (g' := w.heap.size + 1 + 1) (by omega) [.int .i64 0, .int .i64 2]
  have pv_3 := pv_2.setAll [.int .i64 0, .int .i64 2] rfl
  simp only [setAll, Nat.zero_add] at hB_6 pa_5 pb_4 pv_3
  obtain ⟨pae0, pae1, pae2, pae3⟩ := pa_5.open2
  obtain ⟨pbe0, pbe1, pbe2, pbe3⟩ := pb_4.open2
  obtain ⟨pve0, pve1, pve2, pve3⟩ := pv_3.open2
  go_wp2_with fail
  clear sf1a sf1b sf1c sf1d sg1a sg1b sf2a sf2b sf2c sf2d sg2a sg2b sf3a sf3b sf3c sf3d sg3a sg3b hB_3 pb_1 pv_0 pa_2 hB_4 pa_3 pv_1 pb_2 hB_5 pa_4 pb_3 pv_2
  generalize (World.setCell (World.setCell (World.setCell (World.setCell (World.setCell (World.setCell w3 ⟨w.heap.size, 0, none⟩ (.int .i64 0)) ⟨w.heap.size, 1, none⟩ (.int .i64 0)) ⟨w.heap.size + 1, 0, none⟩ (.int .i64 2)) ⟨w.heap.size + 1, 1, none⟩ (.int .i64 0)) ⟨w.heap.size + 1 + 1, 0, none⟩ (.int .i64 0)) ⟨w.heap.size + 1 + 1, 1, none⟩ (.int .i64 2)) = w4 at *
  clear pae0 pae1 pae2 pae3 pbe0 pbe1 pbe2 pbe3 pve0 pve1 pve2 pve3
  obtain ⟨pae0, pae1, pae2, pae3⟩ := pa_5.open2
  obtain ⟨pbe0, pbe1, pbe2, pbe3⟩ := pb_4.open2
  obtain ⟨pve0, pve1, pve2, pve3⟩ := pv_3.open2
  go_wp2_with fail
  refine (K0.out _).mono ?_
  rintro e w5 ⟨rfl, hb5⟩
  clear pae0 pae1 pae2 pae3 pbe0 pbe1 pbe2 pbe3 pve0 pve1 pve2 pve3
  have hB_7 := hB_6.trans (hb5.mono hB_6.size)
  have pa_6 := pa_5.below hb5
  have pb_5 := pb_4.below hb5
  have pv_4 := pv_3.below hb5
  clear hb5 hB_6 pa_5 pb_4 pv_3
  obtain ⟨pae0, pae1, pae2, pae3⟩ := pa_6.open2
  obtain ⟨pbe0, pbe1, pbe2, pbe3⟩ := pb_5.open2
  obtain ⟨pve0, pve1, pve2, pve3⟩ := pv_4.open2
  go_wp2_with fail
  refine (K1.out _).mono ?_
  rintro e w6 ⟨rfl, hb6⟩
  clear pae0 pae1 pae2 pae3 pbe0 pbe1 pbe2 pbe3 pve0 pve1 pve2 pve3
  have hB_8 := hB_7.trans (hb6.mono hB_7.size)
  have pa_7 := pa_6.below hb6
  have pb_6 := pb_5.below hb6
  have pv_5 := pv_4.below hb6
  clear hb6 hB_7 pa_6 pb_5 pv_4
  obtain ⟨pae0, pae1, pae2, pae3⟩ := pa_7.open2
  obtain ⟨pbe0, pbe1, pbe2, pbe3⟩ := pb_6.open2
  obtain ⟨pve0, pve1, pve2, pve3⟩ := pv_5.open2
  go_wp2_with fail
  refine (K2.out _).mono ?_
  rintro e w7 ⟨rfl, hb7⟩
  clear pae0 pae1 pae2 pae3 pbe0 pbe1 pbe2 pbe3 pve0 pve1 pve2 pve3
  have hB_9 := hB_8.trans (hb7.mono hB_8.size)
  have pa_8 := pa_7.below hb7
  have pb_7 := pb_6.below hb7
  have pv_6 := pv_5.below hb7
  clear hb7 hB_8 pa_7 pb_6 pv_5
  obtain ⟨pae0, pae1, pae2, pae3⟩ := pa_8.open2
  obtain ⟨pbe0, pbe1, pbe2, pbe3⟩ := pb_7.open2
  obtain ⟨pve0, pve1, pve2, pve3⟩ := pv_6.open2
  go_wp2
  go_ret
  exact ⟨rfl, hB_9⟩
set_option maxHeartbeats 4000000 in
theorem side_is (a0 a1 b0 b1 v0 v1 : Int) (s : Int) (ha0 : InP a0) (ha1 : InP a1) (hb0 : InP b0) (hb1 : InP b1) (hv0 : InP v0) (hv1 : InP v1) (hs : (crs a0 a1 b0 b1 v0 v1).sign = s) (w : World) :
    Calls Try.prog 26 #[.agg #[.int .i64 a0, .int .i64 a1], .agg #[.int .i64 b0, .int .i64 b1], .agg #[.int .i64 v0, .int .i64 v1]] w fun e w' => e = .returned (.int .i64 s) ∧ Below w.heap.size w w' := by
  have hB_0 := Below.refl w.heap.size w
  have HA0 := Lib.hid ha0; have HA1 := Lib.hid ha1; have HB0 := Lib.hid hb0; have HB1 := Lib.hid hb1; have HV0 := Lib.hid hv0; have HV1 := Lib.hid hv1; have HS := Lib.hid hs
  clear ha0 ha1 hb0 hb1 hv0 hv1 hs
  obtain ⟨w1, hw1, pa_0, hb1, hs1⟩ := new_box w (w.heap.size) rfl [.int .i64 a0, .int .i64 a1] 23
  have hb1' : Below w.heap.size w w1 := hb1.mono (by omega)
  clear hb1
  have hB_1 := hB_0.trans (hb1'.mono hB_0.size)
  clear hb1' hB_0
  obtain ⟨w2, hw2, pb_0, hb2, hs2⟩ := new_box w1 (w.heap.size + 1) hs1 [.int .i64 b0, .int .i64 b1] 23
  have hb2' : Below w1.heap.size w1 w2 := hb2.mono (by omega)
  clear hb2
  have hB_2 := hB_1.trans (hb2'.mono hB_1.size)
  have pa_1 := pa_0.below hb2'
  clear hb2' hB_1 pa_0
  obtain ⟨w3, hw3, pv_0, hb3, hs3⟩ := new_box w2 (w.heap.size + 1 + 1) hs2 [.int .i64 v0, .int .i64 v1] 23
  have hb3' : Below w2.heap.size w2 w3 := hb3.mono (by omega)
  clear hb3
  have hB_3 := hB_2.trans (hb3'.mono hB_2.size)
  have pa_2 := pa_1.below hb3'
  have pb_1 := pb_0.below hb3'
  clear hb3' hB_2 pa_1 pb_0
  go_enter Try.func26, Try.ntmps26
  obtain ⟨pae0, pae1, pae2, pae3⟩ := pa_2.open2
  obtain ⟨pbe0, pbe1, pbe2, pbe3⟩ := pb_1.open2
  obtain ⟨pve0, pve1, pve2, pve3⟩ := pv_0.open2
  obtain ⟨xl0, xl1, xl2, xl3⟩ := pa_2.open2
  obtain ⟨yl0, yl1, yl2, yl3⟩ := pb_1.open2
  obtain ⟨zl0, zl1, zl2, zl3⟩ := pv_0.open2
  clear pae0 pae1 pae2 pae3 pbe0 pbe1 pbe2 pbe3 pve0 pve1 pve2 pve3
  have hl1pa := pa_2.lt
  have hl1pb := pb_1.lt
  have hl1pv := pv_0.lt
  have hl1B := hB_3.size
  obtain ⟨w4, hw4, pq_0, hb4, hs4⟩ := new_box w3 (w.heap.size + 1 + 1 + 1) hs3 [.int .i64 a0, .int .i64 a1, .int .i64 b0, .int .i64 b1, .int .i64 v0, .int .i64 v1] 23
  have hb4' : Below w3.heap.size w3 w4 := hb4.mono (by omega)
  clear hb4
  have hB_4 := hB_3.trans (hb4'.mono hB_3.size)
  have pa_3 := pa_2.below hb4'
  have pb_2 := pb_1.below hb4'
  have pv_1 := pv_0.below hb4'
  clear hb4' hB_3 pa_2 pb_1 pv_0
  obtain ⟨pae0, pae1, pae2, pae3⟩ := pa_3.open2
  obtain ⟨pbe0, pbe1, pbe2, pbe3⟩ := pb_2.open2
  obtain ⟨pve0, pve1, pve2, pve3⟩ := pv_1.open2
  obtain ⟨pqe0, pqe1, pqe2, pqe3, pqe4, pqe5, pqe6, pqe7, pqe8, pqe9, pqe10, pqe11⟩ := pq_0.open6
  go_wp2_with fail
  refine (area2_three a0 a1 b0 b1 v0 v1 _ _ HA0.out HA1.out HB0.out HB1.out HV0.out HV1.out pq_0).mono ?_
  rintro e w5 ⟨m1, o1, n1, c1, rfl, f1_0, hb5⟩
  clear pae0 pae1 pae2 pae3 pbe0 pbe1 pbe2 pbe3 pve0 pve1 pve2 pve3 pqe0 pqe1 pqe2 pqe3 pqe4 pqe5 pqe6 pqe7 pqe8 pqe9 pqe10 pqe11
  have hB_5 := hB_4.trans (hb5.mono hB_4.size)
  have pa_4 := pa_3.below hb5
  have pb_3 := pb_2.below hb5
  have pv_2 := pv_1.below hb5
  have pq_1 := pq_0.below hb5
  clear hb5 hB_4 pa_3 pb_2 pv_1 pq_0
  clear xl0 xl1 xl2 xl3 yl0 yl1 yl2 yl3 zl0 zl1 zl2 zl3
  go_wp2_with fail
  refine (Sign_named _ 7 _ s _ (by omega) f1_0.num HS.out).mono ?_
  rintro e w6 ⟨rfl, hb6⟩
  have hB_6 := hB_5.trans (hb6.mono hB_5.size)
  have pa_5 := pa_4.below hb6
  have pb_4 := pb_3.below hb6
  have pv_3 := pv_2.below hb6
  have pq_2 := pq_1.below hb6
  have f1_1 := f1_0.below hb6
  clear hb6 hB_5 pa_4 pb_3 pv_2 pq_1 f1_0
  go_wp2
  go_ret
  exact ⟨rfl, hB_6⟩
end Go.Proofs.Ytjciefoademlnaa
/- The calls of pred: Between. -/
namespace Go.Proofs.Ytjciefoademlnaa
open Go.RowKit Go.MagM
set_option maxHeartbeats 4000000 in
theorem Between_w_sx (a0 a1 v0 v1 : Int) (_q : Bool) (w : World) :
    Calls Try.prog 24 #[.agg #[.int .i64 a0, .int .i64 a1], .agg #[.int .i64 a0, .int .i64 a1], .agg #[.int .i64 v0, .int .i64 v1]] w fun e w' => e = .returned (.bool false) ∧ Below w.heap.size w w' := by
  have hB_0 := Below.refl w.heap.size w
  obtain ⟨w1, hw1, pa_0, hb1, hs1⟩ := new_box w (w.heap.size) rfl [.int .i64 a0, .int .i64 a1] 23
  have hb1' : Below w.heap.size w w1 := hb1.mono (by omega)
  clear hb1
  have hB_1 := hB_0.trans (hb1'.mono hB_0.size)
  clear hb1' hB_0
  obtain ⟨w2, hw2, pb_0, hb2, hs2⟩ := new_box w1 (w.heap.size + 1) hs1 [.int .i64 a0, .int .i64 a1] 23
  have hb2' : Below w1.heap.size w1 w2 := hb2.mono (by omega)
  clear hb2
  have hB_2 := hB_1.trans (hb2'.mono hB_1.size)
  have pa_1 := pa_0.below hb2'
  clear hb2' hB_1 pa_0
  obtain ⟨w3, hw3, pv_0, hb3, hs3⟩ := new_box w2 (w.heap.size + 1 + 1) hs2 [.int .i64 v0, .int .i64 v1] 23
  have hb3' : Below w2.heap.size w2 w3 := hb3.mono (by omega)
  clear hb3
  have hB_3 := hB_2.trans (hb3'.mono hB_2.size)
  have pa_2 := pa_1.below hb3'
  have pb_1 := pb_0.below hb3'
  clear hb3' hB_2 pa_1 pb_0
  go_enter Try.func24, Try.ntmps24
  obtain ⟨pae0, pae1, pae2, pae3⟩ := pa_2.open2
  obtain ⟨pbe0, pbe1, pbe2, pbe3⟩ := pb_1.open2
  obtain ⟨pve0, pve1, pve2, pve3⟩ := pv_0.open2
  go_wp2
  go_ret
  exact ⟨rfl, hB_3⟩
set_option maxHeartbeats 4000000 in
theorem Between_w_xs (a0 a1 b0 b1 : Int) (_q : Bool) (nb : ¬ a0 = b0) (w : World) :
    Calls Try.prog 24 #[.agg #[.int .i64 a0, .int .i64 a1], .agg #[.int .i64 b0, .int .i64 b1], .agg #[.int .i64 a0, .int .i64 a1]] w fun e w' => e = .returned (.bool false) ∧ Below w.heap.size w w' := by
  have hB_0 := Below.refl w.heap.size w
  have gb1 : decide (a0 = b0) = false := by simp [nb]
  have gb2 : (a0 == b0) = false := by simp [nb]
  obtain ⟨w1, hw1, pa_0, hb1, hs1⟩ := new_box w (w.heap.size) rfl [.int .i64 a0, .int .i64 a1] 23
  have hb1' : Below w.heap.size w w1 := hb1.mono (by omega)
  clear hb1
  have hB_1 := hB_0.trans (hb1'.mono hB_0.size)
  clear hb1' hB_0
  obtain ⟨w2, hw2, pb_0, hb2, hs2⟩ := new_box w1 (w.heap.size + 1) hs1 [.int .i64 b0, .int .i64 b1] 23
  have hb2' : Below w1.heap.size w1 w2 := hb2.mono (by omega)
  clear hb2
  have hB_2 := hB_1.trans (hb2'.mono hB_1.size)
  have pa_1 := pa_0.below hb2'
  clear hb2' hB_1 pa_0
  obtain ⟨w3, hw3, pv_0, hb3, hs3⟩ := new_box w2 (w.heap.size + 1 + 1) hs2 [.int .i64 a0, .int .i64 a1] 23
  have hb3' : Below w2.heap.size w2 w3 := hb3.mono (by omega)
  clear hb3
  have hB_3 := hB_2.trans (hb3'.mono hB_2.size)
  have pa_2 := pa_1.below hb3'
  have pb_1 := pb_0.below hb3'
  clear hb3' hB_2 pa_1 pb_0
  go_enter Try.func24, Try.ntmps24
  obtain ⟨pae0, pae1, pae2, pae3⟩ := pa_2.open2
  obtain ⟨pbe0, pbe1, pbe2, pbe3⟩ := pb_1.open2
  obtain ⟨pve0, pve1, pve2, pve3⟩ := pv_0.open2
  go_wp2
  go_ret
  exact ⟨rfl, hB_3⟩
set_option maxHeartbeats 4000000 in
theorem Between_w_xx (a0 a1 b0 b1 v0 v1 : Int) (q : Bool) (nb : ¬ a0 = b0) (nv : ¬ a0 = v0) (k1 : ∀ w, Calls Try.prog 23 #[.agg #[.int .i64 a0, .int .i64 a1], .agg #[.int .i64 b0, .int .i64 b1], .agg #[.int .i64 v0, .int .i64 v1]] w fun e w' => e = .returned (.bool q) ∧ Below w.heap.size w w') (w : World) :
    Calls Try.prog 24 #[.agg #[.int .i64 a0, .int .i64 a1], .agg #[.int .i64 b0, .int .i64 b1], .agg #[.int .i64 v0, .int .i64 v1]] w fun e w' => e = .returned (.bool q) ∧ Below w.heap.size w w' := by
  have hB_0 := Below.refl w.heap.size w
  have gb1 : decide (a0 = b0) = false := by simp [nb]
  have gb2 : (a0 == b0) = false := by simp [nb]
  have gv1 : decide (a0 = v0) = false := by simp [nv]
  have gv2 : (a0 == v0) = false := by simp [nv]
  have K1 := Lib.hid k1
  clear k1
  obtain ⟨w1, hw1, pa_0, hb1, hs1⟩ := new_box w (w.heap.size) rfl [.int .i64 a0, .int .i64 a1] 23
  have hb1' : Below w.heap.size w w1 := hb1.mono (by omega)
  clear hb1
  have hB_1 := hB_0.trans (hb1'.mono hB_0.size)
  clear hb1' hB_0
  obtain ⟨w2, hw2, pb_0, hb2, hs2⟩ := new_box w1 (w.heap.size + 1) hs1 [.int .i64 b0, .int .i64 b1] 23
  have hb2' : Below w1.heap.size w1 w2 := hb2.mono (by omega)
  clear hb2
  have hB_2 := hB_1.trans (hb2'.mono hB_1.size)
  have pa_1 := pa_0.below hb2'
  clear hb2' hB_1 pa_0
  obtain ⟨w3, hw3, pv_0, hb3, hs3⟩ := new_box w2 (w.heap.size + 1 + 1) hs2 [.int .i64 v0, .int .i64 v1] 23
  have hb3' : Below w2.heap.size w2 w3 := hb3.mono (by omega)
  clear hb3
  have hB_3 := hB_2.trans (hb3'.mono hB_2.size)
  have pa_2 := pa_1.below hb3'
  have pb_1 := pb_0.below hb3'
  clear hb3' hB_2 pa_1 pb_0
  go_enter Try.func24, Try.ntmps24
  obtain ⟨pae0, pae1, pae2, pae3⟩ := pa_2.open2
  obtain ⟨pbe0, pbe1, pbe2, pbe3⟩ := pb_1.open2
  obtain ⟨pve0, pve1, pve2, pve3⟩ := pv_0.open2
  go_wp2_with fail
  refine (K1.out _).mono ?_
  rintro e w4 ⟨rfl, hb4⟩
  clear pae0 pae1 pae2 pae3 pbe0 pbe1 pbe2 pbe3 pve0 pve1 pve2 pve3
  have hB_4 := hB_3.trans (hb4.mono hB_3.size)
  have pa_3 := pa_2.below hb4
  have pb_2 := pb_1.below hb4
  have pv_1 := pv_0.below hb4
  clear hb4 hB_3 pa_2 pb_1 pv_0
  obtain ⟨pae0, pae1, pae2, pae3⟩ := pa_3.open2
  obtain ⟨pbe0, pbe1, pbe2, pbe3⟩ := pb_2.open2
  obtain ⟨pve0, pve1, pve2, pve3⟩ := pv_1.open2
  go_wp2
  go_ret
  exact ⟨rfl, hB_4⟩
set_option maxHeartbeats 4000000 in
theorem Between_w_xy (a0 a1 b0 b1 v1 : Int) (q : Bool) (nb : ¬ a0 = b0) (nv : ¬ a1 = v1) (k1 : ∀ w, Calls Try.prog 23 #[.agg #[.int .i64 a0, .int .i64 a1], .agg #[.int .i64 b0, .int .i64 b1], .agg #[.int .i64 a0, .int .i64 v1]] w fun e w' => e = .returned (.bool q) ∧ Below w.heap.size w w') (w : World) :
    Calls Try.prog 24 #[.agg #[.int .i64 a0, .int .i64 a1], .agg #[.int .i64 b0, .int .i64 b1], .agg #[.int .i64 a0, .int .i64 v1]] w fun e w' => e = .returned (.bool q) ∧ Below w.heap.size w w' := by
  have hB_0 := Below.refl w.heap.size w
  have gb1 : decide (a0 = b0) = false := by simp [nb]
  have gb2 : (a0 == b0) = false := by simp [nb]
  have gv1 : decide (a1 = v1) = false := by simp [nv]
  have gv2 : (a1 == v1) = false := by simp [nv]
  have K1 := Lib.hid k1
  clear k1
  obtain ⟨w1, hw1, pa_0, hb1, hs1⟩ := new_box w (w.heap.size) rfl [.int .i64 a0, .int .i64 a1] 23
  have hb1' : Below w.heap.size w w1 := hb1.mono (by omega)
  clear hb1
  have hB_1 := hB_0.trans (hb1'.mono hB_0.size)
  clear hb1' hB_0
  obtain ⟨w2, hw2, pb_0, hb2, hs2⟩ := new_box w1 (w.heap.size + 1) hs1 [.int .i64 b0, .int .i64 b1] 23
  have hb2' : Below w1.heap.size w1 w2 := hb2.mono (by omega)
  clear hb2
  have hB_2 := hB_1.trans (hb2'.mono hB_1.size)
  have pa_1 := pa_0.below hb2'
  clear hb2' hB_1 pa_0
  obtain ⟨w3, hw3, pv_0, hb3, hs3⟩ := new_box w2 (w.heap.size + 1 + 1) hs2 [.int .i64 a0, .int .i64 v1] 23
  have hb3' : Below w2.heap.size w2 w3 := hb3.mono (by omega)
  clear hb3
  have hB_3 := hB_2.trans (hb3'.mono hB_2.size)
  have pa_2 := pa_1.below hb3'
  have pb_1 := pb_0.below hb3'
  clear hb3' hB_2 pa_1 pb_0
  go_enter Try.func24, Try.ntmps24
  obtain ⟨pae0, pae1, pae2, pae3⟩ := pa_2.open2
  obtain ⟨pbe0, pbe1, pbe2, pbe3⟩ := pb_1.open2
  obtain ⟨pve0, pve1, pve2, pve3⟩ := pv_0.open2
  go_wp2_with fail
  refine (K1.out _).mono ?_
  rintro e w4 ⟨rfl, hb4⟩
  clear pae0 pae1 pae2 pae3 pbe0 pbe1 pbe2 pbe3 pve0 pve1 pve2 pve3
  have hB_4 := hB_3.trans (hb4.mono hB_3.size)
  have pa_3 := pa_2.below hb4
  have pb_2 := pb_1.below hb4
  have pv_1 := pv_0.below hb4
  clear hb4 hB_3 pa_2 pb_1 pv_0
  obtain ⟨pae0, pae1, pae2, pae3⟩ := pa_3.open2
  obtain ⟨pbe0, pbe1, pbe2, pbe3⟩ := pb_2.open2
  obtain ⟨pve0, pve1, pve2, pve3⟩ := pv_1.open2
  go_wp2
  go_ret
  exact ⟨rfl, hB_4⟩
set_option maxHeartbeats 4000000 in
theorem Between_w_ys (a0 a1 b1 : Int) (_q : Bool) (nb : ¬ a1 = b1) (w : World) :
    Calls Try.prog 24 #[.agg #[.int .i64 a0, .int .i64 a1], .agg #[.int .i64 a0, .int .i64 b1], .agg #[.int .i64 a0, .int .i64 a1]] w fun e w' => e = .returned (.bool false) ∧ Below w.heap.size w w' := by
  have hB_0 := Below.refl w.heap.size w
  have gb1 : decide (a1 = b1) = false := by simp [nb]
  have gb2 : (a1 == b1) = false := by simp [nb]
  obtain ⟨w1, hw1, pa_0, hb1, hs1⟩ := new_box w (w.heap.size) rfl [.int .i64 a0, .int .i64 a1] 23
  have hb1' : Below w.heap.size w w1 := hb1.mono (by omega)
  clear hb1
  have hB_1 := hB_0.trans (hb1'.mono hB_0.size)
  clear hb1' hB_0
  obtain ⟨w2, hw2, pb_0, hb2, hs2⟩ := new_box w1 (w.heap.size + 1) hs1 [.int .i64 a0, .int .i64 b1] 23
  have hb2' : Below w1.heap.size w1 w2 := hb2.mono (by omega)
  clear hb2
  have hB_2 := hB_1.trans (hb2'.mono hB_1.size)
  have pa_1 := pa_0.below hb2'
  clear hb2' hB_1 pa_0
  obtain ⟨w3, hw3, pv_0, hb3, hs3⟩ := new_box w2 (w.heap.size + 1 + 1) hs2 [.int .i64 a0, .int .i64 a1] 23
  have hb3' : Below w2.heap.size w2 w3 := hb3.mono (by omega)
  clear hb3
  have hB_3 := hB_2.trans (hb3'.mono hB_2.size)
  have pa_2 := pa_1.below hb3'
  have pb_1 := pb_0.below hb3'
  clear hb3' hB_2 pa_1 pb_0
  go_enter Try.func24, Try.ntmps24
  obtain ⟨pae0, pae1, pae2, pae3⟩ := pa_2.open2
  obtain ⟨pbe0, pbe1, pbe2, pbe3⟩ := pb_1.open2
  obtain ⟨pve0, pve1, pve2, pve3⟩ := pv_0.open2
  go_wp2
  go_ret
  exact ⟨rfl, hB_3⟩
set_option maxHeartbeats 4000000 in
theorem Between_w_yx (a0 a1 b1 v0 v1 : Int) (q : Bool) (nb : ¬ a1 = b1) (nv : ¬ a0 = v0) (k1 : ∀ w, Calls Try.prog 23 #[.agg #[.int .i64 a0, .int .i64 a1], .agg #[.int .i64 a0, .int .i64 b1], .agg #[.int .i64 v0, .int .i64 v1]] w fun e w' => e = .returned (.bool q) ∧ Below w.heap.size w w') (w : World) :
    Calls Try.prog 24 #[.agg #[.int .i64 a0, .int .i64 a1], .agg #[.int .i64 a0, .int .i64 b1], .agg #[.int .i64 v0, .int .i64 v1]] w fun e w' => e = .returned (.bool q) ∧ Below w.heap.size w w' := by
  have hB_0 := Below.refl w.heap.size w
  have gb1 : decide (a1 = b1) = false := by simp [nb]
  have gb2 : (a1 == b1) = false := by simp [nb]
  have gv1 : decide (a0 = v0) = false := by simp [nv]
  have gv2 : (a0 == v0) = false := by simp [nv]
  have K1 := Lib.hid k1
  clear k1
  obtain ⟨w1, hw1, pa_0, hb1, hs1⟩ := new_box w (w.heap.size) rfl [.int .i64 a0, .int .i64 a1] 23
  have hb1' : Below w.heap.size w w1 := hb1.mono (by omega)
  clear hb1
  have hB_1 := hB_0.trans (hb1'.mono hB_0.size)
  clear hb1' hB_0
  obtain ⟨w2, hw2, pb_0, hb2, hs2⟩ := new_box w1 (w.heap.size + 1) hs1 [.int .i64 a0, .int .i64 b1] 23
  have hb2' : Below w1.heap.size w1 w2 := hb2.mono (by omega)
  clear hb2
  have hB_2 := hB_1.trans (hb2'.mono hB_1.size)
  have pa_1 := pa_0.below hb2'
  clear hb2' hB_1 pa_0
  obtain ⟨w3, hw3, pv_0, hb3, hs3⟩ := new_box w2 (w.heap.size + 1 + 1) hs2 [.int .i64 v0, .int .i64 v1] 23
  have hb3' : Below w2.heap.size w2 w3 := hb3.mono (by omega)
  clear hb3
  have hB_3 := hB_2.trans (hb3'.mono hB_2.size)
  have pa_2 := pa_1.below hb3'
  have pb_1 := pb_0.below hb3'
  clear hb3' hB_2 pa_1 pb_0
  go_enter Try.func24, Try.ntmps24
  obtain ⟨pae0, pae1, pae2, pae3⟩ := pa_2.open2
  obtain ⟨pbe0, pbe1, pbe2, pbe3⟩ := pb_1.open2
  obtain ⟨pve0, pve1, pve2, pve3⟩ := pv_0.open2
  go_wp2_with fail
  refine (K1.out _).mono ?_
  rintro e w4 ⟨rfl, hb4⟩
  clear pae0 pae1 pae2 pae3 pbe0 pbe1 pbe2 pbe3 pve0 pve1 pve2 pve3
  have hB_4 := hB_3.trans (hb4.mono hB_3.size)
  have pa_3 := pa_2.below hb4
  have pb_2 := pb_1.below hb4
  have pv_1 := pv_0.below hb4
  clear hb4 hB_3 pa_2 pb_1 pv_0
  obtain ⟨pae0, pae1, pae2, pae3⟩ := pa_3.open2
  obtain ⟨pbe0, pbe1, pbe2, pbe3⟩ := pb_2.open2
  obtain ⟨pve0, pve1, pve2, pve3⟩ := pv_1.open2
  go_wp2
  go_ret
  exact ⟨rfl, hB_4⟩
set_option maxHeartbeats 4000000 in
theorem Between_w_yy (a0 a1 b1 v1 : Int) (q : Bool) (nb : ¬ a1 = b1) (nv : ¬ a1 = v1) (k1 : ∀ w, Calls Try.prog 23 #[.agg #[.int .i64 a0, .int .i64 a1], .agg #[.int .i64 a0, .int .i64 b1], .agg #[.int .i64 a0, .int .i64 v1]] w fun e w' => e = .returned (.bool q) ∧ Below w.heap.size w w') (w : World) :
    Calls Try.prog 24 #[.agg #[.int .i64 a0, .int .i64 a1], .agg #[.int .i64 a0, .int .i64 b1], .agg #[.int .i64 a0, .int .i64 v1]] w fun e w' => e = .returned (.bool q) ∧ Below w.heap.size w w' := by
  have hB_0 := Below.refl w.heap.size w
  have gb1 : decide (a1 = b1) = false := by simp [nb]
  have gb2 : (a1 == b1) = false := by simp [nb]
  have gv1 : decide (a1 = v1) = false := by simp [nv]
  have gv2 : (a1 == v1) = false := by simp [nv]
  have K1 := Lib.hid k1
  clear k1
  obtain ⟨w1, hw1, pa_0, hb1, hs1⟩ := new_box w (w.heap.size) rfl [.int .i64 a0, .int .i64 a1] 23
  have hb1' : Below w.heap.size w w1 := hb1.mono (by omega)
  clear hb1
  have hB_1 := hB_0.trans (hb1'.mono hB_0.size)
  clear hb1' hB_0
  obtain ⟨w2, hw2, pb_0, hb2, hs2⟩ := new_box w1 (w.heap.size + 1) hs1 [.int .i64 a0, .int .i64 b1] 23
  have hb2' : Below w1.heap.size w1 w2 := hb2.mono (by omega)
  clear hb2
  have hB_2 := hB_1.trans (hb2'.mono hB_1.size)
  have pa_1 := pa_0.below hb2'
  clear hb2' hB_1 pa_0
  obtain ⟨w3, hw3, pv_0, hb3, hs3⟩ := new_box w2 (w.heap.size + 1 + 1) hs2 [.int .i64 a0, .int .i64 v1] 23
  have hb3' : Below w2.heap.size w2 w3 := hb3.mono (by omega)
  clear hb3
  have hB_3 := hB_2.trans (hb3'.mono hB_2.size)
  have pa_2 := pa_1.below hb3'
  have pb_1 := pb_0.below hb3'
  clear hb3' hB_2 pa_1 pb_0
  go_enter Try.func24, Try.ntmps24
  obtain ⟨pae0, pae1, pae2, pae3⟩ := pa_2.open2
  obtain ⟨pbe0, pbe1, pbe2, pbe3⟩ := pb_1.open2
  obtain ⟨pve0, pve1, pve2, pve3⟩ := pv_0.open2
  go_wp2_with fail
  refine (K1.out _).mono ?_
  rintro e w4 ⟨rfl, hb4⟩
  clear pae0 pae1 pae2 pae3 pbe0 pbe1 pbe2 pbe3 pve0 pve1 pve2 pve3
  have hB_4 := hB_3.trans (hb4.mono hB_3.size)
  have pa_3 := pa_2.below hb4
  have pb_2 := pb_1.below hb4
  have pv_1 := pv_0.below hb4
  clear hb4 hB_3 pa_2 pb_1 pv_0
  obtain ⟨pae0, pae1, pae2, pae3⟩ := pa_3.open2
  obtain ⟨pbe0, pbe1, pbe2, pbe3⟩ := pb_2.open2
  obtain ⟨pve0, pve1, pve2, pve3⟩ := pv_1.open2
  go_wp2
  go_ret
  exact ⟨rfl, hB_4⟩
theorem Between_any (a0 a1 b0 b1 v0 v1 : Int) (q : Bool) (k : ∀ w, Calls Try.prog 23 #[.agg #[.int .i64 a0, .int .i64 a1], .agg #[.int .i64 b0, .int .i64 b1], .agg #[.int .i64 v0, .int .i64 v1]] w fun e w' => e = .returned (.bool q) ∧ Below w.heap.size w w') (w : World) :
    Calls Try.prog 24 #[.agg #[.int .i64 a0, .int .i64 a1], .agg #[.int .i64 b0, .int .i64 b1], .agg #[.int .i64 v0, .int .i64 v1]] w fun e w' => e = .returned (.bool (decide (¬ (a0 = b0 ∧ a1 = b1) ∧ ¬ (a0 = v0 ∧ a1 = v1)) && q)) ∧ Below w.heap.size w w' := by
  by_cases hb0 : a0 = b0
  · subst hb0
    by_cases hb1 : a1 = b1
    · subst hb1
      rw [decide_eq_false (by simp), Bool.false_and]
      exact Between_w_sx a0 a1 v0 v1 q w
    · by_cases hv0 : a0 = v0
      · subst hv0
        by_cases hv1 : a1 = v1
        · subst hv1
          rw [decide_eq_false (by simp), Bool.false_and]
          exact Between_w_ys a0 a1 b1 q hb1 w
        · rw [decide_eq_true (by simp [hb1, hv1]), Bool.true_and]
          exact Between_w_yy a0 a1 b1 v1 q hb1 hv1 k w
      · rw [decide_eq_true (by simp [hb1, hv0]), Bool.true_and]
        exact Between_w_yx a0 a1 b1 v0 v1 q hb1 hv0 k w
  · by_cases hv0 : a0 = v0
    · subst hv0
      by_cases hv1 : a1 = v1
      · subst hv1
        rw [decide_eq_false (by simp), Bool.false_and]
        exact Between_w_xs a0 a1 b0 b1 q hb0 w
      · rw [decide_eq_true (by simp [hb0, hv1]), Bool.true_and]
        exact Between_w_xy a0 a1 b0 b1 v1 q hb0 hv1 k w
    · rw [decide_eq_true (by simp [hb0, hv0]), Bool.true_and]
      exact Between_w_xx a0 a1 b0 b1 v0 v1 q hb0 hv0 k w
end Go.Proofs.Ytjciefoademlnaa
/- The calls of pred: Meets. -/
namespace Go.Proofs.Ytjciefoademlnaa
open Go.RowKit Go.MagM
set_option maxHeartbeats 4000000 in
theorem Meets_w_0 (a0 a1 b0 b1 v0 v1 u0 u1 : Int) (_q : Bool) (k0 : ∀ w, Calls Try.prog 27 #[.agg #[.int .i64 a0, .int .i64 a1], .agg #[.int .i64 b0, .int .i64 b1], .agg #[.int .i64 v0, .int .i64 v1], .agg #[.int .i64 u0, .int .i64 u1]] w fun e w' => e = .returned (.bool true) ∧ Below w.heap.size w w') (w : World) :
    Calls Try.prog 28 #[.agg #[.int .i64 a0, .int .i64 a1], .agg #[.int .i64 b0, .int .i64 b1], .agg #[.int .i64 v0, .int .i64 v1], .agg #[.int .i64 u0, .int .i64 u1]] w fun e w' => e = .returned (.bool true) ∧ Below w.heap.size w w' := by
  have hB_0 := Below.refl w.heap.size w
  have K0 := Lib.hid k0
  clear k0
  obtain ⟨w1, hw1, pa_0, hb1, hs1⟩ := new_box w (w.heap.size) rfl [.int .i64 a0, .int .i64 a1] 23
  have hb1' : Below w.heap.size w w1 := hb1.mono (by omega)
  clear hb1
  have hB_1 := hB_0.trans (hb1'.mono hB_0.size)
  clear hb1' hB_0
  obtain ⟨w2, hw2, pb_0, hb2, hs2⟩ := new_box w1 (w.heap.size + 1) hs1 [.int .i64 b0, .int .i64 b1] 23
  have hb2' : Below w1.heap.size w1 w2 := hb2.mono (by omega)
  clear hb2
  have hB_2 := hB_1.trans (hb2'.mono hB_1.size)
  have pa_1 := pa_0.below hb2'
  clear hb2' hB_1 pa_0
  obtain ⟨w3, hw3, pv_0, hb3, hs3⟩ := new_box w2 (w.heap.size + 1 + 1) hs2 [.int .i64 v0, .int .i64 v1] 23
  have hb3' : Below w2.heap.size w2 w3 := hb3.mono (by omega)
  clear hb3
  have hB_3 := hB_2.trans (hb3'.mono hB_2.size)
  have pa_2 := pa_1.below hb3'
  have pb_1 := pb_0.below hb3'
  clear hb3' hB_2 pa_1 pb_0
  obtain ⟨w4, hw4, pu_0, hb4, hs4⟩ := new_box w3 (w.heap.size + 1 + 1 + 1) hs3 [.int .i64 u0, .int .i64 u1] 23
  have hb4' : Below w3.heap.size w3 w4 := hb4.mono (by omega)
  clear hb4
  have hB_4 := hB_3.trans (hb4'.mono hB_3.size)
  have pa_3 := pa_2.below hb4'
  have pb_2 := pb_1.below hb4'
  have pv_1 := pv_0.below hb4'
  clear hb4' hB_3 pa_2 pb_1 pv_0
  go_enter Try.func28, Try.ntmps28
  obtain ⟨pae0, pae1, pae2, pae3⟩ := pa_3.open2
  obtain ⟨pbe0, pbe1, pbe2, pbe3⟩ := pb_2.open2
  obtain ⟨pve0, pve1, pve2, pve3⟩ := pv_1.open2
  obtain ⟨pue0, pue1, pue2, pue3⟩ := pu_0.open2
  go_wp2_with fail
  refine (K0.out _).mono ?_
  rintro e w5 ⟨rfl, hb5⟩
  clear pae0 pae1 pae2 pae3 pbe0 pbe1 pbe2 pbe3 pve0 pve1 pve2 pve3 pue0 pue1 pue2 pue3
  have hB_5 := hB_4.trans (hb5.mono hB_4.size)
  have pa_4 := pa_3.below hb5
  have pb_3 := pb_2.below hb5
  have pv_2 := pv_1.below hb5
  have pu_1 := pu_0.below hb5
  clear hb5 hB_4 pa_3 pb_2 pv_1 pu_0
  obtain ⟨pae0, pae1, pae2, pae3⟩ := pa_4.open2
  obtain ⟨pbe0, pbe1, pbe2, pbe3⟩ := pb_3.open2
  obtain ⟨pve0, pve1, pve2, pve3⟩ := pv_2.open2
  obtain ⟨pue0, pue1, pue2, pue3⟩ := pu_1.open2
  go_wp2
  go_ret
  exact ⟨rfl, hB_5⟩
set_option maxHeartbeats 4000000 in
theorem Meets_w_1 (a0 a1 b0 b1 v0 v1 u0 u1 : Int) (_q : Bool) (k0 : ∀ w, Calls Try.prog 27 #[.agg #[.int .i64 a0, .int .i64 a1], .agg #[.int .i64 b0, .int .i64 b1], .agg #[.int .i64 v0, .int .i64 v1], .agg #[.int .i64 u0, .int .i64 u1]] w fun e w' => e = .returned (.bool false) ∧ Below w.heap.size w w') (k1 : ∀ w, Calls Try.prog 23 #[.agg #[.int .i64 a0, .int .i64 a1], .agg #[.int .i64 v0, .int .i64 v1], .agg #[.int .i64 u0, .int .i64 u1]] w fun e w' => e = .returned (.bool true) ∧ Below w.heap.size w w') (w : World) :
    Calls Try.prog 28 #[.agg #[.int .i64 a0, .int .i64 a1], .agg #[.int .i64 b0, .int .i64 b1], .agg #[.int .i64 v0, .int .i64 v1], .agg #[.int .i64 u0, .int .i64 u1]] w fun e w' => e = .returned (.bool true) ∧ Below w.heap.size w w' := by
  have hB_0 := Below.refl w.heap.size w
  have K0 := Lib.hid k0; have K1 := Lib.hid k1
  clear k0 k1
  obtain ⟨w1, hw1, pa_0, hb1, hs1⟩ := new_box w (w.heap.size) rfl [.int .i64 a0, .int .i64 a1] 23
  have hb1' : Below w.heap.size w w1 := hb1.mono (by omega)
  clear hb1
  have hB_1 := hB_0.trans (hb1'.mono hB_0.size)
  clear hb1' hB_0
  obtain ⟨w2, hw2, pb_0, hb2, hs2⟩ := new_box w1 (w.heap.size + 1) hs1 [.int .i64 b0, .int .i64 b1] 23
  have hb2' : Below w1.heap.size w1 w2 := hb2.mono (by omega)
  clear hb2
  have hB_2 := hB_1.trans (hb2'.mono hB_1.size)
  have pa_1 := pa_0.below hb2'
  clear hb2' hB_1 pa_0
  obtain ⟨w3, hw3, pv_0, hb3, hs3⟩ := new_box w2 (w.heap.size + 1 + 1) hs2 [.int .i64 v0, .int .i64 v1] 23
  have hb3' : Below w2.heap.size w2 w3 := hb3.mono (by omega)
  clear hb3
  have hB_3 := hB_2.trans (hb3'.mono hB_2.size)
  have pa_2 := pa_1.below hb3'
  have pb_1 := pb_0.below hb3'
  clear hb3' hB_2 pa_1 pb_0
  obtain ⟨w4, hw4, pu_0, hb4, hs4⟩ := new_box w3 (w.heap.size + 1 + 1 + 1) hs3 [.int .i64 u0, .int .i64 u1] 23
  have hb4' : Below w3.heap.size w3 w4 := hb4.mono (by omega)
  clear hb4
  have hB_4 := hB_3.trans (hb4'.mono hB_3.size)
  have pa_3 := pa_2.below hb4'
  have pb_2 := pb_1.below hb4'
  have pv_1 := pv_0.below hb4'
  clear hb4' hB_3 pa_2 pb_1 pv_0
  go_enter Try.func28, Try.ntmps28
  obtain ⟨pae0, pae1, pae2, pae3⟩ := pa_3.open2
  obtain ⟨pbe0, pbe1, pbe2, pbe3⟩ := pb_2.open2
  obtain ⟨pve0, pve1, pve2, pve3⟩ := pv_1.open2
  obtain ⟨pue0, pue1, pue2, pue3⟩ := pu_0.open2
  go_wp2_with fail
  refine (K0.out _).mono ?_
  rintro e w5 ⟨rfl, hb5⟩
  clear pae0 pae1 pae2 pae3 pbe0 pbe1 pbe2 pbe3 pve0 pve1 pve2 pve3 pue0 pue1 pue2 pue3
  have hB_5 := hB_4.trans (hb5.mono hB_4.size)
  have pa_4 := pa_3.below hb5
  have pb_3 := pb_2.below hb5
  have pv_2 := pv_1.below hb5
  have pu_1 := pu_0.below hb5
  clear hb5 hB_4 pa_3 pb_2 pv_1 pu_0
  obtain ⟨pae0, pae1, pae2, pae3⟩ := pa_4.open2
  obtain ⟨pbe0, pbe1, pbe2, pbe3⟩ := pb_3.open2
  obtain ⟨pve0, pve1, pve2, pve3⟩ := pv_2.open2
  obtain ⟨pue0, pue1, pue2, pue3⟩ := pu_1.open2
  go_wp2_with fail
  refine (K1.out _).mono ?_
  rintro e w6 ⟨rfl, hb6⟩
  clear pae0 pae1 pae2 pae3 pbe0 pbe1 pbe2 pbe3 pve0 pve1 pve2 pve3 pue0 pue1 pue2 pue3
  have hB_6 := hB_5.trans (hb6.mono hB_5.size)
  have pa_5 := pa_4.below hb6
  have pb_4 := pb_3.below hb6
  have pv_3 := pv_2.below hb6
  have pu_2 := pu_1.below hb6
  clear hb6 hB_5 pa_4 pb_3 pv_2 pu_1
  obtain ⟨pae0, pae1, pae2, pae3⟩ := pa_5.open2
  obtain ⟨pbe0, pbe1, pbe2, pbe3⟩ := pb_4.open2
  obtain ⟨pve0, pve1, pve2, pve3⟩ := pv_3.open2
  obtain ⟨pue0, pue1, pue2, pue3⟩ := pu_2.open2
  go_wp2
  go_ret
  exact ⟨rfl, hB_6⟩
set_option maxHeartbeats 4000000 in
theorem Meets_w_2 (a0 a1 b0 b1 v0 v1 u0 u1 : Int) (_q : Bool) (k0 : ∀ w, Calls Try.prog 27 #[.agg #[.int .i64 a0, .int .i64 a1], .agg #[.int .i64 b0, .int .i64 b1], .agg #[.int .i64 v0, .int .i64 v1], .agg #[.int .i64 u0, .int .i64 u1]] w fun e w' => e = .returned (.bool false) ∧ Below w.heap.size w w') (k1 : ∀ w, Calls Try.prog 23 #[.agg #[.int .i64 a0, .int .i64 a1], .agg #[.int .i64 v0, .int .i64 v1], .agg #[.int .i64 u0, .int .i64 u1]] w fun e w' => e = .returned (.bool false) ∧ Below w.heap.size w w') (k2 : ∀ w, Calls Try.prog 23 #[.agg #[.int .i64 b0, .int .i64 b1], .agg #[.int .i64 v0, .int .i64 v1], .agg #[.int .i64 u0, .int .i64 u1]] w fun e w' => e = .returned (.bool true) ∧ Below w.heap.size w w') (w : World) :
    Calls Try.prog 28 #[.agg #[.int .i64 a0, .int .i64 a1], .agg #[.int .i64 b0, .int .i64 b1], .agg #[.int .i64 v0, .int .i64 v1], .agg #[.int .i64 u0, .int .i64 u1]] w fun e w' => e = .returned (.bool true) ∧ Below w.heap.size w w' := by
  have hB_0 := Below.refl w.heap.size w
  have K0 := Lib.hid k0; have K1 := Lib.hid k1; have K2 := Lib.hid k2
  clear k0 k1 k2
  obtain ⟨w1, hw1, pa_0, hb1, hs1⟩ := new_box w (w.heap.size) rfl [.int .i64 a0, .int .i64 a1] 23
  have hb1' : Below w.heap.size w w1 := hb1.mono (by omega)
  clear hb1
  have hB_1 := hB_0.trans (hb1'.mono hB_0.size)
  clear hb1' hB_0
  obtain ⟨w2, hw2, pb_0, hb2, hs2⟩ := new_box w1 (w.heap.size + 1) hs1 [.int .i64 b0, .int .i64 b1] 23
  have hb2' : Below w1.heap.size w1 w2 := hb2.mono (by omega)
  clear hb2
  have hB_2 := hB_1.trans (hb2'.mono hB_1.size)
  have pa_1 := pa_0.below hb2'
  clear hb2' hB_1 pa_0
  obtain ⟨w3, hw3, pv_0, hb3, hs3⟩ := new_box w2 (w.heap.size + 1 + 1) hs2 [.int .i64 v0, .int .i64 v1] 23
  have hb3' : Below w2.heap.size w2 w3 := hb3.mono (by omega)
  clear hb3
  have hB_3 := hB_2.trans (hb3'.mono hB_2.size)
  have pa_2 := pa_1.below hb3'
  have pb_1 := pb_0.below hb3'
  clear hb3' hB_2 pa_1 pb_0
  obtain ⟨w4, hw4, pu_0, hb4, hs4⟩ := new_box w3 (w.heap.size + 1 + 1 + 1) hs3 [.int .i64 u0, .int .i64 u1] 23
  have hb4' : Below w3.heap.size w3 w4 := hb4.mono (by omega)
  clear hb4
  have hB_4 := hB_3.trans (hb4'.mono hB_3.size)
  have pa_3 := pa_2.below hb4'
  have pb_2 := pb_1.below hb4'
  have pv_1 := pv_0.below hb4'
  clear hb4' hB_3 pa_2 pb_1 pv_0
  go_enter Try.func28, Try.ntmps28
  obtain ⟨pae0, pae1, pae2, pae3⟩ := pa_3.open2
  obtain ⟨pbe0, pbe1, pbe2, pbe3⟩ := pb_2.open2
  obtain ⟨pve0, pve1, pve2, pve3⟩ := pv_1.open2
  obtain ⟨pue0, pue1, pue2, pue3⟩ := pu_0.open2
  go_wp2_with fail
  refine (K0.out _).mono ?_
  rintro e w5 ⟨rfl, hb5⟩
  clear pae0 pae1 pae2 pae3 pbe0 pbe1 pbe2 pbe3 pve0 pve1 pve2 pve3 pue0 pue1 pue2 pue3
  have hB_5 := hB_4.trans (hb5.mono hB_4.size)
  have pa_4 := pa_3.below hb5
  have pb_3 := pb_2.below hb5
  have pv_2 := pv_1.below hb5
  have pu_1 := pu_0.below hb5
  clear hb5 hB_4 pa_3 pb_2 pv_1 pu_0
  obtain ⟨pae0, pae1, pae2, pae3⟩ := pa_4.open2
  obtain ⟨pbe0, pbe1, pbe2, pbe3⟩ := pb_3.open2
  obtain ⟨pve0, pve1, pve2, pve3⟩ := pv_2.open2
  obtain ⟨pue0, pue1, pue2, pue3⟩ := pu_1.open2
  go_wp2_with fail
  refine (K1.out _).mono ?_
  rintro e w6 ⟨rfl, hb6⟩
  clear pae0 pae1 pae2 pae3 pbe0 pbe1 pbe2 pbe3 pve0 pve1 pve2 pve3 pue0 pue1 pue2 pue3
  have hB_6 := hB_5.trans (hb6.mono hB_5.size)
  have pa_5 := pa_4.below hb6
  have pb_4 := pb_3.below hb6
  have pv_3 := pv_2.below hb6
  have pu_2 := pu_1.below hb6
  clear hb6 hB_5 pa_4 pb_3 pv_2 pu_1
  obtain ⟨pae0, pae1, pae2, pae3⟩ := pa_5.open2
  obtain ⟨pbe0, pbe1, pbe2, pbe3⟩ := pb_4.open2
  obtain ⟨pve0, pve1, pve2, pve3⟩ := pv_3.open2
  obtain ⟨pue0, pue1, pue2, pue3⟩ := pu_2.open2
  go_wp2_with fail
  refine (K2.out _).mono ?_
  rintro e w7 ⟨rfl, hb7⟩
  clear pae0 pae1 pae2 pae3 pbe0 pbe1 pbe2 pbe3 pve0 pve1 pve2 pve3 pue0 pue1 pue2 pue3
  have hB_7 := hB_6.trans (hb7.mono hB_6.size)
  have pa_6 := pa_5.below hb7
  have pb_5 := pb_4.below hb7
  have pv_4 := pv_3.below hb7
  have pu_3 := pu_2.below hb7
  clear hb7 hB_6 pa_5 pb_4 pv_3 pu_2
  obtain ⟨pae0, pae1, pae2, pae3⟩ := pa_6.open2
  obtain ⟨pbe0, pbe1, pbe2, pbe3⟩ := pb_5.open2
  obtain ⟨pve0, pve1, pve2, pve3⟩ := pv_4.open2
  obtain ⟨pue0, pue1, pue2, pue3⟩ := pu_3.open2
  go_wp2
  go_ret
  exact ⟨rfl, hB_7⟩
set_option maxHeartbeats 4000000 in
theorem Meets_w_3 (a0 a1 b0 b1 v0 v1 u0 u1 : Int) (_q : Bool) (k0 : ∀ w, Calls Try.prog 27 #[.agg #[.int .i64 a0, .int .i64 a1], .agg #[.int .i64 b0, .int .i64 b1], .agg #[.int .i64 v0, .int .i64 v1], .agg #[.int .i64 u0, .int .i64 u1]] w fun e w' => e = .returned (.bool false) ∧ Below w.heap.size w w') (k1 : ∀ w, Calls Try.prog 23 #[.agg #[.int .i64 a0, .int .i64 a1], .agg #[.int .i64 v0, .int .i64 v1], .agg #[.int .i64 u0, .int .i64 u1]] w fun e w' => e = .returned (.bool false) ∧ Below w.heap.size w w') (k2 : ∀ w, Calls Try.prog 23 #[.agg #[.int .i64 b0, .int .i64 b1], .agg #[.int .i64 v0, .int .i64 v1], .agg #[.int .i64 u0, .int .i64 u1]] w fun e w' => e = .returned (.bool false) ∧ Below w.heap.size w w') (k3 : ∀ w, Calls Try.prog 23 #[.agg #[.int .i64 v0, .int .i64 v1], .agg #[.int .i64 a0, .int .i64 a1], .agg #[.int .i64 b0, .int .i64 b1]] w fun e w' => e = .returned (.bool true) ∧ Below w.heap.size w w') (w : World) :
    Calls Try.prog 28 #[.agg #[.int .i64 a0, .int .i64 a1], .agg #[.int .i64 b0, .int .i64 b1], .agg #[.int .i64 v0, .int .i64 v1], .agg #[.int .i64 u0, .int .i64 u1]] w fun e w' => e = .returned (.bool true) ∧ Below w.heap.size w w' := by
  have hB_0 := Below.refl w.heap.size w
  have K0 := Lib.hid k0; have K1 := Lib.hid k1; have K2 := Lib.hid k2; have K3 := Lib.hid k3
  clear k0 k1 k2 k3
  obtain ⟨w1, hw1, pa_0, hb1, hs1⟩ := new_box w (w.heap.size) rfl [.int .i64 a0, .int .i64 a1] 23
  have hb1' : Below w.heap.size w w1 := hb1.mono (by omega)
  clear hb1
  have hB_1 := hB_0.trans (hb1'.mono hB_0.size)
  clear hb1' hB_0
  obtain ⟨w2, hw2, pb_0, hb2, hs2⟩ := new_box w1 (w.heap.size + 1) hs1 [.int .i64 b0, .int .i64 b1] 23
  have hb2' : Below w1.heap.size w1 w2 := hb2.mono (by omega)
  clear hb2
  have hB_2 := hB_1.trans (hb2'.mono hB_1.size)
  have pa_1 := pa_0.below hb2'
  clear hb2' hB_1 pa_0
  obtain ⟨w3, hw3, pv_0, hb3, hs3⟩ := new_box w2 (w.heap.size + 1 + 1) hs2 [.int .i64 v0, .int .i64 v1] 23
  have hb3' : Below w2.heap.size w2 w3 := hb3.mono (by omega)
  clear hb3
  have hB_3 := hB_2.trans (hb3'.mono hB_2.size)
  have pa_2 := pa_1.below hb3'
  have pb_1 := pb_0.below hb3'
  clear hb3' hB_2 pa_1 pb_0
  obtain ⟨w4, hw4, pu_0, hb4, hs4⟩ := new_box w3 (w.heap.size + 1 + 1 + 1) hs3 [.int .i64 u0, .int .i64 u1] 23
  have hb4' : Below w3.heap.size w3 w4 := hb4.mono (by omega)
  clear hb4
  have hB_4 := hB_3.trans (hb4'.mono hB_3.size)
  have pa_3 := pa_2.below hb4'
  have pb_2 := pb_1.below hb4'
  have pv_1 := pv_0.below hb4'
  clear hb4' hB_3 pa_2 pb_1 pv_0
  go_enter Try.func28, Try.ntmps28
  obtain ⟨pae0, pae1, pae2, pae3⟩ := pa_3.open2
  obtain ⟨pbe0, pbe1, pbe2, pbe3⟩ := pb_2.open2
  obtain ⟨pve0, pve1, pve2, pve3⟩ := pv_1.open2
  obtain ⟨pue0, pue1, pue2, pue3⟩ := pu_0.open2
  go_wp2_with fail
  refine (K0.out _).mono ?_
  rintro e w5 ⟨rfl, hb5⟩
  clear pae0 pae1 pae2 pae3 pbe0 pbe1 pbe2 pbe3 pve0 pve1 pve2 pve3 pue0 pue1 pue2 pue3
  have hB_5 := hB_4.trans (hb5.mono hB_4.size)
  have pa_4 := pa_3.below hb5
  have pb_3 := pb_2.below hb5
  have pv_2 := pv_1.below hb5
  have pu_1 := pu_0.below hb5
  clear hb5 hB_4 pa_3 pb_2 pv_1 pu_0
  obtain ⟨pae0, pae1, pae2, pae3⟩ := pa_4.open2
  obtain ⟨pbe0, pbe1, pbe2, pbe3⟩ := pb_3.open2
  obtain ⟨pve0, pve1, pve2, pve3⟩ := pv_2.open2
  obtain ⟨pue0, pue1, pue2, pue3⟩ := pu_1.open2
  go_wp2_with fail
  refine (K1.out _).mono ?_
  rintro e w6 ⟨rfl, hb6⟩
  clear pae0 pae1 pae2 pae3 pbe0 pbe1 pbe2 pbe3 pve0 pve1 pve2 pve3 pue0 pue1 pue2 pue3
  have hB_6 := hB_5.trans (hb6.mono hB_5.size)
  have pa_5 := pa_4.below hb6
  have pb_4 := pb_3.below hb6
  have pv_3 := pv_2.below hb6
  have pu_2 := pu_1.below hb6
  clear hb6 hB_5 pa_4 pb_3 pv_2 pu_1
  obtain ⟨pae0, pae1, pae2, pae3⟩ := pa_5.open2
  obtain ⟨pbe0, pbe1, pbe2, pbe3⟩ := pb_4.open2
  obtain ⟨pve0, pve1, pve2, pve3⟩ := pv_3.open2
  obtain ⟨pue0, pue1, pue2, pue3⟩ := pu_2.open2
  go_wp2_with fail
  refine (K2.out _).mono ?_
  rintro e w7 ⟨rfl, hb7⟩
  clear pae0 pae1 pae2 pae3 pbe0 pbe1 pbe2 pbe3 pve0 pve1 pve2 pve3 pue0 pue1 pue2 pue3
  have hB_7 := hB_6.trans (hb7.mono hB_6.size)
  have pa_6 := pa_5.below hb7
  have pb_5 := pb_4.below hb7
  have pv_4 := pv_3.below hb7
  have pu_3 := pu_2.below hb7
  clear hb7 hB_6 pa_5 pb_4 pv_3 pu_2
  obtain ⟨pae0, pae1, pae2, pae3⟩ := pa_6.open2
  obtain ⟨pbe0, pbe1, pbe2, pbe3⟩ := pb_5.open2
  obtain ⟨pve0, pve1, pve2, pve3⟩ := pv_4.open2
  obtain ⟨pue0, pue1, pue2, pue3⟩ := pu_3.open2
  go_wp2_with fail
  refine (K3.out _).mono ?_
  rintro e w8 ⟨rfl, hb8⟩
  clear pae0 pae1 pae2 pae3 pbe0 pbe1 pbe2 pbe3 pve0 pve1 pve2 pve3 pue0 pue1 pue2 pue3
  have hB_8 := hB_7.trans (hb8.mono hB_7.size)
  have pa_7 := pa_6.below hb8
  have pb_6 := pb_5.below hb8
  have pv_5 := pv_4.below hb8
  have pu_4 := pu_3.below hb8
  clear hb8 hB_7 pa_6 pb_5 pv_4 pu_3
  obtain ⟨pae0, pae1, pae2, pae3⟩ := pa_7.open2
  obtain ⟨pbe0, pbe1, pbe2, pbe3⟩ := pb_6.open2
  obtain ⟨pve0, pve1, pve2, pve3⟩ := pv_5.open2
  obtain ⟨pue0, pue1, pue2, pue3⟩ := pu_4.open2
  go_wp2
  go_ret
  exact ⟨rfl, hB_8⟩
set_option maxHeartbeats 4000000 in
theorem Meets_w_4 (a0 a1 b0 b1 v0 v1 u0 u1 : Int) (q : Bool) (k0 : ∀ w, Calls Try.prog 27 #[.agg #[.int .i64 a0, .int .i64 a1], .agg #[.int .i64 b0, .int .i64 b1], .agg #[.int .i64 v0, .int .i64 v1], .agg #[.int .i64 u0, .int .i64 u1]] w fun e w' => e = .returned (.bool false) ∧ Below w.heap.size w w') (k1 : ∀ w, Calls Try.prog 23 #[.agg #[.int .i64 a0, .int .i64 a1], .agg #[.int .i64 v0, .int .i64 v1], .agg #[.int .i64 u0, .int .i64 u1]] w fun e w' => e = .returned (.bool false) ∧ Below w.heap.size w w') (k2 : ∀ w, Calls Try.prog 23 #[.agg #[.int .i64 b0, .int .i64 b1], .agg #[.int .i64 v0, .int .i64 v1], .agg #[.int .i64 u0, .int .i64 u1]] w fun e w' => e = .returned (.bool false) ∧ Below w.heap.size w w') (k3 : ∀ w, Calls Try.prog 23 #[.agg #[.int .i64 v0, .int .i64 v1], .agg #[.int .i64 a0, .int .i64 a1], .agg #[.int .i64 b0, .int .i64 b1]] w fun e w' => e = .returned (.bool false) ∧ Below w.heap.size w w') (k4 : ∀ w, Calls Try.prog 23 #[.agg #[.int .i64 u0, .int .i64 u1], .agg #[.int .i64 a0, .int .i64 a1], .agg #[.int .i64 b0, .int .i64 b1]] w fun e w' => e = .returned (.bool q) ∧ Below w.heap.size w w') (w : World) :
    Calls Try.prog 28 #[.agg #[.int .i64 a0, .int .i64 a1], .agg #[.int .i64 b0, .int .i64 b1], .agg #[.int .i64 v0, .int .i64 v1], .agg #[.int .i64 u0, .int .i64 u1]] w fun e w' => e = .returned (.bool q) ∧ Below w.heap.size w w' := by
  have hB_0 := Below.refl w.heap.size w
  have K0 := Lib.hid k0; have K1 := Lib.hid k1; have K2 := Lib.hid k2; have K3 := Lib.hid k3; have K4 := Lib.hid k4
  clear k0 k1 k2 k3 k4
  obtain ⟨w1, hw1, pa_0, hb1, hs1⟩ := new_box w (w.heap.size) rfl [.int .i64 a0, .int .i64 a1] 23
  have hb1' : Below w.heap.size w w1 := hb1.mono (by omega)
  clear hb1
  have hB_1 := hB_0.trans (hb1'.mono hB_0.size)
  clear hb1' hB_0
  obtain ⟨w2, hw2, pb_0, hb2, hs2⟩ := new_box w1 (w.heap.size + 1) hs1 [.int .i64 b0, .int .i64 b1] 23
  have hb2' : Below w1.heap.size w1 w2 := hb2.mono (by omega)
  clear hb2
  have hB_2 := hB_1.trans (hb2'.mono hB_1.size)
  have pa_1 := pa_0.below hb2'
  clear hb2' hB_1 pa_0
  obtain ⟨w3, hw3, pv_0, hb3, hs3⟩ := new_box w2 (w.heap.size + 1 + 1) hs2 [.int .i64 v0, .int .i64 v1] 23
  have hb3' : Below w2.heap.size w2 w3 := hb3.mono (by omega)
  clear hb3
  have hB_3 := hB_2.trans (hb3'.mono hB_2.size)
  have pa_2 := pa_1.below hb3'
  have pb_1 := pb_0.below hb3'
  clear hb3' hB_2 pa_1 pb_0
  obtain ⟨w4, hw4, pu_0, hb4, hs4⟩ := new_box w3 (w.heap.size + 1 + 1 + 1) hs3 [.int .i64 u0, .int .i64 u1] 23
  have hb4' : Below w3.heap.size w3 w4 := hb4.mono (by omega)
  clear hb4
  have hB_4 := hB_3.trans (hb4'.mono hB_3.size)
  have pa_3 := pa_2.below hb4'
  have pb_2 := pb_1.below hb4'
  have pv_1 := pv_0.below hb4'
  clear hb4' hB_3 pa_2 pb_1 pv_0
  go_enter Try.func28, Try.ntmps28
  obtain ⟨pae0, pae1, pae2, pae3⟩ := pa_3.open2
  obtain ⟨pbe0, pbe1, pbe2, pbe3⟩ := pb_2.open2
  obtain ⟨pve0, pve1, pve2, pve3⟩ := pv_1.open2
  obtain ⟨pue0, pue1, pue2, pue3⟩ := pu_0.open2
  go_wp2_with fail
  refine (K0.out _).mono ?_
  rintro e w5 ⟨rfl, hb5⟩
  clear pae0 pae1 pae2 pae3 pbe0 pbe1 pbe2 pbe3 pve0 pve1 pve2 pve3 pue0 pue1 pue2 pue3
  have hB_5 := hB_4.trans (hb5.mono hB_4.size)
  have pa_4 := pa_3.below hb5
  have pb_3 := pb_2.below hb5
  have pv_2 := pv_1.below hb5
  have pu_1 := pu_0.below hb5
  clear hb5 hB_4 pa_3 pb_2 pv_1 pu_0
  obtain ⟨pae0, pae1, pae2, pae3⟩ := pa_4.open2
  obtain ⟨pbe0, pbe1, pbe2, pbe3⟩ := pb_3.open2
  obtain ⟨pve0, pve1, pve2, pve3⟩ := pv_2.open2
  obtain ⟨pue0, pue1, pue2, pue3⟩ := pu_1.open2
  go_wp2_with fail
  refine (K1.out _).mono ?_
  rintro e w6 ⟨rfl, hb6⟩
  clear pae0 pae1 pae2 pae3 pbe0 pbe1 pbe2 pbe3 pve0 pve1 pve2 pve3 pue0 pue1 pue2 pue3
  have hB_6 := hB_5.trans (hb6.mono hB_5.size)
  have pa_5 := pa_4.below hb6
  have pb_4 := pb_3.below hb6
  have pv_3 := pv_2.below hb6
  have pu_2 := pu_1.below hb6
  clear hb6 hB_5 pa_4 pb_3 pv_2 pu_1
  obtain ⟨pae0, pae1, pae2, pae3⟩ := pa_5.open2
  obtain ⟨pbe0, pbe1, pbe2, pbe3⟩ := pb_4.open2
  obtain ⟨pve0, pve1, pve2, pve3⟩ := pv_3.open2
  obtain ⟨pue0, pue1, pue2, pue3⟩ := pu_2.open2
  go_wp2_with fail
  refine (K2.out _).mono ?_
  rintro e w7 ⟨rfl, hb7⟩
  clear pae0 pae1 pae2 pae3 pbe0 pbe1 pbe2 pbe3 pve0 pve1 pve2 pve3 pue0 pue1 pue2 pue3
  have hB_7 := hB_6.trans (hb7.mono hB_6.size)
  have pa_6 := pa_5.below hb7
  have pb_5 := pb_4.below hb7
  have pv_4 := pv_3.below hb7
  have pu_3 := pu_2.below hb7
  clear hb7 hB_6 pa_5 pb_4 pv_3 pu_2
  obtain ⟨pae0, pae1, pae2, pae3⟩ := pa_6.open2
  obtain ⟨pbe0, pbe1, pbe2, pbe3⟩ := pb_5.open2
  obtain ⟨pve0, pve1, pve2, pve3⟩ := pv_4.open2
  obtain ⟨pue0, pue1, pue2, pue3⟩ := pu_3.open2
  go_wp2_with fail
  refine (K3.out _).mono ?_
  rintro e w8 ⟨rfl, hb8⟩
  clear pae0 pae1 pae2 pae3 pbe0 pbe1 pbe2 pbe3 pve0 pve1 pve2 pve3 pue0 pue1 pue2 pue3
  have hB_8 := hB_7.trans (hb8.mono hB_7.size)
  have pa_7 := pa_6.below hb8
  have pb_6 := pb_5.below hb8
  have pv_5 := pv_4.below hb8
  have pu_4 := pu_3.below hb8
  clear hb8 hB_7 pa_6 pb_5 pv_4 pu_3
  obtain ⟨pae0, pae1, pae2, pae3⟩ := pa_7.open2
  obtain ⟨pbe0, pbe1, pbe2, pbe3⟩ := pb_6.open2
  obtain ⟨pve0, pve1, pve2, pve3⟩ := pv_5.open2
  obtain ⟨pue0, pue1, pue2, pue3⟩ := pu_4.open2
  go_wp2_with fail
  refine (K4.out _).mono ?_
  rintro e w9 ⟨rfl, hb9⟩
  clear pae0 pae1 pae2 pae3 pbe0 pbe1 pbe2 pbe3 pve0 pve1 pve2 pve3 pue0 pue1 pue2 pue3
  have hB_9 := hB_8.trans (hb9.mono hB_8.size)
  have pa_8 := pa_7.below hb9
  have pb_7 := pb_6.below hb9
  have pv_6 := pv_5.below hb9
  have pu_5 := pu_4.below hb9
  clear hb9 hB_8 pa_7 pb_6 pv_5 pu_4
  obtain ⟨pae0, pae1, pae2, pae3⟩ := pa_8.open2
  obtain ⟨pbe0, pbe1, pbe2, pbe3⟩ := pb_7.open2
  obtain ⟨pve0, pve1, pve2, pve3⟩ := pv_6.open2
  obtain ⟨pue0, pue1, pue2, pue3⟩ := pu_5.open2
  go_wp2
  go_ret
  exact ⟨rfl, hB_9⟩
end Go.Proofs.Ytjciefoademlnaa
/- On, parts, Crosses, Meets, Between: what they answer. -/
namespace Go.Proofs.Ytjciefoademlnaa
open Go.RowKit Go.MagM
/-- A point on a line, its ends with it. -/
def onP (a0 a1 b0 b1 v0 v1 : Int) : Bool := decide ((crs b0 b1 v0 v1 a0 a1 = 0 ∧ min b0 v0 ≤ a0 ∧ a0 ≤ max b0 v0) ∧ min b1 v1 ≤ a1 ∧ a1 ≤ max b1 v1)
theorem On_is (a0 a1 b0 b1 v0 v1 : Int) (ha0 : InP a0) (ha1 : InP a1) (hb0 : InP b0) (hb1 : InP b1) (hv0 : InP v0) (hv1 : InP v1) (q : Bool) (h : onP a0 a1 b0 b1 v0 v1 = q) (w : World) :
    Calls Try.prog 23 #[.agg #[.int .i64 a0, .int .i64 a1], .agg #[.int .i64 b0, .int .i64 b1], .agg #[.int .i64 v0, .int .i64 v1]] w fun e w' => e = .returned (.bool q) ∧ Below w.heap.size w w' := by
  by_cases hc : crs b0 b1 v0 v1 a0 a1 = 0
  · by_cases hx : min b0 v0 ≤ a0 ∧ a0 ≤ max b0 v0
    · refine On_w_tt a0 a1 b0 b1 v0 v1 0 q (fun w => Orient_is b0 b1 v0 v1 a0 a1 hb0 hb1 hv0 hv1 ha0 ha1 (by rw [hc]; rfl) w) (fun w => ?_) (fun w => ?_) w
      · have := within_any a0 b0 v0 w; rwa [decide_eq_true hx] at this
      · have := within_any a1 b1 v1 w
        have e : decide (min b1 v1 ≤ a1 ∧ a1 ≤ max b1 v1) = q := by
          rw [← h]; unfold onP; rw [decide_eq_decide]; exact ⟨fun k => ⟨⟨hc, hx⟩, k⟩, fun k => k.2⟩
        rwa [e] at this
    · have e : q = false := by rw [← h]; unfold onP; exact decide_eq_false (fun k => hx k.1.2)
      subst e
      refine On_w_tf a0 a1 b0 b1 v0 v1 0 false (fun w => Orient_is b0 b1 v0 v1 a0 a1 hb0 hb1 hv0 hv1 ha0 ha1 (by rw [hc]; rfl) w) (fun w => ?_) w
      have := within_any a0 b0 v0 w; rwa [decide_eq_false hx] at this
  · have e : q = false := by rw [← h]; unfold onP; exact decide_eq_false (fun k => hc k.1.1)
    subst e
    exact On_w_n a0 a1 b0 b1 v0 v1 _ false (fun w => Orient_is b0 b1 v0 v1 a0 a1 hb0 hb1 hv0 hv1 ha0 ha1 rfl w) (beq_eq_false_iff_ne.2 (fun k => hc (Int.sign_eq_zero_iff_zero.1 k))) w
theorem sign_cases (z : Int) : z.sign = -1 ∨ z.sign = 0 ∨ z.sign = 1 := by
  rcases Int.lt_trichotomy z 0 with h | h | h
  · exact .inl (Int.sign_eq_neg_one_of_neg h)
  · subst h; exact .inr (.inl rfl)
  · exact .inr (.inr (Int.sign_eq_one_of_pos h))
theorem sign_mul_wrap (y z : Int) : IntKind.i64.wrap (y.sign * z.sign) = y.sign * z.sign := by
  rcases sign_cases y with h | h | h <;> rcases sign_cases z with k | k | k <;> rw [h, k] <;> rfl
theorem sign_neg_wrap (z : Int) : IntKind.i64.wrap (-z.sign) = -z.sign := by
  rcases sign_cases z with h | h | h <;> rw [h] <;> rfl
/-- Two points to both sides of a line. -/
def parP (a0 a1 b0 b1 v0 v1 u0 u1 : Int) : Bool := decide ((crs a0 a1 b0 b1 v0 v1).sign * (crs a0 a1 b0 b1 u0 u1).sign < 0)
theorem parts_is (a0 a1 b0 b1 v0 v1 u0 u1 : Int) (ha0 : InP a0) (ha1 : InP a1) (hb0 : InP b0) (hb1 : InP b1) (hv0 : InP v0) (hv1 : InP v1) (hu0 : InP u0) (hu1 : InP u1) (q : Bool) (h : parP a0 a1 b0 b1 v0 v1 u0 u1 = q) (w : World) :
    Calls Try.prog 44 #[.agg #[.int .i64 a0, .int .i64 a1], .agg #[.int .i64 b0, .int .i64 b1], .agg #[.int .i64 v0, .int .i64 v1], .agg #[.int .i64 u0, .int .i64 u1]] w fun e w' => e = .returned (.bool q) ∧ Below w.heap.size w w' :=
  parts_w a0 a1 b0 b1 v0 v1 u0 u1 _ _ _ q (fun w => Orient_is a0 a1 b0 b1 v0 v1 ha0 ha1 hb0 hb1 hv0 hv1 rfl w) (fun w => Orient_is a0 a1 b0 b1 u0 u1 ha0 ha1 hb0 hb1 hu0 hu1 rfl w) (sign_mul_wrap _ _) h w
/-- Two lines that cross. -/
def crossP (a0 a1 b0 b1 v0 v1 u0 u1 : Int) : Bool := parP a0 a1 b0 b1 v0 v1 u0 u1 && parP v0 v1 u0 u1 a0 a1 b0 b1
theorem Crosses_is (a0 a1 b0 b1 v0 v1 u0 u1 : Int) (ha0 : InP a0) (ha1 : InP a1) (hb0 : InP b0) (hb1 : InP b1) (hv0 : InP v0) (hv1 : InP v1) (hu0 : InP u0) (hu1 : InP u1) (q : Bool) (h : crossP a0 a1 b0 b1 v0 v1 u0 u1 = q) (w : World) :
    Calls Try.prog 27 #[.agg #[.int .i64 a0, .int .i64 a1], .agg #[.int .i64 b0, .int .i64 b1], .agg #[.int .i64 v0, .int .i64 v1], .agg #[.int .i64 u0, .int .i64 u1]] w fun e w' => e = .returned (.bool q) ∧ Below w.heap.size w w' := by
  subst h; unfold crossP
  cases hp : parP a0 a1 b0 b1 v0 v1 u0 u1
  · exact Crosses_w_f a0 a1 b0 b1 v0 v1 u0 u1 false (fun w => parts_is a0 a1 b0 b1 v0 v1 u0 u1 ha0 ha1 hb0 hb1 hv0 hv1 hu0 hu1 _ hp w) w
  · exact Crosses_w_t a0 a1 b0 b1 v0 v1 u0 u1 _ (fun w => parts_is a0 a1 b0 b1 v0 v1 u0 u1 ha0 ha1 hb0 hb1 hv0 hv1 hu0 hu1 _ hp w) (fun w => parts_is v0 v1 u0 u1 a0 a1 b0 b1 hv0 hv1 hu0 hu1 ha0 ha1 hb0 hb1 _ rfl w) w
/-- Two lines that meet. -/
def meetP (a0 a1 b0 b1 v0 v1 u0 u1 : Int) : Bool := crossP a0 a1 b0 b1 v0 v1 u0 u1 || onP a0 a1 v0 v1 u0 u1 || onP b0 b1 v0 v1 u0 u1 || onP v0 v1 a0 a1 b0 b1 || onP u0 u1 a0 a1 b0 b1
theorem Meets_is (a0 a1 b0 b1 v0 v1 u0 u1 : Int) (ha0 : InP a0) (ha1 : InP a1) (hb0 : InP b0) (hb1 : InP b1) (hv0 : InP v0) (hv1 : InP v1) (hu0 : InP u0) (hu1 : InP u1) (q : Bool) (h : meetP a0 a1 b0 b1 v0 v1 u0 u1 = q) (w : World) :
    Calls Try.prog 28 #[.agg #[.int .i64 a0, .int .i64 a1], .agg #[.int .i64 b0, .int .i64 b1], .agg #[.int .i64 v0, .int .i64 v1], .agg #[.int .i64 u0, .int .i64 u1]] w fun e w' => e = .returned (.bool q) ∧ Below w.heap.size w w' := by
  subst h; unfold meetP
  cases hc : crossP a0 a1 b0 b1 v0 v1 u0 u1
  · cases havu : onP a0 a1 v0 v1 u0 u1
    · cases hbvu : onP b0 b1 v0 v1 u0 u1
      · cases hvab : onP v0 v1 a0 a1 b0 b1
        · exact Meets_w_4 a0 a1 b0 b1 v0 v1 u0 u1 _ (fun w => Crosses_is a0 a1 b0 b1 v0 v1 u0 u1 ha0 ha1 hb0 hb1 hv0 hv1 hu0 hu1 _ hc w) (fun w => On_is a0 a1 v0 v1 u0 u1 ha0 ha1 hv0 hv1 hu0 hu1 _ havu w) (fun w => On_is b0 b1 v0 v1 u0 u1 hb0 hb1 hv0 hv1 hu0 hu1 _ hbvu w) (fun w => On_is v0 v1 a0 a1 b0 b1 hv0 hv1 ha0 ha1 hb0 hb1 _ hvab w) (fun w => On_is u0 u1 a0 a1 b0 b1 hu0 hu1 ha0 ha1 hb0 hb1 _ rfl w) w
        · exact Meets_w_3 a0 a1 b0 b1 v0 v1 u0 u1 true (fun w => Crosses_is a0 a1 b0 b1 v0 v1 u0 u1 ha0 ha1 hb0 hb1 hv0 hv1 hu0 hu1 _ hc w) (fun w => On_is a0 a1 v0 v1 u0 u1 ha0 ha1 hv0 hv1 hu0 hu1 _ havu w) (fun w => On_is b0 b1 v0 v1 u0 u1 hb0 hb1 hv0 hv1 hu0 hu1 _ hbvu w) (fun w => On_is v0 v1 a0 a1 b0 b1 hv0 hv1 ha0 ha1 hb0 hb1 _ hvab w) w
      · exact Meets_w_2 a0 a1 b0 b1 v0 v1 u0 u1 true (fun w => Crosses_is a0 a1 b0 b1 v0 v1 u0 u1 ha0 ha1 hb0 hb1 hv0 hv1 hu0 hu1 _ hc w) (fun w => On_is a0 a1 v0 v1 u0 u1 ha0 ha1 hv0 hv1 hu0 hu1 _ havu w) (fun w => On_is b0 b1 v0 v1 u0 u1 hb0 hb1 hv0 hv1 hu0 hu1 _ hbvu w) w
    · exact Meets_w_1 a0 a1 b0 b1 v0 v1 u0 u1 true (fun w => Crosses_is a0 a1 b0 b1 v0 v1 u0 u1 ha0 ha1 hb0 hb1 hv0 hv1 hu0 hu1 _ hc w) (fun w => On_is a0 a1 v0 v1 u0 u1 ha0 ha1 hv0 hv1 hu0 hu1 _ havu w) w
  · exact Meets_w_0 a0 a1 b0 b1 v0 v1 u0 u1 true (fun w => Crosses_is a0 a1 b0 b1 v0 v1 u0 u1 ha0 ha1 hb0 hb1 hv0 hv1 hu0 hu1 _ hc w) w
theorem ne_pt {a b c d : Int} {α : Type} {u v : α} (h : ¬ (a = b ∧ c = d)) : (if a = b then if c = d then u else v else v) = v := by
  by_cases h1 : a = b
  · rw [if_pos h1, if_neg (fun h2 => h ⟨h1, h2⟩)]
  · rw [if_neg h1]
/-- A point on a line, between its ends. -/
theorem Between_is (a0 a1 b0 b1 v0 v1 : Int) (ha0 : InP a0) (ha1 : InP a1) (hb0 : InP b0) (hb1 : InP b1) (hv0 : InP v0) (hv1 : InP v1) (q : Bool) (h : (decide (¬ (a0 = b0 ∧ a1 = b1) ∧ ¬ (a0 = v0 ∧ a1 = v1)) && onP a0 a1 b0 b1 v0 v1) = q) (w : World) :
    Calls Try.prog 24 #[.agg #[.int .i64 a0, .int .i64 a1], .agg #[.int .i64 b0, .int .i64 b1], .agg #[.int .i64 v0, .int .i64 v1]] w fun e w' => e = .returned (.bool q) ∧ Below w.heap.size w w' := by
  subst h
  exact Between_any a0 a1 b0 b1 v0 v1 _ (fun w => On_is a0 a1 b0 b1 v0 v1 ha0 ha1 hb0 hb1 hv0 hv1 _ rfl w) w
end Go.Proofs.Ytjciefoademlnaa
/- A region that draws its order, by one invariant of what is listed: as many arms as operations. Over any program. -/
namespace Go.MagM
open Go
/-- How many are not listed. -/
def cnt (l : Array Bool) : Nat := l.toList.count false
theorem count_set_lt : ∀ (l : List Bool) (i : Nat), l[i]? = some false → (l.set i true).count false + 1 = l.count false
  | [], i, h => by simp at h
  | x :: l, 0, h => by simp at h; subst h; simp
  | x :: l, i + 1, h => by
    have := count_set_lt l i (by simpa using h)
    cases x <;> simp [List.set_cons_succ] <;> omega
theorem getD_false {l : Array Bool} {i : Nat} (h : l.getD i true = false) : l.toList[i]? = some false := by
  rcases Nat.lt_or_ge i l.size with h' | h'
  · simp [h'] at h ⊢; exact h
  · simp [Array.getElem?_eq_none h'] at h
/-- A slot that is written with what it holds. -/
theorem put_same (a : Act) (d : Nat) : a.put (some d) (a.tmps.getD d undef) = a := by
  obtain ⟨tmps, defers⟩ := a
  simp only [Act.put, Act.mk.injEq, and_true]
  apply Array.ext
  · simp
  · intro i h1 h2
    rw [Array.getElem_setIfInBounds]
    split
    · rename_i h; subst h; simp [h2]
    · rfl
section
variable {P : Program} {ops : Array Oper} {Q : Exit → Act → World → Prop} {md : Region.Mode} {S : World → Prop}
theorem ready_cnt {l : Array Bool} {i : Nat} (h : i ∈ Region.ready md ops l) : cnt (l.setIfInBounds i true) + 1 = cnt l := by
  have h1 := getD_false (mem_ready.1 h).1
  have := count_set_lt l.toList i h1
  unfold cnt
  simpa using this
theorem wpAnyH_until (Inv : Array Bool → Act → World → Prop)
    (h : ∀ l a w, Inv l a w → wpAnyH P md ops Q S (cnt l) l a w ∨ (Region.ready md ops l ≠ [] ∧ ∀ i ∈ Region.ready md ops l, wpOp P ops Q i (fun a' w' => S w' ∧ Inv (l.setIfInBounds i true) a' w') a w)) :
    ∀ (fuel : Nat) (l : Array Bool) (a : Act) (w : World), Inv l a w → cnt l = fuel → wpAnyH P md ops Q S fuel l a w
  | 0, l, a, w, hI, hc => by
    rcases h l a w hI with h1 | ⟨h1, _⟩
    · rw [hc] at h1; exact h1
    · exfalso
      obtain ⟨i, hi⟩ := List.exists_mem_of_ne_nil _ h1
      have := ready_cnt hi
      omega
  | fuel + 1, l, a, w, hI, hc => by
    rcases h l a w hI with h1 | ⟨h1, h2⟩
    · rw [hc] at h1; exact h1
    · refine ⟨fun h0 => absurd h0 h1, fun i hi => wpOp_mono (fun a' w' h3 => ⟨h3.1, wpAnyH_until Inv h fuel _ a' w' h3.2 ?_⟩) (h2 i hi)⟩
      have := ready_cnt hi
      omega
theorem step_of {Inv : Array Bool → Act → World → Prop} {l : Array Bool} {a : Act} {w : World} (i : Nat) (o : Oper) (ho : ops[i]? = some o)
    (h : ∀ K' : Act → World → Prop, Shut (∀ a' w', S w' → Inv (l.setIfInBounds i true) a' w' → K' a' w') → if Region.wanted o (yielded ops a.tmps) = true then Oper.wp P o a w K' Q else K' (a.put o.dst undef) w) :
    wpOp P ops Q i (fun a' w' => S w' ∧ Inv (l.setIfInBounds i true) a' w') a w :=
  wpOp_step ho (fun K' hK => h K' (fun a w hS hI => hK a w ⟨hS, hI⟩))
end
end Go.MagM
