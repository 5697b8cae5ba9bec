/- Keys of two ints. -/
import Derived.Test.YtecnnpkpgbbfkaaMapK
import Derived.WideKeyArr
import Derived.DataShut
import Derived.Test.YtecnnpkpgbbfkaaPartf
import Derived.Test.YtecnnpkpgbbfkaaParte
import Derived.Test.YtecnnpkpgbbfkaaSpotR
import Derived.Test.YtecnnpkpgbbfkaaPartg
namespace Go.Proofs.Ytecnnpkpgbbfkaa
open Go.RowKit Go.MagM Go.Maps Go.WideMaps Go.WideShapes
theorem arrKey2 : ArrKey Try.prog 22 3 2 := ⟨Try.underlying22, by kernel_rfl, by kernel_rfl, by kernel_rfl⟩
theorem keyed2 : Keyed Try.prog 22 := Keyed.of_law arrKey2.law
theorem keyedI : Keyed Try.prog 3 := int_keyed Try.underlying3
theorem wf_small {a : Int} (h : -1000000 ≤ a ∧ a ≤ 1000000) : (Lit.int .i64 a).wf = true := by
  rw [Lit.wf_int_iff]; exact ⟨by show -9223372036854775808 ≤ a; omega, by show a ≤ 9223372036854775807; omega⟩
theorem key2_of {a b : Int} (ha : -1000000 ≤ a ∧ a ≤ 1000000) (hb : -1000000 ≤ b ∧ b ≤ 1000000) : ∃ l, keyOf Try.prog 22 (.agg #[.int .i64 a, .int .i64 b]) = some l := by
  have h1 := wf_small ha
  have h2 := wf_small hb
  have hk : Try.prog.keyType 22 = true := by kernel_rfl
  have hf : Value.formed Try.prog 22 (.agg #[.int .i64 a, .int .i64 b]) = true := by kernel_rfl
  have hl : Try.prog.keyLits (Try.prog.types.size + 1) 22 [.int .i64 a, .int .i64 b] = some [.int .i64 a, .int .i64 b] := by
    have hs : Try.prog.types.size + 1 = (Try.prog.types.size - 1) + 1 + 1 := by have : 0 < Try.prog.types.size := of_decide_eq_true (by kernel_rfl); omega
    rw [hs]
    generalize Try.prog.types.size - 1 = d
    unfold Program.keyLits
    simp only [Try.underlying22]
    have c2 : Try.prog.cellsOf 22 = 2 := by kernel_rfl
    have c1 : Try.prog.cellsOf 3 = 1 := by kernel_rfl
    have hk1 : ∀ x : Int, (Lit.int .i64 x).wf = true → Try.prog.keyLits (d + 1) 3 [.int .i64 x] = some [.int .i64 x] := by
      intro x hx
      unfold Program.keyLits
      simp [Try.underlying3, hx]
    rw [if_pos (by rw [c2]; rfl), c1]
    simp [List.range, List.range.loop, hk1 a h1, hk1 b h2]
  refine ⟨.string (keyBytes [.int .i64 a, .int .i64 b]), ?_⟩
  unfold keyOf
  simp only [Try.underlying22, hk, hf, Bool.and_true, if_true]
  rw [show (Value.agg #[.int .i64 a, .int .i64 b]).cells.toList = [.int .i64 a, .int .i64 b] from rfl, hl]
  rfl
theorem keyI_of {a : Int} (ha : -1000000 ≤ a ∧ a ≤ 1000000) : keyOf Try.prog 3 (.int .i64 a) = some (.int .i64 a) := keyOf_int_mk Try.underlying3 (wf_small ha)
end Go.Proofs.Ytecnnpkpgbbfkaa
/- The calls of wide: below, less, across, size, Of, Sign. -/
namespace Go.Proofs.Ytecnnpkpgbbfkaa
open Go.RowKit Go.MagM
/-- A call's answer is a number of 128 bits. -/
def AnsW (w w' : World) (e : Ending) (z : Int) : Prop := e = .returned (.agg #[.int .u64 ((wh z : Nat) : Int), .int .u64 ((wl z : Nat) : Int)]) ∧ Below w.heap.size w w'
set_option maxHeartbeats 4000000 in
theorem below_walk (ah al : Nat) (b : Bool) (w : World) (hb : (bits .and .u64 (ah : Int) 9223372036854775808 != 0) = b) :
    Calls Try.prog 59 #[.agg #[.int .u64 ((ah : Nat) : Int), .int .u64 ((al : Nat) : Int)]] w fun e w' => e = .returned (.bool b) ∧ Below w.heap.size w w' := by
  have hB_0 := Below.refl w.heap.size w
  obtain ⟨w1, hw1, pa_0, hb1, hs1⟩ := new_box w (w.heap.size) rfl [.int .u64 ((ah : Nat) : Int), .int .u64 ((al : Nat) : Int)] 99
  have hb1' : Below w.heap.size w w1 := hb1.mono (by omega)
  clear hb1
  have hB_1 := hB_0.trans (hb1'.mono hB_0.size)
  clear hb1' hB_0
  go_enter Try.func59, Try.ntmps59
  obtain ⟨pae0, pae1, pae2, pae3⟩ := pa_0.open2
  go_wp2
  go_ret
  exact ⟨rfl, hB_1⟩
set_option maxHeartbeats 4000000 in
theorem less_walk (ah al : Nat) (bh bl : Nat) (H L k : Nat) (w : World) (h1 : (al + B - bl - 0) % B = L) (h2 : bor al bl 0 = k) (h3 : (ah + B - bh - k) % B = H) (hk : k ≤ 1) :
    Calls Try.prog 72 #[.agg #[.int .u64 ((ah : Nat) : Int), .int .u64 ((al : Nat) : Int)], .agg #[.int .u64 ((bh : Nat) : Int), .int .u64 ((bl : Nat) : Int)]] w fun e w' => e = .returned (.agg #[.int .u64 ((H : Nat) : Int), .int .u64 ((L : Nat) : Int)]) ∧ Below w.heap.size w w' := by
  have hB_0 := Below.refl w.heap.size w
  have hsub1 := fun w => sub64_run al bl 0 (by omega) w
  have hsub2 := fun w => sub64_run ah bh k (by omega) w
  simp only [h1, h2] at hsub1
  simp only [h3] at hsub2
  have hs1 : ∀ w, (callFunc 79 #[.int .u64 al, .int .u64 bl, .int .u64 0]).run Try.prog w = .ok (.value (.tuple #[.int .u64 L, .int .u64 k])) w := hsub1
  clear hsub1 h1 h2 h3
  obtain ⟨w1, hw1, pa_0, hb1, hs1⟩ := new_box w (w.heap.size) rfl [.int .u64 ((ah : Nat) : Int), .int .u64 ((al : Nat) : Int)] 99
  have hb1' : Below w.heap.size w w1 := hb1.mono (by omega)
  clear hb1
  have hB_1 := hB_0.trans (hb1'.mono hB_0.size)
  clear hb1' hB_0
  obtain ⟨w2, hw2, pb_0, hb2, hs2⟩ := new_box w1 (w.heap.size + 1) hs1 [.int .u64 ((bh : Nat) : Int), .int .u64 ((bl : Nat) : Int)] 99
  have hb2' : Below w1.heap.size w1 w2 := hb2.mono (by omega)
  clear hb2
  have hB_2 := hB_1.trans (hb2'.mono hB_1.size)
  have pa_1 := pa_0.below hb2'
  clear hb2' hB_1 pa_0
  obtain ⟨w3, hw3, pr_0, hb3, hs3⟩ := new_box w2 (w.heap.size + 1 + 1) hs2 [.int .u64 0, .int .u64 0] 99
  have hb3' : Below w2.heap.size w2 w3 := hb3.mono (by omega)
  clear hb3
  have hB_3 := hB_2.trans (hb3'.mono hB_2.size)
  have pa_2 := pa_1.below hb3'
  have pb_1 := pb_0.below hb3'
  clear hb3' hB_2 pa_1 pb_0
  go_enter Try.func72, Try.ntmps72
  obtain ⟨pae0, pae1, pae2, pae3⟩ := pa_2.open2
  obtain ⟨pbe0, pbe1, pbe2, pbe3⟩ := pb_1.open2
  obtain ⟨pre0, pre1, pre2, pre3⟩ := pr_0.open2
  obtain ⟨sf1a, sf1b, sf1c, sf1d⟩ := pr_0.open2
  obtain ⟨sg1a, sg1b⟩ := Box.put2 pr_0 (.int .u64 ((H : Nat) : Int))
  go_wp2
  clear pae0 pae1 pae2 pae3 pbe0 pbe1 pbe2 pbe3 pre0 pre1 pre2 pre3 sf1a sf1b sf1c sf1d sg1a sg1b
  have hB_4 := below_setAll hB_3 (g := w.heap.size + 1 + 1) (by omega) [.int .u64 ((H : Nat) : Int), .int .u64 ((L : Nat) : Int)]
  have pa_3 := pa_2.farAll (g' := w.heap.size + 1 + 1) (by omega) [.int .u64 ((H : Nat) : Int), .int .u64 ((L : Nat) : Int)]
  have pb_2 := pb_1.farAll (g' := w.heap.size + 1 + 1) (by omega) [.int .u64 ((H : Nat) : Int), .int .u64 ((L : Nat) : Int)]
  have pr_1 := pr_0.setAll [.int .u64 ((H : Nat) : Int), .int .u64 ((L : Nat) : Int)] rfl
  simp only [setAll, Nat.zero_add] at hB_4 pa_3 pb_2 pr_1
  clear hB_3 pa_2 pb_1 pr_0
  generalize (World.setCell (World.setCell w3 ⟨w.heap.size + 1 + 1, 0, none⟩ (.int .u64 ((H : Nat) : Int))) ⟨w.heap.size + 1 + 1, 1, none⟩ (.int .u64 ((L : Nat) : Int))) = w4 at *
  go_wp2
  obtain ⟨pre0, pre1, pre2, pre3⟩ := pr_1.open2
  exact bodyPost_ret (v := .agg #[.int .u64 ((H : Nat) : Int), .int .u64 ((L : Nat) : Int)]) (by simp [results, Try.results72, go_sem, pre0, pre1]) rfl ⟨rfl, hB_4⟩
theorem high_and (h : Nat) (hB : h < B) : h &&& 9223372036854775808 = if 9223372036854775808 ≤ h then 9223372036854775808 else 0 := by
  have e : (9223372036854775808 : Nat) = 2 ^ 63 := by decide
  unfold B at hB
  apply Nat.eq_of_testBit_eq
  intro i
  rw [Nat.testBit_and]
  split
  · rename_i c
    rw [e, Nat.testBit_two_pow]
    by_cases hi : 63 = i
    · subst hi
      have : h / 2 ^ 63 % 2 = 1 := by omega
      simp [Nat.testBit_eq_decide_div_mod_eq, this]
    · simp [hi]
  · rename_i c
    rw [e, Nat.testBit_two_pow, Nat.zero_testBit]
    by_cases hi : 63 = i
    · subst hi
      rw [Nat.testBit_lt_two_pow (by omega)]; rfl
    · simp [hi]
theorem below_bit {z : Int} (hz : InW z) : (bits .and .u64 ((wh z : Nat) : Int) 9223372036854775808 != 0) = decide (z < 0) := by
  have h2 : bits .and .u64 ((wh z : Nat) : Int) 9223372036854775808 = ((wh z &&& 9223372036854775808 : Nat) : Int) := bits_and_u64_nat (wh z) 9223372036854775808 (by have := wh_lt z; unfold B at this; omega) (by omega)
  rw [h2, high_and _ (wh_lt z)]
  have h3 := w_neg hz
  by_cases c : z < 0
  · rw [if_pos (h3.2 c)]; simp [c]
  · rw [if_neg (mt h3.1 c)]; simp [c]
theorem wbelow_any (z : Int) (hz : InW z) (w : World) : Calls Try.prog 59 #[.agg #[.int .u64 ((wh (z) : Nat) : Int), .int .u64 ((wl (z) : Nat) : Int)]] w fun e w' => e = .returned (.bool (decide (z < 0))) ∧ Below w.heap.size w w' :=
  below_walk _ _ _ w (below_bit hz)
theorem less_any (x y : Int) (w : World) : Calls Try.prog 72 #[.agg #[.int .u64 ((wh (x) : Nat) : Int), .int .u64 ((wl (x) : Nat) : Int)], .agg #[.int .u64 ((wh (y) : Nat) : Int), .int .u64 ((wl (y) : Nat) : Int)]] w fun e w' => AnsW w w' e (x - y) := by
  obtain ⟨h1, h2⟩ := w_sub x y
  exact less_walk _ _ _ _ _ _ _ w h2 rfl h1 (bor_le _ _ _)
theorem less_zero (y : Int) (w : World) : Calls Try.prog 72 #[.agg #[.int .u64 0, .int .u64 0], .agg #[.int .u64 ((wh (y) : Nat) : Int), .int .u64 ((wl (y) : Nat) : Int)]] w fun e w' => AnsW w w' e (-y) := by
  have h := less_any 0 y w
  rw [Int.zero_sub] at h
  exact h
set_option maxHeartbeats 4000000 in
theorem across_any (z : Int) (w : World) :
    Calls Try.prog 83 #[.agg #[.int .u64 ((wh (z) : Nat) : Int), .int .u64 ((wl (z) : Nat) : Int)]] w fun e w' => AnsW w w' e (-z) := by
  have hB_0 := Below.refl w.heap.size w
  obtain ⟨w1, hw1, pa_0, hb1, hs1⟩ := new_box w (w.heap.size) rfl [.int .u64 ((wh (z) : Nat) : Int), .int .u64 ((wl (z) : Nat) : Int)] 99
  have hb1' : Below w.heap.size w w1 := hb1.mono (by omega)
  clear hb1
  have hB_1 := hB_0.trans (hb1'.mono hB_0.size)
  clear hb1' hB_0
  obtain ⟨w2, hw2, pr_0, hb2, hs2⟩ := new_box w1 (w.heap.size + 1) hs1 [.int .u64 0, .int .u64 0] 99
  have hb2' : Below w1.heap.size w1 w2 := hb2.mono (by omega)
  clear hb2
  have hB_2 := hB_1.trans (hb2'.mono hB_1.size)
  have pa_1 := pa_0.below hb2'
  clear hb2' hB_1 pa_0
  go_enter Try.func83, Try.ntmps83
  obtain ⟨pae0, pae1, pae2, pae3⟩ := pa_1.open2
  obtain ⟨pre0, pre1, pre2, pre3⟩ := pr_0.open2
  go_wp2_with fail
  refine (less_zero z _).mono ?_
  rintro e w3 ⟨rfl, hb3⟩
  clear pae0 pae1 pae2 pae3 pre0 pre1 pre2 pre3
  have hB_3 := hB_2.trans (hb3.mono hB_2.size)
  have pa_2 := pa_1.below hb3
  have pr_1 := pr_0.below hb3
  clear hb3 hB_2 pa_1 pr_0
  obtain ⟨pae0, pae1, pae2, pae3⟩ := pa_2.open2
  obtain ⟨pre0, pre1, pre2, pre3⟩ := pr_1.open2
  obtain ⟨sf1a, sf1b, sf1c, sf1d⟩ := pr_1.open2
  obtain ⟨sg1a, sg1b⟩ := Box.put2 pr_1 (.int .u64 ((wh (-z) : Nat) : Int))
  go_wp2
  clear pae0 pae1 pae2 pae3 pre0 pre1 pre2 pre3 sf1a sf1b sf1c sf1d sg1a sg1b
  have hB_4 := below_setAll hB_3 (g := w.heap.size + 1) (by omega) [.int .u64 ((wh (-z) : Nat) : Int), .int .u64 ((wl (-z) : Nat) : Int)]
  have pa_3 := pa_2.farAll (g' := w.heap.size + 1) (by omega) [.int .u64 ((wh (-z) : Nat) : Int), .int .u64 ((wl (-z) : Nat) : Int)]
  have pr_2 := pr_1.setAll [.int .u64 ((wh (-z) : Nat) : Int), .int .u64 ((wl (-z) : Nat) : Int)] rfl
  simp only [setAll, Nat.zero_add] at hB_4 pa_3 pr_2
  clear hB_3 pa_2 pr_1
  generalize (World.setCell (World.setCell w3 ⟨w.heap.size + 1, 0, none⟩ (.int .u64 ((wh (-z) : Nat) : Int))) ⟨w.heap.size + 1, 1, none⟩ (.int .u64 ((wl (-z) : Nat) : Int))) = w4 at *
  go_wp2
  obtain ⟨pre0, pre1, pre2, pre3⟩ := pr_2.open2
  exact bodyPost_ret (v := .agg #[.int .u64 ((wh (-z) : Nat) : Int), .int .u64 ((wl (-z) : Nat) : Int)]) (by simp [results, Try.results83, go_sem, pre0, pre1]) rfl ⟨rfl, hB_4⟩
set_option maxHeartbeats 4000000 in
theorem size_neg (z : Int) (w : World) (hz : InW z) (h0 : z < 0) :
    Calls Try.prog 81 #[.agg #[.int .u64 ((wh (z) : Nat) : Int), .int .u64 ((wl (z) : Nat) : Int)]] w fun e w' => AnsW w w' e (-z) := by
  have hbel : ∀ w, Calls Try.prog 59 #[.agg #[.int .u64 ((wh (z) : Nat) : Int), .int .u64 ((wl (z) : Nat) : Int)]] w fun e w' => e = .returned (.bool true) ∧ Below w.heap.size w w' := by
    intro w; have := wbelow_any z hz w; simpa only [h0, decide_true] using this
  have hB_0 := Below.refl w.heap.size w
  obtain ⟨w1, hw1, pa_0, hb1, hs1⟩ := new_box w (w.heap.size) rfl [.int .u64 ((wh (z) : Nat) : Int), .int .u64 ((wl (z) : Nat) : Int)] 99
  have hb1' : Below w.heap.size w w1 := hb1.mono (by omega)
  clear hb1
  have hB_1 := hB_0.trans (hb1'.mono hB_0.size)
  clear hb1' hB_0
  obtain ⟨w2, hw2, pr_0, hb2, hs2⟩ := new_box w1 (w.heap.size + 1) hs1 [.int .u64 0, .int .u64 0] 99
  have hb2' : Below w1.heap.size w1 w2 := hb2.mono (by omega)
  clear hb2
  have hB_2 := hB_1.trans (hb2'.mono hB_1.size)
  have pa_1 := pa_0.below hb2'
  clear hb2' hB_1 pa_0
  go_enter Try.func81, Try.ntmps81
  obtain ⟨pae0, pae1, pae2, pae3⟩ := pa_1.open2
  obtain ⟨pre0, pre1, pre2, pre3⟩ := pr_0.open2
  go_wp2_with fail
  refine (hbel _).mono ?_
  rintro e w3 ⟨rfl, hb3⟩
  clear pae0 pae1 pae2 pae3 pre0 pre1 pre2 pre3
  have hB_3 := hB_2.trans (hb3.mono hB_2.size)
  have pa_2 := pa_1.below hb3
  have pr_1 := pr_0.below hb3
  clear hb3 hB_2 pa_1 pr_0
  obtain ⟨pae0, pae1, pae2, pae3⟩ := pa_2.open2
  obtain ⟨pre0, pre1, pre2, pre3⟩ := pr_1.open2
  go_wp2_with fail
  refine (across_any z _).mono ?_
  rintro e w4 ⟨rfl, hb4⟩
  clear pae0 pae1 pae2 pae3 pre0 pre1 pre2 pre3
  have hB_4 := hB_3.trans (hb4.mono hB_3.size)
  have pa_3 := pa_2.below hb4
  have pr_2 := pr_1.below hb4
  clear hb4 hB_3 pa_2 pr_1
  obtain ⟨pae0, pae1, pae2, pae3⟩ := pa_3.open2
  obtain ⟨pre0, pre1, pre2, pre3⟩ := pr_2.open2
  obtain ⟨sf1a, sf1b, sf1c, sf1d⟩ := pr_2.open2
  obtain ⟨sg1a, sg1b⟩ := Box.put2 pr_2 (.int .u64 ((wh (-z) : Nat) : Int))
  go_wp2
  clear pae0 pae1 pae2 pae3 pre0 pre1 pre2 pre3 sf1a sf1b sf1c sf1d sg1a sg1b
  have hB_5 := below_setAll hB_4 (g := w.heap.size + 1) (by omega) [.int .u64 ((wh (-z) : Nat) : Int), .int .u64 ((wl (-z) : Nat) : Int)]
  have pa_4 := pa_3.farAll (g' := w.heap.size + 1) (by omega) [.int .u64 ((wh (-z) : Nat) : Int), .int .u64 ((wl (-z) : Nat) : Int)]
  have pr_3 := pr_2.setAll [.int .u64 ((wh (-z) : Nat) : Int), .int .u64 ((wl (-z) : Nat) : Int)] rfl
  simp only [setAll, Nat.zero_add] at hB_5 pa_4 pr_3
  clear hB_4 pa_3 pr_2
  generalize (World.setCell (World.setCell w4 ⟨w.heap.size + 1, 0, none⟩ (.int .u64 ((wh (-z) : Nat) : Int))) ⟨w.heap.size + 1, 1, none⟩ (.int .u64 ((wl (-z) : Nat) : Int))) = w5 at *
  go_wp2
  obtain ⟨pre0, pre1, pre2, pre3⟩ := pr_3.open2
  exact bodyPost_ret (v := .agg #[.int .u64 ((wh (-z) : Nat) : Int), .int .u64 ((wl (-z) : Nat) : Int)]) (by simp [results, Try.results81, go_sem, pre0, pre1]) rfl ⟨rfl, hB_5⟩
set_option maxHeartbeats 4000000 in
theorem size_pos (z : Int) (w : World) (hz : InW z) (h0 : ¬ z < 0) :
    Calls Try.prog 81 #[.agg #[.int .u64 ((wh (z) : Nat) : Int), .int .u64 ((wl (z) : Nat) : Int)]] w fun e w' => AnsW w w' e (z) := by
  have hbel : ∀ w, Calls Try.prog 59 #[.agg #[.int .u64 ((wh (z) : Nat) : Int), .int .u64 ((wl (z) : Nat) : Int)]] w fun e w' => e = .returned (.bool false) ∧ Below w.heap.size w w' := by
    intro w; have := wbelow_any z hz w; simpa only [h0, decide_false] using this
  have hB_0 := Below.refl w.heap.size w
  obtain ⟨w1, hw1, pa_0, hb1, hs1⟩ := new_box w (w.heap.size) rfl [.int .u64 ((wh (z) : Nat) : Int), .int .u64 ((wl (z) : Nat) : Int)] 99
  have hb1' : Below w.heap.size w w1 := hb1.mono (by omega)
  clear hb1
  have hB_1 := hB_0.trans (hb1'.mono hB_0.size)
  clear hb1' hB_0
  obtain ⟨w2, hw2, pr_0, hb2, hs2⟩ := new_box w1 (w.heap.size + 1) hs1 [.int .u64 0, .int .u64 0] 99
  have hb2' : Below w1.heap.size w1 w2 := hb2.mono (by omega)
  clear hb2
  have hB_2 := hB_1.trans (hb2'.mono hB_1.size)
  have pa_1 := pa_0.below hb2'
  clear hb2' hB_1 pa_0
  go_enter Try.func81, Try.ntmps81
  obtain ⟨pae0, pae1, pae2, pae3⟩ := pa_1.open2
  obtain ⟨pre0, pre1, pre2, pre3⟩ := pr_0.open2
  go_wp2_with fail
  refine (hbel _).mono ?_
  rintro e w3 ⟨rfl, hb3⟩
  clear pae0 pae1 pae2 pae3 pre0 pre1 pre2 pre3
  have hB_3 := hB_2.trans (hb3.mono hB_2.size)
  have pa_2 := pa_1.below hb3
  have pr_1 := pr_0.below hb3
  clear hb3 hB_2 pa_1 pr_0
  obtain ⟨pae0, pae1, pae2, pae3⟩ := pa_2.open2
  obtain ⟨pre0, pre1, pre2, pre3⟩ := pr_1.open2
  obtain ⟨sf1a, sf1b, sf1c, sf1d⟩ := pr_1.open2
  obtain ⟨sg1a, sg1b⟩ := Box.put2 pr_1 (.int .u64 ((wh (z) : Nat) : Int))
  go_wp2
  clear pae0 pae1 pae2 pae3 pre0 pre1 pre2 pre3 sf1a sf1b sf1c sf1d sg1a sg1b
  have hB_4 := below_setAll hB_3 (g := w.heap.size + 1) (by omega) [.int .u64 ((wh (z) : Nat) : Int), .int .u64 ((wl (z) : Nat) : Int)]
  have pa_3 := pa_2.farAll (g' := w.heap.size + 1) (by omega) [.int .u64 ((wh (z) : Nat) : Int), .int .u64 ((wl (z) : Nat) : Int)]
  have pr_2 := pr_1.setAll [.int .u64 ((wh (z) : Nat) : Int), .int .u64 ((wl (z) : Nat) : Int)] rfl
  simp only [setAll, Nat.zero_add] at hB_4 pa_3 pr_2
  clear hB_3 pa_2 pr_1
  generalize (World.setCell (World.setCell w3 ⟨w.heap.size + 1, 0, none⟩ (.int .u64 ((wh (z) : Nat) : Int))) ⟨w.heap.size + 1, 1, none⟩ (.int .u64 ((wl (z) : Nat) : Int))) = w4 at *
  go_wp2
  obtain ⟨pre0, pre1, pre2, pre3⟩ := pr_2.open2
  exact bodyPost_ret (v := .agg #[.int .u64 ((wh (z) : Nat) : Int), .int .u64 ((wl (z) : Nat) : Int)]) (by simp [results, Try.results81, go_sem, pre0, pre1]) rfl ⟨rfl, hB_4⟩
theorem size_any (z : Int) (w : World) (hz : InW z) : Calls Try.prog 81 #[.agg #[.int .u64 ((wh (z) : Nat) : Int), .int .u64 ((wl (z) : Nat) : Int)]] w fun e w' => AnsW w w' e (z.natAbs : Int) := by
  by_cases h0 : z < 0
  · have h := size_neg z w hz h0
    rwa [show -z = (z.natAbs : Int) by omega] at h
  · have h := size_pos z w hz h0
    have e : z = (z.natAbs : Int) := by omega
    rw [← e]; exact h
set_option maxHeartbeats 4000000 in
theorem Of_walk_neg (n : Int) (w : World) (h0 : n < 0) :
    Calls Try.prog 82 #[.int .i64 n] w fun e w' => e = .returned (.agg #[.int .u64 18446744073709551615, .int .u64 (IntKind.u64.wrap n)]) ∧ Below w.heap.size w w' := by
  have hB_0 := Below.refl w.heap.size w
  obtain ⟨w1, hw1, pr_0, hb1, hs1⟩ := new_box w (w.heap.size) rfl [.int .u64 0, .int .u64 0] 99
  have hb1' : Below w.heap.size w w1 := hb1.mono (by omega)
  clear hb1
  have hB_1 := hB_0.trans (hb1'.mono hB_0.size)
  clear hb1' hB_0
  go_enter Try.func82, Try.ntmps82
  obtain ⟨pre0, pre1, pre2, pre3⟩ := pr_0.open2
  obtain ⟨sf1a, sf1b, sf1c, sf1d⟩ := pr_0.open2
  obtain ⟨sg1a, sg1b⟩ := Box.put2 pr_0 (.int .u64 18446744073709551615)
  go_wp2
  clear pre0 pre1 pre2 pre3 sf1a sf1b sf1c sf1d sg1a sg1b
  have hB_2 := below_setAll hB_1 (g := w.heap.size) (by omega) [.int .u64 18446744073709551615, .int .u64 (IntKind.u64.wrap n)]
  have pr_1 := pr_0.setAll [.int .u64 18446744073709551615, .int .u64 (IntKind.u64.wrap n)] rfl
  simp only [setAll, Nat.zero_add] at hB_2 pr_1
  clear hB_1 pr_0
  generalize (World.setCell (World.setCell w1 ⟨w.heap.size, 0, none⟩ (.int .u64 18446744073709551615)) ⟨w.heap.size, 1, none⟩ (.int .u64 (IntKind.u64.wrap n))) = w2 at *
  go_wp2
  obtain ⟨pre0, pre1, pre2, pre3⟩ := pr_1.open2
  exact bodyPost_ret (v := .agg #[.int .u64 18446744073709551615, .int .u64 (IntKind.u64.wrap n)]) (by simp [results, Try.results82, go_sem, pre0, pre1]) rfl ⟨rfl, hB_2⟩
set_option maxHeartbeats 4000000 in
theorem Of_walk_pos (n : Int) (w : World) (h0 : ¬ n < 0) :
    Calls Try.prog 82 #[.int .i64 n] w fun e w' => e = .returned (.agg #[.int .u64 0, .int .u64 (IntKind.u64.wrap n)]) ∧ Below w.heap.size w w' := by
  have hB_0 := Below.refl w.heap.size w
  obtain ⟨w1, hw1, pr_0, hb1, hs1⟩ := new_box w (w.heap.size) rfl [.int .u64 0, .int .u64 0] 99
  have hb1' : Below w.heap.size w w1 := hb1.mono (by omega)
  clear hb1
  have hB_1 := hB_0.trans (hb1'.mono hB_0.size)
  clear hb1' hB_0
  go_enter Try.func82, Try.ntmps82
  obtain ⟨pre0, pre1, pre2, pre3⟩ := pr_0.open2
  obtain ⟨sf1a, sf1b, sf1c, sf1d⟩ := pr_0.open2
  obtain ⟨sg1a, sg1b⟩ := Box.put2 pr_0 (.int .u64 0)
  go_wp2
  clear pre0 pre1 pre2 pre3 sf1a sf1b sf1c sf1d sg1a sg1b
  have hB_2 := below_setAll hB_1 (g := w.heap.size) (by omega) [.int .u64 0, .int .u64 (IntKind.u64.wrap n)]
  have pr_1 := pr_0.setAll [.int .u64 0, .int .u64 (IntKind.u64.wrap n)] rfl
  simp only [setAll, Nat.zero_add] at hB_2 pr_1
  clear hB_1 pr_0
  generalize (World.setCell (World.setCell w1 ⟨w.heap.size, 0, none⟩ (.int .u64 0)) ⟨w.heap.size, 1, none⟩ (.int .u64 (IntKind.u64.wrap n))) = w2 at *
  go_wp2
  obtain ⟨pre0, pre1, pre2, pre3⟩ := pr_1.open2
  exact bodyPost_ret (v := .agg #[.int .u64 0, .int .u64 (IntKind.u64.wrap n)]) (by simp [results, Try.results82, go_sem, pre0, pre1]) rfl ⟨rfl, hB_2⟩
theorem wOf_any (n : Int) (h : -9223372036854775808 ≤ n) (h1 : n < 9223372036854775808) (w : World) : Calls Try.prog 82 #[.int .i64 n] w fun e w' => AnsW w w' e n := by
  by_cases h0 : n < 0
  · obtain ⟨a, b⟩ := w_int_neg h h0
    have := Of_walk_neg n w h0
    unfold AnsW; rw [a, b]; exact this
  · obtain ⟨a, b⟩ := w_int_pos h1 (Int.not_lt.1 h0)
    have := Of_walk_pos n w h0
    unfold AnsW; rw [a, b]; exact this
end Go.Proofs.Ytecnnpkpgbbfkaa
/- The calls of wide: Sign, Cmp. -/
namespace Go.Proofs.Ytecnnpkpgbbfkaa
open Go.RowKit Go.MagM
set_option maxHeartbeats 4000000 in
theorem Sign_w_zero  (w : World) :
    Calls Try.prog 53 #[.agg #[.int .u64 0, .int .u64 0]] w fun e w' => e = .returned (.int .i64 (0)) ∧ Below w.heap.size w w' := by
  have hB_0 := Below.refl w.heap.size w
  obtain ⟨w1, hw1, pa_0, hb1, hs1⟩ := new_box w (w.heap.size) rfl [.int .u64 0, .int .u64 0] 99
  have hb1' : Below w.heap.size w w1 := hb1.mono (by omega)
  clear hb1
  have hB_1 := hB_0.trans (hb1'.mono hB_0.size)
  clear hb1' hB_0
  go_enter Try.func53, Try.ntmps53
  obtain ⟨pae0, pae1, pae2, pae3⟩ := pa_0.open2
  go_wp2
  go_ret
  exact ⟨rfl, hB_1⟩
set_option maxHeartbeats 4000000 in
theorem Sign_w_neg (ah al : Nat) (h0 : ¬ ah = 0) (hbel : ∀ w, Calls Try.prog 59 #[.agg #[.int .u64 ((ah : Nat) : Int), .int .u64 ((al : Nat) : Int)]] w fun e w' => e = .returned (.bool true) ∧ Below w.heap.size w w') (w : World) :
    Calls Try.prog 53 #[.agg #[.int .u64 ((ah : Nat) : Int), .int .u64 ((al : Nat) : Int)]] w fun e w' => e = .returned (.int .i64 (-1)) ∧ Below w.heap.size w w' := by
  have hB_0 := Below.refl w.heap.size w
  obtain ⟨w1, hw1, pa_0, hb1, hs1⟩ := new_box w (w.heap.size) rfl [.int .u64 ((ah : Nat) : Int), .int .u64 ((al : Nat) : Int)] 99
  have hb1' : Below w.heap.size w w1 := hb1.mono (by omega)
  clear hb1
  have hB_1 := hB_0.trans (hb1'.mono hB_0.size)
  clear hb1' hB_0
  go_enter Try.func53, Try.ntmps53
  obtain ⟨pae0, pae1, pae2, pae3⟩ := pa_0.open2
  go_wp2_with fail
  refine (hbel _).mono ?_
  rintro e w2 ⟨rfl, hb2⟩
  clear pae0 pae1 pae2 pae3
  have hB_2 := hB_1.trans (hb2.mono hB_1.size)
  have pa_1 := pa_0.below hb2
  clear hb2 hB_1 pa_0
  obtain ⟨pae0, pae1, pae2, pae3⟩ := pa_1.open2
  go_wp2
  go_ret
  exact ⟨rfl, hB_2⟩
set_option maxHeartbeats 4000000 in
theorem Sign_w_pos (ah al : Nat) (h0 : ¬ ah = 0) (hbel : ∀ w, Calls Try.prog 59 #[.agg #[.int .u64 ((ah : Nat) : Int), .int .u64 ((al : Nat) : Int)]] w fun e w' => e = .returned (.bool false) ∧ Below w.heap.size w w') (w : World) :
    Calls Try.prog 53 #[.agg #[.int .u64 ((ah : Nat) : Int), .int .u64 ((al : Nat) : Int)]] w fun e w' => e = .returned (.int .i64 (1)) ∧ Below w.heap.size w w' := by
  have hB_0 := Below.refl w.heap.size w
  obtain ⟨w1, hw1, pa_0, hb1, hs1⟩ := new_box w (w.heap.size) rfl [.int .u64 ((ah : Nat) : Int), .int .u64 ((al : Nat) : Int)] 99
  have hb1' : Below w.heap.size w w1 := hb1.mono (by omega)
  clear hb1
  have hB_1 := hB_0.trans (hb1'.mono hB_0.size)
  clear hb1' hB_0
  go_enter Try.func53, Try.ntmps53
  obtain ⟨pae0, pae1, pae2, pae3⟩ := pa_0.open2
  go_wp2_with fail
  refine (hbel _).mono ?_
  rintro e w2 ⟨rfl, hb2⟩
  clear pae0 pae1 pae2 pae3
  have hB_2 := hB_1.trans (hb2.mono hB_1.size)
  have pa_1 := pa_0.below hb2
  clear hb2 hB_1 pa_0
  obtain ⟨pae0, pae1, pae2, pae3⟩ := pa_1.open2
  go_wp2
  go_ret
  exact ⟨rfl, hB_2⟩
set_option maxHeartbeats 4000000 in
theorem Sign_w_low (al : Nat) (h0 : ¬ al = 0) (hbel : ∀ w, Calls Try.prog 59 #[.agg #[.int .u64 0, .int .u64 ((al : Nat) : Int)]] w fun e w' => e = .returned (.bool false) ∧ Below w.heap.size w w') (w : World) :
    Calls Try.prog 53 #[.agg #[.int .u64 0, .int .u64 ((al : Nat) : Int)]] w fun e w' => e = .returned (.int .i64 (1)) ∧ Below w.heap.size w w' := by
  have hB_0 := Below.refl w.heap.size w
  obtain ⟨w1, hw1, pa_0, hb1, hs1⟩ := new_box w (w.heap.size) rfl [.int .u64 0, .int .u64 ((al : Nat) : Int)] 99
  have hb1' : Below w.heap.size w w1 := hb1.mono (by omega)
  clear hb1
  have hB_1 := hB_0.trans (hb1'.mono hB_0.size)
  clear hb1' hB_0
  go_enter Try.func53, Try.ntmps53
  obtain ⟨pae0, pae1, pae2, pae3⟩ := pa_0.open2
  go_wp2_with fail
  refine (hbel _).mono ?_
  rintro e w2 ⟨rfl, hb2⟩
  clear pae0 pae1 pae2 pae3
  have hB_2 := hB_1.trans (hb2.mono hB_1.size)
  have pa_1 := pa_0.below hb2
  clear hb2 hB_1 pa_0
  obtain ⟨pae0, pae1, pae2, pae3⟩ := pa_1.open2
  go_wp2
  go_ret
  exact ⟨rfl, hB_2⟩
/-- The number of 128 bits that has these words. -/
def wrapW (z : Int) : Int := (z + 170141183460469231731687303715884105728) % 340282366920938463463374607431768211456 - 170141183460469231731687303715884105728
theorem wrapW_in (z : Int) : InW (wrapW z) := by unfold wrapW InW; omega
theorem wrapW_h (z : Int) : wh (wrapW z) = wh z := by unfold wrapW wh; omega
theorem wrapW_l (z : Int) : wl (wrapW z) = wl z := by unfold wrapW wl; omega
theorem wrapW_self {z : Int} (h : InW z) : wrapW z = z := by unfold wrapW; unfold InW at h; omega
theorem wbelow_all (z : Int) (w : World) : Calls Try.prog 59 #[.agg #[.int .u64 ((wh (z) : Nat) : Int), .int .u64 ((wl (z) : Nat) : Int)]] w fun e w' => e = .returned (.bool (decide (wrapW z < 0))) ∧ Below w.heap.size w w' := by
  have h := wbelow_any (wrapW z) (wrapW_in z) w
  rw [wrapW_h, wrapW_l] at h
  exact h
theorem wSign_all (z : Int) (w : World) : Calls Try.prog 53 #[.agg #[.int .u64 ((wh (z) : Nat) : Int), .int .u64 ((wl (z) : Nat) : Int)]] w fun e w' => e = .returned (.int .i64 (wrapW z).sign) ∧ Below w.heap.size w w' := by
  have hz := wrapW_in z
  have h1 := wrapW_h z; have h2 := wrapW_l z
  have hbel := fun w => wbelow_all z w
  rw [← h1, ← h2] at *
  generalize wrapW z = x at *
  have hm := w_neg hz
  have hw := w_mod x
  by_cases hh : wh x = 0
  · by_cases hl : wl x = 0
    · have hx : x = 0 := by rw [hh, hl] at hw; unfold InW at hz; omega
      subst hx
      rw [wh_zero, wl_zero]
      exact Sign_w_zero w
    · have hx : 0 < x := by rw [hh] at hw; unfold InW at hz; omega
      rw [Int.sign_eq_one_of_pos hx]
      rw [hh] at hbel ⊢
      refine Sign_w_low _ hl ?_ w
      intro w
      have := hbel w
      rwa [decide_eq_false (by omega : ¬ x < 0)] at this
  · by_cases hx : x < 0
    · rw [Int.sign_eq_neg_one_of_neg hx]
      refine Sign_w_neg _ _ hh ?_ w
      intro w
      have := hbel w
      rwa [decide_eq_true hx] at this
    · have hx0 : 0 < x := by unfold InW at hz; omega
      rw [Int.sign_eq_one_of_pos hx0]
      refine Sign_w_pos _ _ hh ?_ w
      intro w
      have := hbel w
      rwa [decide_eq_false hx] at this
end Go.Proofs.Ytecnnpkpgbbfkaa
/- The calls of wide: Mul, Det. -/
namespace Go.Proofs.Ytecnnpkpgbbfkaa
open Go.RowKit Go.MagM
theorem mul64_is (x y H L : Nat) (w : World) (hx : x < B) (hy : y < B) (h1 : x * y / B = H) (h2 : x * y % B = L) :
    Calls Try.prog 80 #[.int .u64 ((x : Nat) : Int), .int .u64 ((y : Nat) : Int)] w fun e w' => e = .returned (.tuple #[.int .u64 ((H : Nat) : Int), .int .u64 ((L : Nat) : Int)]) ∧ Below w.heap.size w w' := by
  subst h1; subst h2
  exact (mul64_any x y w hx hy).mono fun e w' h => by obtain ⟨h1, rfl⟩ := h; exact ⟨h1, Below.refl _ _⟩
theorem inW_int {n : Int} (h : -9223372036854775808 ≤ n) (h1 : n < 9223372036854775808) : InW n := by unfold InW; omega
set_option maxHeartbeats 4000000 in
theorem wMul_w_tt (a b : Int) (ha1 : -9223372036854775808 ≤ a) (ha2 : a < 9223372036854775808) (hb1 : -9223372036854775808 ≤ b) (hb2 : b < 9223372036854775808) (H L H' L' : Nat) (sa : a < 0) (sb : b < 0) (cm : ∀ w, Calls Try.prog 80 #[.int .u64 ((wl ((a.natAbs : Int)) : Nat) : Int), .int .u64 ((wl ((b.natAbs : Int)) : Nat) : Int)] w fun e w' => e = .returned (.tuple #[.int .u64 ((H : Nat) : Int), .int .u64 ((L : Nat) : Int)]) ∧ Below w.heap.size w w') (hac : ∀ w, Calls Try.prog 83 #[.agg #[.int .u64 ((H : Nat) : Int), .int .u64 ((L : Nat) : Int)]] w fun e w' => e = .returned (.agg #[.int .u64 ((H' : Nat) : Int), .int .u64 ((L' : Nat) : Int)]) ∧ Below w.heap.size w w') (w : World) :
    Calls Try.prog 73 #[.int .i64 a, .int .i64 b] w fun e w' => e = .returned (.agg #[.int .u64 ((H : Nat) : Int), .int .u64 ((L : Nat) : Int)]) ∧ Below w.heap.size w w' := by
  have hB_0 := Below.refl w.heap.size w
  have CM := Lib.hid cm; have CA := Lib.hid hac; have IA := Lib.hid (inW_int ha1 ha2); have IB := Lib.hid (inW_int hb1 hb2); have HA1 := Lib.hid ha1; have HA2 := Lib.hid ha2; have HB1 := Lib.hid hb1; have HB2 := Lib.hid hb2
  clear cm hac ha1 ha2 hb1 hb2
  have qa : decide (a < 0) = true := by simp [sa]
  have qb : decide (b < 0) = true := by simp [sb]
  clear sa sb
  have hfa : ∀ w : World, (Instr.field 99 (.agg #[.int .u64 ((wh ((a.natAbs : Int)) : Nat) : Int), .int .u64 ((wl ((a.natAbs : Int)) : Nat) : Int)]) 1).run Try.prog w = .ok (.int .u64 ((wl ((a.natAbs : Int)) : Nat) : Int)) w := fun _ => by kernel_rfl
  have hfb : ∀ w : World, (Instr.field 99 (.agg #[.int .u64 ((wh ((b.natAbs : Int)) : Nat) : Int), .int .u64 ((wl ((b.natAbs : Int)) : Nat) : Int)]) 1).run Try.prog w = .ok (.int .u64 ((wl ((b.natAbs : Int)) : Nat) : Int)) w := fun _ => by kernel_rfl
  obtain ⟨w1, hw1, pr_0, hb1, hs1⟩ := new_box w (w.heap.size) rfl [.int .u64 0, .int .u64 0] 99
  have hb1' : Below w.heap.size w w1 := hb1.mono (by omega)
  clear hb1
  have hB_1 := hB_0.trans (hb1'.mono hB_0.size)
  clear hb1' hB_0
  go_enter Try.func73, Try.ntmps73
  obtain ⟨pre0, pre1, pre2, pre3⟩ := pr_0.open2
  go_wp2_with fail
  refine (wOf_any a HA1.out HA2.out _).mono ?_
  rintro e w2 ⟨rfl, hb2⟩
  clear pre0 pre1 pre2 pre3
  have hB_2 := hB_1.trans (hb2.mono hB_1.size)
  have pr_1 := pr_0.below hb2
  clear hb2 hB_1 pr_0
  obtain ⟨pre0, pre1, pre2, pre3⟩ := pr_1.open2
  go_wp2_with fail
  refine (size_any a _ IA.out).mono ?_
  rintro e w3 ⟨rfl, hb3⟩
  clear pre0 pre1 pre2 pre3
  have hB_3 := hB_2.trans (hb3.mono hB_2.size)
  have pr_2 := pr_1.below hb3
  clear hb3 hB_2 pr_1
  obtain ⟨pre0, pre1, pre2, pre3⟩ := pr_2.open2
  go_wp2_with fail
  refine (wOf_any b HB1.out HB2.out _).mono ?_
  rintro e w4 ⟨rfl, hb4⟩
  clear pre0 pre1 pre2 pre3
  have hB_4 := hB_3.trans (hb4.mono hB_3.size)
  have pr_3 := pr_2.below hb4
  clear hb4 hB_3 pr_2
  obtain ⟨pre0, pre1, pre2, pre3⟩ := pr_3.open2
  go_wp2_with fail
  refine (size_any b _ IB.out).mono ?_
  rintro e w5 ⟨rfl, hb5⟩
  clear pre0 pre1 pre2 pre3
  have hB_5 := hB_4.trans (hb5.mono hB_4.size)
  have pr_4 := pr_3.below hb5
  clear hb5 hB_4 pr_3
  obtain ⟨pre0, pre1, pre2, pre3⟩ := pr_4.open2
  go_wp2_with fail
  refine (CM.out _).mono ?_
  rintro e w6 ⟨rfl, hb6⟩
  clear pre0 pre1 pre2 pre3
  have hB_6 := hB_5.trans (hb6.mono hB_5.size)
  have pr_5 := pr_4.below hb6
  clear hb6 hB_5 pr_4
  obtain ⟨pre0, pre1, pre2, pre3⟩ := pr_5.open2
  clear pre0 pre1 pre2 pre3
  have hl1pr := pr_5.lt
  have hl1B := hB_6.size
  obtain ⟨w7, hw7, pp_0, hb7, hs7⟩ := new_box w6 (w6.heap.size) rfl [.int .u64 ((H : Nat) : Int), .int .u64 ((L : Nat) : Int)] 99
  have hb7' : Below w6.heap.size w6 w7 := hb7.mono (by omega)
  clear hb7
  have hB_7 := hB_6.trans (hb7'.mono hB_6.size)
  have pr_6 := pr_5.below hb7'
  clear hb7' hB_6 pr_5
  obtain ⟨pre0, pre1, pre2, pre3⟩ := pr_6.open2
  obtain ⟨ppe0, ppe1, ppe2, ppe3⟩ := pp_0.open2
  obtain ⟨sf1a, sf1b, sf1c, sf1d⟩ := pr_6.open2
  obtain ⟨sg1a, sg1b⟩ := Box.put2 pr_6 (.int .u64 ((H : Nat) : Int))
  go_wp2
  clear pre0 pre1 pre2 pre3 ppe0 ppe1 ppe2 ppe3 sf1a sf1b sf1c sf1d sg1a sg1b
  have hB_8 := below_setAll hB_7 (g := w.heap.size) (by omega) [.int .u64 ((H : Nat) : Int), .int .u64 ((L : Nat) : Int)]
  have pp_1 := pp_0.farAll (g' := w.heap.size) (by omega) [.int .u64 ((H : Nat) : Int), .int .u64 ((L : Nat) : Int)]
  have pr_7 := pr_6.setAll [.int .u64 ((H : Nat) : Int), .int .u64 ((L : Nat) : Int)] rfl
  simp only [setAll, Nat.zero_add] at hB_8 pr_7 pp_1
  clear hB_7 pp_0 pr_6
  generalize (World.setCell (World.setCell w7 ⟨w.heap.size, 0, none⟩ (.int .u64 ((H : Nat) : Int))) ⟨w.heap.size, 1, none⟩ (.int .u64 ((L : Nat) : Int))) = w8 at *
  go_wp2
  obtain ⟨pre0, pre1, pre2, pre3⟩ := pr_7.open2
  exact bodyPost_ret (v := .agg #[.int .u64 ((H : Nat) : Int), .int .u64 ((L : Nat) : Int)]) (by simp [results, Try.results73, go_sem, pre0, pre1]) rfl ⟨rfl, hB_8⟩
set_option maxHeartbeats 4000000 in
theorem wMul_w_tf (a b : Int) (ha1 : -9223372036854775808 ≤ a) (ha2 : a < 9223372036854775808) (hb1 : -9223372036854775808 ≤ b) (hb2 : b < 9223372036854775808) (H L H' L' : Nat) (sa : a < 0) (sb : ¬ b < 0) (cm : ∀ w, Calls Try.prog 80 #[.int .u64 ((wl ((a.natAbs : Int)) : Nat) : Int), .int .u64 ((wl ((b.natAbs : Int)) : Nat) : Int)] w fun e w' => e = .returned (.tuple #[.int .u64 ((H : Nat) : Int), .int .u64 ((L : Nat) : Int)]) ∧ Below w.heap.size w w') (hac : ∀ w, Calls Try.prog 83 #[.agg #[.int .u64 ((H : Nat) : Int), .int .u64 ((L : Nat) : Int)]] w fun e w' => e = .returned (.agg #[.int .u64 ((H' : Nat) : Int), .int .u64 ((L' : Nat) : Int)]) ∧ Below w.heap.size w w') (w : World) :
    Calls Try.prog 73 #[.int .i64 a, .int .i64 b] w fun e w' => e = .returned (.agg #[.int .u64 ((H' : Nat) : Int), .int .u64 ((L' : Nat) : Int)]) ∧ Below w.heap.size w w' := by
  have hB_0 := Below.refl w.heap.size w
  have CM := Lib.hid cm; have CA := Lib.hid hac; have IA := Lib.hid (inW_int ha1 ha2); have IB := Lib.hid (inW_int hb1 hb2); have HA1 := Lib.hid ha1; have HA2 := Lib.hid ha2; have HB1 := Lib.hid hb1; have HB2 := Lib.hid hb2
  clear cm hac ha1 ha2 hb1 hb2
  have qa : decide (a < 0) = true := by simp [sa]
  have qb : decide (b < 0) = false := by simp [sb]
  clear sa sb
  have hfa : ∀ w : World, (Instr.field 99 (.agg #[.int .u64 ((wh ((a.natAbs : Int)) : Nat) : Int), .int .u64 ((wl ((a.natAbs : Int)) : Nat) : Int)]) 1).run Try.prog w = .ok (.int .u64 ((wl ((a.natAbs : Int)) : Nat) : Int)) w := fun _ => by kernel_rfl
  have hfb : ∀ w : World, (Instr.field 99 (.agg #[.int .u64 ((wh ((b.natAbs : Int)) : Nat) : Int), .int .u64 ((wl ((b.natAbs : Int)) : Nat) : Int)]) 1).run Try.prog w = .ok (.int .u64 ((wl ((b.natAbs : Int)) : Nat) : Int)) w := fun _ => by kernel_rfl
  obtain ⟨w1, hw1, pr_0, hb1, hs1⟩ := new_box w (w.heap.size) rfl [.int .u64 0, .int .u64 0] 99
  have hb1' : Below w.heap.size w w1 := hb1.mono (by omega)
  clear hb1
  have hB_1 := hB_0.trans (hb1'.mono hB_0.size)
  clear hb1' hB_0
  go_enter Try.func73, Try.ntmps73
  obtain ⟨pre0, pre1, pre2, pre3⟩ := pr_0.open2
  go_wp2_with fail
  refine (wOf_any a HA1.out HA2.out _).mono ?_
  rintro e w2 ⟨rfl, hb2⟩
  clear pre0 pre1 pre2 pre3
  have hB_2 := hB_1.trans (hb2.mono hB_1.size)
  have pr_1 := pr_0.below hb2
  clear hb2 hB_1 pr_0
  obtain ⟨pre0, pre1, pre2, pre3⟩ := pr_1.open2
  go_wp2_with fail
  refine (size_any a _ IA.out).mono ?_
  rintro e w3 ⟨rfl, hb3⟩
  clear pre0 pre1 pre2 pre3
  have hB_3 := hB_2.trans (hb3.mono hB_2.size)
  have pr_2 := pr_1.below hb3
  clear hb3 hB_2 pr_1
  obtain ⟨pre0, pre1, pre2, pre3⟩ := pr_2.open2
  go_wp2_with fail
  refine (wOf_any b HB1.out HB2.out _).mono ?_
  rintro e w4 ⟨rfl, hb4⟩
  clear pre0 pre1 pre2 pre3
  have hB_4 := hB_3.trans (hb4.mono hB_3.size)
  have pr_3 := pr_2.below hb4
  clear hb4 hB_3 pr_2
  obtain ⟨pre0, pre1, pre2, pre3⟩ := pr_3.open2
  go_wp2_with fail
  refine (size_any b _ IB.out).mono ?_
  rintro e w5 ⟨rfl, hb5⟩
  clear pre0 pre1 pre2 pre3
  have hB_5 := hB_4.trans (hb5.mono hB_4.size)
  have pr_4 := pr_3.below hb5
  clear hb5 hB_4 pr_3
  obtain ⟨pre0, pre1, pre2, pre3⟩ := pr_4.open2
  go_wp2_with fail
  refine (CM.out _).mono ?_
  rintro e w6 ⟨rfl, hb6⟩
  clear pre0 pre1 pre2 pre3
  have hB_6 := hB_5.trans (hb6.mono hB_5.size)
  have pr_5 := pr_4.below hb6
  clear hb6 hB_5 pr_4
  obtain ⟨pre0, pre1, pre2, pre3⟩ := pr_5.open2
  clear pre0 pre1 pre2 pre3
  have hl1pr := pr_5.lt
  have hl1B := hB_6.size
  obtain ⟨w7, hw7, pp_0, hb7, hs7⟩ := new_box w6 (w6.heap.size) rfl [.int .u64 ((H : Nat) : Int), .int .u64 ((L : Nat) : Int)] 99
  have hb7' : Below w6.heap.size w6 w7 := hb7.mono (by omega)
  clear hb7
  have hB_7 := hB_6.trans (hb7'.mono hB_6.size)
  have pr_6 := pr_5.below hb7'
  clear hb7' hB_6 pr_5
  obtain ⟨pre0, pre1, pre2, pre3⟩ := pr_6.open2
  obtain ⟨ppe0, ppe1, ppe2, ppe3⟩ := pp_0.open2
  go_wp2_with fail
  refine (CA.out _).mono ?_
  rintro e w8 ⟨rfl, hb8⟩
  clear pre0 pre1 pre2 pre3 ppe0 ppe1 ppe2 ppe3
  have hB_8 := hB_7.trans (hb8.mono hB_7.size)
  have pr_7 := pr_6.below hb8
  have pp_1 := pp_0.below hb8
  clear hb8 hB_7 pr_6 pp_0
  obtain ⟨pre0, pre1, pre2, pre3⟩ := pr_7.open2
  obtain ⟨ppe0, ppe1, ppe2, ppe3⟩ := pp_1.open2
  obtain ⟨sf1a, sf1b, sf1c, sf1d⟩ := pr_7.open2
  obtain ⟨sg1a, sg1b⟩ := Box.put2 pr_7 (.int .u64 ((H' : Nat) : Int))
  go_wp2
  clear pre0 pre1 pre2 pre3 ppe0 ppe1 ppe2 ppe3 sf1a sf1b sf1c sf1d sg1a sg1b
  have hB_9 := below_setAll hB_8 (g := w.heap.size) (by omega) [.int .u64 ((H' : Nat) : Int), .int .u64 ((L' : Nat) : Int)]
  have pp_2 := pp_1.farAll (g' := w.heap.size) (by omega) [.int .u64 ((H' : Nat) : Int), .int .u64 ((L' : Nat) : Int)]
  have pr_8 := pr_7.setAll [.int .u64 ((H' : Nat) : Int), .int .u64 ((L' : Nat) : Int)] rfl
  simp only [setAll, Nat.zero_add] at hB_9 pr_8 pp_2
  clear hB_8 pp_1 pr_7
  generalize (World.setCell (World.setCell w8 ⟨w.heap.size, 0, none⟩ (.int .u64 ((H' : Nat) : Int))) ⟨w.heap.size, 1, none⟩ (.int .u64 ((L' : Nat) : Int))) = w9 at *
  go_wp2
  obtain ⟨pre0, pre1, pre2, pre3⟩ := pr_8.open2
  exact bodyPost_ret (v := .agg #[.int .u64 ((H' : Nat) : Int), .int .u64 ((L' : Nat) : Int)]) (by simp [results, Try.results73, go_sem, pre0, pre1]) rfl ⟨rfl, hB_9⟩
set_option maxHeartbeats 4000000 in
theorem wMul_w_ft (a b : Int) (ha1 : -9223372036854775808 ≤ a) (ha2 : a < 9223372036854775808) (hb1 : -9223372036854775808 ≤ b) (hb2 : b < 9223372036854775808) (H L H' L' : Nat) (sa : ¬ a < 0) (sb : b < 0) (cm : ∀ w, Calls Try.prog 80 #[.int .u64 ((wl ((a.natAbs : Int)) : Nat) : Int), .int .u64 ((wl ((b.natAbs : Int)) : Nat) : Int)] w fun e w' => e = .returned (.tuple #[.int .u64 ((H : Nat) : Int), .int .u64 ((L : Nat) : Int)]) ∧ Below w.heap.size w w') (hac : ∀ w, Calls Try.prog 83 #[.agg #[.int .u64 ((H : Nat) : Int), .int .u64 ((L : Nat) : Int)]] w fun e w' => e = .returned (.agg #[.int .u64 ((H' : Nat) : Int), .int .u64 ((L' : Nat) : Int)]) ∧ Below w.heap.size w w') (w : World) :
    Calls Try.prog 73 #[.int .i64 a, .int .i64 b] w fun e w' => e = .returned (.agg #[.int .u64 ((H' : Nat) : Int), .int .u64 ((L' : Nat) : Int)]) ∧ Below w.heap.size w w' := by
  have hB_0 := Below.refl w.heap.size w
  have CM := Lib.hid cm; have CA := Lib.hid hac; have IA := Lib.hid (inW_int ha1 ha2); have IB := Lib.hid (inW_int hb1 hb2); have HA1 := Lib.hid ha1; have HA2 := Lib.hid ha2; have HB1 := Lib.hid hb1; have HB2 := Lib.hid hb2
  clear cm hac ha1 ha2 hb1 hb2
  have qa : decide (a < 0) = false := by simp [sa]
  have qb : decide (b < 0) = true := by simp [sb]
  clear sa sb
  have hfa : ∀ w : World, (Instr.field 99 (.agg #[.int .u64 ((wh ((a.natAbs : Int)) : Nat) : Int), .int .u64 ((wl ((a.natAbs : Int)) : Nat) : Int)]) 1).run Try.prog w = .ok (.int .u64 ((wl ((a.natAbs : Int)) : Nat) : Int)) w := fun _ => by kernel_rfl
  have hfb : ∀ w : World, (Instr.field 99 (.agg #[.int .u64 ((wh ((b.natAbs : Int)) : Nat) : Int), .int .u64 ((wl ((b.natAbs : Int)) : Nat) : Int)]) 1).run Try.prog w = .ok (.int .u64 ((wl ((b.natAbs : Int)) : Nat) : Int)) w := fun _ => by kernel_rfl
  obtain ⟨w1, hw1, pr_0, hb1, hs1⟩ := new_box w (w.heap.size) rfl [.int .u64 0, .int .u64 0] 99
  have hb1' : Below w.heap.size w w1 := hb1.mono (by omega)
  clear hb1
  have hB_1 := hB_0.trans (hb1'.mono hB_0.size)
  clear hb1' hB_0
  go_enter Try.func73, Try.ntmps73
  obtain ⟨pre0, pre1, pre2, pre3⟩ := pr_0.open2
  go_wp2_with fail
  refine (wOf_any a HA1.out HA2.out _).mono ?_
  rintro e w2 ⟨rfl, hb2⟩
  clear pre0 pre1 pre2 pre3
  have hB_2 := hB_1.trans (hb2.mono hB_1.size)
  have pr_1 := pr_0.below hb2
  clear hb2 hB_1 pr_0
  obtain ⟨pre0, pre1, pre2, pre3⟩ := pr_1.open2
  go_wp2_with fail
  refine (size_any a _ IA.out).mono ?_
  rintro e w3 ⟨rfl, hb3⟩
  clear pre0 pre1 pre2 pre3
  have hB_3 := hB_2.trans (hb3.mono hB_2.size)
  have pr_2 := pr_1.below hb3
  clear hb3 hB_2 pr_1
  obtain ⟨pre0, pre1, pre2, pre3⟩ := pr_2.open2
  go_wp2_with fail
  refine (wOf_any b HB1.out HB2.out _).mono ?_
  rintro e w4 ⟨rfl, hb4⟩
  clear pre0 pre1 pre2 pre3
  have hB_4 := hB_3.trans (hb4.mono hB_3.size)
  have pr_3 := pr_2.below hb4
  clear hb4 hB_3 pr_2
  obtain ⟨pre0, pre1, pre2, pre3⟩ := pr_3.open2
  go_wp2_with fail
  refine (size_any b _ IB.out).mono ?_
  rintro e w5 ⟨rfl, hb5⟩
  clear pre0 pre1 pre2 pre3
  have hB_5 := hB_4.trans (hb5.mono hB_4.size)
  have pr_4 := pr_3.below hb5
  clear hb5 hB_4 pr_3
  obtain ⟨pre0, pre1, pre2, pre3⟩ := pr_4.open2
  go_wp2_with fail
  refine (CM.out _).mono ?_
  rintro e w6 ⟨rfl, hb6⟩
  clear pre0 pre1 pre2 pre3
  have hB_6 := hB_5.trans (hb6.mono hB_5.size)
  have pr_5 := pr_4.below hb6
  clear hb6 hB_5 pr_4
  obtain ⟨pre0, pre1, pre2, pre3⟩ := pr_5.open2
  clear pre0 pre1 pre2 pre3
  have hl1pr := pr_5.lt
  have hl1B := hB_6.size
  obtain ⟨w7, hw7, pp_0, hb7, hs7⟩ := new_box w6 (w6.heap.size) rfl [.int .u64 ((H : Nat) : Int), .int .u64 ((L : Nat) : Int)] 99
  have hb7' : Below w6.heap.size w6 w7 := hb7.mono (by omega)
  clear hb7
  have hB_7 := hB_6.trans (hb7'.mono hB_6.size)
  have pr_6 := pr_5.below hb7'
  clear hb7' hB_6 pr_5
  obtain ⟨pre0, pre1, pre2, pre3⟩ := pr_6.open2
  obtain ⟨ppe0, ppe1, ppe2, ppe3⟩ := pp_0.open2
  go_wp2_with fail
  refine (CA.out _).mono ?_
  rintro e w8 ⟨rfl, hb8⟩
  clear pre0 pre1 pre2 pre3 ppe0 ppe1 ppe2 ppe3
  have hB_8 := hB_7.trans (hb8.mono hB_7.size)
  have pr_7 := pr_6.below hb8
  have pp_1 := pp_0.below hb8
  clear hb8 hB_7 pr_6 pp_0
  obtain ⟨pre0, pre1, pre2, pre3⟩ := pr_7.open2
  obtain ⟨ppe0, ppe1, ppe2, ppe3⟩ := pp_1.open2
  obtain ⟨sf1a, sf1b, sf1c, sf1d⟩ := pr_7.open2
  obtain ⟨sg1a, sg1b⟩ := Box.put2 pr_7 (.int .u64 ((H' : Nat) : Int))
  go_wp2
  clear pre0 pre1 pre2 pre3 ppe0 ppe1 ppe2 ppe3 sf1a sf1b sf1c sf1d sg1a sg1b
  have hB_9 := below_setAll hB_8 (g := w.heap.size) (by omega) [.int .u64 ((H' : Nat) : Int), .int .u64 ((L' : Nat) : Int)]
  have pp_2 := pp_1.farAll (g' := w.heap.size) (by omega) [.int .u64 ((H' : Nat) : Int), .int .u64 ((L' : Nat) : Int)]
  have pr_8 := pr_7.setAll [.int .u64 ((H' : Nat) : Int), .int .u64 ((L' : Nat) : Int)] rfl
  simp only [setAll, Nat.zero_add] at hB_9 pr_8 pp_2
  clear hB_8 pp_1 pr_7
  generalize (World.setCell (World.setCell w8 ⟨w.heap.size, 0, none⟩ (.int .u64 ((H' : Nat) : Int))) ⟨w.heap.size, 1, none⟩ (.int .u64 ((L' : Nat) : Int))) = w9 at *
  go_wp2
  obtain ⟨pre0, pre1, pre2, pre3⟩ := pr_8.open2
  exact bodyPost_ret (v := .agg #[.int .u64 ((H' : Nat) : Int), .int .u64 ((L' : Nat) : Int)]) (by simp [results, Try.results73, go_sem, pre0, pre1]) rfl ⟨rfl, hB_9⟩
set_option maxHeartbeats 4000000 in
theorem wMul_w_ff (a b : Int) (ha1 : -9223372036854775808 ≤ a) (ha2 : a < 9223372036854775808) (hb1 : -9223372036854775808 ≤ b) (hb2 : b < 9223372036854775808) (H L H' L' : Nat) (sa : ¬ a < 0) (sb : ¬ b < 0) (cm : ∀ w, Calls Try.prog 80 #[.int .u64 ((wl ((a.natAbs : Int)) : Nat) : Int), .int .u64 ((wl ((b.natAbs : Int)) : Nat) : Int)] w fun e w' => e = .returned (.tuple #[.int .u64 ((H : Nat) : Int), .int .u64 ((L : Nat) : Int)]) ∧ Below w.heap.size w w') (hac : ∀ w, Calls Try.prog 83 #[.agg #[.int .u64 ((H : Nat) : Int), .int .u64 ((L : Nat) : Int)]] w fun e w' => e = .returned (.agg #[.int .u64 ((H' : Nat) : Int), .int .u64 ((L' : Nat) : Int)]) ∧ Below w.heap.size w w') (w : World) :
    Calls Try.prog 73 #[.int .i64 a, .int .i64 b] w fun e w' => e = .returned (.agg #[.int .u64 ((H : Nat) : Int), .int .u64 ((L : Nat) : Int)]) ∧ Below w.heap.size w w' := by
  have hB_0 := Below.refl w.heap.size w
  have CM := Lib.hid cm; have CA := Lib.hid hac; have IA := Lib.hid (inW_int ha1 ha2); have IB := Lib.hid (inW_int hb1 hb2); have HA1 := Lib.hid ha1; have HA2 := Lib.hid ha2; have HB1 := Lib.hid hb1; have HB2 := Lib.hid hb2
  clear cm hac ha1 ha2 hb1 hb2
  have qa : decide (a < 0) = false := by simp [sa]
  have qb : decide (b < 0) = false := by simp [sb]
  clear sa sb
  have hfa : ∀ w : World, (Instr.field 99 (.agg #[.int .u64 ((wh ((a.natAbs : Int)) : Nat) : Int), .int .u64 ((wl ((a.natAbs : Int)) : Nat) : Int)]) 1).run Try.prog w = .ok (.int .u64 ((wl ((a.natAbs : Int)) : Nat) : Int)) w := fun _ => by kernel_rfl
  have hfb : ∀ w : World, (Instr.field 99 (.agg #[.int .u64 ((wh ((b.natAbs : Int)) : Nat) : Int), .int .u64 ((wl ((b.natAbs : Int)) : Nat) : Int)]) 1).run Try.prog w = .ok (.int .u64 ((wl ((b.natAbs : Int)) : Nat) : Int)) w := fun _ => by kernel_rfl
  obtain ⟨w1, hw1, pr_0, hb1, hs1⟩ := new_box w (w.heap.size) rfl [.int .u64 0, .int .u64 0] 99
  have hb1' : Below w.heap.size w w1 := hb1.mono (by omega)
  clear hb1
  have hB_1 := hB_0.trans (hb1'.mono hB_0.size)
  clear hb1' hB_0
  go_enter Try.func73, Try.ntmps73
  obtain ⟨pre0, pre1, pre2, pre3⟩ := pr_0.open2
  go_wp2_with fail
  refine (wOf_any a HA1.out HA2.out _).mono ?_
  rintro e w2 ⟨rfl, hb2⟩
  clear pre0 pre1 pre2 pre3
  have hB_2 := hB_1.trans (hb2.mono hB_1.size)
  have pr_1 := pr_0.below hb2
  clear hb2 hB_1 pr_0
  obtain ⟨pre0, pre1, pre2, pre3⟩ := pr_1.open2
  go_wp2_with fail
  refine (size_any a _ IA.out).mono ?_
  rintro e w3 ⟨rfl, hb3⟩
  clear pre0 pre1 pre2 pre3
  have hB_3 := hB_2.trans (hb3.mono hB_2.size)
  have pr_2 := pr_1.below hb3
  clear hb3 hB_2 pr_1
  obtain ⟨pre0, pre1, pre2, pre3⟩ := pr_2.open2
  go_wp2_with fail
  refine (wOf_any b HB1.out HB2.out _).mono ?_
  rintro e w4 ⟨rfl, hb4⟩
  clear pre0 pre1 pre2 pre3
  have hB_4 := hB_3.trans (hb4.mono hB_3.size)
  have pr_3 := pr_2.below hb4
  clear hb4 hB_3 pr_2
  obtain ⟨pre0, pre1, pre2, pre3⟩ := pr_3.open2
  go_wp2_with fail
  refine (size_any b _ IB.out).mono ?_
  rintro e w5 ⟨rfl, hb5⟩
  clear pre0 pre1 pre2 pre3
  have hB_5 := hB_4.trans (hb5.mono hB_4.size)
  have pr_4 := pr_3.below hb5
  clear hb5 hB_4 pr_3
  obtain ⟨pre0, pre1, pre2, pre3⟩ := pr_4.open2
  go_wp2_with fail
  refine (CM.out _).mono ?_
  rintro e w6 ⟨rfl, hb6⟩
  clear pre0 pre1 pre2 pre3
  have hB_6 := hB_5.trans (hb6.mono hB_5.size)
  have pr_5 := pr_4.below hb6
  clear hb6 hB_5 pr_4
  obtain ⟨pre0, pre1, pre2, pre3⟩ := pr_5.open2
  clear pre0 pre1 pre2 pre3
  have hl1pr := pr_5.lt
  have hl1B := hB_6.size
  obtain ⟨w7, hw7, pp_0, hb7, hs7⟩ := new_box w6 (w6.heap.size) rfl [.int .u64 ((H : Nat) : Int), .int .u64 ((L : Nat) : Int)] 99
  have hb7' : Below w6.heap.size w6 w7 := hb7.mono (by omega)
  clear hb7
  have hB_7 := hB_6.trans (hb7'.mono hB_6.size)
  have pr_6 := pr_5.below hb7'
  clear hb7' hB_6 pr_5
  obtain ⟨pre0, pre1, pre2, pre3⟩ := pr_6.open2
  obtain ⟨ppe0, ppe1, ppe2, ppe3⟩ := pp_0.open2
  obtain ⟨sf1a, sf1b, sf1c, sf1d⟩ := pr_6.open2
  obtain ⟨sg1a, sg1b⟩ := Box.put2 pr_6 (.int .u64 ((H : Nat) : Int))
  go_wp2
  clear pre0 pre1 pre2 pre3 ppe0 ppe1 ppe2 ppe3 sf1a sf1b sf1c sf1d sg1a sg1b
  have hB_8 := below_setAll hB_7 (g := w.heap.size) (by omega) [.int .u64 ((H : Nat) : Int), .int .u64 ((L : Nat) : Int)]
  have pp_1 := pp_0.farAll (g' := w.heap.size) (by omega) [.int .u64 ((H : Nat) : Int), .int .u64 ((L : Nat) : Int)]
  have pr_7 := pr_6.setAll [.int .u64 ((H : Nat) : Int), .int .u64 ((L : Nat) : Int)] rfl
  simp only [setAll, Nat.zero_add] at hB_8 pr_7 pp_1
  clear hB_7 pp_0 pr_6
  generalize (World.setCell (World.setCell w7 ⟨w.heap.size, 0, none⟩ (.int .u64 ((H : Nat) : Int))) ⟨w.heap.size, 1, none⟩ (.int .u64 ((L : Nat) : Int))) = w8 at *
  go_wp2
  obtain ⟨pre0, pre1, pre2, pre3⟩ := pr_7.open2
  exact bodyPost_ret (v := .agg #[.int .u64 ((H : Nat) : Int), .int .u64 ((L : Nat) : Int)]) (by simp [results, Try.results73, go_sem, pre0, pre1]) rfl ⟨rfl, hB_8⟩
theorem wMul_any (a b : Int) (ha1 : -9223372036854775808 ≤ a) (ha2 : a < 9223372036854775808) (hb1 : -9223372036854775808 ≤ b) (hb2 : b < 9223372036854775808) (w : World) :
    Calls Try.prog 73 #[.int .i64 a, .int .i64 b] w fun e w' => AnsW w w' e (a * b) := by
  obtain ⟨ea, la⟩ := w_abs_int ha1 ha2
  obtain ⟨eb, lb⟩ := w_abs_int hb1 hb2
  obtain ⟨x, hx⟩ : ∃ x : Int, x = ((a.natAbs * b.natAbs : Nat) : Int) := ⟨_, rfl⟩
  have hlt : a.natAbs * b.natAbs < B * B := Nat.mul_lt_mul'' la lb
  have hw := w_mod x
  have h1 := wh_lt x; have h2 := wl_lt x
  have q1 : a.natAbs * b.natAbs / B = wh x := by
    simp only [B_eq] at *; omega
  have q2 : a.natAbs * b.natAbs % B = wl x := by
    simp only [B_eq] at *; omega
  have cm := fun w => mul64_is a.natAbs b.natAbs (wh x) (wl x) w la lb q1 q2
  rw [← ea, ← eb] at cm
  have hac := fun w => across_any x w
  have hm : ((a.natAbs * b.natAbs : Nat) : Int) = (a.natAbs : Int) * (b.natAbs : Int) := Int.natCast_mul _ _
  by_cases sa : a < 0 <;> by_cases sb : b < 0
  · have e : a * b = x := by
      rw [hx, hm, show (a.natAbs : Int) = -a by omega, show (b.natAbs : Int) = -b by omega]; simp [Int.neg_mul, Int.mul_neg]
    rw [e]; exact wMul_w_tt a b ha1 ha2 hb1 hb2 _ _ _ _ sa sb cm hac w
  · have e : a * b = -x := by
      rw [hx, hm, show (a.natAbs : Int) = -a by omega, show (b.natAbs : Int) = b by omega]; simp [Int.neg_mul]
    rw [e]; exact wMul_w_tf a b ha1 ha2 hb1 hb2 _ _ _ _ sa sb cm hac w
  · have e : a * b = -x := by
      rw [hx, hm, show (a.natAbs : Int) = a by omega, show (b.natAbs : Int) = -b by omega]; simp [Int.mul_neg]
    rw [e]; exact wMul_w_ft a b ha1 ha2 hb1 hb2 _ _ _ _ sa sb cm hac w
  · have e : a * b = x := by
      rw [hx, hm, show (a.natAbs : Int) = a by omega, show (b.natAbs : Int) = b by omega]
    rw [e]; exact wMul_w_ff a b ha1 ha2 hb1 hb2 _ _ _ _ sa sb cm hac w
set_option maxHeartbeats 4000000 in
theorem wDet_w (a b c d x y : Int) (c1 : ∀ w, Calls Try.prog 73 #[.int .i64 a, .int .i64 d] w fun e w' => AnsW w w' e x) (c2 : ∀ w, Calls Try.prog 73 #[.int .i64 b, .int .i64 c] w fun e w' => AnsW w w' e y) (w : World) :
    Calls Try.prog 60 #[.int .i64 a, .int .i64 b, .int .i64 c, .int .i64 d] w fun e w' => AnsW w w' e (x - y) := by
  have hB_0 := Below.refl w.heap.size w
  have C1 := Lib.hid c1; have C2 := Lib.hid c2
  clear c1 c2
  obtain ⟨w1, hw1, pr_0, hb1, hs1⟩ := new_box w (w.heap.size) rfl [.int .u64 0, .int .u64 0] 99
  have hb1' : Below w.heap.size w w1 := hb1.mono (by omega)
  clear hb1
  have hB_1 := hB_0.trans (hb1'.mono hB_0.size)
  clear hb1' hB_0
  go_enter Try.func60, Try.ntmps60
  obtain ⟨pre0, pre1, pre2, pre3⟩ := pr_0.open2
  go_wp2_with fail
  refine (C1.out _).mono ?_
  rintro e w2 ⟨rfl, hb2⟩
  clear pre0 pre1 pre2 pre3
  have hB_2 := hB_1.trans (hb2.mono hB_1.size)
  have pr_1 := pr_0.below hb2
  clear hb2 hB_1 pr_0
  obtain ⟨pre0, pre1, pre2, pre3⟩ := pr_1.open2
  go_wp2_with fail
  refine (C2.out _).mono ?_
  rintro e w3 ⟨rfl, hb3⟩
  clear pre0 pre1 pre2 pre3
  have hB_3 := hB_2.trans (hb3.mono hB_2.size)
  have pr_2 := pr_1.below hb3
  clear hb3 hB_2 pr_1
  obtain ⟨pre0, pre1, pre2, pre3⟩ := pr_2.open2
  go_wp2_with fail
  refine (less_any x y _).mono ?_
  rintro e w4 ⟨rfl, hb4⟩
  clear pre0 pre1 pre2 pre3
  have hB_4 := hB_3.trans (hb4.mono hB_3.size)
  have pr_3 := pr_2.below hb4
  clear hb4 hB_3 pr_2
  obtain ⟨pre0, pre1, pre2, pre3⟩ := pr_3.open2
  obtain ⟨sf1a, sf1b, sf1c, sf1d⟩ := pr_3.open2
  obtain ⟨sg1a, sg1b⟩ := Box.put2 pr_3 (.int .u64 ((wh (x - y) : Nat) : Int))
  go_wp2
  clear pre0 pre1 pre2 pre3 sf1a sf1b sf1c sf1d sg1a sg1b
  have hB_5 := below_setAll hB_4 (g := w.heap.size) (by omega) [.int .u64 ((wh (x - y) : Nat) : Int), .int .u64 ((wl (x - y) : Nat) : Int)]
  have pr_4 := pr_3.setAll [.int .u64 ((wh (x - y) : Nat) : Int), .int .u64 ((wl (x - y) : Nat) : Int)] rfl
  simp only [setAll, Nat.zero_add] at hB_5 pr_4
  clear hB_4 pr_3
  generalize (World.setCell (World.setCell w4 ⟨w.heap.size, 0, none⟩ (.int .u64 ((wh (x - y) : Nat) : Int))) ⟨w.heap.size, 1, none⟩ (.int .u64 ((wl (x - y) : Nat) : Int))) = w5 at *
  go_wp2
  obtain ⟨pre0, pre1, pre2, pre3⟩ := pr_4.open2
  exact bodyPost_ret (v := .agg #[.int .u64 ((wh (x - y) : Nat) : Int), .int .u64 ((wl (x - y) : Nat) : Int)]) (by simp [results, Try.results60, go_sem, pre0, pre1]) rfl ⟨rfl, hB_5⟩
theorem wDet_any (a b c d : Int) (ha1 : -9223372036854775808 ≤ a) (ha2 : a < 9223372036854775808) (hb1 : -9223372036854775808 ≤ b) (hb2 : b < 9223372036854775808) (hc1 : -9223372036854775808 ≤ c) (hc2 : c < 9223372036854775808) (hd1 : -9223372036854775808 ≤ d) (hd2 : d < 9223372036854775808) (w : World) :
    Calls Try.prog 60 #[.int .i64 a, .int .i64 b, .int .i64 c, .int .i64 d] w fun e w' => AnsW w w' e (a * d - b * c) :=
  wDet_w a b c d _ _ (fun w => wMul_any a d ha1 ha2 hd1 hd2 w) (fun w => wMul_any b c hb1 hb2 hc1 hc2 w) w
end Go.Proofs.Ytecnnpkpgbbfkaa
/- The calls of pred: turn, Orient, Area2, Dist2. -/
namespace Go.Proofs.Ytecnnpkpgbbfkaa
open Go.RowKit Go.MagM
set_option maxHeartbeats 4000000 in
theorem turn_w (a0 a1 b0 b1 v0 v1 : Int) (p q r s z : Int) (e1 : IntKind.i64.wrap (b0 - a0) = p) (e2 : IntKind.i64.wrap (b1 - a1) = q) (e3 : IntKind.i64.wrap (v0 - a0) = r) (e4 : IntKind.i64.wrap (v1 - a1) = s) (cd : ∀ w, Calls Try.prog 60 #[.int .i64 p, .int .i64 q, .int .i64 r, .int .i64 s] w fun e w' => AnsW w w' e z) (w : World) :
    Calls Try.prog 54 #[.agg #[.int .i64 a0, .int .i64 a1], .agg #[.int .i64 b0, .int .i64 b1], .agg #[.int .i64 v0, .int .i64 v1]] w fun e w' => AnsW w w' e z := by
  have hB_0 := Below.refl w.heap.size w
  have CD := Lib.hid cd
  clear cd
  obtain ⟨w1, hw1, pa_0, hb1, hs1⟩ := new_box w (w.heap.size) rfl [.int .i64 a0, .int .i64 a1] 62
  have hb1' : Below w.heap.size w w1 := hb1.mono (by omega)
  clear hb1
  have hB_1 := hB_0.trans (hb1'.mono hB_0.size)
  clear hb1' hB_0
  obtain ⟨w2, hw2, pb_0, hb2, hs2⟩ := new_box w1 (w.heap.size + 1) hs1 [.int .i64 b0, .int .i64 b1] 62
  have hb2' : Below w1.heap.size w1 w2 := hb2.mono (by omega)
  clear hb2
  have hB_2 := hB_1.trans (hb2'.mono hB_1.size)
  have pa_1 := pa_0.below hb2'
  clear hb2' hB_1 pa_0
  obtain ⟨w3, hw3, pv_0, hb3, hs3⟩ := new_box w2 (w.heap.size + 1 + 1) hs2 [.int .i64 v0, .int .i64 v1] 62
  have hb3' : Below w2.heap.size w2 w3 := hb3.mono (by omega)
  clear hb3
  have hB_3 := hB_2.trans (hb3'.mono hB_2.size)
  have pa_2 := pa_1.below hb3'
  have pb_1 := pb_0.below hb3'
  clear hb3' hB_2 pa_1 pb_0
  obtain ⟨w4, hw4, pr_0, hb4, hs4⟩ := new_box w3 (w.heap.size + 1 + 1 + 1) hs3 [.int .u64 0, .int .u64 0] 99
  have hb4' : Below w3.heap.size w3 w4 := hb4.mono (by omega)
  clear hb4
  have hB_4 := hB_3.trans (hb4'.mono hB_3.size)
  have pa_3 := pa_2.below hb4'
  have pb_2 := pb_1.below hb4'
  have pv_1 := pv_0.below hb4'
  clear hb4' hB_3 pa_2 pb_1 pv_0
  go_enter Try.func54, Try.ntmps54
  obtain ⟨pae0, pae1, pae2, pae3⟩ := pa_3.open2
  obtain ⟨pbe0, pbe1, pbe2, pbe3⟩ := pb_2.open2
  obtain ⟨pve0, pve1, pve2, pve3⟩ := pv_1.open2
  obtain ⟨pre0, pre1, pre2, pre3⟩ := pr_0.open2
  go_wp2_with fail
  refine (CD.out _).mono ?_
  rintro e w5 ⟨rfl, hb5⟩
  clear pae0 pae1 pae2 pae3 pbe0 pbe1 pbe2 pbe3 pve0 pve1 pve2 pve3 pre0 pre1 pre2 pre3
  have hB_5 := hB_4.trans (hb5.mono hB_4.size)
  have pa_4 := pa_3.below hb5
  have pb_3 := pb_2.below hb5
  have pv_2 := pv_1.below hb5
  have pr_1 := pr_0.below hb5
  clear hb5 hB_4 pa_3 pb_2 pv_1 pr_0
  obtain ⟨pae0, pae1, pae2, pae3⟩ := pa_4.open2
  obtain ⟨pbe0, pbe1, pbe2, pbe3⟩ := pb_3.open2
  obtain ⟨pve0, pve1, pve2, pve3⟩ := pv_2.open2
  obtain ⟨pre0, pre1, pre2, pre3⟩ := pr_1.open2
  obtain ⟨sf1a, sf1b, sf1c, sf1d⟩ := pr_1.open2
  obtain ⟨sg1a, sg1b⟩ := Box.put2 pr_1 (.int .u64 ((wh (z) : Nat) : Int))
  go_wp2
  clear pae0 pae1 pae2 pae3 pbe0 pbe1 pbe2 pbe3 pve0 pve1 pve2 pve3 pre0 pre1 pre2 pre3 sf1a sf1b sf1c sf1d sg1a sg1b
  have hB_6 := below_setAll hB_5 (g := w.heap.size + 1 + 1 + 1) (by omega) [.int .u64 ((wh (z) : Nat) : Int), .int .u64 ((wl (z) : Nat) : Int)]
  have pa_5 := pa_4.farAll (g' := w.heap.size + 1 + 1 + 1) (by omega) [.int .u64 ((wh (z) : Nat) : Int), .int .u64 ((wl (z) : Nat) : Int)]
  have pb_4 := pb_3.farAll (g' := w.heap.size + 1 + 1 + 1) (by omega) [.int .u64 ((wh (z) : Nat) : Int), .int .u64 ((wl (z) : Nat) : Int)]
  have pv_3 := pv_2.farAll (g' := w.heap.size + 1 + 1 + 1) (by omega) [.int .u64 ((wh (z) : Nat) : Int), .int .u64 ((wl (z) : Nat) : Int)]
  have pr_2 := pr_1.setAll [.int .u64 ((wh (z) : Nat) : Int), .int .u64 ((wl (z) : Nat) : Int)] rfl
  simp only [setAll, Nat.zero_add] at hB_6 pa_5 pb_4 pv_3 pr_2
  clear hB_5 pa_4 pb_3 pv_2 pr_1
  generalize (World.setCell (World.setCell w5 ⟨w.heap.size + 1 + 1 + 1, 0, none⟩ (.int .u64 ((wh (z) : Nat) : Int))) ⟨w.heap.size + 1 + 1 + 1, 1, none⟩ (.int .u64 ((wl (z) : Nat) : Int))) = w6 at *
  go_wp2
  obtain ⟨pre0, pre1, pre2, pre3⟩ := pr_2.open2
  exact bodyPost_ret (v := .agg #[.int .u64 ((wh (z) : Nat) : Int), .int .u64 ((wl (z) : Nat) : Int)]) (by simp [results, Try.results54, go_sem, pre0, pre1]) rfl ⟨rfl, hB_6⟩
theorem turn_any (a0 a1 b0 b1 v0 v1 : Int) (ha0 : InP a0) (ha1 : InP a1) (hb0 : InP b0) (hb1 : InP b1) (hv0 : InP v0) (hv1 : InP v1) (w : World) :
    Calls Try.prog 54 #[.agg #[.int .i64 a0, .int .i64 a1], .agg #[.int .i64 b0, .int .i64 b1], .agg #[.int .i64 v0, .int .i64 v1]] w fun e w' => AnsW w w' e (crs a0 a1 b0 b1 v0 v1) :=
  turn_w a0 a1 b0 b1 v0 v1 _ _ _ _ _ (hb0.wrap ha0) (hb1.wrap ha1) (hv0.wrap ha0) (hv1.wrap ha1) (fun w => wDet_any _ _ _ _ (hb0.lo ha0) (hb0.hi ha0) (hb1.lo ha1) (hb1.hi ha1) (hv0.lo ha0) (hv0.hi ha0) (hv1.lo ha1) (hv1.hi ha1) w) w
theorem wsgn_is (z : Int) (hz : InW z) (w : World) : Calls Try.prog 53 #[.agg #[.int .u64 ((wh (z) : Nat) : Int), .int .u64 ((wl (z) : Nat) : Int)]] w fun e w' => e = .returned (.int .i64 z.sign) ∧ Below w.heap.size w w' := by
  have := wSign_all z w; rwa [wrapW_self hz] at this
set_option maxHeartbeats 4000000 in
theorem Orient_w (a0 a1 b0 b1 v0 v1 : Int) (z t : Int) (ct : ∀ w, Calls Try.prog 54 #[.agg #[.int .i64 a0, .int .i64 a1], .agg #[.int .i64 b0, .int .i64 b1], .agg #[.int .i64 v0, .int .i64 v1]] w fun e w' => AnsW w w' e z) (cs : ∀ w, Calls Try.prog 53 #[.agg #[.int .u64 ((wh (z) : Nat) : Int), .int .u64 ((wl (z) : Nat) : Int)]] w fun e w' => e = .returned (.int .i64 t) ∧ Below w.heap.size w w') (w : World) :
    Calls Try.prog 43 #[.agg #[.int .i64 a0, .int .i64 a1], .agg #[.int .i64 b0, .int .i64 b1], .agg #[.int .i64 v0, .int .i64 v1]] w fun e w' => e = .returned (.int .i64 t) ∧ Below w.heap.size w w' := by
  have hB_0 := Below.refl w.heap.size w
  have CT := Lib.hid ct; have CS := Lib.hid cs
  clear ct cs
  obtain ⟨w1, hw1, pa_0, hb1, hs1⟩ := new_box w (w.heap.size) rfl [.int .i64 a0, .int .i64 a1] 62
  have hb1' : Below w.heap.size w w1 := hb1.mono (by omega)
  clear hb1
  have hB_1 := hB_0.trans (hb1'.mono hB_0.size)
  clear hb1' hB_0
  obtain ⟨w2, hw2, pb_0, hb2, hs2⟩ := new_box w1 (w.heap.size + 1) hs1 [.int .i64 b0, .int .i64 b1] 62
  have hb2' : Below w1.heap.size w1 w2 := hb2.mono (by omega)
  clear hb2
  have hB_2 := hB_1.trans (hb2'.mono hB_1.size)
  have pa_1 := pa_0.below hb2'
  clear hb2' hB_1 pa_0
  obtain ⟨w3, hw3, pv_0, hb3, hs3⟩ := new_box w2 (w.heap.size + 1 + 1) hs2 [.int .i64 v0, .int .i64 v1] 62
  have hb3' : Below w2.heap.size w2 w3 := hb3.mono (by omega)
  clear hb3
  have hB_3 := hB_2.trans (hb3'.mono hB_2.size)
  have pa_2 := pa_1.below hb3'
  have pb_1 := pb_0.below hb3'
  clear hb3' hB_2 pa_1 pb_0
  go_enter Try.func43, Try.ntmps43
  obtain ⟨pae0, pae1, pae2, pae3⟩ := pa_2.open2
  obtain ⟨pbe0, pbe1, pbe2, pbe3⟩ := pb_1.open2
  obtain ⟨pve0, pve1, pve2, pve3⟩ := pv_0.open2
  go_wp2_with fail
  refine (CT.out _).mono ?_
  rintro e w4 ⟨rfl, hb4⟩
  clear pae0 pae1 pae2 pae3 pbe0 pbe1 pbe2 pbe3 pve0 pve1 pve2 pve3
  have hB_4 := hB_3.trans (hb4.mono hB_3.size)
  have pa_3 := pa_2.below hb4
  have pb_2 := pb_1.below hb4
  have pv_1 := pv_0.below hb4
  clear hb4 hB_3 pa_2 pb_1 pv_0
  obtain ⟨pae0, pae1, pae2, pae3⟩ := pa_3.open2
  obtain ⟨pbe0, pbe1, pbe2, pbe3⟩ := pb_2.open2
  obtain ⟨pve0, pve1, pve2, pve3⟩ := pv_1.open2
  go_wp2_with fail
  refine (CS.out _).mono ?_
  rintro e w5 ⟨rfl, hb5⟩
  clear pae0 pae1 pae2 pae3 pbe0 pbe1 pbe2 pbe3 pve0 pve1 pve2 pve3
  have hB_5 := hB_4.trans (hb5.mono hB_4.size)
  have pa_4 := pa_3.below hb5
  have pb_3 := pb_2.below hb5
  have pv_2 := pv_1.below hb5
  clear hb5 hB_4 pa_3 pb_2 pv_1
  obtain ⟨pae0, pae1, pae2, pae3⟩ := pa_4.open2
  obtain ⟨pbe0, pbe1, pbe2, pbe3⟩ := pb_3.open2
  obtain ⟨pve0, pve1, pve2, pve3⟩ := pv_2.open2
  go_wp2
  go_ret
  exact ⟨rfl, hB_5⟩
theorem Orient_any (a0 a1 b0 b1 v0 v1 : Int) (ha0 : InP a0) (ha1 : InP a1) (hb0 : InP b0) (hb1 : InP b1) (hv0 : InP v0) (hv1 : InP v1) (w : World) :
    Calls Try.prog 43 #[.agg #[.int .i64 a0, .int .i64 a1], .agg #[.int .i64 b0, .int .i64 b1], .agg #[.int .i64 v0, .int .i64 v1]] w fun e w' => e = .returned (.int .i64 (crs a0 a1 b0 b1 v0 v1).sign) ∧ Below w.heap.size w w' :=
  Orient_w a0 a1 b0 b1 v0 v1 _ _ (fun w => turn_any a0 a1 b0 b1 v0 v1 ha0 ha1 hb0 hb1 hv0 hv1 w) (fun w => wsgn_is _ (inW_crs ha0 ha1 hb0 hb1 hv0 hv1) w) w
theorem Orient_is (a0 a1 b0 b1 v0 v1 : Int) {s : Int} (ha0 : InP a0) (ha1 : InP a1) (hb0 : InP b0) (hb1 : InP b1) (hv0 : InP v0) (hv1 : InP v1) (h : (crs a0 a1 b0 b1 v0 v1).sign = s) (w : World) :
    Calls Try.prog 43 #[.agg #[.int .i64 a0, .int .i64 a1], .agg #[.int .i64 b0, .int .i64 b1], .agg #[.int .i64 v0, .int .i64 v1]] w fun e w' => e = .returned (.int .i64 s) ∧ Below w.heap.size w w' := by subst h; exact Orient_any a0 a1 b0 b1 v0 v1 ha0 ha1 hb0 hb1 hv0 hv1 w
end Go.Proofs.Ytecnnpkpgbbfkaa
/- The calls of pred: within, On, Between, parts, Crosses, Meets. -/
namespace Go.Proofs.Ytecnnpkpgbbfkaa
open Go.RowKit Go.MagM
set_option maxHeartbeats 4000000 in
theorem within_any (n a b : Int) (w : World) :
    Calls Try.prog 61 #[.int .i64 n, .int .i64 a, .int .i64 b] w fun e w' => e = .returned (.bool (decide (min a b ≤ n ∧ n ≤ max a b))) ∧ Below w.heap.size w w' := by
  have hB_0 := Below.refl w.heap.size w
  go_enter Try.func61, Try.ntmps61
  go_wp2
  all_goals go_ret
  all_goals refine ⟨?_, hB_0⟩
  all_goals refine congrArg (fun b => Ending.returned (Value.bool b)) (?_ : _ = _)
  all_goals rw [Bool.eq_iff_iff]
  all_goals simp only [decide_eq_true_eq, Bool.and_eq_true, Bool.false_eq_true, false_iff]
  all_goals omega
set_option maxHeartbeats 4000000 in
theorem On_w_n (a0 a1 b0 b1 v0 v1 : Int) (t : Int) (_q : Bool) (k1 : ∀ w, Calls Try.prog 43 #[.agg #[.int .i64 b0, .int .i64 b1], .agg #[.int .i64 v0, .int .i64 v1], .agg #[.int .i64 a0, .int .i64 a1]] w fun e w' => e = .returned (.int .i64 t) ∧ Below w.heap.size w w') (e1 : (t == 0) = false) (w : World) :
    Calls Try.prog 55 #[.agg #[.int .i64 a0, .int .i64 a1], .agg #[.int .i64 b0, .int .i64 b1], .agg #[.int .i64 v0, .int .i64 v1]] w fun e w' => e = .returned (.bool false) ∧ Below w.heap.size w w' := by
  have hB_0 := Below.refl w.heap.size w
  have K1 := Lib.hid k1; have E1 := Lib.hid e1
  clear k1 e1
  have e2 := E1.out
  obtain ⟨w1, hw1, pa_0, hb1, hs1⟩ := new_box w (w.heap.size) rfl [.int .i64 a0, .int .i64 a1] 62
  have hb1' : Below w.heap.size w w1 := hb1.mono (by omega)
  clear hb1
  have hB_1 := hB_0.trans (hb1'.mono hB_0.size)
  clear hb1' hB_0
  obtain ⟨w2, hw2, pb_0, hb2, hs2⟩ := new_box w1 (w.heap.size + 1) hs1 [.int .i64 b0, .int .i64 b1] 62
  have hb2' : Below w1.heap.size w1 w2 := hb2.mono (by omega)
  clear hb2
  have hB_2 := hB_1.trans (hb2'.mono hB_1.size)
  have pa_1 := pa_0.below hb2'
  clear hb2' hB_1 pa_0
  obtain ⟨w3, hw3, pv_0, hb3, hs3⟩ := new_box w2 (w.heap.size + 1 + 1) hs2 [.int .i64 v0, .int .i64 v1] 62
  have hb3' : Below w2.heap.size w2 w3 := hb3.mono (by omega)
  clear hb3
  have hB_3 := hB_2.trans (hb3'.mono hB_2.size)
  have pa_2 := pa_1.below hb3'
  have pb_1 := pb_0.below hb3'
  clear hb3' hB_2 pa_1 pb_0
  go_enter Try.func55, Try.ntmps55
  obtain ⟨pae0, pae1, pae2, pae3⟩ := pa_2.open2
  obtain ⟨pbe0, pbe1, pbe2, pbe3⟩ := pb_1.open2
  obtain ⟨pve0, pve1, pve2, pve3⟩ := pv_0.open2
  go_wp2_with fail
  refine (K1.out _).mono ?_
  rintro e w4 ⟨rfl, hb4⟩
  clear pae0 pae1 pae2 pae3 pbe0 pbe1 pbe2 pbe3 pve0 pve1 pve2 pve3
  have hB_4 := hB_3.trans (hb4.mono hB_3.size)
  have pa_3 := pa_2.below hb4
  have pb_2 := pb_1.below hb4
  have pv_1 := pv_0.below hb4
  clear hb4 hB_3 pa_2 pb_1 pv_0
  obtain ⟨pae0, pae1, pae2, pae3⟩ := pa_3.open2
  obtain ⟨pbe0, pbe1, pbe2, pbe3⟩ := pb_2.open2
  obtain ⟨pve0, pve1, pve2, pve3⟩ := pv_1.open2
  go_wp2
  go_ret
  exact ⟨rfl, hB_4⟩
set_option maxHeartbeats 4000000 in
theorem On_w_tf (a0 a1 b0 b1 v0 v1 : Int) (_t : Int) (_q : Bool) (k1 : ∀ w, Calls Try.prog 43 #[.agg #[.int .i64 b0, .int .i64 b1], .agg #[.int .i64 v0, .int .i64 v1], .agg #[.int .i64 a0, .int .i64 a1]] w fun e w' => e = .returned (.int .i64 0) ∧ Below w.heap.size w w') (k2 : ∀ w, Calls Try.prog 61 #[.int .i64 a0, .int .i64 b0, .int .i64 v0] w fun e w' => e = .returned (.bool false) ∧ Below w.heap.size w w') (w : World) :
    Calls Try.prog 55 #[.agg #[.int .i64 a0, .int .i64 a1], .agg #[.int .i64 b0, .int .i64 b1], .agg #[.int .i64 v0, .int .i64 v1]] w fun e w' => e = .returned (.bool false) ∧ Below w.heap.size w w' := by
  have hB_0 := Below.refl w.heap.size w
  have K1 := Lib.hid k1; have K2 := Lib.hid k2
  clear k1 k2
  obtain ⟨w1, hw1, pa_0, hb1, hs1⟩ := new_box w (w.heap.size) rfl [.int .i64 a0, .int .i64 a1] 62
  have hb1' : Below w.heap.size w w1 := hb1.mono (by omega)
  clear hb1
  have hB_1 := hB_0.trans (hb1'.mono hB_0.size)
  clear hb1' hB_0
  obtain ⟨w2, hw2, pb_0, hb2, hs2⟩ := new_box w1 (w.heap.size + 1) hs1 [.int .i64 b0, .int .i64 b1] 62
  have hb2' : Below w1.heap.size w1 w2 := hb2.mono (by omega)
  clear hb2
  have hB_2 := hB_1.trans (hb2'.mono hB_1.size)
  have pa_1 := pa_0.below hb2'
  clear hb2' hB_1 pa_0
  obtain ⟨w3, hw3, pv_0, hb3, hs3⟩ := new_box w2 (w.heap.size + 1 + 1) hs2 [.int .i64 v0, .int .i64 v1] 62
  have hb3' : Below w2.heap.size w2 w3 := hb3.mono (by omega)
  clear hb3
  have hB_3 := hB_2.trans (hb3'.mono hB_2.size)
  have pa_2 := pa_1.below hb3'
  have pb_1 := pb_0.below hb3'
  clear hb3' hB_2 pa_1 pb_0
  go_enter Try.func55, Try.ntmps55
  obtain ⟨pae0, pae1, pae2, pae3⟩ := pa_2.open2
  obtain ⟨pbe0, pbe1, pbe2, pbe3⟩ := pb_1.open2
  obtain ⟨pve0, pve1, pve2, pve3⟩ := pv_0.open2
  go_wp2_with fail
  refine (K1.out _).mono ?_
  rintro e w4 ⟨rfl, hb4⟩
  clear pae0 pae1 pae2 pae3 pbe0 pbe1 pbe2 pbe3 pve0 pve1 pve2 pve3
  have hB_4 := hB_3.trans (hb4.mono hB_3.size)
  have pa_3 := pa_2.below hb4
  have pb_2 := pb_1.below hb4
  have pv_1 := pv_0.below hb4
  clear hb4 hB_3 pa_2 pb_1 pv_0
  obtain ⟨pae0, pae1, pae2, pae3⟩ := pa_3.open2
  obtain ⟨pbe0, pbe1, pbe2, pbe3⟩ := pb_2.open2
  obtain ⟨pve0, pve1, pve2, pve3⟩ := pv_1.open2
  go_wp2_with fail
  refine (K2.out _).mono ?_
  rintro e w5 ⟨rfl, hb5⟩
  clear pae0 pae1 pae2 pae3 pbe0 pbe1 pbe2 pbe3 pve0 pve1 pve2 pve3
  have hB_5 := hB_4.trans (hb5.mono hB_4.size)
  have pa_4 := pa_3.below hb5
  have pb_3 := pb_2.below hb5
  have pv_2 := pv_1.below hb5
  clear hb5 hB_4 pa_3 pb_2 pv_1
  obtain ⟨pae0, pae1, pae2, pae3⟩ := pa_4.open2
  obtain ⟨pbe0, pbe1, pbe2, pbe3⟩ := pb_3.open2
  obtain ⟨pve0, pve1, pve2, pve3⟩ := pv_2.open2
  go_wp2
  go_ret
  exact ⟨rfl, hB_5⟩
set_option maxHeartbeats 4000000 in
theorem On_w_tt (a0 a1 b0 b1 v0 v1 : Int) (_t : Int) (q : Bool) (k1 : ∀ w, Calls Try.prog 43 #[.agg #[.int .i64 b0, .int .i64 b1], .agg #[.int .i64 v0, .int .i64 v1], .agg #[.int .i64 a0, .int .i64 a1]] w fun e w' => e = .returned (.int .i64 0) ∧ Below w.heap.size w w') (k2 : ∀ w, Calls Try.prog 61 #[.int .i64 a0, .int .i64 b0, .int .i64 v0] w fun e w' => e = .returned (.bool true) ∧ Below w.heap.size w w') (k3 : ∀ w, Calls Try.prog 61 #[.int .i64 a1, .int .i64 b1, .int .i64 v1] w fun e w' => e = .returned (.bool q) ∧ Below w.heap.size w w') (w : World) :
    Calls Try.prog 55 #[.agg #[.int .i64 a0, .int .i64 a1], .agg #[.int .i64 b0, .int .i64 b1], .agg #[.int .i64 v0, .int .i64 v1]] w fun e w' => e = .returned (.bool q) ∧ Below w.heap.size w w' := by
  have hB_0 := Below.refl w.heap.size w
  have K1 := Lib.hid k1; have K2 := Lib.hid k2; have K3 := Lib.hid k3
  clear k1 k2 k3
  obtain ⟨w1, hw1, pa_0, hb1, hs1⟩ := new_box w (w.heap.size) rfl [.int .i64 a0, .int .i64 a1] 62
  have hb1' : Below w.heap.size w w1 := hb1.mono (by omega)
  clear hb1
  have hB_1 := hB_0.trans (hb1'.mono hB_0.size)
  clear hb1' hB_0
  obtain ⟨w2, hw2, pb_0, hb2, hs2⟩ := new_box w1 (w.heap.size + 1) hs1 [.int .i64 b0, .int .i64 b1] 62
  have hb2' : Below w1.heap.size w1 w2 := hb2.mono (by omega)
  clear hb2
  have hB_2 := hB_1.trans (hb2'.mono hB_1.size)
  have pa_1 := pa_0.below hb2'
  clear hb2' hB_1 pa_0
  obtain ⟨w3, hw3, pv_0, hb3, hs3⟩ := new_box w2 (w.heap.size + 1 + 1) hs2 [.int .i64 v0, .int .i64 v1] 62
  have hb3' : Below w2.heap.size w2 w3 := hb3.mono (by omega)
  clear hb3
  have hB_3 := hB_2.trans (hb3'.mono hB_2.size)
  have pa_2 := pa_1.below hb3'
  have pb_1 := pb_0.below hb3'
  clear hb3' hB_2 pa_1 pb_0
  go_enter Try.func55, Try.ntmps55
  obtain ⟨pae0, pae1, pae2, pae3⟩ := pa_2.open2
  obtain ⟨pbe0, pbe1, pbe2, pbe3⟩ := pb_1.open2
  obtain ⟨pve0, pve1, pve2, pve3⟩ := pv_0.open2
  go_wp2_with fail
  refine (K1.out _).mono ?_
  rintro e w4 ⟨rfl, hb4⟩
  clear pae0 pae1 pae2 pae3 pbe0 pbe1 pbe2 pbe3 pve0 pve1 pve2 pve3
  have hB_4 := hB_3.trans (hb4.mono hB_3.size)
  have pa_3 := pa_2.below hb4
  have pb_2 := pb_1.below hb4
  have pv_1 := pv_0.below hb4
  clear hb4 hB_3 pa_2 pb_1 pv_0
  obtain ⟨pae0, pae1, pae2, pae3⟩ := pa_3.open2
  obtain ⟨pbe0, pbe1, pbe2, pbe3⟩ := pb_2.open2
  obtain ⟨pve0, pve1, pve2, pve3⟩ := pv_1.open2
  go_wp2_with fail
  refine (K2.out _).mono ?_
  rintro e w5 ⟨rfl, hb5⟩
  clear pae0 pae1 pae2 pae3 pbe0 pbe1 pbe2 pbe3 pve0 pve1 pve2 pve3
  have hB_5 := hB_4.trans (hb5.mono hB_4.size)
  have pa_4 := pa_3.below hb5
  have pb_3 := pb_2.below hb5
  have pv_2 := pv_1.below hb5
  clear hb5 hB_4 pa_3 pb_2 pv_1
  obtain ⟨pae0, pae1, pae2, pae3⟩ := pa_4.open2
  obtain ⟨pbe0, pbe1, pbe2, pbe3⟩ := pb_3.open2
  obtain ⟨pve0, pve1, pve2, pve3⟩ := pv_2.open2
  go_wp2_with fail
  refine (K3.out _).mono ?_
  rintro e w6 ⟨rfl, hb6⟩
  clear pae0 pae1 pae2 pae3 pbe0 pbe1 pbe2 pbe3 pve0 pve1 pve2 pve3
  have hB_6 := hB_5.trans (hb6.mono hB_5.size)
  have pa_5 := pa_4.below hb6
  have pb_4 := pb_3.below hb6
  have pv_3 := pv_2.below hb6
  clear hb6 hB_5 pa_4 pb_3 pv_2
  obtain ⟨pae0, pae1, pae2, pae3⟩ := pa_5.open2
  obtain ⟨pbe0, pbe1, pbe2, pbe3⟩ := pb_4.open2
  obtain ⟨pve0, pve1, pve2, pve3⟩ := pv_3.open2
  go_wp2
  go_ret
  exact ⟨rfl, hB_6⟩
end Go.Proofs.Ytecnnpkpgbbfkaa
/- The calls of pred: Between. -/
namespace Go.Proofs.Ytecnnpkpgbbfkaa
open Go.RowKit Go.MagM
set_option maxHeartbeats 4000000 in
theorem Between_w_sx (a0 a1 v0 v1 : Int) (_q : Bool) (w : World) :
    Calls Try.prog 44 #[.agg #[.int .i64 a0, .int .i64 a1], .agg #[.int .i64 a0, .int .i64 a1], .agg #[.int .i64 v0, .int .i64 v1]] w fun e w' => e = .returned (.bool false) ∧ Below w.heap.size w w' := by
  have hB_0 := Below.refl w.heap.size w
  obtain ⟨w1, hw1, pa_0, hb1, hs1⟩ := new_box w (w.heap.size) rfl [.int .i64 a0, .int .i64 a1] 62
  have hb1' : Below w.heap.size w w1 := hb1.mono (by omega)
  clear hb1
  have hB_1 := hB_0.trans (hb1'.mono hB_0.size)
  clear hb1' hB_0
  obtain ⟨w2, hw2, pb_0, hb2, hs2⟩ := new_box w1 (w.heap.size + 1) hs1 [.int .i64 a0, .int .i64 a1] 62
  have hb2' : Below w1.heap.size w1 w2 := hb2.mono (by omega)
  clear hb2
  have hB_2 := hB_1.trans (hb2'.mono hB_1.size)
  have pa_1 := pa_0.below hb2'
  clear hb2' hB_1 pa_0
  obtain ⟨w3, hw3, pv_0, hb3, hs3⟩ := new_box w2 (w.heap.size + 1 + 1) hs2 [.int .i64 v0, .int .i64 v1] 62
  have hb3' : Below w2.heap.size w2 w3 := hb3.mono (by omega)
  clear hb3
  have hB_3 := hB_2.trans (hb3'.mono hB_2.size)
  have pa_2 := pa_1.below hb3'
  have pb_1 := pb_0.below hb3'
  clear hb3' hB_2 pa_1 pb_0
  go_enter Try.func44, Try.ntmps44
  obtain ⟨pae0, pae1, pae2, pae3⟩ := pa_2.open2
  obtain ⟨pbe0, pbe1, pbe2, pbe3⟩ := pb_1.open2
  obtain ⟨pve0, pve1, pve2, pve3⟩ := pv_0.open2
  go_wp2
  go_ret
  exact ⟨rfl, hB_3⟩
set_option maxHeartbeats 4000000 in
theorem Between_w_xs (a0 a1 b0 b1 : Int) (_q : Bool) (nb : ¬ a0 = b0) (w : World) :
    Calls Try.prog 44 #[.agg #[.int .i64 a0, .int .i64 a1], .agg #[.int .i64 b0, .int .i64 b1], .agg #[.int .i64 a0, .int .i64 a1]] w fun e w' => e = .returned (.bool false) ∧ Below w.heap.size w w' := by
  have hB_0 := Below.refl w.heap.size w
  have gb1 : decide (a0 = b0) = false := by simp [nb]
  have gb2 : (a0 == b0) = false := by simp [nb]
  obtain ⟨w1, hw1, pa_0, hb1, hs1⟩ := new_box w (w.heap.size) rfl [.int .i64 a0, .int .i64 a1] 62
  have hb1' : Below w.heap.size w w1 := hb1.mono (by omega)
  clear hb1
  have hB_1 := hB_0.trans (hb1'.mono hB_0.size)
  clear hb1' hB_0
  obtain ⟨w2, hw2, pb_0, hb2, hs2⟩ := new_box w1 (w.heap.size + 1) hs1 [.int .i64 b0, .int .i64 b1] 62
  have hb2' : Below w1.heap.size w1 w2 := hb2.mono (by omega)
  clear hb2
  have hB_2 := hB_1.trans (hb2'.mono hB_1.size)
  have pa_1 := pa_0.below hb2'
  clear hb2' hB_1 pa_0
  obtain ⟨w3, hw3, pv_0, hb3, hs3⟩ := new_box w2 (w.heap.size + 1 + 1) hs2 [.int .i64 a0, .int .i64 a1] 62
  have hb3' : Below w2.heap.size w2 w3 := hb3.mono (by omega)
  clear hb3
  have hB_3 := hB_2.trans (hb3'.mono hB_2.size)
  have pa_2 := pa_1.below hb3'
  have pb_1 := pb_0.below hb3'
  clear hb3' hB_2 pa_1 pb_0
  go_enter Try.func44, Try.ntmps44
  obtain ⟨pae0, pae1, pae2, pae3⟩ := pa_2.open2
  obtain ⟨pbe0, pbe1, pbe2, pbe3⟩ := pb_1.open2
  obtain ⟨pve0, pve1, pve2, pve3⟩ := pv_0.open2
  go_wp2
  go_ret
  exact ⟨rfl, hB_3⟩
set_option maxHeartbeats 4000000 in
theorem Between_w_xx (a0 a1 b0 b1 v0 v1 : Int) (q : Bool) (nb : ¬ a0 = b0) (nv : ¬ a0 = v0) (k1 : ∀ w, Calls Try.prog 55 #[.agg #[.int .i64 a0, .int .i64 a1], .agg #[.int .i64 b0, .int .i64 b1], .agg #[.int .i64 v0, .int .i64 v1]] w fun e w' => e = .returned (.bool q) ∧ Below w.heap.size w w') (w : World) :
    Calls Try.prog 44 #[.agg #[.int .i64 a0, .int .i64 a1], .agg #[.int .i64 b0, .int .i64 b1], .agg #[.int .i64 v0, .int .i64 v1]] w fun e w' => e = .returned (.bool q) ∧ Below w.heap.size w w' := by
  have hB_0 := Below.refl w.heap.size w
  have gb1 : decide (a0 = b0) = false := by simp [nb]
  have gb2 : (a0 == b0) = false := by simp [nb]
  have gv1 : decide (a0 = v0) = false := by simp [nv]
  have gv2 : (a0 == v0) = false := by simp [nv]
  have K1 := Lib.hid k1
  clear k1
  obtain ⟨w1, hw1, pa_0, hb1, hs1⟩ := new_box w (w.heap.size) rfl [.int .i64 a0, .int .i64 a1] 62
  have hb1' : Below w.heap.size w w1 := hb1.mono (by omega)
  clear hb1
  have hB_1 := hB_0.trans (hb1'.mono hB_0.size)
  clear hb1' hB_0
  obtain ⟨w2, hw2, pb_0, hb2, hs2⟩ := new_box w1 (w.heap.size + 1) hs1 [.int .i64 b0, .int .i64 b1] 62
  have hb2' : Below w1.heap.size w1 w2 := hb2.mono (by omega)
  clear hb2
  have hB_2 := hB_1.trans (hb2'.mono hB_1.size)
  have pa_1 := pa_0.below hb2'
  clear hb2' hB_1 pa_0
  obtain ⟨w3, hw3, pv_0, hb3, hs3⟩ := new_box w2 (w.heap.size + 1 + 1) hs2 [.int .i64 v0, .int .i64 v1] 62
  have hb3' : Below w2.heap.size w2 w3 := hb3.mono (by omega)
  clear hb3
  have hB_3 := hB_2.trans (hb3'.mono hB_2.size)
  have pa_2 := pa_1.below hb3'
  have pb_1 := pb_0.below hb3'
  clear hb3' hB_2 pa_1 pb_0
  go_enter Try.func44, Try.ntmps44
  obtain ⟨pae0, pae1, pae2, pae3⟩ := pa_2.open2
  obtain ⟨pbe0, pbe1, pbe2, pbe3⟩ := pb_1.open2
  obtain ⟨pve0, pve1, pve2, pve3⟩ := pv_0.open2
  go_wp2_with fail
  refine (K1.out _).mono ?_
  rintro e w4 ⟨rfl, hb4⟩
  clear pae0 pae1 pae2 pae3 pbe0 pbe1 pbe2 pbe3 pve0 pve1 pve2 pve3
  have hB_4 := hB_3.trans (hb4.mono hB_3.size)
  have pa_3 := pa_2.below hb4
  have pb_2 := pb_1.below hb4
  have pv_1 := pv_0.below hb4
  clear hb4 hB_3 pa_2 pb_1 pv_0
  obtain ⟨pae0, pae1, pae2, pae3⟩ := pa_3.open2
  obtain ⟨pbe0, pbe1, pbe2, pbe3⟩ := pb_2.open2
  obtain ⟨pve0, pve1, pve2, pve3⟩ := pv_1.open2
  go_wp2
  go_ret
  exact ⟨rfl, hB_4⟩
set_option maxHeartbeats 4000000 in
theorem Between_w_xy (a0 a1 b0 b1 v1 : Int) (q : Bool) (nb : ¬ a0 = b0) (nv : ¬ a1 = v1) (k1 : ∀ w, Calls Try.prog 55 #[.agg #[.int .i64 a0, .int .i64 a1], .agg #[.int .i64 b0, .int .i64 b1], .agg #[.int .i64 a0, .int .i64 v1]] w fun e w' => e = .returned (.bool q) ∧ Below w.heap.size w w') (w : World) :
    Calls Try.prog 44 #[.agg #[.int .i64 a0, .int .i64 a1], .agg #[.int .i64 b0, .int .i64 b1], .agg #[.int .i64 a0, .int .i64 v1]] w fun e w' => e = .returned (.bool q) ∧ Below w.heap.size w w' := by
  have hB_0 := Below.refl w.heap.size w
  have gb1 : decide (a0 = b0) = false := by simp [nb]
  have gb2 : (a0 == b0) = false := by simp [nb]
  have gv1 : decide (a1 = v1) = false := by simp [nv]
  have gv2 : (a1 == v1) = false := by simp [nv]
  have K1 := Lib.hid k1
  clear k1
  obtain ⟨w1, hw1, pa_0, hb1, hs1⟩ := new_box w (w.heap.size) rfl [.int .i64 a0, .int .i64 a1] 62
  have hb1' : Below w.heap.size w w1 := hb1.mono (by omega)
  clear hb1
  have hB_1 := hB_0.trans (hb1'.mono hB_0.size)
  clear hb1' hB_0
  obtain ⟨w2, hw2, pb_0, hb2, hs2⟩ := new_box w1 (w.heap.size + 1) hs1 [.int .i64 b0, .int .i64 b1] 62
  have hb2' : Below w1.heap.size w1 w2 := hb2.mono (by omega)
  clear hb2
  have hB_2 := hB_1.trans (hb2'.mono hB_1.size)
  have pa_1 := pa_0.below hb2'
  clear hb2' hB_1 pa_0
  obtain ⟨w3, hw3, pv_0, hb3, hs3⟩ := new_box w2 (w.heap.size + 1 + 1) hs2 [.int .i64 a0, .int .i64 v1] 62
  have hb3' : Below w2.heap.size w2 w3 := hb3.mono (by omega)
  clear hb3
  have hB_3 := hB_2.trans (hb3'.mono hB_2.size)
  have pa_2 := pa_1.below hb3'
  have pb_1 := pb_0.below hb3'
  clear hb3' hB_2 pa_1 pb_0
  go_enter Try.func44, Try.ntmps44
  obtain ⟨pae0, pae1, pae2, pae3⟩ := pa_2.open2
  obtain ⟨pbe0, pbe1, pbe2, pbe3⟩ := pb_1.open2
  obtain ⟨pve0, pve1, pve2, pve3⟩ := pv_0.open2
  go_wp2_with fail
  refine (K1.out _).mono ?_
  rintro e w4 ⟨rfl, hb4⟩
  clear pae0 pae1 pae2 pae3 pbe0 pbe1 pbe2 pbe3 pve0 pve1 pve2 pve3
  have hB_4 := hB_3.trans (hb4.mono hB_3.size)
  have pa_3 := pa_2.below hb4
  have pb_2 := pb_1.below hb4
  have pv_1 := pv_0.below hb4
  clear hb4 hB_3 pa_2 pb_1 pv_0
  obtain ⟨pae0, pae1, pae2, pae3⟩ := pa_3.open2
  obtain ⟨pbe0, pbe1, pbe2, pbe3⟩ := pb_2.open2
  obtain ⟨pve0, pve1, pve2, pve3⟩ := pv_1.open2
  go_wp2
  go_ret
  exact ⟨rfl, hB_4⟩
set_option maxHeartbeats 4000000 in
theorem Between_w_ys (a0 a1 b1 : Int) (_q : Bool) (nb : ¬ a1 = b1) (w : World) :
    Calls Try.prog 44 #[.agg #[.int .i64 a0, .int .i64 a1], .agg #[.int .i64 a0, .int .i64 b1], .agg #[.int .i64 a0, .int .i64 a1]] w fun e w' => e = .returned (.bool false) ∧ Below w.heap.size w w' := by
  have hB_0 := Below.refl w.heap.size w
  have gb1 : decide (a1 = b1) = false := by simp [nb]
  have gb2 : (a1 == b1) = false := by simp [nb]
  obtain ⟨w1, hw1, pa_0, hb1, hs1⟩ := new_box w (w.heap.size) rfl [.int .i64 a0, .int .i64 a1] 62
  have hb1' : Below w.heap.size w w1 := hb1.mono (by omega)
  clear hb1
  have hB_1 := hB_0.trans (hb1'.mono hB_0.size)
  clear hb1' hB_0
  obtain ⟨w2, hw2, pb_0, hb2, hs2⟩ := new_box w1 (w.heap.size + 1) hs1 [.int .i64 a0, .int .i64 b1] 62
  have hb2' : Below w1.heap.size w1 w2 := hb2.mono (by omega)
  clear hb2
  have hB_2 := hB_1.trans (hb2'.mono hB_1.size)
  have pa_1 := pa_0.below hb2'
  clear hb2' hB_1 pa_0
  obtain ⟨w3, hw3, pv_0, hb3, hs3⟩ := new_box w2 (w.heap.size + 1 + 1) hs2 [.int .i64 a0, .int .i64 a1] 62
  have hb3' : Below w2.heap.size w2 w3 := hb3.mono (by omega)
  clear hb3
  have hB_3 := hB_2.trans (hb3'.mono hB_2.size)
  have pa_2 := pa_1.below hb3'
  have pb_1 := pb_0.below hb3'
  clear hb3' hB_2 pa_1 pb_0
  go_enter Try.func44, Try.ntmps44
  obtain ⟨pae0, pae1, pae2, pae3⟩ := pa_2.open2
  obtain ⟨pbe0, pbe1, pbe2, pbe3⟩ := pb_1.open2
  obtain ⟨pve0, pve1, pve2, pve3⟩ := pv_0.open2
  go_wp2
  go_ret
  exact ⟨rfl, hB_3⟩
set_option maxHeartbeats 4000000 in
theorem Between_w_yx (a0 a1 b1 v0 v1 : Int) (q : Bool) (nb : ¬ a1 = b1) (nv : ¬ a0 = v0) (k1 : ∀ w, Calls Try.prog 55 #[.agg #[.int .i64 a0, .int .i64 a1], .agg #[.int .i64 a0, .int .i64 b1], .agg #[.int .i64 v0, .int .i64 v1]] w fun e w' => e = .returned (.bool q) ∧ Below w.heap.size w w') (w : World) :
    Calls Try.prog 44 #[.agg #[.int .i64 a0, .int .i64 a1], .agg #[.int .i64 a0, .int .i64 b1], .agg #[.int .i64 v0, .int .i64 v1]] w fun e w' => e = .returned (.bool q) ∧ Below w.heap.size w w' := by
  have hB_0 := Below.refl w.heap.size w
  have gb1 : decide (a1 = b1) = false := by simp [nb]
  have gb2 : (a1 == b1) = false := by simp [nb]
  have gv1 : decide (a0 = v0) = false := by simp [nv]
  have gv2 : (a0 == v0) = false := by simp [nv]
  have K1 := Lib.hid k1
  clear k1
  obtain ⟨w1, hw1, pa_0, hb1, hs1⟩ := new_box w (w.heap.size) rfl [.int .i64 a0, .int .i64 a1] 62
  have hb1' : Below w.heap.size w w1 := hb1.mono (by omega)
  clear hb1
  have hB_1 := hB_0.trans (hb1'.mono hB_0.size)
  clear hb1' hB_0
  obtain ⟨w2, hw2, pb_0, hb2, hs2⟩ := new_box w1 (w.heap.size + 1) hs1 [.int .i64 a0, .int .i64 b1] 62
  have hb2' : Below w1.heap.size w1 w2 := hb2.mono (by omega)
  clear hb2
  have hB_2 := hB_1.trans (hb2'.mono hB_1.size)
  have pa_1 := pa_0.below hb2'
  clear hb2' hB_1 pa_0
  obtain ⟨w3, hw3, pv_0, hb3, hs3⟩ := new_box w2 (w.heap.size + 1 + 1) hs2 [.int .i64 v0, .int .i64 v1] 62
  have hb3' : Below w2.heap.size w2 w3 := hb3.mono (by omega)
  clear hb3
  have hB_3 := hB_2.trans (hb3'.mono hB_2.size)
  have pa_2 := pa_1.below hb3'
  have pb_1 := pb_0.below hb3'
  clear hb3' hB_2 pa_1 pb_0
  go_enter Try.func44, Try.ntmps44
  obtain ⟨pae0, pae1, pae2, pae3⟩ := pa_2.open2
  obtain ⟨pbe0, pbe1, pbe2, pbe3⟩ := pb_1.open2
  obtain ⟨pve0, pve1, pve2, pve3⟩ := pv_0.open2
  go_wp2_with fail
  refine (K1.out _).mono ?_
  rintro e w4 ⟨rfl, hb4⟩
  clear pae0 pae1 pae2 pae3 pbe0 pbe1 pbe2 pbe3 pve0 pve1 pve2 pve3
  have hB_4 := hB_3.trans (hb4.mono hB_3.size)
  have pa_3 := pa_2.below hb4
  have pb_2 := pb_1.below hb4
  have pv_1 := pv_0.below hb4
  clear hb4 hB_3 pa_2 pb_1 pv_0
  obtain ⟨pae0, pae1, pae2, pae3⟩ := pa_3.open2
  obtain ⟨pbe0, pbe1, pbe2, pbe3⟩ := pb_2.open2
  obtain ⟨pve0, pve1, pve2, pve3⟩ := pv_1.open2
  go_wp2
  go_ret
  exact ⟨rfl, hB_4⟩
set_option maxHeartbeats 4000000 in
theorem Between_w_yy (a0 a1 b1 v1 : Int) (q : Bool) (nb : ¬ a1 = b1) (nv : ¬ a1 = v1) (k1 : ∀ w, Calls Try.prog 55 #[.agg #[.int .i64 a0, .int .i64 a1], .agg #[.int .i64 a0, .int .i64 b1], .agg #[.int .i64 a0, .int .i64 v1]] w fun e w' => e = .returned (.bool q) ∧ Below w.heap.size w w') (w : World) :
    Calls Try.prog 44 #[.agg #[.int .i64 a0, .int .i64 a1], .agg #[.int .i64 a0, .int .i64 b1], .agg #[.int .i64 a0, .int .i64 v1]] w fun e w' => e = .returned (.bool q) ∧ Below w.heap.size w w' := by
  have hB_0 := Below.refl w.heap.size w
  have gb1 : decide (a1 = b1) = false := by simp [nb]
  have gb2 : (a1 == b1) = false := by simp [nb]
  have gv1 : decide (a1 = v1) = false := by simp [nv]
  have gv2 : (a1 == v1) = false := by simp [nv]
  have K1 := Lib.hid k1
  clear k1
  obtain ⟨w1, hw1, pa_0, hb1, hs1⟩ := new_box w (w.heap.size) rfl [.int .i64 a0, .int .i64 a1] 62
  have hb1' : Below w.heap.size w w1 := hb1.mono (by omega)
  clear hb1
  have hB_1 := hB_0.trans (hb1'.mono hB_0.size)
  clear hb1' hB_0
  obtain ⟨w2, hw2, pb_0, hb2, hs2⟩ := new_box w1 (w.heap.size + 1) hs1 [.int .i64 a0, .int .i64 b1] 62
  have hb2' : Below w1.heap.size w1 w2 := hb2.mono (by omega)
  clear hb2
  have hB_2 := hB_1.trans (hb2'.mono hB_1.size)
  have pa_1 := pa_0.below hb2'
  clear hb2' hB_1 pa_0
  obtain ⟨w3, hw3, pv_0, hb3, hs3⟩ := new_box w2 (w.heap.size + 1 + 1) hs2 [.int .i64 a0, .int .i64 v1] 62
  have hb3' : Below w2.heap.size w2 w3 := hb3.mono (by omega)
  clear hb3
  have hB_3 := hB_2.trans (hb3'.mono hB_2.size)
  have pa_2 := pa_1.below hb3'
  have pb_1 := pb_0.below hb3'
  clear hb3' hB_2 pa_1 pb_0
  go_enter Try.func44, Try.ntmps44
  obtain ⟨pae0, pae1, pae2, pae3⟩ := pa_2.open2
  obtain ⟨pbe0, pbe1, pbe2, pbe3⟩ := pb_1.open2
  obtain ⟨pve0, pve1, pve2, pve3⟩ := pv_0.open2
  go_wp2_with fail
  refine (K1.out _).mono ?_
  rintro e w4 ⟨rfl, hb4⟩
  clear pae0 pae1 pae2 pae3 pbe0 pbe1 pbe2 pbe3 pve0 pve1 pve2 pve3
  have hB_4 := hB_3.trans (hb4.mono hB_3.size)
  have pa_3 := pa_2.below hb4
  have pb_2 := pb_1.below hb4
  have pv_1 := pv_0.below hb4
  clear hb4 hB_3 pa_2 pb_1 pv_0
  obtain ⟨pae0, pae1, pae2, pae3⟩ := pa_3.open2
  obtain ⟨pbe0, pbe1, pbe2, pbe3⟩ := pb_2.open2
  obtain ⟨pve0, pve1, pve2, pve3⟩ := pv_1.open2
  go_wp2
  go_ret
  exact ⟨rfl, hB_4⟩
theorem Between_any (a0 a1 b0 b1 v0 v1 : Int) (q : Bool) (k : ∀ w, Calls Try.prog 55 #[.agg #[.int .i64 a0, .int .i64 a1], .agg #[.int .i64 b0, .int .i64 b1], .agg #[.int .i64 v0, .int .i64 v1]] w fun e w' => e = .returned (.bool q) ∧ Below w.heap.size w w') (w : World) :
    Calls Try.prog 44 #[.agg #[.int .i64 a0, .int .i64 a1], .agg #[.int .i64 b0, .int .i64 b1], .agg #[.int .i64 v0, .int .i64 v1]] w fun e w' => e = .returned (.bool (decide (¬ (a0 = b0 ∧ a1 = b1) ∧ ¬ (a0 = v0 ∧ a1 = v1)) && q)) ∧ Below w.heap.size w w' := by
  by_cases hb0 : a0 = b0
  · subst hb0
    by_cases hb1 : a1 = b1
    · subst hb1
      rw [decide_eq_false (by simp), Bool.false_and]
      exact Between_w_sx a0 a1 v0 v1 q w
    · by_cases hv0 : a0 = v0
      · subst hv0
        by_cases hv1 : a1 = v1
        · subst hv1
          rw [decide_eq_false (by simp), Bool.false_and]
          exact Between_w_ys a0 a1 b1 q hb1 w
        · rw [decide_eq_true (by simp [hb1, hv1]), Bool.true_and]
          exact Between_w_yy a0 a1 b1 v1 q hb1 hv1 k w
      · rw [decide_eq_true (by simp [hb1, hv0]), Bool.true_and]
        exact Between_w_yx a0 a1 b1 v0 v1 q hb1 hv0 k w
  · by_cases hv0 : a0 = v0
    · subst hv0
      by_cases hv1 : a1 = v1
      · subst hv1
        rw [decide_eq_false (by simp), Bool.false_and]
        exact Between_w_xs a0 a1 b0 b1 q hb0 w
      · rw [decide_eq_true (by simp [hb0, hv1]), Bool.true_and]
        exact Between_w_xy a0 a1 b0 b1 v1 q hb0 hv1 k w
    · rw [decide_eq_true (by simp [hb0, hv0]), Bool.true_and]
      exact Between_w_xx a0 a1 b0 b1 v0 v1 q hb0 hv0 k w
end Go.Proofs.Ytecnnpkpgbbfkaa
/- On, parts, Crosses, Meets, Between: what they answer. -/
namespace Go.Proofs.Ytecnnpkpgbbfkaa
open Go.RowKit Go.MagM
/-- A point on a line, its ends with it. -/
def onP (a0 a1 b0 b1 v0 v1 : Int) : Bool := decide ((crs b0 b1 v0 v1 a0 a1 = 0 ∧ min b0 v0 ≤ a0 ∧ a0 ≤ max b0 v0) ∧ min b1 v1 ≤ a1 ∧ a1 ≤ max b1 v1)
theorem On_is (a0 a1 b0 b1 v0 v1 : Int) (ha0 : InP a0) (ha1 : InP a1) (hb0 : InP b0) (hb1 : InP b1) (hv0 : InP v0) (hv1 : InP v1) (q : Bool) (h : onP a0 a1 b0 b1 v0 v1 = q) (w : World) :
    Calls Try.prog 55 #[.agg #[.int .i64 a0, .int .i64 a1], .agg #[.int .i64 b0, .int .i64 b1], .agg #[.int .i64 v0, .int .i64 v1]] w fun e w' => e = .returned (.bool q) ∧ Below w.heap.size w w' := by
  by_cases hc : crs b0 b1 v0 v1 a0 a1 = 0
  · by_cases hx : min b0 v0 ≤ a0 ∧ a0 ≤ max b0 v0
    · refine On_w_tt a0 a1 b0 b1 v0 v1 0 q (fun w => Orient_is b0 b1 v0 v1 a0 a1 hb0 hb1 hv0 hv1 ha0 ha1 (by rw [hc]; rfl) w) (fun w => ?_) (fun w => ?_) w
      · have := within_any a0 b0 v0 w; rwa [decide_eq_true hx] at this
      · have := within_any a1 b1 v1 w
        have e : decide (min b1 v1 ≤ a1 ∧ a1 ≤ max b1 v1) = q := by
          rw [← h]; unfold onP; rw [decide_eq_decide]; exact ⟨fun k => ⟨⟨hc, hx⟩, k⟩, fun k => k.2⟩
        rwa [e] at this
    · have e : q = false := by rw [← h]; unfold onP; exact decide_eq_false (fun k => hx k.1.2)
      subst e
      refine On_w_tf a0 a1 b0 b1 v0 v1 0 false (fun w => Orient_is b0 b1 v0 v1 a0 a1 hb0 hb1 hv0 hv1 ha0 ha1 (by rw [hc]; rfl) w) (fun w => ?_) w
      have := within_any a0 b0 v0 w; rwa [decide_eq_false hx] at this
  · have e : q = false := by rw [← h]; unfold onP; exact decide_eq_false (fun k => hc k.1.1)
    subst e
    exact On_w_n a0 a1 b0 b1 v0 v1 _ false (fun w => Orient_is b0 b1 v0 v1 a0 a1 hb0 hb1 hv0 hv1 ha0 ha1 rfl w) (beq_eq_false_iff_ne.2 (fun k => hc (Int.sign_eq_zero_iff_zero.1 k))) w
/-- A point on a line, between its ends. -/
theorem Between_is (a0 a1 b0 b1 v0 v1 : Int) (ha0 : InP a0) (ha1 : InP a1) (hb0 : InP b0) (hb1 : InP b1) (hv0 : InP v0) (hv1 : InP v1) (q : Bool) (h : (decide (¬ (a0 = b0 ∧ a1 = b1) ∧ ¬ (a0 = v0 ∧ a1 = v1)) && onP a0 a1 b0 b1 v0 v1) = q) (w : World) :
    Calls Try.prog 44 #[.agg #[.int .i64 a0, .int .i64 a1], .agg #[.int .i64 b0, .int .i64 b1], .agg #[.int .i64 v0, .int .i64 v1]] w fun e w' => e = .returned (.bool q) ∧ Below w.heap.size w w' := by
  subst h
  exact Between_any a0 a1 b0 b1 v0 v1 _ (fun w => On_is a0 a1 b0 b1 v0 v1 ha0 ha1 hb0 hb1 hv0 hv1 _ rfl w) w
end Go.Proofs.Ytecnnpkpgbbfkaa
/- Points over Rat: centres, lines, shares. Over no program. -/
namespace Go.Proofs.Ytecnnpkpgbbfkaa
open Go.MagM
/-- The centre's coordinates. -/
def cxN (a0 a1 b0 b1 v0 v1 : Int) : Int := sqd a0 a1 b0 b1 * (v1 - a1) - sqd a0 a1 v0 v1 * (b1 - a1)
def cyN (a0 a1 b0 b1 v0 v1 : Int) : Int := sqd a0 a1 v0 v1 * (b0 - a0) - sqd a0 a1 b0 b1 * (v0 - a0)
def cx (a0 a1 b0 b1 v0 v1 : Int) : Rat := (a0 : Rat) + ((cxN a0 a1 b0 b1 v0 v1 : Int) : Rat) / ((crs a0 a1 b0 b1 v0 v1 + crs a0 a1 b0 b1 v0 v1 : Int) : Rat)
def cy (a0 a1 b0 b1 v0 v1 : Int) : Rat := (a1 : Rat) + ((cyN a0 a1 b0 b1 v0 v1 : Int) : Rat) / ((crs a0 a1 b0 b1 v0 v1 + crs a0 a1 b0 b1 v0 v1 : Int) : Rat)
end Go.Proofs.Ytecnnpkpgbbfkaa
/- Slices of Spots, rows of Fracs that grow. Over any program. -/
namespace Go.MagM
open Go.RowKit
/-- The slice at ao reads as points; each coordinate has at most L words. -/
def Spots (w : World) (ao : Option Addr) (L : Nat) (l : List (Rat × Rat)) : Prop :=
  ∀ i x y, l[i]? = some (x, y) → ∃ b o m so sn sc tp tn tc m' so' sn' sc' tp' tn' tc', ao = some ⟨b, o, none⟩ ∧ w.cell? ⟨b, o + i * 6, none⟩ = some (.bool m) ∧ w.cell? ⟨b, o + i * 6 + 1, none⟩ = some (.slice so sn sc) ∧ w.cell? ⟨b, o + i * 6 + 2, none⟩ = some (.slice tp tn tc) ∧
    w.cell? ⟨b, o + i * 6 + 3, none⟩ = some (.bool m') ∧ w.cell? ⟨b, o + i * 6 + 4, none⟩ = some (.slice so' sn' sc') ∧ w.cell? ⟨b, o + i * 6 + 5, none⟩ = some (.slice tp' tn' tc') ∧
    FQ w (.agg #[.bool m, .slice so sn sc, .slice tp tn tc]) L x ∧ FQ w (.agg #[.bool m', .slice so' sn' sc', .slice tp' tn' tc']) L y
theorem Spots.below {w w' : World} {ao : Option Addr} {L : Nat} {l : List (Rat × Rat)} (h : Spots w ao L l) (hb : Below w.heap.size w w') : Spots w' ao L l := by
  intro i x y hi
  obtain ⟨b, o, m, so, sn, sc, tp, tn, tc, m', so', sn', sc', tp', tn', tc', h0, h1, h2, h3, h4, h5, h6, h7, h8⟩ := h i x y hi
  have hlt := World.block_lt_of_cell? w _ h1
  exact ⟨b, o, m, so, sn, sc, tp, tn, tc, m', so', sn', sc', tp', tn', tc', h0, (hb.cell (p := ⟨b, o + i * 6, none⟩) hlt).trans h1, (hb.cell (p := ⟨b, o + i * 6 + 1, none⟩) hlt).trans h2, (hb.cell (p := ⟨b, o + i * 6 + 2, none⟩) hlt).trans h3,
    (hb.cell (p := ⟨b, o + i * 6 + 3, none⟩) hlt).trans h4, (hb.cell (p := ⟨b, o + i * 6 + 4, none⟩) hlt).trans h5, (hb.cell (p := ⟨b, o + i * 6 + 5, none⟩) hlt).trans h6, h7.below hb, h8.below hb⟩
theorem Spots.drew {w : World} {ao : Option Addr} {L : Nat} {l : List (Rat × Rat)} (h : Spots w ao L l) : Spots w.drew ao L l := h
/-- Six cells hold these values. -/
structure At6 (w : World) (b o : Nat) (v0 v1 v2 v3 v4 v5 : Value) : Prop where
  c0 : w.cell? ⟨b, o, none⟩ = some v0
  c1 : w.cell? ⟨b, o + 1, none⟩ = some v1
  c2 : w.cell? ⟨b, o + 2, none⟩ = some v2
  c3 : w.cell? ⟨b, o + 3, none⟩ = some v3
  c4 : w.cell? ⟨b, o + 4, none⟩ = some v4
  c5 : w.cell? ⟨b, o + 5, none⟩ = some v5
theorem At6.below {w w' : World} {b o : Nat} {v0 v1 v2 v3 v4 v5 : Value} (h : At6 w b o v0 v1 v2 v3 v4 v5) (hb : Below w.heap.size w w') : At6 w' b o v0 v1 v2 v3 v4 v5 := by
  have hlt := World.block_lt_of_cell? w _ h.c0
  exact ⟨(hb.cell (p := ⟨b, o, none⟩) hlt).trans h.c0, (hb.cell (p := ⟨b, o + 1, none⟩) hlt).trans h.c1, (hb.cell (p := ⟨b, o + 2, none⟩) hlt).trans h.c2, (hb.cell (p := ⟨b, o + 3, none⟩) hlt).trans h.c3, (hb.cell (p := ⟨b, o + 4, none⟩) hlt).trans h.c4, (hb.cell (p := ⟨b, o + 5, none⟩) hlt).trans h.c5⟩
theorem At6.drew {w : World} {b o : Nat} {v0 v1 v2 v3 v4 v5 : Value} (h : At6 w b o v0 v1 v2 v3 v4 v5) : At6 w.drew b o v0 v1 v2 v3 v4 v5 := ⟨h.c0, h.c1, h.c2, h.c3, h.c4, h.c5⟩
/-- Cells that are Fracs, three each. -/
def Fr (w : World) (L : Nat) (xs : List Value) (l : List Rat) : Prop :=
  ∀ i q, l[i]? = some q → ∃ m so sn sc tp tn tc, xs[i * 3]? = some (.bool m) ∧ xs[i * 3 + 1]? = some (.slice so sn sc) ∧ xs[i * 3 + 2]? = some (.slice tp tn tc) ∧ RF w (.agg #[.bool m, .slice so sn sc, .slice tp tn tc]) L q
theorem Fr.below {w w' : World} {L : Nat} {xs : List Value} {l : List Rat} (h : Fr w L xs l) (hb : Below w.heap.size w w') : Fr w' L xs l := fun i q hi => by
  obtain ⟨m, so, sn, sc, tp, tn, tc, h1, h2, h3, h4⟩ := h i q hi; exact ⟨m, so, sn, sc, tp, tn, tc, h1, h2, h3, h4.below hb⟩
theorem Fr.kept {w w' : World} {L : Nat} {xs : List Value} {l : List Rat} (h : Fr w L xs l) (hb : Kept w w') : Fr w' L xs l := fun i q hi => by
  obtain ⟨m, so, sn, sc, tp, tn, tc, h1, h2, h3, h4⟩ := h i q hi; exact ⟨m, so, sn, sc, tp, tn, tc, h1, h2, h3, h4.kept hb⟩
theorem Fr.drew {w : World} {L : Nat} {xs : List Value} {l : List Rat} (h : Fr w L xs l) : Fr w.drew L xs l := h
theorem Fr.nil (w : World) (L : Nat) : Fr w L [] [] := fun i q hi => by simp at hi
end Go.MagM
namespace Go.Proofs.Ytecnnpkpgbbfkaa
open Go.MagM
end Go.Proofs.Ytecnnpkpgbbfkaa
/- The helpers of layer 3's statements: short. -/
namespace Go.Proofs.Ytecnnpkpgbbfkaa
open Go.RowKit Go.MagM
def FRow (w : World) (g k : Nat) (mf : Nat → Bool) (af : Nat → Option Addr) (nf cf : Nat → Nat) (pf : Nat → Option Addr) (kf df : Nat → Nat) : Prop :=
  ∀ i, i < k → w.cell? ⟨g, i * 3, none⟩ = some (.bool (mf i)) ∧ w.cell? ⟨g, i * 3 + 1, none⟩ = some (.slice (af i) (nf i) (cf i)) ∧ w.cell? ⟨g, i * 3 + 2, none⟩ = some (.slice (pf i) (kf i) (df i))
theorem FRow.below {w w' : World} {g k : Nat} {mf : Nat → Bool} {af : Nat → Option Addr} {nf cf : Nat → Nat} {pf : Nat → Option Addr} {kf df : Nat → Nat} (h : FRow w g k mf af nf cf pf kf df) (hb : Below w.heap.size w w') : FRow w' g k mf af nf cf pf kf df := by
  intro i hi
  obtain ⟨h1, h2, h3⟩ := h i hi
  have hlt := World.block_lt_of_cell? w _ h1
  exact ⟨(hb.cell (p := ⟨g, i * 3, none⟩) hlt).trans h1, (hb.cell (p := ⟨g, i * 3 + 1, none⟩) hlt).trans h2, (hb.cell (p := ⟨g, i * 3 + 2, none⟩) hlt).trans h3⟩
end Go.Proofs.Ytecnnpkpgbbfkaa
/- A region that draws its order, by one invariant of what is listed: as many arms as operations. Over any program. -/
namespace Go.MagM
open Go
/-- How many are not listed. -/
def cnt (l : Array Bool) : Nat := l.toList.count false
theorem count_set_lt : ∀ (l : List Bool) (i : Nat), l[i]? = some false → (l.set i true).count false + 1 = l.count false
  | [], i, h => by simp at h
  | x :: l, 0, h => by simp at h; subst h; simp
  | x :: l, i + 1, h => by
    have := count_set_lt l i (by simpa using h)
    cases x <;> simp [List.set_cons_succ] <;> omega
theorem getD_false {l : Array Bool} {i : Nat} (h : l.getD i true = false) : l.toList[i]? = some false := by
  rcases Nat.lt_or_ge i l.size with h' | h'
  · simp [h'] at h ⊢; exact h
  · simp [Array.getElem?_eq_none h'] at h
/-- A slot that is written with what it holds. -/
theorem put_same (a : Act) (d : Nat) : a.put (some d) (a.tmps.getD d undef) = a := by
  obtain ⟨tmps, defers⟩ := a
  simp only [Act.put, Act.mk.injEq, and_true]
  apply Array.ext
  · simp
  · intro i h1 h2
    rw [Array.getElem_setIfInBounds]
    split
    · rename_i h; subst h; simp [h2]
    · rfl
section
variable {P : Program} {ops : Array Oper} {Q : Exit → Act → World → Prop} {md : Region.Mode} {S : World → Prop}
theorem ready_cnt {l : Array Bool} {i : Nat} (h : i ∈ Region.ready md ops l) : cnt (l.setIfInBounds i true) + 1 = cnt l := by
  have h1 := getD_false (mem_ready.1 h).1
  have := count_set_lt l.toList i h1
  unfold cnt
  simpa using this
theorem wpAnyH_until (Inv : Array Bool → Act → World → Prop)
    (h : ∀ l a w, Inv l a w → wpAnyH P md ops Q S (cnt l) l a w ∨ (Region.ready md ops l ≠ [] ∧ ∀ i ∈ Region.ready md ops l, wpOp P ops Q i (fun a' w' => S w' ∧ Inv (l.setIfInBounds i true) a' w') a w)) :
    ∀ (fuel : Nat) (l : Array Bool) (a : Act) (w : World), Inv l a w → cnt l = fuel → wpAnyH P md ops Q S fuel l a w
  | 0, l, a, w, hI, hc => by
    rcases h l a w hI with h1 | ⟨h1, _⟩
    · rw [hc] at h1; exact h1
    · exfalso
      obtain ⟨i, hi⟩ := List.exists_mem_of_ne_nil _ h1
      have := ready_cnt hi
      omega
  | fuel + 1, l, a, w, hI, hc => by
    rcases h l a w hI with h1 | ⟨h1, h2⟩
    · rw [hc] at h1; exact h1
    · refine ⟨fun h0 => absurd h0 h1, fun i hi => wpOp_mono (fun a' w' h3 => ⟨h3.1, wpAnyH_until Inv h fuel _ a' w' h3.2 ?_⟩) (h2 i hi)⟩
      have := ready_cnt hi
      omega
theorem step_of {Inv : Array Bool → Act → World → Prop} {l : Array Bool} {a : Act} {w : World} (i : Nat) (o : Oper) (ho : ops[i]? = some o)
    (h : ∀ K' : Act → World → Prop, Shut (∀ a' w', S w' → Inv (l.setIfInBounds i true) a' w' → K' a' w') → if Region.wanted o (yielded ops a.tmps) = true then Oper.wp P o a w K' Q else K' (a.put o.dst undef) w) :
    wpOp P ops Q i (fun a' w' => S w' ∧ Inv (l.setIfInBounds i true) a' w') a w :=
  wpOp_step ho (fun K' hK => h K' (fun a w hS hI => hK a w ⟨hS, hI⟩))
end
end Go.MagM
