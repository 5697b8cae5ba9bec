/- Up, Down, Len, Zeros: what they answer. -/
import Derived.Test.YthbjiogpekhbeaaDoorWalkF
namespace Go.Proofs.YthbjiogpekhbeaaDoor
open Go.RowKit Go.MagM
set_option maxHeartbeats 1000000 in
theorem Up_any (va : Value) (L X : Nat) (s : Int) (w : World) (hL : L ≤ 4000000000) (ha : Mag w va L X) :
    Calls Tryd.prog 29 #[va, .int .i64 s] w fun e w' => ∃ v, e = .returned v ∧ RMag w' v (L + 129) (X * 2 ^ shn s) ∧ Below w.heap.size w w' := by
  obtain ⟨ao, n0, ca, f, rfl, hnc, hnL, hra, hX⟩ := ha
  have htn := tlen_le f n0
  rw [← tlen_V] at hX
  have hra' := hra.less htn
  have T1 := Lib.hid (trim_any ao n0 ca w (by omega) f hnc hra)
  obtain ⟨n, hn⟩ : ∃ n, tlen f n0 = n := ⟨_, rfl⟩
  rw [hn] at T1 hX htn hra'
  have hn9 : n ≤ 4000000000 := by omega
  have hnL' : n ≤ L := by omega
  have hsl := shn_le s
  obtain ⟨t, ht⟩ : ∃ t, shn s = t := ⟨_, rfl⟩
  have T2 := Lib.hid (fun w => shiftOf_any s w)
  rw [ht] at hsl
  have htt := two_shift t
  obtain ⟨q, hq⟩ : ∃ q, t / 64 = q := ⟨_, rfl⟩
  obtain ⟨r, hr⟩ : ∃ r, t % 64 = r := ⟨_, rfl⟩
  have hq8 : q ≤ 128 := by omega
  have hr8 : r < 64 := by omega
  have d1 : (t : Int) / 64 = (q : Int) := by omega
  have d2 : (t : Int) % 64 = (r : Int) := by omega
  rw [hq, hr] at htt
  have HX := Lib.hid hX; have HA := Lib.hid hra'; have HT := Lib.hid ht; have HTT := Lib.hid htt
  clear hX hra' hn hra ht htt hq hr
  go_enter Tryd.func29, Tryd.ntmps29
  go_wp2_with fail
  refine T1.out.mono ?_
  rintro e w1 ⟨rfl, rfl⟩
  go_wp2_with fail
  refine (T2.out _).mono ?_
  rintro e w1 ⟨rfl, rfl⟩
  rw [HT.out]
  have he : q + n + 1 - q = n + 1 := by omega
  go_wp2_with (first
    | (at_make; refine wpList_make_words rfl (.tmp 17) (.tmp 17) 30 rfl 42 under_words info_u64 .i64 .i64 _ _ (q + n + 1) rfl rfl (by omega) (by omega) (by omega) ?_; intro w1 hh1 hb1 hs1; replace hh1 := Lib.hid hh1)
    | (with_reducible refine wpList_copy_words rfl (.tmp 21) (.tmp 22) 30 30 rfl 42 under_words size_u64 _ _ _ _ _ _ _ rfl rfl (fun _ => 0) f (show Held w1 w.heap.size q (n + 1) (fun _ => 0) from by have := hh1.out.part (k := q) (m := n + 1) (by omega); simpa using this) (HA.out.below hb1) ?_; intro w2 hh2 ht2; replace hh2 := Lib.hid hh2; replace ht2 := Lib.hid ht2)
    | (go_at_call 47; refine (moveUp_any _ _ _ _ _ _ (by omega) hr8 _ hh2.out).mono ?_; rintro e w3 ⟨rfl, f3, hh3, ht3, hz3, hd3⟩; replace hh3 := Lib.hid hh3; replace ht3 := Lib.hid ht3; replace hz3 := Lib.hid hz3; replace hd3 := Lib.hid hd3)
    | (go_at_call 33; refine (trim_any _ _ _ _ (by omega) (spl (fun _ => 0) f3 q (n + 1)) (Nat.le_refl _) (Held.splice hh1.out (by have := ht2.out.trans ht3.out; simpa using this) (by simpa using hh3.out) (by omega)).reads).mono ?_; rintro e w4 ⟨rfl, rfl⟩))
  go_ret
  have hv := V_moveUp (f := fun i => if i < n then f i else 0) (f' := f3) hz3.out hd3.out
  rw [show (if n < n then f n else 0) = 0 from if_neg (by omega), copied_V, Nat.zero_mul, Nat.zero_div, Nat.zero_mul, Nat.add_zero, HX.out] at hv
  have hh : Held w3 w.heap.size 0 (q + n + 1) (spl (fun _ => 0) f3 q (n + 1)) := Held.splice hh1.out (by have := ht2.out.trans ht3.out; simpa using this) (by simpa using hh3.out) (by omega)
  have := RMag.of_trim hh.reads (Nat.le_refl (q + n + 1))
  rw [Nat.add_assoc, spl_V, V_none (fun _ _ => rfl), hv, Nat.zero_add] at this
  refine ⟨_, rfl, ?_, (ht2.out.trans ht3.out).below hb1 (Nat.le_refl _) (by omega)⟩
  rw [HT.out, HTT.out, Nat.mul_left_comm]
  exact this.more (by omega)
set_option maxHeartbeats 1000000 in
theorem Down_any (va : Value) (L X : Nat) (s : Int) (w : World) (hL : L ≤ 4000000000) (ha : Mag w va L X) :
    Calls Tryd.prog 30 #[va, .int .i64 s] w fun e w' => ∃ v, e = .returned v ∧ RMag w' v L (X / 2 ^ shn s) ∧ Below w.heap.size w w' := by
  obtain ⟨ao, n0, ca, f, rfl, hnc, hnL, hra, hX⟩ := ha
  have htn := tlen_le f n0
  rw [← tlen_V] at hX
  have hra' := hra.less htn
  have T1 := Lib.hid (trim_any ao n0 ca w (by omega) f hnc hra)
  obtain ⟨n, hn⟩ : ∃ n, tlen f n0 = n := ⟨_, rfl⟩
  rw [hn] at T1 hX htn hra'
  have hn9 : n ≤ 4000000000 := by omega
  have hnL' : n ≤ L := by omega
  have hncc : n ≤ ca := by omega
  have hsl := shn_le s
  obtain ⟨t, ht⟩ : ∃ t, shn s = t := ⟨_, rfl⟩
  have T2 := Lib.hid (fun w => shiftOf_any s w)
  rw [ht] at hsl
  have htt := two_shift t
  obtain ⟨q, hq⟩ : ∃ q, t / 64 = q := ⟨_, rfl⟩
  obtain ⟨r, hr⟩ : ∃ r, t % 64 = r := ⟨_, rfl⟩
  have hq8 : q ≤ 128 := by omega
  have hr8 : r < 64 := by omega
  have d1 : (t : Int) / 64 = (q : Int) := by omega
  have d2 : (t : Int) % 64 = (r : Int) := by omega
  rw [hq, hr] at htt
  have HX := Lib.hid hX; have HA := Lib.hid hra'; have HT := Lib.hid ht; have HTT := Lib.hid htt
  clear hX hra' hn hra ht htt hq hr
  by_cases hqn : n ≤ q
  · go_enter Tryd.func30, Tryd.ntmps30
    go_wp2_with fail
    refine T1.out.mono ?_
    rintro e w1 ⟨rfl, rfl⟩
    go_wp2_with fail
    refine (T2.out _).mono ?_
    rintro e w1 ⟨rfl, rfl⟩
    rw [HT.out]
    go_wp2
    go_ret
    have h0 : X / 2 ^ shn s = 0 := by
      rw [HT.out, HTT.out]
      apply Nat.div_eq_of_lt
      have h1 := V_lt HA.out.lt
      have h2 : B ^ n ≤ B ^ q := Nat.pow_le_pow_right B_pos hqn
      have h3 : B ^ q ≤ B ^ q * 2 ^ r := Nat.le_mul_of_pos_right _ (Nat.pow_pos (by omega))
      rw [← HX.out]; omega
    rw [h0]
    exact ⟨_, rfl, (RMag.nil _).more (by omega), Below.refl _ _⟩
  · obtain ⟨d, hd⟩ : ∃ d, n - q = d + 1 := ⟨n - q - 1, by omega⟩
    have hcq : ¬ (ca = q) := by omega
    obtain ⟨ab, aoff, rfl, _, _⟩ := HA.out 0 (by omega)
    have hrd : Reads w (some ⟨ab, aoff + q, none⟩) (d + 1) (fun i => f (q + i)) := by
      intro i hi
      obtain ⟨b', o', e, hc, hl⟩ := HA.out (q + i) (by omega)
      simp at e; obtain ⟨rfl, rfl⟩ := e
      exact ⟨ab, aoff + q, rfl, by rw [Nat.add_assoc]; exact hc, hl⟩
    have HR := Lib.hid hrd; clear hrd
    go_enter Tryd.func30, Tryd.ntmps30
    go_wp2_with fail
    refine T1.out.mono ?_
    rintro e w1 ⟨rfl, rfl⟩
    go_wp2_with fail
    refine (T2.out _).mono ?_
    rintro e w1 ⟨rfl, rfl⟩
    rw [HT.out]
    go_wp2_with (first
      | (go_at_call 38; refine (clone_any _ _ _ _ (by omega) _ HR.out).mono ?_; rintro e w1 ⟨rfl, hh1, hb1, hs1⟩; replace hh1 := Lib.hid hh1)
      | (go_at_call 48; refine (moveDown_any _ _ _ _ _ _ (by omega) hr8 _ hh1.out).mono ?_; rintro e w3 ⟨rfl, f3, hh3, ht3, hz3, hd3⟩; replace hh3 := Lib.hid hh3; replace ht3 := Lib.hid ht3; replace hz3 := Lib.hid hz3; replace hd3 := Lib.hid hd3)
      | (go_at_call 33; refine (trim_any _ _ _ _ (by omega) f3 (Nat.le_refl _) hh3.out.reads).mono ?_; rintro e w4 ⟨rfl, rfl⟩))
    go_ret
    have hv := V_down_all (by omega) hz3.out hd3.out
    have hv2 := V_high f (k := q) (n := d + 1) (fun i hi => HA.out.lt i (by omega))
    rw [show q + (d + 1) = n from by omega, HX.out] at hv2
    have := RMag.of_trim hh3.out.reads (Nat.le_refl (d + 1))
    rw [hv, hv2, Nat.div_div_eq_div_mul, ← HTT.out, ← HT.out] at this
    exact ⟨_, rfl, this.more (by omega), ht3.out.below hb1 (Nat.le_refl _) (by omega)⟩
/-- How many bits the words have, the highest being none. -/
theorem bl_V {f : Nat → Nat} {k : Nat} (hf : ∀ i, i < k → f i < B) (h : f k ≠ 0) : bl (V f (k + 1)) = k * 64 + bl (f k) := by
  have h1 := V_lt hf
  have h2 := bl_lt (f k); have h3 := bl_ge h; have h4 := bl_pos h
  have hB : B ^ k = 2 ^ (k * 64) := by rw [Bpow_two, Nat.mul_comm]
  rw [hB] at h1
  rw [V_succ, hB]
  apply bl_unique
  · rw [Nat.pow_add]
    have h5 := Nat.mul_le_mul_right (2 ^ (k * 64)) (show f k + 1 ≤ 2 ^ bl (f k) from h2)
    rw [Nat.add_mul] at h5
    rw [Nat.mul_comm (2 ^ (k * 64)) (2 ^ bl (f k))]; omega
  · intro h0
    have := Nat.mul_pos (show 0 < f k by omega) (Nat.pow_pos (n := k * 64) (show 0 < 2 by omega)); omega
  · intro _
    refine ⟨?_, by omega⟩
    rw [show k * 64 + bl (f k) - 1 = bl (f k) - 1 + k * 64 from by omega, Nat.pow_add]
    have := Nat.mul_le_mul_right (2 ^ (k * 64)) h3; omega
set_option maxHeartbeats 1000000 in
theorem Len_any (va : Value) (L X : Nat) (w : World) (hL : L ≤ 4000000000) (ha : Mag w va L X) :
    Calls Tryd.prog 25 #[va] w fun e w' => e = .returned (.int .i64 ((bl X : Nat) : Int)) ∧ w = w' := by
  obtain ⟨ao, n0, ca, f, rfl, hnc, hnL, hra, hX⟩ := ha
  have htn := tlen_le f n0
  have rf := tlen_right f n0
  rw [← tlen_V] at hX
  have hra' := hra.less htn
  have T1 := Lib.hid (trim_any ao n0 ca w (by omega) f hnc hra)
  obtain ⟨n, hn⟩ : ∃ n, tlen f n0 = n := ⟨_, rfl⟩
  rw [hn] at T1 hX htn hra' rf
  have hn9 : n ≤ 4000000000 := by omega
  have HX := Lib.hid hX; have HA := Lib.hid hra'; have HR := Lib.hid rf
  clear hX hra' hn hra rf
  cases n with
  | zero =>
    have h0 : bl X = 0 := by rw [← HX.out]; rfl
    have H0 := Lib.hid h0; clear h0
    go_enter Tryd.func25, Tryd.ntmps25
    go_wp2_with fail
    refine T1.out.mono ?_
    rintro e w1 ⟨rfl, rfl⟩
    go_wp2
    go_ret
    exact ⟨by rw [H0.out]; rfl, rfl⟩
  | succ k =>
    have h0 : bl X = k * 64 + bl (f k) := by rw [← HX.out]; exact bl_V (fun i hi => HA.out.lt i (by omega)) (HR.out k rfl)
    obtain ⟨ab, aoff, rfl, hc, hl⟩ := HA.out k (by omega)
    have hb64 : bl (f k) ≤ 64 := by
      have h1 := bl_ge (HR.out k rfl)
      have h2 := (Nat.pow_lt_pow_iff_right (show 1 < 2 by omega)).1 (show 2 ^ (bl (f k) - 1) < 2 ^ 64 by unfold B at hl; omega)
      omega
    have H0 := Lib.hid h0; have HL := Lib.hid hl; clear h0 hl
    have hne : (((k : Int) + 1) == 0) = false := by simp only [beq_eq_false_iff_ne]; omega
    go_enter Tryd.func25, Tryd.ntmps25
    go_wp2_with fail
    refine T1.out.mono ?_
    rintro e w1 ⟨rfl, rfl⟩
    go_wp2_with (go_at_call 43; refine (len64_any _ _ HL.out).mono ?_; rintro e w1 ⟨rfl, rfl⟩)
    go_ret
    refine ⟨ret1 (k := .i64) ?_, rfl⟩
    rw [H0.out]; go_arith
/-- How many noughts are at a number's end. -/
def IsZeros (X z : Nat) : Prop := (X = 0 ∧ z = 0) ∨ ∃ m, X = 2 ^ z * (2 * m + 1)
set_option maxHeartbeats 1000000 in
theorem Zeros_any (va : Value) (L X : Nat) (w : World) (hL : L ≤ 4000000000) (ha : Mag w va L X) (hT : Tab w) :
    Calls Tryd.prog 31 #[va] w fun e w' => ∃ z : Nat, e = .returned (.int .i64 (z : Int)) ∧ IsZeros X z ∧ z ≤ 64 * L ∧ w = w' := by
  obtain ⟨ao, n, ca, f, rfl, hnc, hnL, hra, hX⟩ := ha
  have hn9 : n ≤ 4000000000 := by omega
  have HX := Lib.hid hX; have HA := Lib.hid hra; have HT := Lib.hid hT
  clear hX hra hT
  go_enter Tryd.func31, Tryd.ntmps31
  go_wp2
  go_loop [7] (fun i => ∃ k : Nat, k ≤ n ∧ i = .int .i64 k ∧ ∀ j, j < k → f j = 0) (fun i => n - (intOf i).toNat)
  case atStart => exact ⟨0, Nat.zero_le _, by go_num, fun j hj => by omega⟩
  case round =>
    obtain ⟨k, hk, rfl, hz⟩ := hrel
    have HZ := Lib.hid hz; clear hz
    by_cases hlt : k < n
    · obtain ⟨ab, aoff, rfl, hc, hl⟩ := HA.out k hlt
      by_cases h0 : f k = 0
      · have H0 := Lib.hid h0; rw [h0] at hc; clear h0 hl
        go_wp2
        refine ⟨⟨k + 1, by omega, by go_num, fun j hj => ?_⟩, by simp [intOf]; omega⟩
        by_cases e : j = k
        · rw [e]; exact H0.out
        · exact HZ.out j (by omega)
      · have hne : (((f k : Nat) : Int) != 0) = true := by simp only [bne_iff_ne]; omega
        have HL := Lib.hid hl; have H0 := Lib.hid h0; clear hl h0
        go_wp2_with (go_at_call 49; refine (tz64_any _ _ HL.out H0.out HT.out).mono ?_; rintro e w1 ⟨z, mm, rfl, hzz, hz64, rfl⟩; have HZZ := Lib.hid hzz; clear hzz)
        go_ret
        refine ⟨k * 64 + z, ret1 (k := .i64) (by go_arith), .inr ?_, by omega, rfl⟩
        have hs := V_split f k (n - k)
        rw [show k + (n - k) = n from by omega, HX.out, V_none HZ.out, Nat.zero_add] at hs
        have hs2 := V_split (fun i => f (k + i)) 1 (n - k - 1)
        rw [show 1 + (n - k - 1) = n - k from by omega, V_one, Nat.add_zero, Nat.pow_one] at hs2
        obtain ⟨R, hR⟩ : ∃ R, V (fun i => f (k + (1 + i))) (n - k - 1) = R := ⟨_, rfl⟩
        rw [hR] at hs2
        refine ⟨mm + 2 ^ (63 - z) * R, ?_⟩
        rw [hs, hs2, HZZ.out, Bpow_two, show k * 64 + z = 64 * k + z from by omega, Nat.pow_add, Nat.mul_assoc]
        congr 1
        have e1 : B = 2 ^ z * (2 * 2 ^ (63 - z)) := by
          rw [← Nat.pow_succ', ← Nat.pow_add, show z + (63 - z + 1) = 64 from by omega]; rfl
        have e2 : B * R = 2 ^ z * (2 * (2 ^ (63 - z) * R)) := by rw [e1, Nat.mul_assoc, Nat.mul_assoc]
        rw [e2, ← Nat.mul_add]; congr 1; omega
    · have hkn : k = n := by omega
      subst hkn
      go_wp2
      go_ret
      exact ⟨0, rfl, .inl ⟨by rw [← HX.out]; exact V_none HZ.out, rfl⟩, by omega, rfl⟩
end Go.Proofs.YthbjiogpekhbeaaDoor
