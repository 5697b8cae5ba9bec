/- The calls of num, on: Div. -/
import Derived.Test.YtbfdianmbpfjmaaNumE
namespace Go.Proofs.Ytbfdianmbpfjmaa
open Go.RowKit Go.MagM
/-- A call's answers are two right Nums. -/
def AnsNum2 (w w' : World) (e : Ending) (L : Nat) (X : Int) (L' : Nat) (Y : Int) : Prop :=
  ∃ m ao n c m' bo n' c', e = .returned (.tuple #[.agg #[.bool m, .slice ao n c], .agg #[.bool m', .slice bo n' c']]) ∧ RNum w' (.agg #[.bool m, .slice ao n c]) L X ∧ RNum w' (.agg #[.bool m', .slice bo n' c']) L' Y ∧ Below w.heap.size w w'
theorem AnsNum2.of {w w' : World} {e : Ending} {L L' M M' : Nat} {X X' Y Y' : Int} (h : AnsNum2 w w' e L X M Y) (hL : L ≤ L') (hM : M ≤ M') (hx : X = X') (hy : Y = Y') : AnsNum2 w w' e L' X' M' Y' := by
  subst hx; subst hy
  obtain ⟨m, ao, n, c, m', bo, n', c', h1, h2, h3, h4⟩ := h; exact ⟨m, ao, n, c, m', bo, n', c', h1, h2.more hL, h3.more hM, h4⟩
theorem div_same (m : Bool) (N M : Nat) (h : M ≠ 0) : (sgn m N).fdiv (sgn m M) = sgn false (N / M) ∧ (sgn m N).fmod (sgn m M) = sgn m (N % M) := by
  have e := Nat.div_add_mod N M
  have hl := Nat.mod_lt N (show M > 0 by omega)
  have e2 : ((M * (N / M) : Nat) : Int) = (M : Int) * ((N / M : Nat) : Int) := Int.natCast_mul _ _
  cases m with
  | false =>
    simp only [sgn, if_false, Bool.false_eq_true]
    exact (Int.fdiv_fmod_unique (by omega)).2 ⟨by rw [← e2]; omega, by omega, by omega⟩
  | true =>
    simp only [sgn, if_true, if_false, Bool.false_eq_true]
    exact (Int.fdiv_fmod_unique' (by omega)).2 ⟨by rw [Int.neg_mul, ← e2]; omega, by omega, by omega⟩
theorem div_even (m : Bool) (N M : Nat) (h : M ≠ 0) (h0 : N % M = 0) : (sgn m N).fdiv (sgn (!m) M) = sgn true (N / M) ∧ (sgn m N).fmod (sgn (!m) M) = sgn (!m) (N % M) := by
  have e := Nat.div_add_mod N M
  have e2 : ((M * (N / M) : Nat) : Int) = (M : Int) * ((N / M : Nat) : Int) := Int.natCast_mul _ _
  cases m with
  | false =>
    simp only [sgn, if_true, if_false, Bool.false_eq_true, Bool.not_false]
    exact (Int.fdiv_fmod_unique' (by omega)).2 ⟨by rw [Int.neg_mul, Int.mul_neg, ← e2]; omega, by omega, by omega⟩
  | true =>
    simp only [sgn, if_true, if_false, Bool.false_eq_true, Bool.not_true]
    exact (Int.fdiv_fmod_unique (by omega)).2 ⟨by rw [Int.mul_neg, ← e2]; omega, by omega, by omega⟩
theorem div_odd (m : Bool) (N M : Nat) (h : M ≠ 0) (h0 : N % M ≠ 0) : (sgn m N).fdiv (sgn (!m) M) = sgn true (N / M + 1) ∧ (sgn m N).fmod (sgn (!m) M) = sgn (!m) (M - N % M) := by
  have e := Nat.div_add_mod N M
  have hl := Nat.mod_lt N (show M > 0 by omega)
  have e2 : ((M * (N / M) : Nat) : Int) = (M : Int) * ((N / M : Nat) : Int) := Int.natCast_mul _ _
  have e3 : (M : Int) * (((N / M + 1 : Nat)) : Int) = ((M * (N / M) : Nat) : Int) + (M : Int) := by rw [e2, Int.natCast_add, Int.mul_add]; simp
  cases m with
  | false =>
    simp only [sgn, if_true, if_false, Bool.false_eq_true, Bool.not_false]
    exact (Int.fdiv_fmod_unique' (by omega)).2 ⟨by rw [Int.neg_mul, Int.mul_neg, e3]; omega, by omega, by omega⟩
  | true =>
    simp only [sgn, if_true, if_false, Bool.false_eq_true, Bool.not_true]
    exact (Int.fdiv_fmod_unique (by omega)).2 ⟨by rw [Int.mul_neg, e3]; omega, by omega, by omega⟩
theorem RMag_zero {w : World} {v : Value} {L : Nat} (h : RMag w v L 0) : ∃ ao c, v = .slice ao 0 c := by
  obtain ⟨ao, n, c, f, rfl, _, _, _, h5, h6⟩ := h
  cases n with
  | zero => exact ⟨ao, c, rfl⟩
  | succ n =>
    exfalso
    have := h6.ge
    have := Bp n
    omega
theorem RMag_pos {w : World} {v : Value} {L N : Nat} (h : RMag w v L N) (h0 : N ≠ 0) : ∃ ao n c, v = .slice ao (n + 1) c := by
  obtain ⟨ao, n, c, f, rfl, _, _, _, h5, h6⟩ := h
  cases n with
  | zero => exact absurd h5.symm h0
  | succ n => exact ⟨ao, n, c, rfl⟩
set_option maxHeartbeats 4000000 in
theorem Div_zero (m k : Bool) (va vb : Value) (L L' N M : Nat) (w : World) (hL : L ≤ 2000000000) (hL' : L' ≤ 2000000000) (hma : Mag w va L N) (hmb : Mag w vb L' M) (h0 : M = 0) :
    Calls Try.prog 25 #[.agg #[.bool m, va], .agg #[.bool k, vb]] w fun e w' => AnsNum2 w w' e (0) (0) (L) (sgn m N) := by
  obtain ⟨b0, b1, b2, b3, hB0⟩ := boxed4 w (.bool m) va (.bool k) vb (.bool false) (.slice none 0 0) (.bool false) (.slice none 0 0) 25
  have hma := hma.below hB0
  have hmb := hmb.below hB0
  have HMA := Lib.hid hma; have HMB := Lib.hid hmb; have B0 := Lib.hid b0; have B1 := Lib.hid b1; have B2 := Lib.hid b2; have B3 := Lib.hid b3; have H0 := Lib.hid hB0
  clear hma hmb b0 b1 b2 b3 hB0
  have sc := Sign_any _ L' (sgn k M) _ (by omega) ⟨k, vb, M, rfl, HMB.out, rfl⟩
  rw [sgn_sign] at sc
  rw [if_pos h0] at sc
  have SC := Lib.hid sc
  clear sc h0
  go_enter Try.func25, Try.ntmps25
  go_wp2_with fail
  refine SC.out.mono ?_
  rintro e w1 ⟨rfl, hb1⟩
  have hma := HMA.out.below hb1; have hmb := HMB.out.below hb1; have b0 := B0.out.below hb1; have b1 := B1.out.below hb1; have b2 := B2.out.below hb1; have b3 := B3.out.below hb1
  have hB0 := H0.out.trans (hb1.mono H0.out.size)
  clear hb1 HMA HMB B0 B1 B2 B3 H0
  have HMA := Lib.hid hma; have HMB := Lib.hid hmb; have B0 := Lib.hid b0; have B1 := Lib.hid b1; have B2 := Lib.hid b2; have B3 := Lib.hid b3; have H0 := Lib.hid hB0
  clear hma hmb b0 b1 b2 b3 hB0
  obtain ⟨x0, x1, x2, x3⟩ := B0.out
  obtain ⟨y0, y1, y2, y3⟩ := B1.out
  go_wp2_with fail
  refine (Make_any m va L N _ (by omega) HMA.out).mono ?_
  rintro e w2 ⟨m2, ao2, n2, c2, rfl, h2, hb2⟩
  clear x0 x1 x2 x3 y0 y1 y2 y3
  have hma := HMA.out.below hb2; have hmb := HMB.out.below hb2; have b0 := B0.out.below hb2; have b1 := B1.out.below hb2; have b2 := B2.out.below hb2; have b3 := B3.out.below hb2
  have hB0 := H0.out.trans (hb2.mono H0.out.size)
  clear hb2 HMA HMB B0 B1 B2 B3 H0
  have HMA := Lib.hid hma; have HMB := Lib.hid hmb; have B0 := Lib.hid b0; have B1 := Lib.hid b1; have B2 := Lib.hid b2; have B3 := Lib.hid b3; have H0 := Lib.hid hB0
  clear hma hmb b0 b1 b2 b3 hB0
  have a3 := B3.out.far2 (g' := w.heap.size + 1 + 1) (by omega) (.bool false) (.slice none 0 0)
  have A2 := Lib.hid ((B2.out.set2 (.bool false) (.slice none 0 0)).far2 (g' := w.heap.size + 1 + 1 + 1) (by omega) (.bool m2) (.slice ao2 n2 c2))
  have h3 := (h2.set2 B2.out (.bool false) (.slice none 0 0)).set2 a3 (.bool m2) (.slice ao2 n2 c2)
  have hB4 := below_set2 (below_set2 H0.out (g := w.heap.size + 1 + 1) (by omega) (.bool false) (.slice none 0 0)) (g := w.heap.size + 1 + 1 + 1) (by omega) (.bool m2) (.slice ao2 n2 c2)
  obtain ⟨x0, x1, x2, x3⟩ := B2.out
  obtain ⟨s0, s1, s2, s3⟩ := B2.out.set0 (.bool false)
  have a4 := a3.set0 (.bool m2)
  obtain ⟨y0, y1, y2, y3⟩ := a3
  obtain ⟨t0, t1, t2, t3⟩ := a4
  have H3 := Lib.hid h3; have H4 := Lib.hid hB4; clear h3 hB4 h2
  go_wp2
  obtain ⟨r0, r1, r2, r3⟩ := A2.out
  exact bodyPost_ret (v := .tuple #[.agg #[.bool false, .slice none 0 0], .agg #[.bool m2, .slice ao2 n2 c2]]) (by simp [results, Try.results25, go_sem, r0, r1, t0, t1, y0, y1]) rfl ⟨_, _, _, _, _, _, _, _, rfl, ⟨false, _, 0, rfl, RMag.nil _, rfl, fun h => by cases h⟩, H3.out, H4.out⟩
set_option maxHeartbeats 4000000 in
theorem Div_same (m : Bool) (va vb : Value) (L L' N M : Nat) (w : World) (hL : L ≤ 2000000000) (hL' : L' ≤ 2000000000) (hma : Mag w va L N) (hmb : Mag w vb L' M) (h0 : M ≠ 0) :
    Calls Try.prog 25 #[.agg #[.bool m, va], .agg #[.bool m, vb]] w fun e w' => AnsNum2 w w' e (L + 1) (sgn false (N / M)) (max L L') (sgn m (N % M)) := by
  obtain ⟨b0, b1, b2, b3, hB0⟩ := boxed4 w (.bool m) va (.bool m) vb (.bool false) (.slice none 0 0) (.bool false) (.slice none 0 0) 25
  have hma := hma.below hB0
  have hmb := hmb.below hB0
  have HMA := Lib.hid hma; have HMB := Lib.hid hmb; have B0 := Lib.hid b0; have B1 := Lib.hid b1; have B2 := Lib.hid b2; have B3 := Lib.hid b3; have H0 := Lib.hid hB0
  clear hma hmb b0 b1 b2 b3 hB0
  have sc := Sign_any _ L' (sgn m M) _ (by omega) ⟨m, vb, M, rfl, HMB.out, rfl⟩
  rw [sgn_sign] at sc
  rw [if_neg h0] at sc
  obtain ⟨sv, hsv, hs0⟩ : ∃ sv : Int, (if m = true then (-1 : Int) else 1) = sv ∧ (sv == 0) = false := ⟨_, rfl, by cases m <;> rfl⟩
  rw [hsv] at sc
  have SC := Lib.hid sc; have HN0 := Lib.hid h0
  clear sc h0 hsv
  have hmm : (m == m) = true := by simp
  go_enter Try.func25, Try.ntmps25
  go_wp2_with fail
  refine SC.out.mono ?_
  rintro e w1 ⟨rfl, hb1⟩
  have hma := HMA.out.below hb1; have hmb := HMB.out.below hb1; have b0 := B0.out.below hb1; have b1 := B1.out.below hb1; have b2 := B2.out.below hb1; have b3 := B3.out.below hb1
  have hB0 := H0.out.trans (hb1.mono H0.out.size)
  clear hb1 HMA HMB B0 B1 B2 B3 H0
  have HMA := Lib.hid hma; have HMB := Lib.hid hmb; have B0 := Lib.hid b0; have B1 := Lib.hid b1; have B2 := Lib.hid b2; have B3 := Lib.hid b3; have H0 := Lib.hid hB0
  clear hma hmb b0 b1 b2 b3 hB0
  obtain ⟨x0, x1, x2, x3⟩ := B0.out
  obtain ⟨y0, y1, y2, y3⟩ := B1.out
  go_wp2_with fail
  refine (Div_any _ _ L L' N M _ (by omega) (by omega) HMA.out HMB.out).mono ?_
  rintro e w2 ⟨vq, vr, rfl, hq, hr, hb2⟩
  clear x0 x1 x2 x3
  clear y0 y1 y2 y3
  have hma := HMA.out.below hb2; have hmb := HMB.out.below hb2; have b0 := B0.out.below hb2; have b1 := B1.out.below hb2; have b2 := B2.out.below hb2; have b3 := B3.out.below hb2
  have hB0 := H0.out.trans (hb2.mono H0.out.size)
  clear hb2 HMA HMB B0 B1 B2 B3 H0
  have HMA := Lib.hid hma; have HMB := Lib.hid hmb; have B0 := Lib.hid b0; have B1 := Lib.hid b1; have B2 := Lib.hid b2; have B3 := Lib.hid b3; have H0 := Lib.hid hB0
  clear hma hmb b0 b1 b2 b3 hB0
  have HQ := Lib.hid hq; have HR := Lib.hid hr; clear hq hr
  obtain ⟨x0, x1, x2, x3⟩ := B0.out
  obtain ⟨y0, y1, y2, y3⟩ := B1.out
  go_wp2
  go_region_held3 (fun w' => w'.cell? ⟨w.heap.size + 1, 0, none⟩ = some (.bool m)) (first | with_reducible exact B1.out.drew.c0 | with_reducible exact b1.c0 | with_reducible exact a1.c0 | with_reducible exact z1.c0 | with_reducible exact z3.c0 | fail)
    (first
      | (go_at_call 36; (with_reducible refine (signed_any false vq L _ _ HQ.out.drew).mono ?_); rintro e w3 ⟨m2, ao2, n2, c2, rfl, h2, hb2⟩; have b1 := B1.out.drew.below hb2; have b2 := B2.out.drew.below hb2; have b3 := B3.out.drew.below hb2; have hr := HR.out.drew.below hb2; have hB1 := H0.out.drew'.trans (hb2.mono H0.out.drew'.size); clear hb2)
      | (go_at_call 36; (with_reducible refine (signed_any m vr L _ _ hr).mono ?_); rintro e w4 ⟨m3, ao3, n3, c3, rfl, h3, hb3⟩; have a1 := b1.below hb3; have a2 := b2.below hb3; have a3 := b3.below hb3; have h2' := h2.below hb3; have hB2 := hB1.trans (hb3.mono hB1.size); have a3' := a3.far2 (g' := w.heap.size + 1 + 1) (by omega) (.bool m2) (.slice ao2 n2 c2); have z1 := a1.far2 (g' := w.heap.size + 1 + 1) (by omega) (.bool m2) (.slice ao2 n2 c2); have z3 := z1.far2 (g' := w.heap.size + 1 + 1 + 1) (by omega) (.bool m3) (.slice ao3 n3 c3); have A2 := Lib.hid a2; have A3 := Lib.hid a3'; obtain ⟨p0, p1, p2, p3⟩ := a2; obtain ⟨q0, q1, q2, q3⟩ := A2.out.set0 (.bool m2); obtain ⟨r0, r1, r2, r3⟩ := a3'; obtain ⟨t0, t1, t2, t3⟩ := A3.out.set0 (.bool m3)))
  have a4 := (A2.out.set2 (.bool m2) (.slice ao2 n2 c2)).far2 (g' := w.heap.size + 1 + 1 + 1) (by omega) (.bool m3) (.slice ao3 n3 c3)
  have k2 := (h2'.set2 A2.out (.bool m2) (.slice ao2 n2 c2)).set2 A3.out (.bool m3) (.slice ao3 n3 c3)
  have k3 := (h3.set2 A2.out (.bool m2) (.slice ao2 n2 c2)).set2 A3.out (.bool m3) (.slice ao3 n3 c3)
  have hB4 := below_set2 (below_set2 hB2 (g := w.heap.size + 1 + 1) (by omega) (.bool m2) (.slice ao2 n2 c2)) (g := w.heap.size + 1 + 1 + 1) (by omega) (.bool m3) (.slice ao3 n3 c3)
  have K2 := Lib.hid k2; have K3 := Lib.hid k3; have H4 := Lib.hid hB4; have A4 := Lib.hid a4
  clear k2 k3 hB4 a4
  go_wp2
  obtain ⟨u0, u1, u2, u3⟩ := A4.out
  exact bodyPost_ret (v := .tuple #[.agg #[.bool m2, .slice ao2 n2 c2], .agg #[.bool m3, .slice ao3 n3 c3]]) (by simp [results, Try.results25, go_sem, u0, u1, r0, r1, t0, t1]) rfl ⟨_, _, _, _, _, _, _, _, rfl, (RNum.of K2.out rfl).more (by omega), (RNum.of K3.out rfl).more (by omega), H4.out⟩
set_option maxHeartbeats 4000000 in
theorem Div_even (m : Bool) (va vb : Value) (L L' N M : Nat) (w : World) (hL : L ≤ 2000000000) (hL' : L' ≤ 2000000000) (hma : Mag w va L N) (hmb : Mag w vb L' M) (h0 : M ≠ 0) (he : N % M = 0) :
    Calls Try.prog 25 #[.agg #[.bool m, va], .agg #[.bool !m, vb]] w fun e w' => AnsNum2 w w' e (L + 1) (sgn true (N / M)) (max L L') (sgn (!m) 0) := by
  obtain ⟨b0, b1, b2, b3, hB0⟩ := boxed4 w (.bool m) va (.bool !m) vb (.bool false) (.slice none 0 0) (.bool false) (.slice none 0 0) 25
  have HE := Lib.hid he; clear he
  have hma := hma.below hB0
  have hmb := hmb.below hB0
  have HMA := Lib.hid hma; have HMB := Lib.hid hmb; have B0 := Lib.hid b0; have B1 := Lib.hid b1; have B2 := Lib.hid b2; have B3 := Lib.hid b3; have H0 := Lib.hid hB0
  clear hma hmb b0 b1 b2 b3 hB0
  have sc := Sign_any _ L' (sgn (!m) M) _ (by omega) ⟨!m, vb, M, rfl, HMB.out, rfl⟩
  rw [sgn_sign] at sc
  rw [if_neg h0] at sc
  obtain ⟨sv, hsv, hs0⟩ : ∃ sv : Int, (if (!m) = true then (-1 : Int) else 1) = sv ∧ (sv == 0) = false := ⟨_, rfl, by cases m <;> rfl⟩
  rw [hsv] at sc
  have SC := Lib.hid sc; have HN0 := Lib.hid h0
  clear sc h0 hsv
  have hmm : (m == !m) = false := by cases m <;> rfl
  go_enter Try.func25, Try.ntmps25
  go_wp2_with fail
  refine SC.out.mono ?_
  rintro e w1 ⟨rfl, hb1⟩
  have hma := HMA.out.below hb1; have hmb := HMB.out.below hb1; have b0 := B0.out.below hb1; have b1 := B1.out.below hb1; have b2 := B2.out.below hb1; have b3 := B3.out.below hb1
  have hB0 := H0.out.trans (hb1.mono H0.out.size)
  clear hb1 HMA HMB B0 B1 B2 B3 H0
  have HMA := Lib.hid hma; have HMB := Lib.hid hmb; have B0 := Lib.hid b0; have B1 := Lib.hid b1; have B2 := Lib.hid b2; have B3 := Lib.hid b3; have H0 := Lib.hid hB0
  clear hma hmb b0 b1 b2 b3 hB0
  obtain ⟨x0, x1, x2, x3⟩ := B0.out
  obtain ⟨y0, y1, y2, y3⟩ := B1.out
  go_wp2_with fail
  refine (Div_any _ _ L L' N M _ (by omega) (by omega) HMA.out HMB.out).mono ?_
  rintro e w2 ⟨vq, vr, rfl, hq, hr, hb2⟩
  clear x0 x1 x2 x3
  clear y0 y1 y2 y3
  have hma := HMA.out.below hb2; have hmb := HMB.out.below hb2; have b0 := B0.out.below hb2; have b1 := B1.out.below hb2; have b2 := B2.out.below hb2; have b3 := B3.out.below hb2
  have hB0 := H0.out.trans (hb2.mono H0.out.size)
  clear hb2 HMA HMB B0 B1 B2 B3 H0
  have HMA := Lib.hid hma; have HMB := Lib.hid hmb; have B0 := Lib.hid b0; have B1 := Lib.hid b1; have B2 := Lib.hid b2; have B3 := Lib.hid b3; have H0 := Lib.hid hB0
  clear hma hmb b0 b1 b2 b3 hB0
  rw [HE.out] at hr
  obtain ⟨ro, rc, rfl⟩ := RMag_zero hr
  have HQ := Lib.hid hq; have HR := Lib.hid hr; clear hq hr
  obtain ⟨x0, x1, x2, x3⟩ := B0.out
  obtain ⟨y0, y1, y2, y3⟩ := B1.out
  go_wp2
  go_region_held3 (fun w' => w'.cell? ⟨w.heap.size + 1, 0, none⟩ = some (.bool (!m))) (first | with_reducible exact B1.out.drew.c0 | with_reducible exact b1.c0 | with_reducible exact a1.c0 | with_reducible exact z1.c0 | with_reducible exact z3.c0 | fail)
    (first
      | (go_at_call 36; (with_reducible refine (signed_any true vq L _ _ HQ.out.drew).mono ?_); rintro e w3 ⟨m2, ao2, n2, c2, rfl, h2, hb2⟩; have b1 := B1.out.drew.below hb2; have b2 := B2.out.drew.below hb2; have b3 := B3.out.drew.below hb2; have hr := HR.out.drew.below hb2; have hB1 := H0.out.drew'.trans (hb2.mono H0.out.drew'.size); clear hb2)
      | (go_at_call 36; (with_reducible refine (signed_any (!m) (.slice ro 0 rc) L _ _ hr).mono ?_); rintro e w4 ⟨m3, ao3, n3, c3, rfl, h3, hb3⟩; have a1 := b1.below hb3; have a2 := b2.below hb3; have a3 := b3.below hb3; have h2' := h2.below hb3; have hB2 := hB1.trans (hb3.mono hB1.size); have a3' := a3.far2 (g' := w.heap.size + 1 + 1) (by omega) (.bool m2) (.slice ao2 n2 c2); have z1 := a1.far2 (g' := w.heap.size + 1 + 1) (by omega) (.bool m2) (.slice ao2 n2 c2); have z3 := z1.far2 (g' := w.heap.size + 1 + 1 + 1) (by omega) (.bool m3) (.slice ao3 n3 c3); have A2 := Lib.hid a2; have A3 := Lib.hid a3'; obtain ⟨p0, p1, p2, p3⟩ := a2; obtain ⟨q0, q1, q2, q3⟩ := A2.out.set0 (.bool m2); obtain ⟨r0, r1, r2, r3⟩ := a3'; obtain ⟨t0, t1, t2, t3⟩ := A3.out.set0 (.bool m3)))
  have a4 := (A2.out.set2 (.bool m2) (.slice ao2 n2 c2)).far2 (g' := w.heap.size + 1 + 1 + 1) (by omega) (.bool m3) (.slice ao3 n3 c3)
  have k2 := (h2'.set2 A2.out (.bool m2) (.slice ao2 n2 c2)).set2 A3.out (.bool m3) (.slice ao3 n3 c3)
  have k3 := (h3.set2 A2.out (.bool m2) (.slice ao2 n2 c2)).set2 A3.out (.bool m3) (.slice ao3 n3 c3)
  have hB4 := below_set2 (below_set2 hB2 (g := w.heap.size + 1 + 1) (by omega) (.bool m2) (.slice ao2 n2 c2)) (g := w.heap.size + 1 + 1 + 1) (by omega) (.bool m3) (.slice ao3 n3 c3)
  have K2 := Lib.hid k2; have K3 := Lib.hid k3; have H4 := Lib.hid hB4; have A4 := Lib.hid a4
  clear k2 k3 hB4 a4
  go_wp2
  obtain ⟨u0, u1, u2, u3⟩ := A4.out
  exact bodyPost_ret (v := .tuple #[.agg #[.bool m2, .slice ao2 n2 c2], .agg #[.bool m3, .slice ao3 n3 c3]]) (by simp [results, Try.results25, go_sem, u0, u1, r0, r1, t0, t1]) rfl ⟨_, _, _, _, _, _, _, _, rfl, (RNum.of K2.out rfl).more (by omega), (RNum.of K3.out rfl).more (by omega), H4.out⟩
set_option maxHeartbeats 4000000 in
theorem Div_odd (m : Bool) (va vb : Value) (L L' N M : Nat) (w : World) (hL : L ≤ 2000000000) (hL' : L' ≤ 2000000000) (hma : Mag w va L N) (hmb : Mag w vb L' M) (h0 : M ≠ 0) (he : N % M ≠ 0) :
    Calls Try.prog 25 #[.agg #[.bool m, va], .agg #[.bool !m, vb]] w fun e w' => AnsNum2 w w' e (max L 1 + 1) (sgn true (N / M + 1)) (max L L') (sgn (!m) (M - N % M)) := by
  obtain ⟨b0, b1, b2, b3, hB0⟩ := boxed4 w (.bool m) va (.bool !m) vb (.bool false) (.slice none 0 0) (.bool false) (.slice none 0 0) 25
  have HE := Lib.hid he; clear he
  have hma := hma.below hB0
  have hmb := hmb.below hB0
  have HMA := Lib.hid hma; have HMB := Lib.hid hmb; have B0 := Lib.hid b0; have B1 := Lib.hid b1; have B2 := Lib.hid b2; have B3 := Lib.hid b3; have H0 := Lib.hid hB0
  clear hma hmb b0 b1 b2 b3 hB0
  have sc := Sign_any _ L' (sgn (!m) M) _ (by omega) ⟨!m, vb, M, rfl, HMB.out, rfl⟩
  rw [sgn_sign] at sc
  rw [if_neg h0] at sc
  obtain ⟨sv, hsv, hs0⟩ : ∃ sv : Int, (if (!m) = true then (-1 : Int) else 1) = sv ∧ (sv == 0) = false := ⟨_, rfl, by cases m <;> rfl⟩
  rw [hsv] at sc
  have SC := Lib.hid sc; have HN0 := Lib.hid h0
  clear sc h0 hsv
  have hmm : (m == !m) = false := by cases m <;> rfl
  go_enter Try.func25, Try.ntmps25
  go_wp2_with fail
  refine SC.out.mono ?_
  rintro e w1 ⟨rfl, hb1⟩
  have hma := HMA.out.below hb1; have hmb := HMB.out.below hb1; have b0 := B0.out.below hb1; have b1 := B1.out.below hb1; have b2 := B2.out.below hb1; have b3 := B3.out.below hb1
  have hB0 := H0.out.trans (hb1.mono H0.out.size)
  clear hb1 HMA HMB B0 B1 B2 B3 H0
  have HMA := Lib.hid hma; have HMB := Lib.hid hmb; have B0 := Lib.hid b0; have B1 := Lib.hid b1; have B2 := Lib.hid b2; have B3 := Lib.hid b3; have H0 := Lib.hid hB0
  clear hma hmb b0 b1 b2 b3 hB0
  obtain ⟨x0, x1, x2, x3⟩ := B0.out
  obtain ⟨y0, y1, y2, y3⟩ := B1.out
  go_wp2_with fail
  refine (Div_any _ _ L L' N M _ (by omega) (by omega) HMA.out HMB.out).mono ?_
  rintro e w2 ⟨vq, vr, rfl, hq, hr, hb2⟩
  clear x0 x1 x2 x3
  clear y0 y1 y2 y3
  have hma := HMA.out.below hb2; have hmb := HMB.out.below hb2; have b0 := B0.out.below hb2; have b1 := B1.out.below hb2; have b2 := B2.out.below hb2; have b3 := B3.out.below hb2
  have hB0 := H0.out.trans (hb2.mono H0.out.size)
  clear hb2 HMA HMB B0 B1 B2 B3 H0
  have HMA := Lib.hid hma; have HMB := Lib.hid hmb; have B0 := Lib.hid b0; have B1 := Lib.hid b1; have B2 := Lib.hid b2; have B3 := Lib.hid b3; have H0 := Lib.hid hB0
  clear hma hmb b0 b1 b2 b3 hB0
  obtain ⟨ro, rn, rc, rfl⟩ := RMag_pos hr HE.out
  have HQ := Lib.hid hq; have HR := Lib.hid hr; clear hq hr
  obtain ⟨x0, x1, x2, x3⟩ := B0.out
  obtain ⟨y0, y1, y2, y3⟩ := B1.out
  go_wp2
  go_region_held3 (fun w' => w'.cell? ⟨w.heap.size + 1, 1, none⟩ = some vb) (first | with_reducible exact B1.out.drew.c1 | with_reducible exact b1.c1 | with_reducible exact d1.c1 | with_reducible exact f1.c1 | fail)
    (first
      | (go_at_call 46; refine (Of_any 1 _ (by unfold B; omega)).mono ?_; rintro e w5 ⟨v5, rfl, h5, hb5⟩; have b0 := B0.out.drew.below hb5; have b1 := B1.out.drew.below hb5; have b2 := B2.out.drew.below hb5; have b3 := B3.out.drew.below hb5; have hq := HQ.out.drew.below hb5; have hr := HR.out.drew.below hb5; have hmb := HMB.out.drew.below hb5; have hB1 := H0.out.drew'.trans (hb5.mono H0.out.drew'.size); clear hb5)
      | (go_at_call 37; refine (Add_any _ _ L 1 (N / M) 1 _ (by omega) (by omega) hq.mag h5.mag).mono ?_; rintro e w6 ⟨v6, rfl, h6, hb6⟩; have d0 := b0.below hb6; have d1 := b1.below hb6; have d2 := b2.below hb6; have d3 := b3.below hb6; have hr' := hr.below hb6; have hmb' := hmb.below hb6; have hB2 := hB1.trans (hb6.mono hB1.size); clear hb6)
      | (go_at_call 39; refine (Sub_any _ _ L' L M (N % M) _ (by omega) (by omega) hmb' hr'.mag).mono ?_; rintro e w7 ⟨v7, rfl, h7, hb7⟩; have f0 := d0.below hb7; have f1 := d1.below hb7; have f2 := d2.below hb7; have f3 := d3.below hb7; have h6' := h6.below hb7; have hB3 := hB2.trans (hb7.mono hB2.size); clear hb7))
  clear x0 x1 x2 x3
  clear y0 y1 y2 y3
  clear B0 B1 B2 B3 HQ HR H0 b0 b1 b2 b3 d0 d1 d2 d3 hq hr hr' hmb hmb' h5 h6 hB1 hB2
  have B0 := Lib.hid f0; have B1 := Lib.hid f1; have B2 := Lib.hid f2; have B3 := Lib.hid f3; have HQ := Lib.hid h6'; have HR := Lib.hid h7; have H0 := Lib.hid hB3
  clear f0 f1 f2 f3 h6' h7 hB3
  obtain ⟨x0, x1, x2, x3⟩ := B0.out
  obtain ⟨y0, y1, y2, y3⟩ := B1.out
  go_wp2
  go_region_held3 (fun w' => w'.cell? ⟨w.heap.size + 1, 0, none⟩ = some (.bool (!m))) (first | with_reducible exact B1.out.drew.c0 | with_reducible exact b1.c0 | with_reducible exact a1.c0 | with_reducible exact z1.c0 | with_reducible exact z3.c0 | fail)
    (first
      | (go_at_call 36; (with_reducible refine (signed_any true v6 (max L 1 + 1) _ _ HQ.out.drew).mono ?_); rintro e w3 ⟨m2, ao2, n2, c2, rfl, h2, hb2⟩; have b1 := B1.out.drew.below hb2; have b2 := B2.out.drew.below hb2; have b3 := B3.out.drew.below hb2; have hr := HR.out.drew.below hb2; have hB1 := H0.out.drew'.trans (hb2.mono H0.out.drew'.size); clear hb2)
      | (go_at_call 36; (with_reducible refine (signed_any (!m) v7 L' _ _ hr).mono ?_); rintro e w4 ⟨m3, ao3, n3, c3, rfl, h3, hb3⟩; have a1 := b1.below hb3; have a2 := b2.below hb3; have a3 := b3.below hb3; have h2' := h2.below hb3; have hB2 := hB1.trans (hb3.mono hB1.size); have a3' := a3.far2 (g' := w.heap.size + 1 + 1) (by omega) (.bool m2) (.slice ao2 n2 c2); have z1 := a1.far2 (g' := w.heap.size + 1 + 1) (by omega) (.bool m2) (.slice ao2 n2 c2); have z3 := z1.far2 (g' := w.heap.size + 1 + 1 + 1) (by omega) (.bool m3) (.slice ao3 n3 c3); have A2 := Lib.hid a2; have A3 := Lib.hid a3'; obtain ⟨p0, p1, p2, p3⟩ := a2; obtain ⟨q0, q1, q2, q3⟩ := A2.out.set0 (.bool m2); obtain ⟨r0, r1, r2, r3⟩ := a3'; obtain ⟨t0, t1, t2, t3⟩ := A3.out.set0 (.bool m3)))
  have a4 := (A2.out.set2 (.bool m2) (.slice ao2 n2 c2)).far2 (g' := w.heap.size + 1 + 1 + 1) (by omega) (.bool m3) (.slice ao3 n3 c3)
  have k2 := (h2'.set2 A2.out (.bool m2) (.slice ao2 n2 c2)).set2 A3.out (.bool m3) (.slice ao3 n3 c3)
  have k3 := (h3.set2 A2.out (.bool m2) (.slice ao2 n2 c2)).set2 A3.out (.bool m3) (.slice ao3 n3 c3)
  have hB4 := below_set2 (below_set2 hB2 (g := w.heap.size + 1 + 1) (by omega) (.bool m2) (.slice ao2 n2 c2)) (g := w.heap.size + 1 + 1 + 1) (by omega) (.bool m3) (.slice ao3 n3 c3)
  have K2 := Lib.hid k2; have K3 := Lib.hid k3; have H4 := Lib.hid hB4; have A4 := Lib.hid a4
  clear k2 k3 hB4 a4
  go_wp2
  obtain ⟨u0, u1, u2, u3⟩ := A4.out
  exact bodyPost_ret (v := .tuple #[.agg #[.bool m2, .slice ao2 n2 c2], .agg #[.bool m3, .slice ao3 n3 c3]]) (by simp [results, Try.results25, go_sem, u0, u1, r0, r1, t0, t1]) rfl ⟨_, _, _, _, _, _, _, _, rfl, (RNum.of K2.out rfl).more (by omega), (RNum.of K3.out rfl).more (by omega), H4.out⟩
theorem nDiv_any (va vb : Value) (L L' : Nat) (X Y : Int) (w : World) (hL : L ≤ 2000000000) (hL' : L' ≤ 2000000000) (ha : Num w va L X) (hb : Num w vb L' Y) :
    Calls Try.prog 25 #[va, vb] w fun e w' => AnsNum2 w w' e (max L 1 + 1) (X.fdiv Y) (max L L') (X.fmod Y) := by
  obtain ⟨m, va', N, rfl, hma, rfl⟩ := ha
  obtain ⟨k, vb', M, rfl, hmb, rfl⟩ := hb
  by_cases h0 : M = 0
  · refine (Div_zero m k va' vb' L L' N M w hL hL' hma hmb h0).mono fun e w' h => h.of (by omega) (by omega) ?_ ?_
    · subst h0; rw [show sgn k 0 = 0 by cases k <;> rfl]; simp
    · subst h0; rw [show sgn k 0 = 0 by cases k <;> rfl]; simp
  · by_cases hmk : m = k
    · subst hmk
      obtain ⟨e1, e2⟩ := div_same m N M h0
      exact (Div_same m va' vb' L L' N M w hL hL' hma hmb h0).mono fun e w' h => h.of (by omega) (Nat.le_refl _) e1.symm e2.symm
    · have hk : k = !m := by cases m <;> cases k <;> simp at hmk <;> rfl
      subst hk
      by_cases he : N % M = 0
      · obtain ⟨e1, e2⟩ := div_even m N M h0 he
        exact (Div_even m va' vb' L L' N M w hL hL' hma hmb h0 he).mono fun e w' h => h.of (by omega) (Nat.le_refl _) e1.symm (by rw [e2, he])
      · obtain ⟨e1, e2⟩ := div_odd m N M h0 he
        exact (Div_odd m va' vb' L L' N M w hL hL' hma hmb h0 he).mono fun e w' h => h.of (by omega) (Nat.le_refl _) e1.symm e2.symm
end Go.Proofs.Ytbfdianmbpfjmaa
