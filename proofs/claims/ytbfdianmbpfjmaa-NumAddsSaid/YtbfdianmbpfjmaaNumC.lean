/- The calls of num, on: Cmp, Add, Sub, Mul. -/
import Derived.Test.YtbfdianmbpfjmaaNumB
namespace Go.Proofs.Ytbfdianmbpfjmaa
open Go.RowKit Go.MagM
theorem cmpn_eq (x y : Nat) : cmpn x y = icmp (x : Int) (y : Int) := by
  rcases Nat.lt_trichotomy x y with h | h | h
  · rw [cmpn_of_lt h, icmp_lt (by omega)]
  · rw [h, cmpn_self, icmp_self]
  · rw [cmpn_of_gt h, icmp_gt (by omega)]
theorem icmp_bd (x y : Int) : -1 ≤ icmp x y ∧ icmp x y ≤ 1 := by
  unfold icmp; split
  · omega
  · split <;> omega
theorem icmp_signs {X Y : Int} (h : X.sign ≠ Y.sign) : icmp X.sign Y.sign = icmp X Y := by
  rcases Int.lt_trichotomy X 0 with hx | hx | hx <;> rcases Int.lt_trichotomy Y 0 with hy | hy | hy
  all_goals
    first | simp only [Int.sign_eq_neg_one_of_neg hx] at h ⊢ | simp only [Int.sign_eq_one_of_pos hx] at h ⊢ | (subst hx; simp only [Int.sign_zero] at h ⊢)
    first | simp only [Int.sign_eq_neg_one_of_neg hy] at h ⊢ | simp only [Int.sign_eq_one_of_pos hy] at h ⊢ | (subst hy; simp only [Int.sign_zero] at h ⊢)
  all_goals first | exact absurd rfl h | (unfold icmp; (repeat' split) <;> omega)
theorem icmp_mags (m m' : Bool) (N M : Nat) (h : (sgn m N).sign = (sgn m' M).sign) : (sgn m N).sign * icmp (N : Int) (M : Int) = icmp (sgn m N) (sgn m' M) := by
  rw [sgn_sign, sgn_sign] at h
  rw [sgn_sign]
  by_cases h0 : N = 0
  · rw [if_pos h0] at h ⊢
    have : M = 0 := by
      by_cases hM : M = 0
      · exact hM
      · rw [if_neg hM] at h; cases m' <;> simp at h
    subst h0; subst this
    rw [show sgn m 0 = 0 by cases m <;> rfl, show sgn m' 0 = 0 by cases m' <;> rfl, icmp_self]; rfl
  · rw [if_neg h0] at h ⊢
    have hM : M ≠ 0 := by
      intro hM; rw [if_pos hM] at h; cases m <;> simp at h
    rw [if_neg hM] at h
    have hm : m = m' := by cases m <;> cases m' <;> simp at h <;> rfl
    subst hm
    cases m with
    | true =>
      simp only [sgn, if_true]
      rcases Int.lt_trichotomy (N : Int) (M : Int) with g | g | g
      · rw [icmp_lt g, icmp_gt (by omega)]; rfl
      · rw [g, icmp_self, icmp_self]; rfl
      · rw [icmp_gt g, icmp_lt (by omega)]; rfl
    | false => simp [sgn]
set_option maxHeartbeats 4000000 in
theorem Cmp_ne (va vb : Value) (L L' : Nat) (X Y : Int) (w : World) (hL : L ≤ 4000000000) (hL' : L' ≤ 4000000000) (ha : Num w va L X) (hb : Num w vb L' Y) (hs : X.sign ≠ Y.sign) :
    Calls Try.prog 19 #[va, vb] w fun e w' => e = .returned (.int .i64 (icmp X Y)) ∧ Below w.heap.size w w' := by
  obtain ⟨m, va', N, rfl, hma, hX⟩ := ha
  obtain ⟨k, vb', M, rfl, hmb, hY⟩ := hb
  have hAN : Num w (.agg #[.bool m, va']) L X := ⟨m, va', N, rfl, hma, hX⟩
  have hBN : Num w (.agg #[.bool k, vb']) L' Y := ⟨k, vb', M, rfl, hmb, hY⟩
  obtain ⟨b0, b1, hB0⟩ := boxed2 w (.bool m) va' (.bool k) vb' 25
  have s1 := fun w' (h : Below w.heap.size w w') => Sign_any _ L X w' hL (hAN.below h)
  have s2 := fun w' (h : Below w.heap.size w w') => Sign_any _ L' Y w' hL' (hBN.below h)
  have hfin := icmp_signs hs
  obtain ⟨sx, hsx⟩ : ∃ sx, X.sign = sx := ⟨_, rfl⟩
  obtain ⟨sy, hsy⟩ : ∃ sy, Y.sign = sy := ⟨_, rfl⟩
  rw [hsx, hsy] at hs hfin
  rw [hsx] at s1; rw [hsy] at s2
  have hne : (sx != sy) = true := by simp [hs]
  have S1 := Lib.hid s1; have S2 := Lib.hid s2; have HF := Lib.hid hfin
  clear s1 s2 hfin hsx hsy hs hX hY
  have B0 := Lib.hid b0; have B1 := Lib.hid b1; have H0 := Lib.hid hB0
  clear b0 b1 hB0 hma hmb hAN hBN
  go_enter Try.func19, Try.ntmps19
  go_wp2_with fail
  refine (S1.out _ H0.out).mono ?_
  rintro e w1 ⟨rfl, hb1⟩
  have b0 := B0.out.below hb1; have b1 := B1.out.below hb1
  have hB1 := H0.out.trans (hb1.mono H0.out.size)
  have B0 := Lib.hid b0; have B1 := Lib.hid b1
  obtain ⟨x0, x1, x2, x3⟩ := b0
  obtain ⟨y0, y1, y2, y3⟩ := b1
  clear hb1
  go_wp2_with fail
  refine (S2.out _ hB1).mono ?_
  rintro e w2 ⟨rfl, hb2⟩
  clear x0 x1 x2 x3 y0 y1 y2 y3
  have b0 := B0.out.below hb2; have b1 := B1.out.below hb2
  have hB2 := hB1.trans (hb2.mono hB1.size)
  have B0 := Lib.hid b0; have B1 := Lib.hid b1
  obtain ⟨x0, x1, x2, x3⟩ := b0
  obtain ⟨y0, y1, y2, y3⟩ := b1
  clear hb2
  go_wp2_with fail
  refine (S2.out _ hB2).mono ?_
  rintro e w3 ⟨rfl, hb3⟩
  have hB3 := hB2.trans (hb3.mono hB2.size)
  clear hb3
  go_wp2_with fail
  refine (cmp_Int _ _ _).mono ?_
  rintro e w' ⟨rfl, rfl⟩
  go_wp2
  go_ret
  exact ⟨by rw [HF.out]; rfl, hB3⟩
set_option maxHeartbeats 4000000 in
theorem Cmp_eq (va vb : Value) (L L' : Nat) (X Y : Int) (w : World) (hL : L ≤ 4000000000) (hL' : L' ≤ 4000000000) (ha : Num w va L X) (hb : Num w vb L' Y) (hs : X.sign = Y.sign) :
    Calls Try.prog 19 #[va, vb] w fun e w' => e = .returned (.int .i64 (icmp X Y)) ∧ Below w.heap.size w w' := by
  obtain ⟨m, va', N, rfl, hma, hX⟩ := ha
  obtain ⟨k, vb', M, rfl, hmb, hY⟩ := hb
  have hAN : Num w (.agg #[.bool m, va']) L X := ⟨m, va', N, rfl, hma, hX⟩
  have hBN : Num w (.agg #[.bool k, vb']) L' Y := ⟨k, vb', M, rfl, hmb, hY⟩
  obtain ⟨b0, b1, hB0⟩ := boxed2 w (.bool m) va' (.bool k) vb' 25
  have s1 := fun w' (h : Below w.heap.size w w') => Sign_any _ L X w' hL (hAN.below h)
  have s2 := fun w' (h : Below w.heap.size w w') => Sign_any _ L' Y w' hL' (hBN.below h)
  have hfin := icmp_mags m k N M (by rw [← hX, ← hY]; exact hs)
  rw [← hX, ← hY] at hfin
  obtain ⟨sx, hsx⟩ : ∃ sx, X.sign = sx := ⟨_, rfl⟩
  rw [← hs] at s2
  rw [hsx] at s1 s2 hfin
  have hsb : sx = -1 ∨ sx = 0 ∨ sx = 1 := by
    rw [← hsx]
    rcases Int.lt_trichotomy X 0 with h | h | h
    · exact .inl (Int.sign_eq_neg_one_of_neg h)
    · right; left; rw [h]; rfl
    · exact .inr (.inr (Int.sign_eq_one_of_pos h))
  have hne : (sx != sx) = false := by simp
  have cc := fun w' (h : Below w.heap.size w w') => Cmp_any va' vb' L L' N M w' hL hL' (hma.below h) (hmb.below h)
  rw [cmpn_eq] at cc
  have hcb := icmp_bd (N : Int) (M : Int)
  obtain ⟨cm, hcm⟩ : ∃ cm, icmp (N : Int) (M : Int) = cm := ⟨_, rfl⟩
  rw [hcm] at cc hcb hfin
  obtain ⟨hc1, hc2⟩ := hcb
  have hwr : IntKind.i64.wrap (sx * cm) = sx * cm := by
    apply IntWalk.i64_in
    rcases hsb with rfl | rfl | rfl <;> omega
  have CC := Lib.hid cc; have S1 := Lib.hid s1; have S2 := Lib.hid s2; have HF := Lib.hid hfin; have HW := Lib.hid hwr
  clear s1 s2 hfin hsx hs hcm cc hX hY hsb hwr
  have B0 := Lib.hid b0; have B1 := Lib.hid b1; have H0 := Lib.hid hB0
  clear b0 b1 hB0 hma hmb hAN hBN
  go_enter Try.func19, Try.ntmps19
  go_wp2_with fail
  refine (S1.out _ H0.out).mono ?_
  rintro e w1 ⟨rfl, hb1⟩
  have b0 := B0.out.below hb1; have b1 := B1.out.below hb1
  have hB1 := H0.out.trans (hb1.mono H0.out.size)
  have B0 := Lib.hid b0; have B1 := Lib.hid b1
  obtain ⟨x0, x1, x2, x3⟩ := b0
  obtain ⟨y0, y1, y2, y3⟩ := b1
  clear hb1
  go_wp2_with fail
  refine (S2.out _ hB1).mono ?_
  rintro e w2 ⟨rfl, hb2⟩
  clear x0 x1 x2 x3 y0 y1 y2 y3
  have b0 := B0.out.below hb2; have b1 := B1.out.below hb2
  have hB2 := hB1.trans (hb2.mono hB1.size)
  have B0 := Lib.hid b0; have B1 := Lib.hid b1
  obtain ⟨x0, x1, x2, x3⟩ := b0
  obtain ⟨y0, y1, y2, y3⟩ := b1
  clear hb2
  go_wp2_with fail
  refine (CC.out _ hB2).mono ?_
  rintro e w3 ⟨q, rfl, hq⟩
  have hb3 : Below w2.heap.size w2 w3 := by rw [hq]; exact (drewN_size rfl).1
  clear hq
  have hB3 := hB2.trans (hb3.mono hB2.size)
  clear hb3
  go_wp2
  go_ret
  have hz : wrap64 (sx * cm) = icmp X Y := by rw [← IntWalk.i64_left, HW.out, HF.out]
  exact ⟨congrArg (fun z => Ending.returned (.int .i64 z)) hz, hB3⟩
theorem nCmp_any (va vb : Value) (L L' : Nat) (X Y : Int) (w : World) (hL : L ≤ 4000000000) (hL' : L' ≤ 4000000000) (ha : Num w va L X) (hb : Num w vb L' Y) :
    Calls Try.prog 19 #[va, vb] w fun e w' => e = .returned (.int .i64 (icmp X Y)) ∧ Below w.heap.size w w' := by
  by_cases hs : X.sign = Y.sign
  · exact Cmp_eq va vb L L' X Y w hL hL' ha hb hs
  · exact Cmp_ne va vb L L' X Y w hL hL' ha hb hs
end Go.Proofs.Ytbfdianmbpfjmaa
