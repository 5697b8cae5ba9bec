/- The calls of num, on: Add, Sub, Mul. -/
import Derived.Test.YtbfdianmbpfjmaaNumC
namespace Go.Proofs.Ytbfdianmbpfjmaa
open Go.RowKit Go.MagM
set_option maxHeartbeats 4000000 in
theorem Mul_mags (k : Bool) (m : Bool) (va vb : Value) (L L' N M : Nat) (w : World) (hL : L ≤ 2000000000) (hL' : L' ≤ 2000000000) (hma : Mag w va L N) (hmb : Mag w vb L' M) :
    Calls Try.prog 17 #[.agg #[.bool m, va], .agg #[.bool k, vb]] w fun e w' => AnsNum w w' e (L + L') (sgn (m != k) (N * M)) := by
  obtain ⟨ao, an, ac, rfl⟩ := hma.slice
  obtain ⟨bo, bn, bc, rfl⟩ := hmb.slice
  obtain ⟨b0, b1, b2, hB0⟩ := boxed3 w (.bool m) (.slice ao an ac) (.bool k) (.slice bo bn bc) (.bool false) (.slice none 0 0) 25
  have hma := hma.below hB0
  have hmb := hmb.below hB0
  have HMA := Lib.hid hma; have HMB := Lib.hid hmb; have B0 := Lib.hid b0; have B1 := Lib.hid b1; have B2 := Lib.hid b2; have H0 := Lib.hid hB0
  clear hma hmb b0 b1 b2 hB0
  go_enter Try.func17, Try.ntmps17
  go_wp2
  generalize (((w.alloc (Obj.cells #[Value.bool m, Value.slice ao an ac] 25)).alloc (Obj.cells #[Value.bool k, Value.slice bo bn bc] 25)).alloc (Obj.cells #[Value.bool false, Value.slice none 0 0] 25)) = W at *
  have c0 := B0.out.c0; have c1 := B0.out.c1; have d0 := B1.out.c0; have d1 := B1.out.c1
  go_region_held3 (fun w' => w'.cell? ⟨w.heap.size, 0, none⟩ = some (.bool m) ∧ w'.cell? ⟨w.heap.size, 1, none⟩ = some (.slice ao an ac) ∧ w'.cell? ⟨w.heap.size + 1, 0, none⟩ = some (.bool k) ∧ w'.cell? ⟨w.heap.size + 1, 1, none⟩ = some (.slice bo bn bc)) (first | with_reducible exact ⟨B0.out.drew.c0, B0.out.drew.c1, B1.out.drew.c0, B1.out.drew.c1⟩ | with_reducible exact ⟨b0.c0, b0.c1, b1.c0, b1.c1⟩ | with_reducible exact ⟨a0.c0, a0.c1, a1.c0, a1.c1⟩ | with_reducible exact ⟨z0.c0, z0.c1, z1.c0, z1.c1⟩ | fail)
    (first
      | (go_at_call 40; refine (Mul_any _ _ L L' N M _ (by omega) (by omega) HMA.out.drew HMB.out.drew).mono ?_; rintro e w1 ⟨v1, rfl, h1, hb1⟩; have b0 := B0.out.drew.below hb1; have b1 := B1.out.drew.below hb1; have b2 := B2.out.drew.below hb1; have hB1 := H0.out.drew'.trans (hb1.mono H0.out.drew'.size); clear hb1)
      | (go_at_call 36; refine (signed_any _ _ (L + L') _ _ h1).mono ?_; rintro e w2 ⟨m2, ao2, n2, c2, rfl, h2, hb2⟩; have a0 := b0.below hb2; have a1 := b1.below hb2; obtain ⟨p0, p1, p2, p3⟩ := b2.below hb2; obtain ⟨q0, q1, q2, q3⟩ := (Box2.mk p0 p1 p2 p3).set0 (.bool m2); have z0 := a0.far2 (g' := w.heap.size + 1 + 1) (by omega) (.bool m2) (.slice ao2 n2 c2); have z1 := a1.far2 (g' := w.heap.size + 1 + 1) (by omega) (.bool m2) (.slice ao2 n2 c2); have hB2 := hB1.trans (hb2.mono hB1.size)))
  go_wp2
  exact bodyPost_ret (v := .agg #[.bool m2, .slice ao2 n2 c2]) (by simp [results, Try.results17, go_sem, p0, p1]) rfl ⟨_, _, _, _, rfl, ((RNum.of h2 rfl).more (by omega)).set2 ⟨p0, p1, p2, p3⟩ _ _, below_set2 hB2 (by omega) _ _⟩
set_option maxHeartbeats 4000000 in
theorem Add_same (m : Bool) (va vb : Value) (L L' N M : Nat) (w : World) (hL : L ≤ 2000000000) (hL' : L' ≤ 2000000000) (hma : Mag w va L N) (hmb : Mag w vb L' M) :
    Calls Try.prog 15 #[.agg #[.bool m, va], .agg #[.bool m, vb]] w fun e w' => AnsNum w w' e (max L L' + 1) (sgn m (N + M)) := by
  obtain ⟨ao, an, ac, rfl⟩ := hma.slice
  obtain ⟨bo, bn, bc, rfl⟩ := hmb.slice
  obtain ⟨b0, b1, b2, hB0⟩ := boxed3 w (.bool m) (.slice ao an ac) (.bool m) (.slice bo bn bc) (.bool false) (.slice none 0 0) 25
  have hma := hma.below hB0
  have hmb := hmb.below hB0
  have HMA := Lib.hid hma; have HMB := Lib.hid hmb; have B0 := Lib.hid b0; have B1 := Lib.hid b1; have B2 := Lib.hid b2; have H0 := Lib.hid hB0
  clear hma hmb b0 b1 b2 hB0
  have hmm : (m == m) = true := by simp
  go_enter Try.func15, Try.ntmps15
  go_wp2
  generalize (((w.alloc (Obj.cells #[Value.bool m, Value.slice ao an ac] 25)).alloc (Obj.cells #[Value.bool m, Value.slice bo bn bc] 25)).alloc (Obj.cells #[Value.bool false, Value.slice none 0 0] 25)) = W at *
  have c0 := B0.out.c0; have c1 := B0.out.c1; have d0 := B1.out.c0; have d1 := B1.out.c1
  go_region_held3 (fun w' => w'.cell? ⟨w.heap.size, 0, none⟩ = some (.bool m) ∧ w'.cell? ⟨w.heap.size, 1, none⟩ = some (.slice ao an ac) ∧ w'.cell? ⟨w.heap.size + 1, 0, none⟩ = some (.bool m) ∧ w'.cell? ⟨w.heap.size + 1, 1, none⟩ = some (.slice bo bn bc)) (first | with_reducible exact ⟨B0.out.drew.c0, B0.out.drew.c1, B1.out.drew.c0, B1.out.drew.c1⟩ | with_reducible exact ⟨b0.c0, b0.c1, b1.c0, b1.c1⟩ | with_reducible exact ⟨a0.c0, a0.c1, a1.c0, a1.c1⟩ | with_reducible exact ⟨z0.c0, z0.c1, z1.c0, z1.c1⟩ | fail)
    (first
      | (go_at_call 37; refine (Add_any _ _ L L' N M _ (by omega) (by omega) HMA.out.drew HMB.out.drew).mono ?_; rintro e w1 ⟨v1, rfl, h1, hb1⟩; have b0 := B0.out.drew.below hb1; have b1 := B1.out.drew.below hb1; have b2 := B2.out.drew.below hb1; have hB1 := H0.out.drew'.trans (hb1.mono H0.out.drew'.size); clear hb1)
      | (go_at_call 36; refine (signed_any _ _ (max L L' + 1) _ _ h1).mono ?_; rintro e w2 ⟨m2, ao2, n2, c2, rfl, h2, hb2⟩; have a0 := b0.below hb2; have a1 := b1.below hb2; obtain ⟨p0, p1, p2, p3⟩ := b2.below hb2; obtain ⟨q0, q1, q2, q3⟩ := (Box2.mk p0 p1 p2 p3).set0 (.bool m2); have z0 := a0.far2 (g' := w.heap.size + 1 + 1) (by omega) (.bool m2) (.slice ao2 n2 c2); have z1 := a1.far2 (g' := w.heap.size + 1 + 1) (by omega) (.bool m2) (.slice ao2 n2 c2); have hB2 := hB1.trans (hb2.mono hB1.size)))
  go_wp2
  exact bodyPost_ret (v := .agg #[.bool m2, .slice ao2 n2 c2]) (by simp [results, Try.results15, go_sem, p0, p1]) rfl ⟨_, _, _, _, rfl, ((RNum.of h2 rfl).more (by omega)).set2 ⟨p0, p1, p2, p3⟩ _ _, below_set2 hB2 (by omega) _ _⟩
set_option maxHeartbeats 4000000 in
theorem Add_more (m : Bool) (va vb : Value) (L L' N M : Nat) (w : World) (hL : L ≤ 2000000000) (hL' : L' ≤ 2000000000) (hma : Mag w va L N) (hmb : Mag w vb L' M) (h : M < N) :
    Calls Try.prog 15 #[.agg #[.bool m, va], .agg #[.bool !m, vb]] w fun e w' => AnsNum w w' e (max L L' + 1) (sgn m (N - M)) := by
  obtain ⟨ao, an, ac, rfl⟩ := hma.slice
  obtain ⟨bo, bn, bc, rfl⟩ := hmb.slice
  obtain ⟨b0, b1, b2, hB0⟩ := boxed3 w (.bool m) (.slice ao an ac) (.bool (!m)) (.slice bo bn bc) (.bool false) (.slice none 0 0) 25
  have hma := hma.below hB0
  have hmb := hmb.below hB0
  have HMA := Lib.hid hma; have HMB := Lib.hid hmb; have B0 := Lib.hid b0; have B1 := Lib.hid b1; have B2 := Lib.hid b2; have H0 := Lib.hid hB0
  clear hma hmb b0 b1 b2 hB0
  have hmm : (m == !m) = false := by cases m <;> rfl
  have cc := Cmp_any _ _ L L' N M _ (by omega) (by omega) HMA.out HMB.out
  rw [show cmpn N M = 1 from cmpn_of_gt h] at cc
  have CC := Lib.hid cc; clear cc h
  go_enter Try.func15, Try.ntmps15
  go_wp2_with fail
  refine (CC.out).mono ?_
  rintro e w1 ⟨q, rfl, hq⟩
  obtain ⟨hb1, hz⟩ := drewN_size hq
  clear hq hz
  have b0 := B0.out.below hb1; have b1 := B1.out.below hb1; have b2 := B2.out.below hb1
  have hma := HMA.out.below hb1; have hmb := HMB.out.below hb1
  have hB0 := H0.out.trans (hb1.mono H0.out.size)
  clear hb1 B0 B1 B2 HMA HMB H0
  have B0 := Lib.hid b0; have B1 := Lib.hid b1; have B2 := Lib.hid b2; have H0 := Lib.hid hB0; have HMA := Lib.hid hma; have HMB := Lib.hid hmb
  clear b0 b1 b2 hB0 hma hmb
  go_wp2
  have c0 := B0.out.c0; have c1 := B0.out.c1; have d0 := B1.out.c0; have d1 := B1.out.c1
  go_region_held3 (fun w' => w'.cell? ⟨w.heap.size, 0, none⟩ = some (.bool m) ∧ w'.cell? ⟨w.heap.size, 1, none⟩ = some (.slice ao an ac) ∧ w'.cell? ⟨w.heap.size + 1, 0, none⟩ = some (.bool (!m)) ∧ w'.cell? ⟨w.heap.size + 1, 1, none⟩ = some (.slice bo bn bc)) (first | with_reducible exact ⟨B0.out.drew.c0, B0.out.drew.c1, B1.out.drew.c0, B1.out.drew.c1⟩ | with_reducible exact ⟨b0.c0, b0.c1, b1.c0, b1.c1⟩ | with_reducible exact ⟨a0.c0, a0.c1, a1.c0, a1.c1⟩ | with_reducible exact ⟨z0.c0, z0.c1, z1.c0, z1.c1⟩ | fail)
    (first
      | (go_at_call 39; refine (Sub_any _ _ L L' N M _ (by omega) (by omega) HMA.out.drew HMB.out.drew).mono ?_; rintro e w1 ⟨v1, rfl, h1, hb1⟩; have b0 := B0.out.drew.below hb1; have b1 := B1.out.drew.below hb1; have b2 := B2.out.drew.below hb1; have hB1 := H0.out.drew'.trans (hb1.mono H0.out.drew'.size); clear hb1)
      | (go_at_call 36; refine (signed_any _ _ L _ _ h1).mono ?_; rintro e w2 ⟨m2, ao2, n2, c2, rfl, h2, hb2⟩; have a0 := b0.below hb2; have a1 := b1.below hb2; obtain ⟨p0, p1, p2, p3⟩ := b2.below hb2; obtain ⟨q0, q1, q2, q3⟩ := (Box2.mk p0 p1 p2 p3).set0 (.bool m2); have z0 := a0.far2 (g' := w.heap.size + 1 + 1) (by omega) (.bool m2) (.slice ao2 n2 c2); have z1 := a1.far2 (g' := w.heap.size + 1 + 1) (by omega) (.bool m2) (.slice ao2 n2 c2); have hB2 := hB1.trans (hb2.mono hB1.size)))
  go_wp2
  exact bodyPost_ret (v := .agg #[.bool m2, .slice ao2 n2 c2]) (by simp [results, Try.results15, go_sem, p0, p1]) rfl ⟨_, _, _, _, rfl, ((RNum.of h2 rfl).more (by omega)).set2 ⟨p0, p1, p2, p3⟩ _ _, below_set2 hB2 (by omega) _ _⟩
set_option maxHeartbeats 4000000 in
theorem Add_even (m : Bool) (va vb : Value) (L L' N M : Nat) (w : World) (hL : L ≤ 2000000000) (hL' : L' ≤ 2000000000) (hma : Mag w va L N) (hmb : Mag w vb L' M) (h : N = M) :
    Calls Try.prog 15 #[.agg #[.bool m, va], .agg #[.bool !m, vb]] w fun e w' => AnsNum w w' e (max L L' + 1) (sgn m (N - M)) := by
  obtain ⟨ao, an, ac, rfl⟩ := hma.slice
  obtain ⟨bo, bn, bc, rfl⟩ := hmb.slice
  obtain ⟨b0, b1, b2, hB0⟩ := boxed3 w (.bool m) (.slice ao an ac) (.bool (!m)) (.slice bo bn bc) (.bool false) (.slice none 0 0) 25
  have hma := hma.below hB0
  have hmb := hmb.below hB0
  have HMA := Lib.hid hma; have HMB := Lib.hid hmb; have B0 := Lib.hid b0; have B1 := Lib.hid b1; have B2 := Lib.hid b2; have H0 := Lib.hid hB0
  clear hma hmb b0 b1 b2 hB0
  have hmm : (m == !m) = false := by cases m <;> rfl
  have cc := Cmp_any _ _ L L' N M _ (by omega) (by omega) HMA.out HMB.out
  rw [show cmpn N M = 0 from (by rw [h]; exact cmpn_self _)] at cc
  have CC := Lib.hid cc; clear cc h
  go_enter Try.func15, Try.ntmps15
  go_wp2_with fail
  refine (CC.out).mono ?_
  rintro e w1 ⟨q, rfl, hq⟩
  obtain ⟨hb1, hz⟩ := drewN_size hq
  clear hq hz
  have b0 := B0.out.below hb1; have b1 := B1.out.below hb1; have b2 := B2.out.below hb1
  have hma := HMA.out.below hb1; have hmb := HMB.out.below hb1
  have hB0 := H0.out.trans (hb1.mono H0.out.size)
  clear hb1 B0 B1 B2 HMA HMB H0
  have B0 := Lib.hid b0; have B1 := Lib.hid b1; have B2 := Lib.hid b2; have H0 := Lib.hid hB0; have HMA := Lib.hid hma; have HMB := Lib.hid hmb
  clear b0 b1 b2 hB0 hma hmb
  go_wp2
  have c0 := B0.out.c0; have c1 := B0.out.c1; have d0 := B1.out.c0; have d1 := B1.out.c1
  go_region_held3 (fun w' => w'.cell? ⟨w.heap.size, 0, none⟩ = some (.bool m) ∧ w'.cell? ⟨w.heap.size, 1, none⟩ = some (.slice ao an ac) ∧ w'.cell? ⟨w.heap.size + 1, 0, none⟩ = some (.bool (!m)) ∧ w'.cell? ⟨w.heap.size + 1, 1, none⟩ = some (.slice bo bn bc)) (first | with_reducible exact ⟨B0.out.drew.c0, B0.out.drew.c1, B1.out.drew.c0, B1.out.drew.c1⟩ | with_reducible exact ⟨b0.c0, b0.c1, b1.c0, b1.c1⟩ | with_reducible exact ⟨a0.c0, a0.c1, a1.c0, a1.c1⟩ | with_reducible exact ⟨z0.c0, z0.c1, z1.c0, z1.c1⟩ | fail)
    (first
      | (go_at_call 39; refine (Sub_any _ _ L L' N M _ (by omega) (by omega) HMA.out.drew HMB.out.drew).mono ?_; rintro e w1 ⟨v1, rfl, h1, hb1⟩; have b0 := B0.out.drew.below hb1; have b1 := B1.out.drew.below hb1; have b2 := B2.out.drew.below hb1; have hB1 := H0.out.drew'.trans (hb1.mono H0.out.drew'.size); clear hb1)
      | (go_at_call 36; refine (signed_any _ _ L _ _ h1).mono ?_; rintro e w2 ⟨m2, ao2, n2, c2, rfl, h2, hb2⟩; have a0 := b0.below hb2; have a1 := b1.below hb2; obtain ⟨p0, p1, p2, p3⟩ := b2.below hb2; obtain ⟨q0, q1, q2, q3⟩ := (Box2.mk p0 p1 p2 p3).set0 (.bool m2); have z0 := a0.far2 (g' := w.heap.size + 1 + 1) (by omega) (.bool m2) (.slice ao2 n2 c2); have z1 := a1.far2 (g' := w.heap.size + 1 + 1) (by omega) (.bool m2) (.slice ao2 n2 c2); have hB2 := hB1.trans (hb2.mono hB1.size)))
  go_wp2
  exact bodyPost_ret (v := .agg #[.bool m2, .slice ao2 n2 c2]) (by simp [results, Try.results15, go_sem, p0, p1]) rfl ⟨_, _, _, _, rfl, ((RNum.of h2 rfl).more (by omega)).set2 ⟨p0, p1, p2, p3⟩ _ _, below_set2 hB2 (by omega) _ _⟩
set_option maxHeartbeats 4000000 in
theorem Add_less (m : Bool) (va vb : Value) (L L' N M : Nat) (w : World) (hL : L ≤ 2000000000) (hL' : L' ≤ 2000000000) (hma : Mag w va L N) (hmb : Mag w vb L' M) (h : N < M) :
    Calls Try.prog 15 #[.agg #[.bool m, va], .agg #[.bool !m, vb]] w fun e w' => AnsNum w w' e (max L L' + 1) (sgn (!m) (M - N)) := by
  obtain ⟨ao, an, ac, rfl⟩ := hma.slice
  obtain ⟨bo, bn, bc, rfl⟩ := hmb.slice
  obtain ⟨b0, b1, b2, hB0⟩ := boxed3 w (.bool m) (.slice ao an ac) (.bool (!m)) (.slice bo bn bc) (.bool false) (.slice none 0 0) 25
  have hma := hma.below hB0
  have hmb := hmb.below hB0
  have HMA := Lib.hid hma; have HMB := Lib.hid hmb; have B0 := Lib.hid b0; have B1 := Lib.hid b1; have B2 := Lib.hid b2; have H0 := Lib.hid hB0
  clear hma hmb b0 b1 b2 hB0
  have hmm : (m == !m) = false := by cases m <;> rfl
  have cc := Cmp_any _ _ L L' N M _ (by omega) (by omega) HMA.out HMB.out
  rw [show cmpn N M = -1 from cmpn_of_lt h] at cc
  have CC := Lib.hid cc; clear cc h
  go_enter Try.func15, Try.ntmps15
  go_wp2_with fail
  refine (CC.out).mono ?_
  rintro e w1 ⟨q, rfl, hq⟩
  obtain ⟨hb1, hz⟩ := drewN_size hq
  clear hq hz
  have b0 := B0.out.below hb1; have b1 := B1.out.below hb1; have b2 := B2.out.below hb1
  have hma := HMA.out.below hb1; have hmb := HMB.out.below hb1
  have hB0 := H0.out.trans (hb1.mono H0.out.size)
  clear hb1 B0 B1 B2 HMA HMB H0
  have hB3 : Below w.heap.size w (((((w1.setCell ⟨w.heap.size, 0, none⟩ (.bool !m)).setCell ⟨w.heap.size, 1, none⟩ (.slice bo bn bc)).setCell ⟨w.heap.size + 1, 0, none⟩ (.bool m)).setCell ⟨w.heap.size + 1, 1, none⟩ (.slice ao an ac))) := below_set2 (below_set2 hB0 (by omega) _ _) (by omega) _ _
  have e0 := (b0.set2 (.bool !m) (.slice bo bn bc)).far2 (g' := w.heap.size + 1) (by omega) (.bool m) (.slice ao an ac)
  have e1 := (b1.far2 (g' := w.heap.size) (by omega) (.bool !m) (.slice bo bn bc)).set2 (.bool m) (.slice ao an ac)
  have e2 := (b2.far2 (g' := w.heap.size) (by omega) (.bool !m) (.slice bo bn bc)).far2 (g' := w.heap.size + 1) (by omega) (.bool m) (.slice ao an ac)
  have hma' := (hma.set2 b0 (.bool !m) (.slice bo bn bc)).set2 (b1.far2 (g' := w.heap.size) (by omega) (.bool !m) (.slice bo bn bc)) (.bool m) (.slice ao an ac)
  have hmb' := (hmb.set2 b0 (.bool !m) (.slice bo bn bc)).set2 (b1.far2 (g' := w.heap.size) (by omega) (.bool !m) (.slice bo bn bc)) (.bool m) (.slice ao an ac)
  have E0 := Lib.hid e0; have E1 := Lib.hid e1; have E2 := Lib.hid e2; have H3 := Lib.hid hB3; have HMA := Lib.hid hma'; have HMB := Lib.hid hmb'
  have b0' := b0.set0 (.bool !m); have b1' := (b1.far2 (g' := w.heap.size) (by omega) (.bool !m) (.slice bo bn bc)).set0 (.bool m)
  have b1'' := b1.far2 (g' := w.heap.size) (by omega) (.bool !m) (.slice bo bn bc)
  obtain ⟨x0, x1, x2, x3⟩ := b0
  obtain ⟨y0, y1, y2, y3⟩ := b1
  obtain ⟨s0, s1, s2, s3⟩ := b0'
  obtain ⟨t0, t1, t2, t3⟩ := b1'
  obtain ⟨u0, u1, u2, u3⟩ := b1''
  clear e0 e1 e2 hB3 hma' hmb' hma hmb b2
  go_wp2
  clear x0 x1 x2 x3 y0 y1 y2 y3 s0 s1 s2 s3 t0 t1 t2 t3 u0 u1 u2 u3 hB0
  generalize ((((w1.setCell ⟨w.heap.size, 0, none⟩ (.bool !m)).setCell ⟨w.heap.size, 1, none⟩ (.slice bo bn bc)).setCell ⟨w.heap.size + 1, 0, none⟩ (.bool m)).setCell ⟨w.heap.size + 1, 1, none⟩ (.slice ao an ac)) = W at *
  have B0 := E0; have B1 := E1; have B2 := E2; have H0 := H3
  have c0 := B0.out.c0; have c1 := B0.out.c1; have d0 := B1.out.c0; have d1 := B1.out.c1
  go_region_held3 (fun w' => w'.cell? ⟨w.heap.size, 0, none⟩ = some (.bool (!m)) ∧ w'.cell? ⟨w.heap.size, 1, none⟩ = some (.slice bo bn bc) ∧ w'.cell? ⟨w.heap.size + 1, 0, none⟩ = some (.bool m) ∧ w'.cell? ⟨w.heap.size + 1, 1, none⟩ = some (.slice ao an ac)) (first | with_reducible exact ⟨B0.out.drew.c0, B0.out.drew.c1, B1.out.drew.c0, B1.out.drew.c1⟩ | with_reducible exact ⟨b0.c0, b0.c1, b1.c0, b1.c1⟩ | with_reducible exact ⟨a0.c0, a0.c1, a1.c0, a1.c1⟩ | with_reducible exact ⟨z0.c0, z0.c1, z1.c0, z1.c1⟩ | fail)
    (first
      | (go_at_call 39; refine (Sub_any _ _ L' L M N _ (by omega) (by omega) HMB.out.drew HMA.out.drew).mono ?_; rintro e w1 ⟨v1, rfl, h1, hb1⟩; have b0 := B0.out.drew.below hb1; have b1 := B1.out.drew.below hb1; have b2 := B2.out.drew.below hb1; have hB1 := H0.out.drew'.trans (hb1.mono H0.out.drew'.size); clear hb1)
      | (go_at_call 36; refine (signed_any _ _ L' _ _ h1).mono ?_; rintro e w2 ⟨m2, ao2, n2, c2, rfl, h2, hb2⟩; have a0 := b0.below hb2; have a1 := b1.below hb2; obtain ⟨p0, p1, p2, p3⟩ := b2.below hb2; obtain ⟨q0, q1, q2, q3⟩ := (Box2.mk p0 p1 p2 p3).set0 (.bool m2); have z0 := a0.far2 (g' := w.heap.size + 1 + 1) (by omega) (.bool m2) (.slice ao2 n2 c2); have z1 := a1.far2 (g' := w.heap.size + 1 + 1) (by omega) (.bool m2) (.slice ao2 n2 c2); have hB2 := hB1.trans (hb2.mono hB1.size)))
  go_wp2
  exact bodyPost_ret (v := .agg #[.bool m2, .slice ao2 n2 c2]) (by simp [results, Try.results15, go_sem, p0, p1]) rfl ⟨_, _, _, _, rfl, ((RNum.of h2 rfl).more (by omega)).set2 ⟨p0, p1, p2, p3⟩ _ _, below_set2 hB2 (by omega) _ _⟩
end Go.Proofs.Ytbfdianmbpfjmaa
