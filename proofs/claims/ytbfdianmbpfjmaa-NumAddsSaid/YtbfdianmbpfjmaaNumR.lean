/- The document's numbers with a sign, by digits: Of, Neg, Add, Mul, Sign. -/
import Derived.Test.YtbfdianmbpfjmaaNumM
import Derived.Test.YtbfdianmbpfjmaaTenC
import Derived.Test.YtbfdianmbpfjmaaTenD
import Derived.Test.YtbfdianmbpfjmaaTenE
namespace Go.Proofs.Ytbfdianmbpfjmaa
open Go.RowKit Go.MagM
theorem DReads.setCell {w : World} {ao : Option Addr} {n : Nat} {f : Nat → Nat} (hr : DReads w ao n f) {a : Addr} {u : Value} (hc : w.cell? a = some u) (hu : NoInt u) (v : Value) : DReads (w.setCell a v) ao n f := by
  intro i hi
  obtain ⟨b, o, e, h1, h2⟩ := hr i hi
  refine ⟨b, o, e, ?_, h2⟩
  have ne : a ≠ ⟨b, o + i, none⟩ := by
    intro h; rw [h, h1] at hc
    exact hu _ _ (Option.some.inj hc).symm
  rw [World.cell?_setCell_other _ _ _ _ (by first | exact ne | exact ne.symm)]; exact h1
theorem Dec.setCell {w : World} {v : Value} {L N : Nat} (h : Dec w v L N) {a : Addr} {u : Value} (hc : w.cell? a = some u) (hu : NoInt u) (x : Value) : Dec (w.setCell a x) v L N := by
  obtain ⟨ao, n, c, f, h1, h2, h3, h4, h5⟩ := h; exact ⟨ao, n, c, f, h1, h2, h3, h4.setCell hc hu x, h5⟩
theorem Dec.drew {w : World} {v : Value} {L N : Nat} (h : Dec w v L N) : Dec w.drew v L N := h
theorem Dec.slice {w : World} {v : Value} {L N : Nat} (h : Dec w v L N) : ∃ ao n c, v = .slice ao n c := by
  obtain ⟨ao, n, c, f, h1, _⟩ := h; exact ⟨ao, n, c, h1⟩
/-- The document's number: a sign and decimal digits, right, which together are X. -/
def DNum (w : World) (v : Value) (L : Nat) (X : Int) : Prop := ∃ m vm N, v = .agg #[.bool m, vm] ∧ Dec w vm L N ∧ X = sgn m N ∧ (m = true → N ≠ 0)
theorem DNum.below {w w' : World} {v : Value} {L : Nat} {X : Int} (h : DNum w v L X) (hb : Below w.heap.size w w') : DNum w' v L X := by
  obtain ⟨m, vm, N, h1, h2, h3⟩ := h; exact ⟨m, vm, N, h1, h2.below hb, h3⟩
theorem DNum.more {w : World} {v : Value} {L L' : Nat} {X : Int} (h : DNum w v L X) (hL : L ≤ L') : DNum w v L' X := by
  obtain ⟨m, vm, N, h1, h2, h3⟩ := h; exact ⟨m, vm, N, h1, h2.more hL, h3⟩
theorem DNum.of {w : World} {v : Value} {L : Nat} {X Y : Int} (h : DNum w v L X) (e : X = Y) : DNum w v L Y := e ▸ h
theorem DNum.drew {w : World} {v : Value} {L : Nat} {X : Int} (h : DNum w v L X) : DNum w.drew v L X := h
theorem DNum.setCell {w : World} {v : Value} {L : Nat} {N : Int} (h : DNum w v L N) {a : Addr} {u : Value} (hc : w.cell? a = some u) (hu : NoInt u) (x : Value) : DNum (w.setCell a x) v L N := by
  obtain ⟨m, vm, M, h1, h2, h3⟩ := h; exact ⟨m, vm, M, h1, h2.setCell hc hu x, h3⟩
theorem DNum.set2 {w : World} {v : Value} {L : Nat} {N : Int} (h : DNum w v L N) {g : Nat} {b : Bool} {ao : Option Addr} {n c : Nat} (hb : Box2 w g (.bool b) (.slice ao n c)) (x y : Value) :
    DNum ((w.setCell ⟨g, 0, none⟩ x).setCell ⟨g, 1, none⟩ y) v L N :=
  (h.setCell hb.c0 (NoInt.bool _) x).setCell (hb.set0 x).c1 (NoInt.slice _ _ _) y
theorem sgn_inj {m k : Bool} {N M : Nat} (h : sgn m N = sgn k M) (hm : m = true → N ≠ 0) (hk : k = true → M ≠ 0) : m = k ∧ N = M := by
  cases m <;> cases k <;> simp only [sgn, if_true, if_false, Bool.false_eq_true] at h
  · exact ⟨rfl, by omega⟩
  · have := hk rfl; omega
  · have := hm rfl; omega
  · exact ⟨rfl, by omega⟩
theorem boxed2t (w : World) (u0 u1 v0 v1 : Value) (T U : TypeId) :
    Box2 ((w.alloc (.cells #[u0, u1] T)).alloc (.cells #[v0, v1] U)) w.heap.size u0 u1 ∧ Box2 ((w.alloc (.cells #[u0, u1] T)).alloc (.cells #[v0, v1] U)) (w.heap.size + 1) v0 v1 ∧
      Below w.heap.size w ((w.alloc (.cells #[u0, u1] T)).alloc (.cells #[v0, v1] U)) := by
  have h := alloc_box (w.alloc (.cells #[u0, u1] T)) v0 v1 U
  rw [alloc_size] at h
  exact ⟨(alloc_box _ _ _ _).alloc _, h, ((Below.refl _ _).alloc (Nat.le_refl _) _).alloc (by simp) _⟩
def AnsDN (w w' : World) (e : Ending) (L : Nat) (X : Int) : Prop := ∃ m ao n c, e = .returned (.agg #[.bool m, .slice ao n c]) ∧ DNum w' (.agg #[.bool m, .slice ao n c]) L X ∧ Below w.heap.size w w'
theorem AnsDN.of {w w' : World} {e : Ending} {L L' : Nat} {X Y : Int} (h : AnsDN w w' e L X) (hL : L ≤ L') (he : X = Y) : AnsDN w w' e L' Y := by
  subst he; obtain ⟨m, ao, n, c, h1, h2, h3⟩ := h; exact ⟨m, ao, n, c, h1, h2.more hL, h3⟩
set_option maxHeartbeats 4000000 in
theorem rOf_false (ao : Option Addr) (n : Nat) (c : Nat) (w : World) :
    Calls Try.prog 24 #[.bool false, .slice ao n c] w fun e w' => e = .returned (.agg #[.bool false, .slice ao n c]) ∧ Below w.heap.size w w' := by
  go_enter Try.func24, Try.ntmps24
  go_wp2
  exact bodyPost_ret (v := .agg #[.bool false, .slice ao n c]) (by simp [results, Try.results24, go_sem]) rfl ⟨rfl, (Below.refl _ _).alloc (Nat.le_refl _) _⟩
set_option maxHeartbeats 4000000 in
theorem rOf_nil (ao : Option Addr) (c : Nat) (w : World) :
    Calls Try.prog 24 #[.bool true, .slice ao 0 c] w fun e w' => e = .returned (.agg #[.bool false, .slice ao 0 c]) ∧ Below w.heap.size w w' := by
  go_enter Try.func24, Try.ntmps24
  go_wp2
  exact bodyPost_ret (v := .agg #[.bool false, .slice ao 0 c]) (by simp [results, Try.results24, go_sem]) rfl ⟨rfl, (Below.refl _ _).alloc (Nat.le_refl _) _⟩
set_option maxHeartbeats 4000000 in
theorem rOf_some (ao : Option Addr) (n : Nat) (c : Nat) (w : World) :
    Calls Try.prog 24 #[.bool true, .slice ao (n + 1) c] w fun e w' => e = .returned (.agg #[.bool true, .slice ao (n + 1) c]) ∧ Below w.heap.size w w' := by
  go_enter Try.func24, Try.ntmps24
  go_wp2
  exact bodyPost_ret (v := .agg #[.bool true, .slice ao (n + 1) c]) (by simp [results, Try.results24, go_sem]) rfl ⟨rfl, (Below.refl _ _).alloc (Nat.le_refl _) _⟩
theorem rOf_any (m : Bool) (vm : Value) (L N : Nat) (w : World) (hm : Dec w vm L N) :
    Calls Try.prog 24 #[.bool m, vm] w fun e w' => AnsDN w w' e L (sgn m N) := by
  have hm0 := hm
  obtain ⟨ao, n, c, f, rfl, h2, h3, h4, h5, h6⟩ := hm
  cases m with
  | false =>
    refine (rOf_false ao n c w).mono ?_
    rintro e w' ⟨rfl, hb⟩
    exact ⟨_, _, _, _, rfl, ⟨false, _, N, rfl, hm0.below hb, rfl, fun h => by cases h⟩, hb⟩
  | true =>
    cases n with
    | zero =>
      refine (rOf_nil ao c w).mono ?_
      rintro e w' ⟨rfl, hb⟩
      have hN : N = 0 := h5.symm
      subst hN
      exact ⟨_, _, _, _, rfl, ⟨false, _, 0, rfl, hm0.below hb, rfl, fun h => by cases h⟩, hb⟩
    | succ n =>
      refine (rOf_some ao n c w).mono ?_
      rintro e w' ⟨rfl, hb⟩
      refine ⟨_, _, _, _, rfl, ⟨true, _, N, rfl, hm0.below hb, rfl, fun _ => ?_⟩, hb⟩
      have hge := h6.ge
      have := MagT.Bp n
      rw [h5] at hge
      omega
set_option maxHeartbeats 4000000 in
theorem rNeg_any (va : Value) (L : Nat) (X : Int) (w : World) (ha : DNum w va L X) :
    Calls Try.prog 13 #[va] w fun e w' => AnsDN w w' e L (-X) := by
  obtain ⟨m, vm, N, rfl, hm, hX, hN⟩ := ha
  obtain ⟨b0, b1, hB0⟩ := boxed2 w (.bool m) vm (.bool false) (.slice none 0 0) 30
  have hM := hm.below hB0
  have HM := Lib.hid hM; have B1 := Lib.hid b1; have H0 := Lib.hid hB0; have HX := Lib.hid hX; clear hM b1 b0 hB0 hm hX hN
  go_enter Try.func13, Try.ntmps13
  go_wp2_with fail
  refine (rOf_any _ _ L N _ HM.out).mono ?_
  rintro e w2 ⟨m2, ao2, n2, c2, rfl, h2, hb2⟩
  obtain ⟨p0, p1, p2, p3⟩ := B1.out.below hb2
  have hB2 := H0.out.trans (hb2.mono H0.out.size)
  clear hb2
  go_wp2
  exact bodyPost_ret (v := .agg #[.bool m2, .slice ao2 n2 c2]) (by simp [results, Try.results13, go_sem, p0, p1]) rfl ⟨_, _, _, _, rfl, (DNum.of h2 (by rw [HX.out, sgn_neg])).set2 ⟨p0, p1, p2, p3⟩ _ _, below_set2 hB2 (by omega) _ _⟩
set_option maxHeartbeats 4000000 in
theorem rSign_zero (m : Bool) (vm : Value) (L N : Nat) (w : World) (hm : Dec w vm L N) (h0 : N = 0) :
    Calls Try.prog 20 #[.agg #[.bool m, vm]] w fun e w' => e = .returned (.int .i64 (0)) ∧ Below w.heap.size w w' := by
  obtain ⟨ao, n, c, f, rfl, h2, h3, h4, h5, h6⟩ := hm
  have hn : n = 0 := by
    cases n with
    | zero => rfl
    | succ n =>
      have hge := h6.ge
      have := MagT.Bp n
      rw [h5, h0] at hge
      omega
  subst hn
  clear h2 h3 h4 h5 h6 h0
  go_enter Try.func20, Try.ntmps20
  go_wp2
  go_ret
  exact ⟨rfl, (Below.refl _ _).alloc (Nat.le_refl _) _⟩
set_option maxHeartbeats 4000000 in
theorem rSign_neg (m : Bool) (vm : Value) (L N : Nat) (w : World) (hm : Dec w vm L N) (hmt : m = true) (h0 : N ≠ 0) :
    Calls Try.prog 20 #[.agg #[.bool m, vm]] w fun e w' => e = .returned (.int .i64 (-1)) ∧ Below w.heap.size w w' := by
  subst hmt
  obtain ⟨ao, n, c, f, rfl, h2, h3, h4, h5, h6⟩ := hm
  obtain ⟨k, rfl⟩ : ∃ k, n = k + 1 := by
    cases n with
    | zero => exact absurd h5.symm h0
    | succ k => exact ⟨k, rfl⟩
  have hk1 : (((k : Int) + 1) == 0) = false := by simp only [beq_eq_false_iff_ne]; omega
  clear h2 h3 h4 h5 h6 h0
  go_enter Try.func20, Try.ntmps20
  go_wp2
  go_ret
  exact ⟨rfl, (Below.refl _ _).alloc (Nat.le_refl _) _⟩
set_option maxHeartbeats 4000000 in
theorem rSign_pos (m : Bool) (vm : Value) (L N : Nat) (w : World) (hm : Dec w vm L N) (hmt : m = false) (h0 : N ≠ 0) :
    Calls Try.prog 20 #[.agg #[.bool m, vm]] w fun e w' => e = .returned (.int .i64 (1)) ∧ Below w.heap.size w w' := by
  subst hmt
  obtain ⟨ao, n, c, f, rfl, h2, h3, h4, h5, h6⟩ := hm
  obtain ⟨k, rfl⟩ : ∃ k, n = k + 1 := by
    cases n with
    | zero => exact absurd h5.symm h0
    | succ k => exact ⟨k, rfl⟩
  have hk1 : (((k : Int) + 1) == 0) = false := by simp only [beq_eq_false_iff_ne]; omega
  clear h2 h3 h4 h5 h6 h0
  go_enter Try.func20, Try.ntmps20
  go_wp2
  go_ret
  exact ⟨rfl, (Below.refl _ _).alloc (Nat.le_refl _) _⟩
theorem rSign_any (va : Value) (L : Nat) (X s : Int) (w : World) (ha : DNum w va L X) (hs : X.sign = s) :
    Calls Try.prog 20 #[va] w fun e w' => e = .returned (.int .i64 s) ∧ Below w.heap.size w w' := by
  obtain ⟨m, vm, N, rfl, hm, rfl, hN⟩ := ha
  rw [← hs, sgn_sign]
  by_cases h0 : N = 0
  · rw [if_pos h0]; exact rSign_zero m vm L N w hm h0
  · rw [if_neg h0]
    cases m with
    | true => exact rSign_neg true vm L N w hm rfl h0
    | false => exact rSign_pos false vm L N w hm rfl h0
set_option maxHeartbeats 4000000 in
theorem rMul_mags (k : Bool) (m : Bool) (va vb : Value) (L L' N M : Nat) (w : World) (hL : L ≤ 500000) (hL' : L' ≤ 500000) (hma : Dec w va L N) (hmb : Dec w vb L' M) :
    Calls Try.prog 18 #[.agg #[.bool m, va], .agg #[.bool k, vb]] w fun e w' => AnsDN w w' e (L + L') (sgn (m != k) (N * M)) := by
  obtain ⟨ao, an, ac, rfl⟩ := hma.slice
  obtain ⟨bo, bn, bc, rfl⟩ := hmb.slice
  obtain ⟨b0, b1, b2, hB0⟩ := boxed3 w (.bool m) (.slice ao an ac) (.bool k) (.slice bo bn bc) (.bool false) (.slice none 0 0) 30
  have hma := hma.below hB0
  have hmb := hmb.below hB0
  have HMA := Lib.hid hma; have HMB := Lib.hid hmb; have B0 := Lib.hid b0; have B1 := Lib.hid b1; have B2 := Lib.hid b2; have H0 := Lib.hid hB0
  clear hma hmb b0 b1 b2 hB0
  go_enter Try.func18, Try.ntmps18
  go_wp2
  generalize (((w.alloc (Obj.cells #[Value.bool m, Value.slice ao an ac] 30)).alloc (Obj.cells #[Value.bool k, Value.slice bo bn bc] 30)).alloc (Obj.cells #[Value.bool false, Value.slice none 0 0] 30)) = W at *
  have c0 := B0.out.c0; have c1 := B0.out.c1; have d0 := B1.out.c0; have d1 := B1.out.c1
  go_region_held3 (fun w' => w'.cell? ⟨w.heap.size, 0, none⟩ = some (.bool m) ∧ w'.cell? ⟨w.heap.size, 1, none⟩ = some (.slice ao an ac) ∧ w'.cell? ⟨w.heap.size + 1, 0, none⟩ = some (.bool k) ∧ w'.cell? ⟨w.heap.size + 1, 1, none⟩ = some (.slice bo bn bc)) (first | with_reducible exact ⟨B0.out.drew.c0, B0.out.drew.c1, B1.out.drew.c0, B1.out.drew.c1⟩ | with_reducible exact ⟨b0.c0, b0.c1, b1.c0, b1.c1⟩ | with_reducible exact ⟨a0.c0, a0.c1, a1.c0, a1.c1⟩ | with_reducible exact ⟨z0.c0, z0.c1, z1.c0, z1.c1⟩ | fail)
    (first
      | (go_at_call 41; refine (rMul_any _ _ L L' N M _ (by omega) (by omega) HMA.out.drew HMB.out.drew).mono ?_; rintro e w1 ⟨v1, rfl, h1, hb1⟩; have b0 := B0.out.drew.below hb1; have b1 := B1.out.drew.below hb1; have b2 := B2.out.drew.below hb1; have hB1 := H0.out.drew'.trans (hb1.mono H0.out.drew'.size); clear hb1)
      | (go_at_call 24; refine (rOf_any _ _ (L + L') _ _ h1).mono ?_; rintro e w2 ⟨m2, ao2, n2, c2, rfl, h2, hb2⟩; have a0 := b0.below hb2; have a1 := b1.below hb2; obtain ⟨p0, p1, p2, p3⟩ := b2.below hb2; obtain ⟨q0, q1, q2, q3⟩ := (Box2.mk p0 p1 p2 p3).set0 (.bool m2); have z0 := a0.far2 (g' := w.heap.size + 1 + 1) (by omega) (.bool m2) (.slice ao2 n2 c2); have z1 := a1.far2 (g' := w.heap.size + 1 + 1) (by omega) (.bool m2) (.slice ao2 n2 c2); have hB2 := hB1.trans (hb2.mono hB1.size)))
  go_wp2
  exact bodyPost_ret (v := .agg #[.bool m2, .slice ao2 n2 c2]) (by simp [results, Try.results18, go_sem, p0, p1]) rfl ⟨_, _, _, _, rfl, ((DNum.of h2 rfl).more (by omega)).set2 ⟨p0, p1, p2, p3⟩ _ _, below_set2 hB2 (by omega) _ _⟩
set_option maxHeartbeats 4000000 in
theorem rAdd_same (m : Bool) (va vb : Value) (L L' N M : Nat) (w : World) (hL : L ≤ 500000) (hL' : L' ≤ 500000) (hma : Dec w va L N) (hmb : Dec w vb L' M) :
    Calls Try.prog 12 #[.agg #[.bool m, va], .agg #[.bool m, vb]] w fun e w' => AnsDN w w' e (max L L' + 1) (sgn m (N + M)) := by
  obtain ⟨ao, an, ac, rfl⟩ := hma.slice
  obtain ⟨bo, bn, bc, rfl⟩ := hmb.slice
  obtain ⟨b0, b1, b2, hB0⟩ := boxed3 w (.bool m) (.slice ao an ac) (.bool m) (.slice bo bn bc) (.bool false) (.slice none 0 0) 30
  have hma := hma.below hB0
  have hmb := hmb.below hB0
  have HMA := Lib.hid hma; have HMB := Lib.hid hmb; have B0 := Lib.hid b0; have B1 := Lib.hid b1; have B2 := Lib.hid b2; have H0 := Lib.hid hB0
  clear hma hmb b0 b1 b2 hB0
  have hmm : (m == m) = true := by simp
  go_enter Try.func12, Try.ntmps12
  go_wp2
  generalize (((w.alloc (Obj.cells #[Value.bool m, Value.slice ao an ac] 30)).alloc (Obj.cells #[Value.bool m, Value.slice bo bn bc] 30)).alloc (Obj.cells #[Value.bool false, Value.slice none 0 0] 30)) = W at *
  have c0 := B0.out.c0; have c1 := B0.out.c1; have d0 := B1.out.c0; have d1 := B1.out.c1
  go_region_held3 (fun w' => w'.cell? ⟨w.heap.size, 0, none⟩ = some (.bool m) ∧ w'.cell? ⟨w.heap.size, 1, none⟩ = some (.slice ao an ac) ∧ w'.cell? ⟨w.heap.size + 1, 0, none⟩ = some (.bool m) ∧ w'.cell? ⟨w.heap.size + 1, 1, none⟩ = some (.slice bo bn bc)) (first | with_reducible exact ⟨B0.out.drew.c0, B0.out.drew.c1, B1.out.drew.c0, B1.out.drew.c1⟩ | with_reducible exact ⟨b0.c0, b0.c1, b1.c0, b1.c1⟩ | with_reducible exact ⟨a0.c0, a0.c1, a1.c0, a1.c1⟩ | with_reducible exact ⟨z0.c0, z0.c1, z1.c0, z1.c1⟩ | fail)
    (first
      | (go_at_call 32; refine (radd_any _ _ L L' N M _ (by omega) (by omega) HMA.out.drew HMB.out.drew).mono ?_; rintro e w1 ⟨v1, rfl, h1, hb1⟩; have b0 := B0.out.drew.below hb1; have b1 := B1.out.drew.below hb1; have b2 := B2.out.drew.below hb1; have hB1 := H0.out.drew'.trans (hb1.mono H0.out.drew'.size); clear hb1)
      | (go_at_call 24; refine (rOf_any _ _ (max L L' + 1) _ _ h1).mono ?_; rintro e w2 ⟨m2, ao2, n2, c2, rfl, h2, hb2⟩; have a0 := b0.below hb2; have a1 := b1.below hb2; obtain ⟨p0, p1, p2, p3⟩ := b2.below hb2; obtain ⟨q0, q1, q2, q3⟩ := (Box2.mk p0 p1 p2 p3).set0 (.bool m2); have z0 := a0.far2 (g' := w.heap.size + 1 + 1) (by omega) (.bool m2) (.slice ao2 n2 c2); have z1 := a1.far2 (g' := w.heap.size + 1 + 1) (by omega) (.bool m2) (.slice ao2 n2 c2); have hB2 := hB1.trans (hb2.mono hB1.size)))
  go_wp2
  exact bodyPost_ret (v := .agg #[.bool m2, .slice ao2 n2 c2]) (by simp [results, Try.results12, go_sem, p0, p1]) rfl ⟨_, _, _, _, rfl, ((DNum.of h2 rfl).more (by omega)).set2 ⟨p0, p1, p2, p3⟩ _ _, below_set2 hB2 (by omega) _ _⟩
set_option maxHeartbeats 4000000 in
theorem rAdd_more (m : Bool) (va vb : Value) (L L' N M : Nat) (w : World) (hL : L ≤ 500000) (hL' : L' ≤ 500000) (hma : Dec w va L N) (hmb : Dec w vb L' M) (h : M < N) :
    Calls Try.prog 12 #[.agg #[.bool m, va], .agg #[.bool !m, vb]] w fun e w' => AnsDN w w' e (max L L' + 1) (sgn m (N - M)) := by
  obtain ⟨ao, an, ac, rfl⟩ := hma.slice
  obtain ⟨bo, bn, bc, rfl⟩ := hmb.slice
  obtain ⟨b0, b1, b2, hB0⟩ := boxed3 w (.bool m) (.slice ao an ac) (.bool (!m)) (.slice bo bn bc) (.bool false) (.slice none 0 0) 30
  have hma := hma.below hB0
  have hmb := hmb.below hB0
  have HMA := Lib.hid hma; have HMB := Lib.hid hmb; have B0 := Lib.hid b0; have B1 := Lib.hid b1; have B2 := Lib.hid b2; have H0 := Lib.hid hB0
  clear hma hmb b0 b1 b2 hB0
  have hmm : (m == !m) = false := by cases m <;> rfl
  have cc := rCmp_any _ _ L L' N M _ (by omega) (by omega) HMA.out HMB.out
  rw [show cmpn N M = 1 from cmpn_of_gt h] at cc
  have hNM : M ≤ N := by omega
  have HNM := Lib.hid hNM; have CC := Lib.hid cc; clear cc h hNM
  go_enter Try.func12, Try.ntmps12
  go_wp2_with fail
  refine (CC.out).mono ?_
  rintro e w1 ⟨q, rfl, hq⟩
  obtain ⟨hb1, hz⟩ := drewN_size hq
  clear hq hz
  have b0 := B0.out.below hb1; have b1 := B1.out.below hb1; have b2 := B2.out.below hb1
  have hma := HMA.out.below hb1; have hmb := HMB.out.below hb1
  have hB0 := H0.out.trans (hb1.mono H0.out.size)
  clear hb1 B0 B1 B2 HMA HMB H0
  have B0 := Lib.hid b0; have B1 := Lib.hid b1; have B2 := Lib.hid b2; have H0 := Lib.hid hB0; have HMA := Lib.hid hma; have HMB := Lib.hid hmb
  clear b0 b1 b2 hB0 hma hmb
  go_wp2
  have c0 := B0.out.c0; have c1 := B0.out.c1; have d0 := B1.out.c0; have d1 := B1.out.c1
  go_region_held3 (fun w' => w'.cell? ⟨w.heap.size, 0, none⟩ = some (.bool m) ∧ w'.cell? ⟨w.heap.size, 1, none⟩ = some (.slice ao an ac) ∧ w'.cell? ⟨w.heap.size + 1, 0, none⟩ = some (.bool (!m)) ∧ w'.cell? ⟨w.heap.size + 1, 1, none⟩ = some (.slice bo bn bc)) (first | with_reducible exact ⟨B0.out.drew.c0, B0.out.drew.c1, B1.out.drew.c0, B1.out.drew.c1⟩ | with_reducible exact ⟨b0.c0, b0.c1, b1.c0, b1.c1⟩ | with_reducible exact ⟨a0.c0, a0.c1, a1.c0, a1.c1⟩ | with_reducible exact ⟨z0.c0, z0.c1, z1.c0, z1.c1⟩ | fail)
    (first
      | (go_at_call 34; refine (rSub_any _ _ L L' N M _ (by omega) (by omega) HNM.out HMA.out.drew HMB.out.drew).mono ?_; rintro e w1 ⟨v1, rfl, h1, hb1⟩; have b0 := B0.out.drew.below hb1; have b1 := B1.out.drew.below hb1; have b2 := B2.out.drew.below hb1; have hB1 := H0.out.drew'.trans (hb1.mono H0.out.drew'.size); clear hb1)
      | (go_at_call 24; refine (rOf_any _ _ L _ _ h1).mono ?_; rintro e w2 ⟨m2, ao2, n2, c2, rfl, h2, hb2⟩; have a0 := b0.below hb2; have a1 := b1.below hb2; obtain ⟨p0, p1, p2, p3⟩ := b2.below hb2; obtain ⟨q0, q1, q2, q3⟩ := (Box2.mk p0 p1 p2 p3).set0 (.bool m2); have z0 := a0.far2 (g' := w.heap.size + 1 + 1) (by omega) (.bool m2) (.slice ao2 n2 c2); have z1 := a1.far2 (g' := w.heap.size + 1 + 1) (by omega) (.bool m2) (.slice ao2 n2 c2); have hB2 := hB1.trans (hb2.mono hB1.size)))
  go_wp2
  exact bodyPost_ret (v := .agg #[.bool m2, .slice ao2 n2 c2]) (by simp [results, Try.results12, go_sem, p0, p1]) rfl ⟨_, _, _, _, rfl, ((DNum.of h2 rfl).more (by omega)).set2 ⟨p0, p1, p2, p3⟩ _ _, below_set2 hB2 (by omega) _ _⟩
set_option maxHeartbeats 4000000 in
theorem rAdd_even (m : Bool) (va vb : Value) (L L' N M : Nat) (w : World) (hL : L ≤ 500000) (hL' : L' ≤ 500000) (hma : Dec w va L N) (hmb : Dec w vb L' M) (h : N = M) :
    Calls Try.prog 12 #[.agg #[.bool m, va], .agg #[.bool !m, vb]] w fun e w' => AnsDN w w' e (max L L' + 1) (sgn m (N - M)) := by
  obtain ⟨ao, an, ac, rfl⟩ := hma.slice
  obtain ⟨bo, bn, bc, rfl⟩ := hmb.slice
  obtain ⟨b0, b1, b2, hB0⟩ := boxed3 w (.bool m) (.slice ao an ac) (.bool (!m)) (.slice bo bn bc) (.bool false) (.slice none 0 0) 30
  have hma := hma.below hB0
  have hmb := hmb.below hB0
  have HMA := Lib.hid hma; have HMB := Lib.hid hmb; have B0 := Lib.hid b0; have B1 := Lib.hid b1; have B2 := Lib.hid b2; have H0 := Lib.hid hB0
  clear hma hmb b0 b1 b2 hB0
  have hmm : (m == !m) = false := by cases m <;> rfl
  have cc := rCmp_any _ _ L L' N M _ (by omega) (by omega) HMA.out HMB.out
  rw [show cmpn N M = 0 from (by rw [h]; exact cmpn_self _)] at cc
  have hNM : M ≤ N := by omega
  have HNM := Lib.hid hNM; have CC := Lib.hid cc; clear cc h hNM
  go_enter Try.func12, Try.ntmps12
  go_wp2_with fail
  refine (CC.out).mono ?_
  rintro e w1 ⟨q, rfl, hq⟩
  obtain ⟨hb1, hz⟩ := drewN_size hq
  clear hq hz
  have b0 := B0.out.below hb1; have b1 := B1.out.below hb1; have b2 := B2.out.below hb1
  have hma := HMA.out.below hb1; have hmb := HMB.out.below hb1
  have hB0 := H0.out.trans (hb1.mono H0.out.size)
  clear hb1 B0 B1 B2 HMA HMB H0
  have B0 := Lib.hid b0; have B1 := Lib.hid b1; have B2 := Lib.hid b2; have H0 := Lib.hid hB0; have HMA := Lib.hid hma; have HMB := Lib.hid hmb
  clear b0 b1 b2 hB0 hma hmb
  go_wp2
  have c0 := B0.out.c0; have c1 := B0.out.c1; have d0 := B1.out.c0; have d1 := B1.out.c1
  go_region_held3 (fun w' => w'.cell? ⟨w.heap.size, 0, none⟩ = some (.bool m) ∧ w'.cell? ⟨w.heap.size, 1, none⟩ = some (.slice ao an ac) ∧ w'.cell? ⟨w.heap.size + 1, 0, none⟩ = some (.bool (!m)) ∧ w'.cell? ⟨w.heap.size + 1, 1, none⟩ = some (.slice bo bn bc)) (first | with_reducible exact ⟨B0.out.drew.c0, B0.out.drew.c1, B1.out.drew.c0, B1.out.drew.c1⟩ | with_reducible exact ⟨b0.c0, b0.c1, b1.c0, b1.c1⟩ | with_reducible exact ⟨a0.c0, a0.c1, a1.c0, a1.c1⟩ | with_reducible exact ⟨z0.c0, z0.c1, z1.c0, z1.c1⟩ | fail)
    (first
      | (go_at_call 34; refine (rSub_any _ _ L L' N M _ (by omega) (by omega) HNM.out HMA.out.drew HMB.out.drew).mono ?_; rintro e w1 ⟨v1, rfl, h1, hb1⟩; have b0 := B0.out.drew.below hb1; have b1 := B1.out.drew.below hb1; have b2 := B2.out.drew.below hb1; have hB1 := H0.out.drew'.trans (hb1.mono H0.out.drew'.size); clear hb1)
      | (go_at_call 24; refine (rOf_any _ _ L _ _ h1).mono ?_; rintro e w2 ⟨m2, ao2, n2, c2, rfl, h2, hb2⟩; have a0 := b0.below hb2; have a1 := b1.below hb2; obtain ⟨p0, p1, p2, p3⟩ := b2.below hb2; obtain ⟨q0, q1, q2, q3⟩ := (Box2.mk p0 p1 p2 p3).set0 (.bool m2); have z0 := a0.far2 (g' := w.heap.size + 1 + 1) (by omega) (.bool m2) (.slice ao2 n2 c2); have z1 := a1.far2 (g' := w.heap.size + 1 + 1) (by omega) (.bool m2) (.slice ao2 n2 c2); have hB2 := hB1.trans (hb2.mono hB1.size)))
  go_wp2
  exact bodyPost_ret (v := .agg #[.bool m2, .slice ao2 n2 c2]) (by simp [results, Try.results12, go_sem, p0, p1]) rfl ⟨_, _, _, _, rfl, ((DNum.of h2 rfl).more (by omega)).set2 ⟨p0, p1, p2, p3⟩ _ _, below_set2 hB2 (by omega) _ _⟩
set_option maxHeartbeats 4000000 in
theorem rAdd_less (m : Bool) (va vb : Value) (L L' N M : Nat) (w : World) (hL : L ≤ 500000) (hL' : L' ≤ 500000) (hma : Dec w va L N) (hmb : Dec w vb L' M) (h : N < M) :
    Calls Try.prog 12 #[.agg #[.bool m, va], .agg #[.bool !m, vb]] w fun e w' => AnsDN w w' e (max L L' + 1) (sgn (!m) (M - N)) := by
  obtain ⟨ao, an, ac, rfl⟩ := hma.slice
  obtain ⟨bo, bn, bc, rfl⟩ := hmb.slice
  obtain ⟨b0, b1, b2, hB0⟩ := boxed3 w (.bool m) (.slice ao an ac) (.bool (!m)) (.slice bo bn bc) (.bool false) (.slice none 0 0) 30
  have hma := hma.below hB0
  have hmb := hmb.below hB0
  have HMA := Lib.hid hma; have HMB := Lib.hid hmb; have B0 := Lib.hid b0; have B1 := Lib.hid b1; have B2 := Lib.hid b2; have H0 := Lib.hid hB0
  clear hma hmb b0 b1 b2 hB0
  have hmm : (m == !m) = false := by cases m <;> rfl
  have cc := rCmp_any _ _ L L' N M _ (by omega) (by omega) HMA.out HMB.out
  rw [show cmpn N M = -1 from cmpn_of_lt h] at cc
  have hNM : N ≤ M := by omega
  have HNM := Lib.hid hNM; have CC := Lib.hid cc; clear cc h hNM
  go_enter Try.func12, Try.ntmps12
  go_wp2_with fail
  refine (CC.out).mono ?_
  rintro e w1 ⟨q, rfl, hq⟩
  obtain ⟨hb1, hz⟩ := drewN_size hq
  clear hq hz
  have b0 := B0.out.below hb1; have b1 := B1.out.below hb1; have b2 := B2.out.below hb1
  have hma := HMA.out.below hb1; have hmb := HMB.out.below hb1
  have hB0 := H0.out.trans (hb1.mono H0.out.size)
  clear hb1 B0 B1 B2 HMA HMB H0
  have B0 := Lib.hid b0; have B1 := Lib.hid b1; have B2 := Lib.hid b2; have H0 := Lib.hid hB0; have HMA := Lib.hid hma; have HMB := Lib.hid hmb
  clear b0 b1 b2 hB0 hma hmb
  go_wp2
  have c0 := B0.out.c0; have c1 := B0.out.c1; have d0 := B1.out.c0; have d1 := B1.out.c1
  go_region_held3 (fun w' => w'.cell? ⟨w.heap.size, 0, none⟩ = some (.bool m) ∧ w'.cell? ⟨w.heap.size, 1, none⟩ = some (.slice ao an ac) ∧ w'.cell? ⟨w.heap.size + 1, 0, none⟩ = some (.bool (!m)) ∧ w'.cell? ⟨w.heap.size + 1, 1, none⟩ = some (.slice bo bn bc)) (first | with_reducible exact ⟨B0.out.drew.c0, B0.out.drew.c1, B1.out.drew.c0, B1.out.drew.c1⟩ | with_reducible exact ⟨b0.c0, b0.c1, b1.c0, b1.c1⟩ | with_reducible exact ⟨a0.c0, a0.c1, a1.c0, a1.c1⟩ | with_reducible exact ⟨z0.c0, z0.c1, z1.c0, z1.c1⟩ | fail)
    (first
      | (go_at_call 34; refine (rSub_any _ _ L' L M N _ (by omega) (by omega) HNM.out HMB.out.drew HMA.out.drew).mono ?_; rintro e w1 ⟨v1, rfl, h1, hb1⟩; have b0 := B0.out.drew.below hb1; have b1 := B1.out.drew.below hb1; have b2 := B2.out.drew.below hb1; have hB1 := H0.out.drew'.trans (hb1.mono H0.out.drew'.size); clear hb1)
      | (go_at_call 24; refine (rOf_any _ _ L' _ _ h1).mono ?_; rintro e w2 ⟨m2, ao2, n2, c2, rfl, h2, hb2⟩; have a0 := b0.below hb2; have a1 := b1.below hb2; obtain ⟨p0, p1, p2, p3⟩ := b2.below hb2; obtain ⟨q0, q1, q2, q3⟩ := (Box2.mk p0 p1 p2 p3).set0 (.bool m2); have z0 := a0.far2 (g' := w.heap.size + 1 + 1) (by omega) (.bool m2) (.slice ao2 n2 c2); have z1 := a1.far2 (g' := w.heap.size + 1 + 1) (by omega) (.bool m2) (.slice ao2 n2 c2); have hB2 := hB1.trans (hb2.mono hB1.size)))
  go_wp2
  exact bodyPost_ret (v := .agg #[.bool m2, .slice ao2 n2 c2]) (by simp [results, Try.results12, go_sem, p0, p1]) rfl ⟨_, _, _, _, rfl, ((DNum.of h2 rfl).more (by omega)).set2 ⟨p0, p1, p2, p3⟩ _ _, below_set2 hB2 (by omega) _ _⟩
theorem rNMul_any (va vb : Value) (L L' : Nat) (X Y : Int) (w : World) (hL : L ≤ 500000) (hL' : L' ≤ 500000) (ha : DNum w va L X) (hb : DNum w vb L' Y) :
    Calls Try.prog 18 #[va, vb] w fun e w' => AnsDN w w' e (L + L') (X * Y) := by
  obtain ⟨m, va', N, rfl, hma, rfl, _⟩ := ha
  obtain ⟨k, vb', M, rfl, hmb, rfl, _⟩ := hb
  exact (rMul_mags k m va' vb' L L' N M w hL hL' hma hmb).mono fun e w' h => h.of (Nat.le_refl _) (sgn_mul m k N M)
theorem rNAdd_any (va vb : Value) (L L' : Nat) (X Y : Int) (w : World) (hL : L ≤ 500000) (hL' : L' ≤ 500000) (ha : DNum w va L X) (hb : DNum w vb L' Y) :
    Calls Try.prog 12 #[va, vb] w fun e w' => AnsDN w w' e (max L L' + 1) (X + Y) := by
  obtain ⟨m, va', N, rfl, hma, rfl, _⟩ := ha
  obtain ⟨k, vb', M, rfl, hmb, rfl, _⟩ := hb
  by_cases hmk : m = k
  · subst hmk
    exact (rAdd_same m va' vb' L L' N M w hL hL' hma hmb).mono fun e w' h => h.of (Nat.le_refl _) (sgn_add m N M)
  · have hk : k = !m := by cases m <;> cases k <;> simp at hmk <;> rfl
    subst hk
    rcases Nat.lt_trichotomy N M with h | h | h
    · exact (rAdd_less m va' vb' L L' N M w hL hL' hma hmb h).mono fun e w' g => g.of (Nat.le_refl _) (sgn_flip m N M (by omega))
    · exact (rAdd_even m va' vb' L L' N M w hL hL' hma hmb h).mono fun e w' g => g.of (Nat.le_refl _) (sgn_sub m N M (by omega))
    · exact (rAdd_more m va' vb' L L' N M w hL hL' hma hmb h).mono fun e w' g => g.of (Nat.le_refl _) (sgn_sub m N M (by omega))
theorem digits_mag (va : Value) (L X : Nat) (w : World) (hL : L ≤ 1000) (ha : Mag w va L X) :
    Calls Try.prog 31 #[va] w fun e w' => ∃ v, e = .returned v ∧ Dec w' v (20 * L) X ∧ Below w.heap.size w w' := by
  obtain ⟨ao, n, c, f, rfl, h1, h2, h3, rfl⟩ := ha
  exact (Digits_any ao n c f w (by omega) h3).mono (fun e w' ⟨v, h4, h5, h6⟩ => ⟨v, h4, h5.more (by omega), h6⟩)
set_option maxHeartbeats 4000000 in
theorem of_any (va : Value) (L : Nat) (X : Int) (w : World) (hL : L ≤ 1000) (ha : Num w va L X) :
    Calls Try.prog 11 #[va] w fun e w' => AnsDN w w' e (20 * L) X := by
  obtain ⟨m, vm, N, rfl, hm, hX⟩ := ha
  obtain ⟨b0, b1, hB0⟩ := boxed2t w (.bool m) vm (.bool false) (.slice none 0 0) 25 30
  have hM := hm.below hB0
  have HX := Lib.hid hX; have HM := Lib.hid hM; have B0 := Lib.hid b0; have B1 := Lib.hid b1; have H0 := Lib.hid hB0; clear hM b1 b0 hB0 hm hX
  go_enter Try.func11, Try.ntmps11
  go_wp2
  generalize ((w.alloc (Obj.cells #[Value.bool m, vm] 25)).alloc (Obj.cells #[Value.bool false, Value.slice none 0 0] 30)) = W at *
  go_region_held3 (fun w' => w'.cell? ⟨w.heap.size, 0, none⟩ = some (.bool m) ∧ w'.cell? ⟨w.heap.size, 1, none⟩ = some vm) (first | with_reducible exact ⟨B0.out.drew.c0, B0.out.drew.c1⟩ | with_reducible exact ⟨b0.c0, b0.c1⟩ | with_reducible exact ⟨a0.c0, a0.c1⟩ | with_reducible exact ⟨z0.c0, z0.c1⟩ | fail)
    (first
      | (go_at_call 31; refine (digits_mag _ L N _ hL HM.out.drew).mono ?_; rintro e w1 ⟨v1, rfl, h1, hb1⟩; have b0 := B0.out.drew.below hb1; have b1 := B1.out.drew.below hb1; have hB1 := H0.out.drew'.trans (hb1.mono H0.out.drew'.size); clear hb1)
      | (go_at_call 24; refine (rOf_any _ _ (20 * L) N _ h1).mono ?_; rintro e w2 ⟨m2, ao2, n2, c2, rfl, h2, hb2⟩; have a0 := b0.below hb2; have a1 := b1.below hb2; obtain ⟨p0, p1, p2, p3⟩ := a1; obtain ⟨q0, q1, q2, q3⟩ := (Box2.mk p0 p1 p2 p3).set0 (.bool m2); have z0 := a0.far2 (g' := w.heap.size + 1) (by omega) (.bool m2) (.slice ao2 n2 c2); have hB2 := hB1.trans (hb2.mono hB1.size)))
  go_wp2
  exact bodyPost_ret (v := .agg #[.bool m2, .slice ao2 n2 c2]) (by simp [results, Try.results11, go_sem, p0, p1]) rfl ⟨_, _, _, _, rfl, (DNum.of h2 HX.out.symm).set2 ⟨p0, p1, p2, p3⟩ _ _, below_set2 hB2 (by omega) _ _⟩
set_option maxHeartbeats 4000000 in
theorem is_any (va vd : Value) (L M : Nat) (X : Int) (w : World) (hL : L ≤ 1000) (hM : M ≤ 1000000) (ha : RNum w va L X) (hd : DNum w vd M X) :
    Calls Try.prog 14 #[va, vd] w fun e w' => e = .returned (.bool true) ∧ Below w.heap.size w w' := by
  obtain ⟨m, vm, N, rfl, hm, hX, hN⟩ := ha
  obtain ⟨k, vk, K, rfl, hk, hY, hK⟩ := hd
  obtain ⟨rfl, rfl⟩ := sgn_inj (hX.symm.trans hY) hN hK
  obtain ⟨b0, b1, hB0⟩ := boxed2t w (.bool m) vm (.bool m) vk 25 30
  have cc := Is_any _ _ L M N _ hL hM (hm.below hB0) (hk.below hB0)
  have CC := Lib.hid cc; have H0 := Lib.hid hB0
  have hmm : (m == m) = true := by simp
  clear cc hB0 b0 b1 hm hk hX hY hN hK
  go_enter Try.func14, Try.ntmps14
  go_wp2_with fail
  refine CC.out.mono ?_
  rintro e w1 ⟨rfl, hb1⟩
  go_wp2
  go_ret
  exact ⟨rfl, H0.out.trans (hb1.mono H0.out.size)⟩
end Go.Proofs.Ytbfdianmbpfjmaa
