/- The calls of num: what they answer. -/
import Derived.Test.YtecnnpkpgbbfkaaGreatProg
import Derived.Test.YtecnnpkpgbbfkaaGreatPartf
import Derived.Deep.DeepCutAuto
import Derived.Deep.CutBlock
import Derived.Deep.RegionHeld3
namespace Go.Proofs.YtecnnpkpgbbfkaaGreat
open Go.RowKit Go.MagM
/-- A call's answer is a right Num of at most L words, X. -/
def AnsNum (w w' : World) (e : Ending) (L : Nat) (X : Int) : Prop := ∃ m ao n c, e = .returned (.agg #[.bool m, .slice ao n c]) ∧ RNum w' (.agg #[.bool m, .slice ao n c]) L X ∧ Below w.heap.size w w'
theorem AnsNum.of {w w' : World} {e : Ending} {L L' : Nat} {X Y : Int} (h : AnsNum w w' e L X) (hL : L ≤ L') (he : X = Y) : AnsNum w w' e L' Y := by
 subst he; obtain ⟨m, ao, n, c, h1, h2, h3⟩ := h; exact ⟨m, ao, n, c, h1, h2.more hL, h3⟩
set_option maxHeartbeats 1000000 in
theorem nclone_any (va : Value) (L X : Nat) (w : World) (hL : L ≤ 4000000000) (ha : Mag w va L X) :
  Calls Tryz.prog 187 #[va] w fun e w' => ∃ v, e = .returned v ∧ RMag w' v L X ∧ Below w.heap.size w w' := by
 have hlt := ha.lt
 have HA := Lib.hid ha; have HL := Lib.hid hlt; clear ha hlt
 go_enter Tryz.func187, Tryz.ntmps187
 go_wp2_with fail
 refine (Add_any _ _ L 0 X 0 _ (by omega) (by omega) HA.out (RMag.nil _).mag).mono ?_
 rintro e w1 ⟨v, rfl, h, hb⟩
 go_wp2
 go_ret
 exact ⟨v, rfl, by rw [Nat.add_zero] at h; exact h.short HL.out, hb⟩
set_option maxHeartbeats 1000000 in
theorem signed_any (m : Bool) (vm : Value) (L N : Nat) (w : World) (hm : RMag w vm L N) :
  Calls Tryz.prog 100 #[.bool m, vm] w fun e w' => AnsNum w w' e L (sgn m N) := by
 obtain ⟨ao, n, c, f, rfl, hnc, hnL, hr, hV, hR⟩ := hm
 have H := Lib.hid (And.intro hr (And.intro hV hR)); clear hr hV hR
 cases n with
 | zero =>
  go_enter Tryz.func100, Tryz.ntmps100
  go_wp2
  refine bodyPost_ret (v := .agg #[.bool false, .slice none 0 0]) (by simp [results, Tryz.results100, go_sem]) rfl ⟨_, _, _, _, rfl, ⟨false, _, 0, rfl, (RMag.nil _).more (Nat.zero_le _), ?_, fun h => by cases h⟩, (Below.refl _ _).alloc (Nat.le_refl _) _⟩
  have h0 : N = 0 := by rw [← H.out.2.1]; rfl
  subst h0
  unfold sgn; cases m <;> rfl
 | succ n =>
  have h0 : (((n : Int) + 1) == 0) = false := by simp only [beq_eq_false_iff_ne]; omega
  go_enter Tryz.func100, Tryz.ntmps100
  go_wp2
  refine bodyPost_ret (v := .agg #[.bool m, .slice ao (n + 1) c]) (by simp [results, Tryz.results100, go_sem]) rfl ⟨_, _, _, _, rfl, ⟨m, _, N, rfl, ⟨ao, n + 1, c, f, rfl, hnc, hnL, H.out.1.below ((Below.refl _ _).alloc (Nat.le_refl _) _), H.out.2.1, H.out.2.2⟩, rfl, ?_⟩, (Below.refl _ _).alloc (Nat.le_refl _) _⟩
  intro _
  have hge := (H.out.2.2).ge
  have := Bp n
  rw [H.out.2.1] at hge
  omega
set_option maxHeartbeats 2000000 in
theorem Make_any (m : Bool) (va : Value) (L N : Nat) (w : World) (hL : L ≤ 4000000000) (ha : Mag w va L N) :
  Calls Tryz.prog 145 #[.bool m, va] w fun e w' => AnsNum w w' e L (sgn m N) := by
 obtain ⟨b1, hB0⟩ := boxed1 w (.bool false) (.slice none 0 0) 101
 have hM := ha.below hB0
 have HM := Lib.hid hM; have B1 := Lib.hid b1; have H0 := Lib.hid hB0; clear hM b1 hB0 ha
 go_enter Tryz.func145, Tryz.ntmps145
 go_wp2_with fail
 refine (nclone_any _ L N _ hL HM.out).mono ?_
 rintro e w1 ⟨v1, rfl, h1, hb1⟩
 have b1 := B1.out.below hb1
 have hB1 := H0.out.trans (hb1.mono H0.out.size)
 clear hb1
 go_wp2_with fail
 refine (signed_any _ _ L N _ h1).mono ?_
 rintro e w2 ⟨m2, ao2, n2, c2, rfl, h2, hb2⟩
 obtain ⟨p0, p1, p2, p3⟩ := b1.below hb2
 have hB2 := hB1.trans (hb2.mono hB1.size)
 clear hb2 b1 h1
 go_wp2
 exact bodyPost_ret (v := .agg #[.bool m2, .slice ao2 n2 c2]) (by simp [results, Tryz.results145, go_sem, p0, p1]) rfl ⟨_, _, _, _, rfl, (RNum.of h2 rfl).set2 ⟨p0, p1, p2, p3⟩ _ _, below_set2 hB2 (by omega) _ _⟩
end Go.Proofs.YtecnnpkpgbbfkaaGreat
/- The calls of num, on: Of, Sign, Cmp. -/
namespace Go.Proofs.YtecnnpkpgbbfkaaGreat
open Go.RowKit Go.MagM
set_option maxHeartbeats 2000000 in
theorem Sign_zero (m : Bool) (vm : Value) (L N : Nat) (w : World) (hL : L ≤ 4000000000) (hm : Mag w vm L N) (h0 : N = 0) :
    Calls Tryz.prog 55 #[.agg #[.bool m, vm]] w fun e w' => e = .returned (.int .i64 (0)) ∧ Below w.heap.size w w' := by
  obtain ⟨b0, hB0⟩ := boxed1 w (.bool m) vm 101
  have hM := hm.below hB0
  have HM := Lib.hid hM; have H0 := Lib.hid hB0; clear hM hm b0 hB0
  subst h0
  have hb0 : (((bl 0 : Nat) : Int) == 0) = true := rfl
  go_enter Tryz.func55, Tryz.ntmps55
  go_wp2_with fail
  refine (Len_any _ L _ _ hL HM.out).mono ?_
  rintro e w' ⟨rfl, rfl⟩
  go_wp2
  go_ret
  exact ⟨rfl, H0.out⟩
set_option maxHeartbeats 2000000 in
theorem Sign_neg (m : Bool) (vm : Value) (L N : Nat) (w : World) (hL : L ≤ 4000000000) (hm : Mag w vm L N) (hmt : m = true) (h0 : N ≠ 0) :
    Calls Tryz.prog 55 #[.agg #[.bool m, vm]] w fun e w' => e = .returned (.int .i64 (-1)) ∧ Below w.heap.size w w' := by
  obtain ⟨b0, hB0⟩ := boxed1 w (.bool m) vm 101
  have hM := hm.below hB0
  have HM := Lib.hid hM; have H0 := Lib.hid hB0; clear hM hm b0 hB0
  subst hmt
  have hb0 : (((bl N : Nat) : Int) == 0) = false := by have := bl_pos h0; simp only [beq_eq_false_iff_ne]; omega
  go_enter Tryz.func55, Tryz.ntmps55
  go_wp2_with fail
  refine (Len_any _ L _ _ hL HM.out).mono ?_
  rintro e w' ⟨rfl, rfl⟩
  go_wp2
  go_ret
  exact ⟨rfl, H0.out⟩
set_option maxHeartbeats 2000000 in
theorem Sign_pos (m : Bool) (vm : Value) (L N : Nat) (w : World) (hL : L ≤ 4000000000) (hm : Mag w vm L N) (hmt : m = false) (h0 : N ≠ 0) :
    Calls Tryz.prog 55 #[.agg #[.bool m, vm]] w fun e w' => e = .returned (.int .i64 (1)) ∧ Below w.heap.size w w' := by
  obtain ⟨b0, hB0⟩ := boxed1 w (.bool m) vm 101
  have hM := hm.below hB0
  have HM := Lib.hid hM; have H0 := Lib.hid hB0; clear hM hm b0 hB0
  subst hmt
  have hb0 : (((bl N : Nat) : Int) == 0) = false := by have := bl_pos h0; simp only [beq_eq_false_iff_ne]; omega
  go_enter Tryz.func55, Tryz.ntmps55
  go_wp2_with fail
  refine (Len_any _ L _ _ hL HM.out).mono ?_
  rintro e w' ⟨rfl, rfl⟩
  go_wp2
  go_ret
  exact ⟨rfl, H0.out⟩
theorem sgn_sign (m : Bool) (N : Nat) : (sgn m N).sign = if N = 0 then 0 else if m then -1 else 1 := by
  cases N with
  | zero => cases m <;> rfl
  | succ N => cases m <;> simp [sgn] <;> rfl
theorem Sign_any (va : Value) (L : Nat) (X : Int) (w : World) (hL : L ≤ 4000000000) (ha : Num w va L X) :
    Calls Tryz.prog 55 #[va] w fun e w' => e = .returned (.int .i64 X.sign) ∧ Below w.heap.size w w' := by
  obtain ⟨m, vm, N, rfl, hm, rfl⟩ := ha
  rw [sgn_sign]
  by_cases h0 : N = 0
  · rw [if_pos h0]; exact Sign_zero m vm L N w hL hm h0
  · rw [if_neg h0]
    cases m with
    | true => exact Sign_neg true vm L N w hL hm rfl h0
    | false => exact Sign_pos false vm L N w hL hm rfl h0
/-- Less, as much, more: -1, 0, 1. -/
def icmp (x y : Int) : Int := if x < y then -1 else if y < x then 1 else 0
theorem icmp_lt {x y : Int} (h : x < y) : icmp x y = -1 := by simp [icmp, h]
theorem icmp_gt {x y : Int} (h : y < x) : icmp x y = 1 := by have : ¬ x < y := by omega
                                                             simp [icmp, h, this]
theorem icmp_self (x : Int) : icmp x x = 0 := by simp [icmp]
end Go.Proofs.YtecnnpkpgbbfkaaGreat
/- The calls of num, on: Add, Sub, Mul. -/
namespace Go.Proofs.YtecnnpkpgbbfkaaGreat
open Go.RowKit Go.MagM
set_option maxHeartbeats 4000000 in
theorem Mul_mags (k : Bool) (m : Bool) (va vb : Value) (L L' N M : Nat) (w : World) (hL : L ≤ 2000000000) (hL' : L' ≤ 2000000000) (hma : Mag w va L N) (hmb : Mag w vb L' M) :
  Calls Tryz.prog 57 #[.agg #[.bool m, va], .agg #[.bool k, vb]] w fun e w' => AnsNum w w' e (L + L') (sgn (m != k) (N * M)) := by
 obtain ⟨ao, an, ac, rfl⟩ := hma.slice
 obtain ⟨bo, bn, bc, rfl⟩ := hmb.slice
 obtain ⟨b0, b1, b2, hB0⟩ := boxed3 w (.bool m) (.slice ao an ac) (.bool k) (.slice bo bn bc) (.bool false) (.slice none 0 0) 101
 have hma := hma.below hB0
 have hmb := hmb.below hB0
 have HMA := Lib.hid hma; have HMB := Lib.hid hmb; have B0 := Lib.hid b0; have B1 := Lib.hid b1; have B2 := Lib.hid b2; have H0 := Lib.hid hB0
 clear hma hmb b0 b1 b2 hB0
 go_enter Tryz.func57, Tryz.ntmps57
 go_wp2
 generalize (((w.alloc (Obj.cells #[Value.bool m, Value.slice ao an ac] 101)).alloc (Obj.cells #[Value.bool k, Value.slice bo bn bc] 101)).alloc (Obj.cells #[Value.bool false, Value.slice none 0 0] 101)) = W at *
 have c0 := B0.out.c0; have c1 := B0.out.c1; have d0 := B1.out.c0; have d1 := B1.out.c1
 go_region_held3 (fun w' => w'.cell? ⟨w.heap.size, 0, none⟩ = some (.bool m) ∧ w'.cell? ⟨w.heap.size, 1, none⟩ = some (.slice ao an ac) ∧ w'.cell? ⟨w.heap.size + 1, 0, none⟩ = some (.bool k) ∧ w'.cell? ⟨w.heap.size + 1, 1, none⟩ = some (.slice bo bn bc)) (first | with_reducible exact ⟨B0.out.drew.c0, B0.out.drew.c1, B1.out.drew.c0, B1.out.drew.c1⟩ | with_reducible exact ⟨b0.c0, b0.c1, b1.c0, b1.c1⟩ | with_reducible exact ⟨a0.c0, a0.c1, a1.c0, a1.c1⟩ | with_reducible exact ⟨z0.c0, z0.c1, z1.c0, z1.c1⟩ | fail)
  (first
   | (go_at_call 101; refine (Mul_any _ _ L L' N M _ (by omega) (by omega) HMA.out.drew HMB.out.drew).mono ?_; rintro e w1 ⟨v1, rfl, h1, hb1⟩; have b0 := B0.out.drew.below hb1; have b1 := B1.out.drew.below hb1; have b2 := B2.out.drew.below hb1; have hB1 := H0.out.drew'.trans (hb1.mono H0.out.drew'.size); clear hb1)
   | (go_at_call 100; refine (signed_any _ _ (L + L') _ _ h1).mono ?_; rintro e w2 ⟨m2, ao2, n2, c2, rfl, h2, hb2⟩; have a0 := b0.below hb2; have a1 := b1.below hb2; obtain ⟨p0, p1, p2, p3⟩ := b2.below hb2; obtain ⟨q0, q1, q2, q3⟩ := (Box2.mk p0 p1 p2 p3).set0 (.bool m2); have z0 := a0.far2 (g' := w.heap.size + 1 + 1) (by omega) (.bool m2) (.slice ao2 n2 c2); have z1 := a1.far2 (g' := w.heap.size + 1 + 1) (by omega) (.bool m2) (.slice ao2 n2 c2); have hB2 := hB1.trans (hb2.mono hB1.size)))
 go_wp2
 exact bodyPost_ret (v := .agg #[.bool m2, .slice ao2 n2 c2]) (by simp [results, Tryz.results57, go_sem, p0, p1]) rfl ⟨_, _, _, _, rfl, ((RNum.of h2 rfl).more (by omega)).set2 ⟨p0, p1, p2, p3⟩ _ _, below_set2 hB2 (by omega) _ _⟩
set_option maxHeartbeats 4000000 in
theorem Add_same (m : Bool) (va vb : Value) (L L' N M : Nat) (w : World) (hL : L ≤ 2000000000) (hL' : L' ≤ 2000000000) (hma : Mag w va L N) (hmb : Mag w vb L' M) :
  Calls Tryz.prog 99 #[.agg #[.bool m, va], .agg #[.bool m, vb]] w fun e w' => AnsNum w w' e (max L L' + 1) (sgn m (N + M)) := by
 obtain ⟨ao, an, ac, rfl⟩ := hma.slice
 obtain ⟨bo, bn, bc, rfl⟩ := hmb.slice
 obtain ⟨b0, b1, b2, hB0⟩ := boxed3 w (.bool m) (.slice ao an ac) (.bool m) (.slice bo bn bc) (.bool false) (.slice none 0 0) 101
 have hma := hma.below hB0
 have hmb := hmb.below hB0
 have HMA := Lib.hid hma; have HMB := Lib.hid hmb; have B0 := Lib.hid b0; have B1 := Lib.hid b1; have B2 := Lib.hid b2; have H0 := Lib.hid hB0
 clear hma hmb b0 b1 b2 hB0
 have hmm : (m == m) = true := by simp
 go_enter Tryz.func99, Tryz.ntmps99
 go_wp2
 generalize (((w.alloc (Obj.cells #[Value.bool m, Value.slice ao an ac] 101)).alloc (Obj.cells #[Value.bool m, Value.slice bo bn bc] 101)).alloc (Obj.cells #[Value.bool false, Value.slice none 0 0] 101)) = W at *
 have c0 := B0.out.c0; have c1 := B0.out.c1; have d0 := B1.out.c0; have d1 := B1.out.c1
 go_region_held3 (fun w' => w'.cell? ⟨w.heap.size, 0, none⟩ = some (.bool m) ∧ w'.cell? ⟨w.heap.size, 1, none⟩ = some (.slice ao an ac) ∧ w'.cell? ⟨w.heap.size + 1, 0, none⟩ = some (.bool m) ∧ w'.cell? ⟨w.heap.size + 1, 1, none⟩ = some (.slice bo bn bc)) (first | with_reducible exact ⟨B0.out.drew.c0, B0.out.drew.c1, B1.out.drew.c0, B1.out.drew.c1⟩ | with_reducible exact ⟨b0.c0, b0.c1, b1.c0, b1.c1⟩ | with_reducible exact ⟨a0.c0, a0.c1, a1.c0, a1.c1⟩ | with_reducible exact ⟨z0.c0, z0.c1, z1.c0, z1.c1⟩ | fail)
  (first
   | (go_at_call 140; refine (Add_any _ _ L L' N M _ (by omega) (by omega) HMA.out.drew HMB.out.drew).mono ?_; rintro e w1 ⟨v1, rfl, h1, hb1⟩; have b0 := B0.out.drew.below hb1; have b1 := B1.out.drew.below hb1; have b2 := B2.out.drew.below hb1; have hB1 := H0.out.drew'.trans (hb1.mono H0.out.drew'.size); clear hb1)
   | (go_at_call 100; refine (signed_any _ _ (max L L' + 1) _ _ h1).mono ?_; rintro e w2 ⟨m2, ao2, n2, c2, rfl, h2, hb2⟩; have a0 := b0.below hb2; have a1 := b1.below hb2; obtain ⟨p0, p1, p2, p3⟩ := b2.below hb2; obtain ⟨q0, q1, q2, q3⟩ := (Box2.mk p0 p1 p2 p3).set0 (.bool m2); have z0 := a0.far2 (g' := w.heap.size + 1 + 1) (by omega) (.bool m2) (.slice ao2 n2 c2); have z1 := a1.far2 (g' := w.heap.size + 1 + 1) (by omega) (.bool m2) (.slice ao2 n2 c2); have hB2 := hB1.trans (hb2.mono hB1.size)))
 go_wp2
 exact bodyPost_ret (v := .agg #[.bool m2, .slice ao2 n2 c2]) (by simp [results, Tryz.results99, go_sem, p0, p1]) rfl ⟨_, _, _, _, rfl, ((RNum.of h2 rfl).more (by omega)).set2 ⟨p0, p1, p2, p3⟩ _ _, below_set2 hB2 (by omega) _ _⟩
set_option maxHeartbeats 4000000 in
theorem Add_more (m : Bool) (va vb : Value) (L L' N M : Nat) (w : World) (hL : L ≤ 2000000000) (hL' : L' ≤ 2000000000) (hma : Mag w va L N) (hmb : Mag w vb L' M) (h : M < N) :
  Calls Tryz.prog 99 #[.agg #[.bool m, va], .agg #[.bool !m, vb]] w fun e w' => AnsNum w w' e (max L L' + 1) (sgn m (N - M)) := by
 obtain ⟨ao, an, ac, rfl⟩ := hma.slice
 obtain ⟨bo, bn, bc, rfl⟩ := hmb.slice
 obtain ⟨b0, b1, b2, hB0⟩ := boxed3 w (.bool m) (.slice ao an ac) (.bool (!m)) (.slice bo bn bc) (.bool false) (.slice none 0 0) 101
 have hma := hma.below hB0
 have hmb := hmb.below hB0
 have HMA := Lib.hid hma; have HMB := Lib.hid hmb; have B0 := Lib.hid b0; have B1 := Lib.hid b1; have B2 := Lib.hid b2; have H0 := Lib.hid hB0
 clear hma hmb b0 b1 b2 hB0
 have hmm : (m == !m) = false := by cases m <;> rfl
 have cc := Cmp_any _ _ L L' N M _ (by omega) (by omega) HMA.out HMB.out
 rw [show cmpn N M = 1 from cmpn_of_gt h] at cc
 have CC := Lib.hid cc; clear cc h
 go_enter Tryz.func99, Tryz.ntmps99
 go_wp2_with fail
 refine (CC.out).mono ?_
 rintro e w1 ⟨q, rfl, hq⟩
 obtain ⟨hb1, hz⟩ := drewN_size hq
 clear hq hz
 have b0 := B0.out.below hb1; have b1 := B1.out.below hb1; have b2 := B2.out.below hb1
 have hma := HMA.out.below hb1; have hmb := HMB.out.below hb1
 have hB0 := H0.out.trans (hb1.mono H0.out.size)
 clear hb1 B0 B1 B2 HMA HMB H0
 have B0 := Lib.hid b0; have B1 := Lib.hid b1; have B2 := Lib.hid b2; have H0 := Lib.hid hB0; have HMA := Lib.hid hma; have HMB := Lib.hid hmb
 clear b0 b1 b2 hB0 hma hmb
 go_wp2
 have c0 := B0.out.c0; have c1 := B0.out.c1; have d0 := B1.out.c0; have d1 := B1.out.c1
 go_region_held3 (fun w' => w'.cell? ⟨w.heap.size, 0, none⟩ = some (.bool m) ∧ w'.cell? ⟨w.heap.size, 1, none⟩ = some (.slice ao an ac) ∧ w'.cell? ⟨w.heap.size + 1, 0, none⟩ = some (.bool (!m)) ∧ w'.cell? ⟨w.heap.size + 1, 1, none⟩ = some (.slice bo bn bc)) (first | with_reducible exact ⟨B0.out.drew.c0, B0.out.drew.c1, B1.out.drew.c0, B1.out.drew.c1⟩ | with_reducible exact ⟨b0.c0, b0.c1, b1.c0, b1.c1⟩ | with_reducible exact ⟨a0.c0, a0.c1, a1.c0, a1.c1⟩ | with_reducible exact ⟨z0.c0, z0.c1, z1.c0, z1.c1⟩ | fail)
  (first
   | (go_at_call 142; refine (Sub_any _ _ L L' N M _ (by omega) (by omega) HMA.out.drew HMB.out.drew).mono ?_; rintro e w1 ⟨v1, rfl, h1, hb1⟩; have b0 := B0.out.drew.below hb1; have b1 := B1.out.drew.below hb1; have b2 := B2.out.drew.below hb1; have hB1 := H0.out.drew'.trans (hb1.mono H0.out.drew'.size); clear hb1)
   | (go_at_call 100; refine (signed_any _ _ L _ _ h1).mono ?_; rintro e w2 ⟨m2, ao2, n2, c2, rfl, h2, hb2⟩; have a0 := b0.below hb2; have a1 := b1.below hb2; obtain ⟨p0, p1, p2, p3⟩ := b2.below hb2; obtain ⟨q0, q1, q2, q3⟩ := (Box2.mk p0 p1 p2 p3).set0 (.bool m2); have z0 := a0.far2 (g' := w.heap.size + 1 + 1) (by omega) (.bool m2) (.slice ao2 n2 c2); have z1 := a1.far2 (g' := w.heap.size + 1 + 1) (by omega) (.bool m2) (.slice ao2 n2 c2); have hB2 := hB1.trans (hb2.mono hB1.size)))
 go_wp2
 exact bodyPost_ret (v := .agg #[.bool m2, .slice ao2 n2 c2]) (by simp [results, Tryz.results99, go_sem, p0, p1]) rfl ⟨_, _, _, _, rfl, ((RNum.of h2 rfl).more (by omega)).set2 ⟨p0, p1, p2, p3⟩ _ _, below_set2 hB2 (by omega) _ _⟩
set_option maxHeartbeats 4000000 in
theorem Add_even (m : Bool) (va vb : Value) (L L' N M : Nat) (w : World) (hL : L ≤ 2000000000) (hL' : L' ≤ 2000000000) (hma : Mag w va L N) (hmb : Mag w vb L' M) (h : N = M) :
  Calls Tryz.prog 99 #[.agg #[.bool m, va], .agg #[.bool !m, vb]] w fun e w' => AnsNum w w' e (max L L' + 1) (sgn m (N - M)) := by
 obtain ⟨ao, an, ac, rfl⟩ := hma.slice
 obtain ⟨bo, bn, bc, rfl⟩ := hmb.slice
 obtain ⟨b0, b1, b2, hB0⟩ := boxed3 w (.bool m) (.slice ao an ac) (.bool (!m)) (.slice bo bn bc) (.bool false) (.slice none 0 0) 101
 have hma := hma.below hB0
 have hmb := hmb.below hB0
 have HMA := Lib.hid hma; have HMB := Lib.hid hmb; have B0 := Lib.hid b0; have B1 := Lib.hid b1; have B2 := Lib.hid b2; have H0 := Lib.hid hB0
 clear hma hmb b0 b1 b2 hB0
 have hmm : (m == !m) = false := by cases m <;> rfl
 have cc := Cmp_any _ _ L L' N M _ (by omega) (by omega) HMA.out HMB.out
 rw [show cmpn N M = 0 from (by rw [h]; exact cmpn_self _)] at cc
 have CC := Lib.hid cc; clear cc h
 go_enter Tryz.func99, Tryz.ntmps99
 go_wp2_with fail
 refine (CC.out).mono ?_
 rintro e w1 ⟨q, rfl, hq⟩
 obtain ⟨hb1, hz⟩ := drewN_size hq
 clear hq hz
 have b0 := B0.out.below hb1; have b1 := B1.out.below hb1; have b2 := B2.out.below hb1
 have hma := HMA.out.below hb1; have hmb := HMB.out.below hb1
 have hB0 := H0.out.trans (hb1.mono H0.out.size)
 clear hb1 B0 B1 B2 HMA HMB H0
 have B0 := Lib.hid b0; have B1 := Lib.hid b1; have B2 := Lib.hid b2; have H0 := Lib.hid hB0; have HMA := Lib.hid hma; have HMB := Lib.hid hmb
 clear b0 b1 b2 hB0 hma hmb
 go_wp2
 have c0 := B0.out.c0; have c1 := B0.out.c1; have d0 := B1.out.c0; have d1 := B1.out.c1
 go_region_held3 (fun w' => w'.cell? ⟨w.heap.size, 0, none⟩ = some (.bool m) ∧ w'.cell? ⟨w.heap.size, 1, none⟩ = some (.slice ao an ac) ∧ w'.cell? ⟨w.heap.size + 1, 0, none⟩ = some (.bool (!m)) ∧ w'.cell? ⟨w.heap.size + 1, 1, none⟩ = some (.slice bo bn bc)) (first | with_reducible exact ⟨B0.out.drew.c0, B0.out.drew.c1, B1.out.drew.c0, B1.out.drew.c1⟩ | with_reducible exact ⟨b0.c0, b0.c1, b1.c0, b1.c1⟩ | with_reducible exact ⟨a0.c0, a0.c1, a1.c0, a1.c1⟩ | with_reducible exact ⟨z0.c0, z0.c1, z1.c0, z1.c1⟩ | fail)
  (first
   | (go_at_call 142; refine (Sub_any _ _ L L' N M _ (by omega) (by omega) HMA.out.drew HMB.out.drew).mono ?_; rintro e w1 ⟨v1, rfl, h1, hb1⟩; have b0 := B0.out.drew.below hb1; have b1 := B1.out.drew.below hb1; have b2 := B2.out.drew.below hb1; have hB1 := H0.out.drew'.trans (hb1.mono H0.out.drew'.size); clear hb1)
   | (go_at_call 100; refine (signed_any _ _ L _ _ h1).mono ?_; rintro e w2 ⟨m2, ao2, n2, c2, rfl, h2, hb2⟩; have a0 := b0.below hb2; have a1 := b1.below hb2; obtain ⟨p0, p1, p2, p3⟩ := b2.below hb2; obtain ⟨q0, q1, q2, q3⟩ := (Box2.mk p0 p1 p2 p3).set0 (.bool m2); have z0 := a0.far2 (g' := w.heap.size + 1 + 1) (by omega) (.bool m2) (.slice ao2 n2 c2); have z1 := a1.far2 (g' := w.heap.size + 1 + 1) (by omega) (.bool m2) (.slice ao2 n2 c2); have hB2 := hB1.trans (hb2.mono hB1.size)))
 go_wp2
 exact bodyPost_ret (v := .agg #[.bool m2, .slice ao2 n2 c2]) (by simp [results, Tryz.results99, go_sem, p0, p1]) rfl ⟨_, _, _, _, rfl, ((RNum.of h2 rfl).more (by omega)).set2 ⟨p0, p1, p2, p3⟩ _ _, below_set2 hB2 (by omega) _ _⟩
set_option maxHeartbeats 4000000 in
theorem Add_less (m : Bool) (va vb : Value) (L L' N M : Nat) (w : World) (hL : L ≤ 2000000000) (hL' : L' ≤ 2000000000) (hma : Mag w va L N) (hmb : Mag w vb L' M) (h : N < M) :
  Calls Tryz.prog 99 #[.agg #[.bool m, va], .agg #[.bool !m, vb]] w fun e w' => AnsNum w w' e (max L L' + 1) (sgn (!m) (M - N)) := by
 obtain ⟨ao, an, ac, rfl⟩ := hma.slice
 obtain ⟨bo, bn, bc, rfl⟩ := hmb.slice
 obtain ⟨b0, b1, b2, hB0⟩ := boxed3 w (.bool m) (.slice ao an ac) (.bool (!m)) (.slice bo bn bc) (.bool false) (.slice none 0 0) 101
 have hma := hma.below hB0
 have hmb := hmb.below hB0
 have HMA := Lib.hid hma; have HMB := Lib.hid hmb; have B0 := Lib.hid b0; have B1 := Lib.hid b1; have B2 := Lib.hid b2; have H0 := Lib.hid hB0
 clear hma hmb b0 b1 b2 hB0
 have hmm : (m == !m) = false := by cases m <;> rfl
 have cc := Cmp_any _ _ L L' N M _ (by omega) (by omega) HMA.out HMB.out
 rw [show cmpn N M = -1 from cmpn_of_lt h] at cc
 have CC := Lib.hid cc; clear cc h
 go_enter Tryz.func99, Tryz.ntmps99
 go_wp2_with fail
 refine (CC.out).mono ?_
 rintro e w1 ⟨q, rfl, hq⟩
 obtain ⟨hb1, hz⟩ := drewN_size hq
 clear hq hz
 have b0 := B0.out.below hb1; have b1 := B1.out.below hb1; have b2 := B2.out.below hb1
 have hma := HMA.out.below hb1; have hmb := HMB.out.below hb1
 have hB0 := H0.out.trans (hb1.mono H0.out.size)
 clear hb1 B0 B1 B2 HMA HMB H0
 have hB3 : Below w.heap.size w (((((w1.setCell ⟨w.heap.size, 0, none⟩ (.bool !m)).setCell ⟨w.heap.size, 1, none⟩ (.slice bo bn bc)).setCell ⟨w.heap.size + 1, 0, none⟩ (.bool m)).setCell ⟨w.heap.size + 1, 1, none⟩ (.slice ao an ac))) := below_set2 (below_set2 hB0 (by omega) _ _) (by omega) _ _
 have e0 := (b0.set2 (.bool !m) (.slice bo bn bc)).far2 (g' := w.heap.size + 1) (by omega) (.bool m) (.slice ao an ac)
 have e1 := (b1.far2 (g' := w.heap.size) (by omega) (.bool !m) (.slice bo bn bc)).set2 (.bool m) (.slice ao an ac)
 have e2 := (b2.far2 (g' := w.heap.size) (by omega) (.bool !m) (.slice bo bn bc)).far2 (g' := w.heap.size + 1) (by omega) (.bool m) (.slice ao an ac)
 have hma' := (hma.set2 b0 (.bool !m) (.slice bo bn bc)).set2 (b1.far2 (g' := w.heap.size) (by omega) (.bool !m) (.slice bo bn bc)) (.bool m) (.slice ao an ac)
 have hmb' := (hmb.set2 b0 (.bool !m) (.slice bo bn bc)).set2 (b1.far2 (g' := w.heap.size) (by omega) (.bool !m) (.slice bo bn bc)) (.bool m) (.slice ao an ac)
 have E0 := Lib.hid e0; have E1 := Lib.hid e1; have E2 := Lib.hid e2; have H3 := Lib.hid hB3; have HMA := Lib.hid hma'; have HMB := Lib.hid hmb'
 have b0' := b0.set0 (.bool !m); have b1' := (b1.far2 (g' := w.heap.size) (by omega) (.bool !m) (.slice bo bn bc)).set0 (.bool m)
 have b1'' := b1.far2 (g' := w.heap.size) (by omega) (.bool !m) (.slice bo bn bc)
 obtain ⟨x0, x1, x2, x3⟩ := b0
 obtain ⟨y0, y1, y2, y3⟩ := b1
 obtain ⟨s0, s1, s2, s3⟩ := b0'
 obtain ⟨t0, t1, t2, t3⟩ := b1'
 obtain ⟨u0, u1, u2, u3⟩ := b1''
 clear e0 e1 e2 hB3 hma' hmb' hma hmb b2
 go_wp2
 clear x0 x1 x2 x3 y0 y1 y2 y3 s0 s1 s2 s3 t0 t1 t2 t3 u0 u1 u2 u3 hB0
 generalize ((((w1.setCell ⟨w.heap.size, 0, none⟩ (.bool !m)).setCell ⟨w.heap.size, 1, none⟩ (.slice bo bn bc)).setCell ⟨w.heap.size + 1, 0, none⟩ (.bool m)).setCell ⟨w.heap.size + 1, 1, none⟩ (.slice ao an ac)) = W at *
 have B0 := E0; have B1 := E1; have B2 := E2; have H0 := H3
 have c0 := B0.out.c0; have c1 := B0.out.c1; have d0 := B1.out.c0; have d1 := B1.out.c1
 go_region_held3 (fun w' => w'.cell? ⟨w.heap.size, 0, none⟩ = some (.bool (!m)) ∧ w'.cell? ⟨w.heap.size, 1, none⟩ = some (.slice bo bn bc) ∧ w'.cell? ⟨w.heap.size + 1, 0, none⟩ = some (.bool m) ∧ w'.cell? ⟨w.heap.size + 1, 1, none⟩ = some (.slice ao an ac)) (first | with_reducible exact ⟨B0.out.drew.c0, B0.out.drew.c1, B1.out.drew.c0, B1.out.drew.c1⟩ | with_reducible exact ⟨b0.c0, b0.c1, b1.c0, b1.c1⟩ | with_reducible exact ⟨a0.c0, a0.c1, a1.c0, a1.c1⟩ | with_reducible exact ⟨z0.c0, z0.c1, z1.c0, z1.c1⟩ | fail)
  (first
   | (go_at_call 142; refine (Sub_any _ _ L' L M N _ (by omega) (by omega) HMB.out.drew HMA.out.drew).mono ?_; rintro e w1 ⟨v1, rfl, h1, hb1⟩; have b0 := B0.out.drew.below hb1; have b1 := B1.out.drew.below hb1; have b2 := B2.out.drew.below hb1; have hB1 := H0.out.drew'.trans (hb1.mono H0.out.drew'.size); clear hb1)
   | (go_at_call 100; refine (signed_any _ _ L' _ _ h1).mono ?_; rintro e w2 ⟨m2, ao2, n2, c2, rfl, h2, hb2⟩; have a0 := b0.below hb2; have a1 := b1.below hb2; obtain ⟨p0, p1, p2, p3⟩ := b2.below hb2; obtain ⟨q0, q1, q2, q3⟩ := (Box2.mk p0 p1 p2 p3).set0 (.bool m2); have z0 := a0.far2 (g' := w.heap.size + 1 + 1) (by omega) (.bool m2) (.slice ao2 n2 c2); have z1 := a1.far2 (g' := w.heap.size + 1 + 1) (by omega) (.bool m2) (.slice ao2 n2 c2); have hB2 := hB1.trans (hb2.mono hB1.size)))
 go_wp2
 exact bodyPost_ret (v := .agg #[.bool m2, .slice ao2 n2 c2]) (by simp [results, Tryz.results99, go_sem, p0, p1]) rfl ⟨_, _, _, _, rfl, ((RNum.of h2 rfl).more (by omega)).set2 ⟨p0, p1, p2, p3⟩ _ _, below_set2 hB2 (by omega) _ _⟩
end Go.Proofs.YtecnnpkpgbbfkaaGreat
/- The calls of num, on: Add, Sub, Mul of any Nums; Sum. -/
namespace Go.Proofs.YtecnnpkpgbbfkaaGreat
open Go.RowKit Go.MagM
theorem nMul_any (va vb : Value) (L L' : Nat) (X Y : Int) (w : World) (hL : L ≤ 2000000000) (hL' : L' ≤ 2000000000) (ha : Num w va L X) (hb : Num w vb L' Y) :
  Calls Tryz.prog 57 #[va, vb] w fun e w' => AnsNum w w' e (L + L') (X * Y) := by
 obtain ⟨m, va', N, rfl, hma, rfl⟩ := ha
 obtain ⟨k, vb', M, rfl, hmb, rfl⟩ := hb
 exact (Mul_mags k m va' vb' L L' N M w hL hL' hma hmb).mono fun e w' h => h.of (Nat.le_refl _) (sgn_mul m k N M)
theorem nAdd_any (va vb : Value) (L L' : Nat) (X Y : Int) (w : World) (hL : L ≤ 2000000000) (hL' : L' ≤ 2000000000) (ha : Num w va L X) (hb : Num w vb L' Y) :
  Calls Tryz.prog 99 #[va, vb] w fun e w' => AnsNum w w' e (max L L' + 1) (X + Y) := by
 obtain ⟨m, va', N, rfl, hma, rfl⟩ := ha
 obtain ⟨k, vb', M, rfl, hmb, rfl⟩ := hb
 by_cases hmk : m = k
 ·subst hmk
  exact (Add_same m va' vb' L L' N M w hL hL' hma hmb).mono fun e w' h => h.of (Nat.le_refl _) (sgn_add m N M)
 ·have hk : k = !m := by cases m <;> cases k <;> simp at hmk <;> rfl
  subst hk
  rcases Nat.lt_trichotomy N M with h | h | h
  ·exact (Add_less m va' vb' L L' N M w hL hL' hma hmb h).mono fun e w' g => g.of (Nat.le_refl _) (sgn_flip m N M (by omega))
  ·exact (Add_even m va' vb' L L' N M w hL hL' hma hmb h).mono fun e w' g => g.of (Nat.le_refl _) (sgn_sub m N M (by omega))
  ·exact (Add_more m va' vb' L L' N M w hL hL' hma hmb h).mono fun e w' g => g.of (Nat.le_refl _) (sgn_sub m N M (by omega))
/-- A slice of Nums: what its cells hold. -/
def Nums (w : World) (ao : Option Addr) (l : List (Nat × Int)) : Prop :=
 ∀ i L X, l[i]? = some (L, X) → ∃ b o m so sn sc, ao = some ⟨b, o, none⟩ ∧ w.cell? ⟨b, o + i * 2, none⟩ = some (.bool m) ∧ w.cell? ⟨b, o + i * 2 + 1, none⟩ = some (.slice so sn sc) ∧ Num w (.agg #[.bool m, .slice so sn sc]) L X
theorem Nums.below {w w' : World} {ao : Option Addr} {l : List (Nat × Int)} (h : Nums w ao l) (hb : Below w.heap.size w w') : Nums w' ao l := by
 intro i L X hi
 obtain ⟨b, o, m, so, sn, sc, h1, h2, h3, h4⟩ := h i L X hi
 have hlt := World.block_lt_of_cell? w _ h2
 exact ⟨b, o, m, so, sn, sc, h1, (hb.cell (p := ⟨b, o + i * 2, none⟩) hlt).trans h2, (hb.cell (p := ⟨b, o + i * 2 + 1, none⟩) hlt).trans h3, h4.below hb⟩
/-- How many words a sum may have, and what it is. -/
def sumLen (l : List (Nat × Int)) (k : Nat) : Nat := ((l.take k).map Prod.fst).foldl (fun a b => max a b + 1) 0
def sumVal (l : List (Nat × Int)) (k : Nat) : Int := ((l.take k).map Prod.snd).sum
theorem take_next {l : List (Nat × Int)} {k : Nat} {a : Nat × Int} (h : l[k]? = some a) : l.take (k + 1) = l.take k ++ [a] := by
 have hk : k < l.length := (List.getElem?_eq_some_iff.1 h).1
 rw [List.take_succ_eq_append_getElem hk, (List.getElem?_eq_some_iff.1 h).2]
theorem sumLen_succ {l : List (Nat × Int)} {k : Nat} {L : Nat} {X : Int} (h : l[k]? = some (L, X)) : sumLen l (k + 1) = max (sumLen l k) L + 1 := by
 unfold sumLen; rw [take_next h, List.map_append, List.foldl_append]; rfl
theorem sumVal_succ {l : List (Nat × Int)} {k : Nat} {L : Nat} {X : Int} (h : l[k]? = some (L, X)) : sumVal l (k + 1) = sumVal l k + X := by
 unfold sumVal; rw [take_next h, List.map_append, List.sum_append]; simp
theorem sumLen_le {l : List (Nat × Int)} {M : Nat} (h : ∀ L X, (L, X) ∈ l → L ≤ M) : ∀ k, k ≤ l.length → sumLen l k ≤ M + k
 | 0, _ => Nat.zero_le _
 | k + 1, hk => by
  have hk' : k < l.length := hk
  have ih := sumLen_le h k (by omega)
  have hm := h (l[k]).1 (l[k]).2 (List.getElem_mem hk')
  rw [sumLen_succ (L := (l[k]).1) (X := (l[k]).2) (List.getElem?_eq_getElem hk')]
  omega
set_option maxHeartbeats 4000000 in
theorem Sum_go (ao : Option Addr) (n c : Nat) (l : List (Nat × Int)) (w : World) (hn : l.length = n) (hn9 : n ≤ 1000000) (hl : ∀ L X, (L, X) ∈ l → L ≤ 1000000000) (ha : Nums w ao l) :
  Calls Tryz.prog 56 #[.slice ao n c] w fun e w' => AnsNum w w' e (sumLen l n) (sumVal l n) := by
 have HA := Lib.hid ha; have HN := Lib.hid hn; have HL := Lib.hid hl; clear ha hn hl
 obtain ⟨b0, b1, hB0⟩ := boxed2 w (.bool false) (.slice none 0 0) (.bool false) (.slice none 0 0) 101
 have B0 := Lib.hid b0; have B1 := Lib.hid b1; have H0 := Lib.hid hB0; clear b0 b1 hB0
 go_enter Tryz.func56, Tryz.ntmps56
 go_wp2
 go_loopw [9] (fun iv wr => ∃ k : Nat, k ≤ n ∧ iv = .int .i64 k ∧ Below w.heap.size w wr ∧ Box2 wr w.heap.size (.bool false) (.slice none 0 0) ∧
  ∃ m tp tn tc, Box2 wr (w.heap.size + 1) (.bool m) (.slice tp tn tc) ∧ RNum wr (.agg #[.bool m, .slice tp tn tc]) (sumLen l k) (sumVal l k)) (fun iv _ => n - (intOf iv).toNat)
 case atStart => exact ⟨0, Nat.zero_le _, rfl, H0.out, B0.out, false, none, 0, 0, B1.out, ⟨false, _, 0, rfl, RMag.nil _, rfl, fun h => by cases h⟩⟩
 case round =>
  obtain ⟨k, hk, rfl, hbel, hb0, m, tp, tn, tc, hb1, hr⟩ := hrel
  have HB := Lib.hid hbel; have HB0 := Lib.hid hb0; have HB1 := Lib.hid hb1; have HR := Lib.hid hr
  by_cases hlt : k < n
  ·obtain ⟨Lk, Xk, hlk⟩ : ∃ Lk Xk, l[k]? = some (Lk, Xk) := ⟨_, _, List.getElem?_eq_getElem (by rw [HN.out]; exact hlt)⟩
   obtain ⟨b, o, m2, so, sn, sc, h1, h2, h3, h4⟩ := (HA.out.below hbel) k Lk Xk hlk
   subst h1
   have HLK := Lib.hid hlk; have H4 := Lib.hid h4
   clear hlk h4 hr hbel hb0
   obtain ⟨x0, x1, x2, x3⟩ := hb1
   obtain ⟨s0, s1, s2, s3⟩ := HB1.out.alloc (Obj.cells #[Value.bool m2, Value.slice so sn sc] 101)
   have hal : Below wr.heap.size wr (wr.alloc (Obj.cells #[Value.bool m2, Value.slice so sn sc] 101)) := (Below.refl _ _).alloc (Nat.le_refl _) _
   have hsl : sumLen l k ≤ 2000000000 := by
    have h1 := sumLen_le HL.out k (by rw [HN.out]; exact hk)
    omega
   have hLk : Lk ≤ 2000000000 := by
    have h1 := HL.out Lk Xk (List.mem_of_getElem? HLK.out)
    omega
   have cc := nAdd_any _ _ (sumLen l k) Lk (sumVal l k) Xk _ hsl hLk (HR.out.num.below hal) (H4.out.below hal)
   have CC := Lib.hid cc; have HAL := Lib.hid hal
   clear cc hal hsl hLk x0 x1 x2 x3
   obtain ⟨x0, x1, x2, x3⟩ := HB1.out
   go_wp2_with fail
   refine CC.out.mono ?_
   rintro e w1 ⟨m3, ao3, n3, c3, rfl, h5, hb5⟩
   have hbw := HB.out.trans ((HAL.out.trans (hb5.mono (by simp))).mono HB.out.size)
   have hA0 := (HB0.out.below HAL.out).below hb5
   have hA1 := (HB1.out.below HAL.out).below hb5
   have HBW := Lib.hid hbw; have HA0 := Lib.hid hA0; have HA1 := Lib.hid hA1
   clear hbw hA0 hb5 s0 s1 s2 s3 x0 x1 x2 x3
   obtain ⟨x0, x1, x2, x3⟩ := hA1
   obtain ⟨s0, s1, s2, s3⟩ := HA1.out.set0 (.bool m3)
   go_wp2
   refine ⟨⟨k + 1, by omega, by go_num, below_set2 HBW.out (by omega) _ _, HA0.out.far2 (by omega) _ _, m3, ao3, n3, c3, HA1.out.set2 _ _, ?_⟩, by simp [intOf]; omega⟩
   rw [sumLen_succ HLK.out, sumVal_succ HLK.out]
   exact h5.set2 HA1.out _ _
  ·obtain ⟨x0, x1, x2, x3⟩ := hb1
   obtain ⟨y0, y1, y2, y3⟩ := hb0
   obtain ⟨s0, s1, s2, s3⟩ := (Box2.mk y0 y1 y2 y3).set0 (.bool m)
   go_wp2
   obtain rfl : k = n := by omega
   exact bodyPost_ret (v := .agg #[.bool m, .slice tp tn tc]) (by simp [results, Tryz.results56, go_sem, y0, y1]) rfl ⟨_, _, _, _, rfl, HR.out.set2 ⟨y0, y1, y2, y3⟩ _ _, below_set2 HB.out (Nat.le_refl _) _ _⟩
end Go.Proofs.YtecnnpkpgbbfkaaGreat
/- The calls of num, on: Div. -/
namespace Go.Proofs.YtecnnpkpgbbfkaaGreat
open Go.RowKit Go.MagM
/-- A call's answers are two right Nums. -/
def AnsNum2 (w w' : World) (e : Ending) (L : Nat) (X : Int) (L' : Nat) (Y : Int) : Prop :=
  ∃ m ao n c m' bo n' c', e = .returned (.tuple #[.agg #[.bool m, .slice ao n c], .agg #[.bool m', .slice bo n' c']]) ∧ RNum w' (.agg #[.bool m, .slice ao n c]) L X ∧ RNum w' (.agg #[.bool m', .slice bo n' c']) L' Y ∧ Below w.heap.size w w'
theorem AnsNum2.of {w w' : World} {e : Ending} {L L' M M' : Nat} {X X' Y Y' : Int} (h : AnsNum2 w w' e L X M Y) (hL : L ≤ L') (hM : M ≤ M') (hx : X = X') (hy : Y = Y') : AnsNum2 w w' e L' X' M' Y' := by
  subst hx; subst hy
  obtain ⟨m, ao, n, c, m', bo, n', c', h1, h2, h3, h4⟩ := h; exact ⟨m, ao, n, c, m', bo, n', c', h1, h2.more hL, h3.more hM, h4⟩
end Go.Proofs.YtecnnpkpgbbfkaaGreat
/- The helpers of layer 2's statements: fit, Right, short. -/
namespace Go.Proofs.YtecnnpkpgbbfkaaGreat
open Go.RowKit Go.MagM
/-- Block g, from 0 on, holds k Nums: these cells. -/
def Row (w : World) (g k : Nat) (mf : Nat → Bool) (af : Nat → Option Addr) (nf cf : Nat → Nat) : Prop :=
  ∀ i, i < k → w.cell? ⟨g, i * 2, none⟩ = some (.bool (mf i)) ∧ w.cell? ⟨g, i * 2 + 1, none⟩ = some (.slice (af i) (nf i) (cf i))
theorem Row.below {w w' : World} {g k : Nat} {mf : Nat → Bool} {af : Nat → Option Addr} {nf cf : Nat → Nat} (h : Row w g k mf af nf cf) (hb : Below w.heap.size w w') : Row w' g k mf af nf cf := by
  intro i hi
  obtain ⟨h1, h2⟩ := h i hi
  have hlt := World.block_lt_of_cell? w _ h1
  exact ⟨(hb.cell (p := ⟨g, i * 2, none⟩) hlt).trans h1, (hb.cell (p := ⟨g, i * 2 + 1, none⟩) hlt).trans h2⟩
end Go.Proofs.YtecnnpkpgbbfkaaGreat
/- A region that draws its order, walked by hand: the two takes. Over any program. -/
namespace Go.MagM
open Go
section
variable {P : Program} {ops : Array Oper} {Q : Exit → Act → World → Prop} {md : Region.Mode} {S : World → Prop}
/-- Operation i yields v. -/
theorem reg_take (i : Nat) (oi : Oper) (v : Value) {fuel : Nat} {listed : Array Bool} {a : Act} {w : World} (hi : ops[i]? = some oi)
    (hs : Region.noSelect ops = true) (hf : Region.free md ops listed i = true) (hr : (Region.ready md ops listed).contains i = true)
    (hQ : ∀ c a w, Q (.panic c) (a.put oi.dst v) w → Q (.panic c) a w) (hw : Region.wanted oi (yielded ops a.tmps) = true) (hy : ∀ w, S w → (execOp a.eval oi).run P w = .ok (.value v) w) (hS : S w)
    (h : wpAnyH P md ops Q S fuel (listed.setIfInBounds i true) (a.put oi.dst v) w) : wpAnyH P md ops Q S (fuel + 1) listed a w :=
  wpAnyH_take hi hs hf hr hQ (Or.inl ⟨hw, hy⟩) hS h
/-- Operation i is not wanted. -/
theorem reg_skip (i : Nat) (oi : Oper) {fuel : Nat} {listed : Array Bool} {a : Act} {w : World} (hi : ops[i]? = some oi)
    (hs : Region.noSelect ops = true) (hf : Region.free md ops listed i = true) (hr : (Region.ready md ops listed).contains i = true)
    (hQ : ∀ c a w, Q (.panic c) (a.put oi.dst undef) w → Q (.panic c) a w) (hw : Region.wanted oi (yielded ops a.tmps) = false) (hS : S w)
    (h : wpAnyH P md ops Q S fuel (listed.setIfInBounds i true) (a.put oi.dst undef) w) : wpAnyH P md ops Q S (fuel + 1) listed a w :=
  wpAnyH_take hi hs hf hr hQ (Or.inr ⟨hw, rfl⟩) hS h
/-- Operation i alone comes up next. -/
theorem reg_call (i : Nat) (o : Oper) {fuel : Nat} {listed : Array Bool} {a : Act} {w : World} (hr : Region.ready md ops listed = [i]) (ho : ops[i]? = some o)
    (h : ∀ K' : Act → World → Prop, Shut (∀ a w, S w → (S w → wpAnyH P md ops Q S fuel (listed.setIfInBounds i true) a w) → K' a w) → if Region.wanted o (yielded ops a.tmps) = true then Oper.wp P o a w K' Q else K' (a.put o.dst undef) w) :
    wpAnyH P md ops Q S (fuel + 1) listed a w :=
  wpAnyH_ready hr (by simp) (AllReadyH.cons ho h AllReadyH.nil)
/-- The rest of the region, and its frame, under one name each. -/
theorem reg_grab {fuel : Nat} {listed : Array Bool} {a : Act} {w : World}
    (h : ∀ (WW : Nat → Array Bool → Act → World → Prop) (b : Act), (∀ f l a w, WW f l a w = wpAnyH P md ops Q S f l a w) → b = a → WW fuel listed b w) : wpAnyH P md ops Q S fuel listed a w :=
  h (wpAnyH P md ops Q S) a (fun _ _ _ _ => rfl) rfl
/-- One comes up, or another one. -/
theorem reg_all1 (i : Nat) (o : Oper) {fuel : Nat} {listed : Array Bool} {a : Act} {w : World} (hr : Region.ready md ops listed = [i]) (ho : ops[i]? = some o)
    (h : ∀ K' : Act → World → Prop, Shut (∀ a w, S w → (S w → wpAnyH P md ops Q S fuel (listed.setIfInBounds i true) a w) → K' a w) → if Region.wanted o (yielded ops a.tmps) = true then Oper.wp P o a w K' Q else K' (a.put o.dst undef) w) :
    wpAnyH P md ops Q S (fuel + 1) listed a w := reg_call i o hr ho h
theorem reg_all2 (i j : Nat) (o u : Oper) {fuel : Nat} {listed : Array Bool} {a : Act} {w : World} (hr : Region.ready md ops listed = [i, j]) (ho : ops[i]? = some o) (hu : ops[j]? = some u)
    (h : ∀ K' : Act → World → Prop, Shut (∀ a w, S w → (S w → wpAnyH P md ops Q S fuel (listed.setIfInBounds i true) a w) → K' a w) → if Region.wanted o (yielded ops a.tmps) = true then Oper.wp P o a w K' Q else K' (a.put o.dst undef) w)
    (k : ∀ K' : Act → World → Prop, Shut (∀ a w, S w → (S w → wpAnyH P md ops Q S fuel (listed.setIfInBounds j true) a w) → K' a w) → if Region.wanted u (yielded ops a.tmps) = true then Oper.wp P u a w K' Q else K' (a.put u.dst undef) w) :
    wpAnyH P md ops Q S (fuel + 1) listed a w :=
  wpAnyH_ready hr (by simp) (AllReadyH.cons ho h (AllReadyH.cons hu k AllReadyH.nil))
end
end Go.MagM
