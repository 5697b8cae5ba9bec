/- The calls of num: what they answer. -/
import Derived.Test.YtbfdianmbpfjmaaProg
import Derived.Test.YtbfdianmbpfjmaaDivf
import Derived.Test.YtbfdianmbpfjmaaNumK
import Derived.Deep.RegionHeld3
namespace Go.Proofs.Ytbfdianmbpfjmaa
open Go.RowKit Go.MagM
/-- A call's answer is a right Num of at most L words, X. -/
def AnsNum (w w' : World) (e : Ending) (L : Nat) (X : Int) : Prop := ∃ m ao n c, e = .returned (.agg #[.bool m, .slice ao n c]) ∧ RNum w' (.agg #[.bool m, .slice ao n c]) L X ∧ Below w.heap.size w w'
theorem AnsNum.of {w w' : World} {e : Ending} {L L' : Nat} {X Y : Int} (h : AnsNum w w' e L X) (hL : L ≤ L') (he : X = Y) : AnsNum w w' e L' Y := by
  subst he; obtain ⟨m, ao, n, c, h1, h2, h3⟩ := h; exact ⟨m, ao, n, c, h1, h2.more hL, h3⟩
set_option maxHeartbeats 1000000 in
theorem nclone_any (va : Value) (L X : Nat) (w : World) (hL : L ≤ 4000000000) (ha : Mag w va L X) :
    Calls Try.prog 44 #[va] w fun e w' => ∃ v, e = .returned v ∧ RMag w' v L X ∧ Below w.heap.size w w' := by
  have hlt := ha.lt
  have HA := Lib.hid ha; have HL := Lib.hid hlt; clear ha hlt
  go_enter Try.func44, Try.ntmps44
  go_wp2_with fail
  refine (Add_any _ _ L 0 X 0 _ (by omega) (by omega) HA.out (RMag.nil _).mag).mono ?_
  rintro e w1 ⟨v, rfl, h, hb⟩
  go_wp2
  go_ret
  exact ⟨v, rfl, by rw [Nat.add_zero] at h; exact h.short HL.out, hb⟩
set_option maxHeartbeats 1000000 in
theorem signed_any (m : Bool) (vm : Value) (L N : Nat) (w : World) (hm : RMag w vm L N) :
    Calls Try.prog 36 #[.bool m, vm] w fun e w' => AnsNum w w' e L (sgn m N) := by
  obtain ⟨ao, n, c, f, rfl, hnc, hnL, hr, hV, hR⟩ := hm
  have H := Lib.hid (And.intro hr (And.intro hV hR)); clear hr hV hR
  cases n with
  | zero =>
    go_enter Try.func36, Try.ntmps36
    go_wp2
    refine bodyPost_ret (v := .agg #[.bool false, .slice none 0 0]) (by simp [results, Try.results36, go_sem]) rfl ⟨_, _, _, _, rfl, ⟨false, _, 0, rfl, (RMag.nil _).more (Nat.zero_le _), ?_, fun h => by cases h⟩, (Below.refl _ _).alloc (Nat.le_refl _) _⟩
    have h0 : N = 0 := by rw [← H.out.2.1]; rfl
    subst h0
    unfold sgn; cases m <;> rfl
  | succ n =>
    have h0 : (((n : Int) + 1) == 0) = false := by simp only [beq_eq_false_iff_ne]; omega
    go_enter Try.func36, Try.ntmps36
    go_wp2
    refine bodyPost_ret (v := .agg #[.bool m, .slice ao (n + 1) c]) (by simp [results, Try.results36, go_sem]) rfl ⟨_, _, _, _, rfl, ⟨m, _, N, rfl, ⟨ao, n + 1, c, f, rfl, hnc, hnL, H.out.1.below ((Below.refl _ _).alloc (Nat.le_refl _) _), H.out.2.1, H.out.2.2⟩, rfl, ?_⟩, (Below.refl _ _).alloc (Nat.le_refl _) _⟩
    intro _
    have hge := (H.out.2.2).ge
    have := Bp n
    rw [H.out.2.1] at hge
    omega
set_option maxHeartbeats 2000000 in
theorem Make_any (m : Bool) (va : Value) (L N : Nat) (w : World) (hL : L ≤ 4000000000) (ha : Mag w va L N) :
    Calls Try.prog 30 #[.bool m, va] w fun e w' => AnsNum w w' e L (sgn m N) := by
  obtain ⟨b1, hB0⟩ := boxed1 w (.bool false) (.slice none 0 0) 25
  have hM := ha.below hB0
  have HM := Lib.hid hM; have B1 := Lib.hid b1; have H0 := Lib.hid hB0; clear hM b1 hB0 ha
  go_enter Try.func30, Try.ntmps30
  go_wp2_with fail
  refine (nclone_any _ L N _ hL HM.out).mono ?_
  rintro e w1 ⟨v1, rfl, h1, hb1⟩
  have b1 := B1.out.below hb1
  have hB1 := H0.out.trans (hb1.mono H0.out.size)
  clear hb1
  go_wp2_with fail
  refine (signed_any _ _ L N _ h1).mono ?_
  rintro e w2 ⟨m2, ao2, n2, c2, rfl, h2, hb2⟩
  obtain ⟨p0, p1, p2, p3⟩ := b1.below hb2
  have hB2 := hB1.trans (hb2.mono hB1.size)
  clear hb2 b1 h1
  go_wp2
  exact bodyPost_ret (v := .agg #[.bool m2, .slice ao2 n2 c2]) (by simp [results, Try.results30, go_sem, p0, p1]) rfl ⟨_, _, _, _, rfl, (RNum.of h2 rfl).set2 ⟨p0, p1, p2, p3⟩ _ _, below_set2 hB2 (by omega) _ _⟩
set_option maxHeartbeats 2000000 in
theorem Abs_any (va : Value) (L : Nat) (X : Int) (w : World) (hL : L ≤ 4000000000) (ha : Num w va L X) :
    Calls Try.prog 23 #[va] w fun e w' => AnsNum w w' e L (X.natAbs : Int) := by
  obtain ⟨m, vm, N, rfl, hm, hX⟩ := ha
  obtain ⟨b0, b1, hB0⟩ := boxed2 w (.bool m) vm (.bool false) (.slice none 0 0) 25
  have hM := hm.below hB0
  have HM := Lib.hid hM; have B1 := Lib.hid b1; have H0 := Lib.hid hB0; have HX := Lib.hid hX; clear hM b1 b0 hB0 hm hX
  go_enter Try.func23, Try.ntmps23
  go_wp2_with fail
  refine (nclone_any _ L N _ hL HM.out).mono ?_
  rintro e w1 ⟨v1, rfl, h1, hb1⟩
  have b1 := B1.out.below hb1
  have hB1 := H0.out.trans (hb1.mono H0.out.size)
  clear hb1
  go_wp2_with fail
  refine (signed_any _ _ L N _ h1).mono ?_
  rintro e w2 ⟨m2, ao2, n2, c2, rfl, h2, hb2⟩
  obtain ⟨p0, p1, p2, p3⟩ := b1.below hb2
  have hB2 := hB1.trans (hb2.mono hB1.size)
  clear hb2 b1 h1
  go_wp2
  exact bodyPost_ret (v := .agg #[.bool m2, .slice ao2 n2 c2]) (by simp [results, Try.results23, go_sem, p0, p1]) rfl ⟨_, _, _, _, rfl, (RNum.of h2 (by rw [HX.out, sgn_false, sgn_abs])).set2 ⟨p0, p1, p2, p3⟩ _ _, below_set2 hB2 (by omega) _ _⟩
set_option maxHeartbeats 2000000 in
theorem Neg_any (va : Value) (L : Nat) (X : Int) (w : World) (hL : L ≤ 4000000000) (ha : Num w va L X) :
    Calls Try.prog 22 #[va] w fun e w' => AnsNum w w' e L (-X) := by
  obtain ⟨m, vm, N, rfl, hm, hX⟩ := ha
  obtain ⟨b0, b1, hB0⟩ := boxed2 w (.bool m) vm (.bool false) (.slice none 0 0) 25
  have hM := hm.below hB0
  have HX := Lib.hid hX; have HM := Lib.hid hM; have B0 := Lib.hid b0; have B1 := Lib.hid b1; have H0 := Lib.hid hB0; clear hM b1 b0 hB0 hm hX
  go_enter Try.func22, Try.ntmps22
  go_wp2
  generalize ((w.alloc (Obj.cells #[Value.bool m, vm] 25)).alloc (Obj.cells #[Value.bool false, Value.slice none 0 0] 25)) = W at *
  have c0 := B0.out.c0; have c1 := B0.out.c1
  go_region_held3 (fun w' => w'.cell? ⟨w.heap.size, 0, none⟩ = some (.bool m) ∧ w'.cell? ⟨w.heap.size, 1, none⟩ = some vm) (first | with_reducible exact ⟨B0.out.drew.c0, B0.out.drew.c1⟩ | with_reducible exact ⟨b0.c0, b0.c1⟩ | with_reducible exact ⟨a0.c0, a0.c1⟩ | with_reducible exact ⟨z0.c0, z0.c1⟩ | fail)
    (first
      | (go_at_call 44; refine (nclone_any _ L N _ hL HM.out.drew).mono ?_; rintro e w1 ⟨v1, rfl, h1, hb1⟩; have b0 := B0.out.drew.below hb1; have b1 := B1.out.drew.below hb1; have hB1 := H0.out.drew'.trans (hb1.mono H0.out.drew'.size); clear hb1)
      | (go_at_call 36; refine (signed_any _ _ L N _ h1).mono ?_; rintro e w2 ⟨m2, ao2, n2, c2, rfl, h2, hb2⟩; have a0 := b0.below hb2; have a1 := b1.below hb2; obtain ⟨p0, p1, p2, p3⟩ := a1; obtain ⟨q0, q1, q2, q3⟩ := (Box2.mk p0 p1 p2 p3).set0 (.bool m2); have z0 := a0.far2 (g' := w.heap.size + 1) (by omega) (.bool m2) (.slice ao2 n2 c2); have hB2 := hB1.trans (hb2.mono hB1.size)))
  go_wp2
  exact bodyPost_ret (v := .agg #[.bool m2, .slice ao2 n2 c2]) (by simp [results, Try.results22, go_sem, p0, p1]) rfl ⟨_, _, _, _, rfl, (RNum.of h2 (by rw [HX.out, sgn_neg])).set2 ⟨p0, p1, p2, p3⟩ _ _, below_set2 hB2 (by omega) _ _⟩
end Go.Proofs.Ytbfdianmbpfjmaa
