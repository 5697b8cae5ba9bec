/- One word of the quotient: taken away as often as can be. -/
import Derived.Test.YtbfdianmbpfjmaaDivb
namespace Go.Proofs.Ytbfdianmbpfjmaa
open Go.RowKit Go.MagM
theorem V_top2 (h : Nat → Nat) (d : Nat) : V h (d + 2) = (h (d + 1) * B + h d) * B ^ d + V h d := by
  rw [V_succ, V_succ, Nat.pow_succ, Nat.add_mul, Nat.mul_assoc, Nat.mul_comm B]; omega
theorem V_top3 (f : Nat → Nat) (d : Nat) : V f (d + 3) = ((f (d + 2) * B + f (d + 1)) * B + f d) * B ^ d + V f d := by
  rw [V_succ, V_top2, Nat.add_mul, Nat.add_mul, Nat.add_mul, Nat.pow_succ, Nat.pow_succ, Nat.add_mul (_ * B)]
  have e1 : f (d + 2) * (B ^ d * B * B) = f (d + 2) * B * B * B ^ d := by
    rw [Nat.mul_assoc (f (d + 2)), Nat.mul_assoc (f (d + 2)), Nat.mul_assoc (B ^ d), Nat.mul_comm (B ^ d) (B * B)]
  omega
/-- The guess, called: what it answers is good. -/
theorem guess_any (f h : Nat → Nat) (d : Nat) (hf : ∀ i, i < d + 3 → f i < B) (hh : ∀ i, i < d + 2 → h i < B) (hx : B ≤ 2 * h (d + 1)) (hlt : V f (d + 3) < V h (d + 2) * B) :
    ∃ g, g < B ∧ GoodQ g (V f (d + 3)) (V h (d + 2)) ∧ ∀ w, Calls Try.prog 67 #[.int .u64 (f (d + 2)), .int .u64 (f (d + 1)), .int .u64 (f d), .int .u64 (h (d + 1)), .int .u64 (h d)] w fun e w' => e = .returned (.int .u64 (g : Int)) ∧ ∃ q, w' = w.drewN q := by
  have hP := Bp d
  have hUl := V_lt (f := f) (n := d) (fun i hi => hf i (by omega))
  have hDl := V_lt (f := h) (n := d) (fun i hi => hh i (by omega))
  have hB0 := B_pos
  rw [V_top3, V_top2] at *
  have hax : f (d + 2) ≤ h (d + 1) := by
    rcases Nat.lt_or_ge (h (d + 1)) (f (d + 2)) with a | a
    · exfalso
      have h1 := Nat.mul_le_mul_right (B * B) (show h (d + 1) + 1 ≤ f (d + 2) from a)
      have hy := hh d (by omega)
      have h2 : (h (d + 1) * B + h d + 1) * B ≤ (f (d + 2) * B + f (d + 1)) * B + f d := by
        have h3 : h (d + 1) * B + h d + 1 ≤ f (d + 2) * B := by
          have := Nat.mul_le_mul_right B (show h (d + 1) + 1 ≤ f (d + 2) from a)
          rw [Nat.add_mul] at this; omega
        have := Nat.mul_le_mul_right B (show h (d + 1) * B + h d + 1 ≤ f (d + 2) * B + f (d + 1) by omega)
        omega
      have h4 := Nat.mul_le_mul_right (B ^ d) h2
      have h5 : ((h (d + 1) * B + h d) * B ^ d + V h d) * B ≤ (h (d + 1) * B + h d + 1) * B * B ^ d := by
        rw [Nat.mul_right_comm]
        apply Nat.mul_le_mul_right
        rw [Nat.add_mul _ 1]; omega
      omega
    · exact a
  rcases Nat.lt_or_eq_of_le hax with a | a
  · have hq : ((f (d + 2) * B + f (d + 1)) * B + f d) / (h (d + 1) * B + h d) < B := by
      apply full_quot_lt (hf d (by omega))
      have := Nat.mul_le_mul_right B (show f (d + 2) + 1 ≤ h (d + 1) from a)
      have := hf (d + 1) (by omega)
      rw [Nat.add_mul] at *; omega
    refine ⟨_, hq, good_of_quot hP ?_ hUl hDl hq, fun w => (guess_less _ _ _ _ _ w a (hf _ (by omega)) (hf _ (by omega)) (hh _ (by omega)) (hh _ (by omega))).mono fun e w' h => ⟨h.1, h.2.out⟩⟩
    have := Nat.mul_le_mul_right B (show 1 ≤ h (d + 1) by omega)
    first | omega | skip
  · rw [a] at hlt ⊢
    refine ⟨B - 1, Nat.sub_lt hB0 (by omega), ?_, fun w => (guess_max _ _ _ _ w).mono fun e w' h => ⟨h.1, h.2.out⟩⟩
    have e : (h (d + 1) * B + f (d + 1)) * B + f d = h (d + 1) * B * B + f (d + 1) * B + f d := by rw [Nat.add_mul]
    rw [e] at hlt ⊢
    exact good_of_max hP hx (hh d (by omega)) hDl hlt
set_option maxHeartbeats 4000000 in
theorem takeOften_any (g o d c : Nat) (bo : Option Addr) (c' : Nat) (w : World) (hd : d ≤ 8000000000) (hnc : d + 3 ≤ c) (f h : Nat → Nat)
    (hf : Held w g o (d + 3) f) (hb : Reads w bo (d + 2) h) (hne : Apart bo (d + 2) g) (hx : B ≤ 2 * h (d + 1)) (hlt : V f (d + 3) < V h (d + 2) * B) :
    Calls Try.prog 65 #[.slice (some ⟨g, o, none⟩) (d + 3 : Nat) c, .slice bo (d + 2 : Nat) c'] w fun e w' =>
      ∃ f', e = .returned (.int .u64 ((V f (d + 3) / V h (d + 2) : Nat) : Int)) ∧ Held w' g o (d + 3) f' ∧ Turn g o (d + 3) w w' ∧ f' (d + 2) = 0 ∧ V f' (d + 2) = V f (d + 3) % V h (d + 2) := by
  have hfB := hf.lt; have hhB := hb.lt
  obtain ⟨q, hqB, hgood, hcall⟩ := guess_any f h d hfB hhB hx hlt
  obtain ⟨hc0, hf0, _⟩ := hf (d + 2) (by omega)
  obtain ⟨hc1, _, _⟩ := hf (d + 1) (by omega)
  obtain ⟨hc2, _, _⟩ := hf d (by omega)
  obtain ⟨bb, bof, rfl, hb1, _⟩ := hb (d + 1) (by omega)
  obtain ⟨bb', bof', e', hb2, _⟩ := hb d (by omega)
  simp at e'; obtain ⟨rfl, rfl⟩ := e'
  have hDpos : 0 < V h (d + 2) := V_pos (k := d + 1) (by omega) (by have := B_pos; omega)
  have hDP := V_lt hhB
  have hU := V_succ f (d + 2)
  obtain ⟨a0, ha0⟩ : ∃ t, f (d + 2) = t := ⟨_, rfl⟩
  obtain ⟨a1, ha1⟩ : ∃ t, f (d + 1) = t := ⟨_, rfl⟩
  obtain ⟨a2, ha2⟩ : ∃ t, f d = t := ⟨_, rfl⟩
  obtain ⟨x0, hx0⟩ : ∃ t, h (d + 1) = t := ⟨_, rfl⟩
  obtain ⟨y0, hy0⟩ : ∃ t, h d = t := ⟨_, rfl⟩
  simp only [ha0, ha1, ha2, hx0, hy0] at hcall hc0 hc1 hc2 hb1 hb2
  rw [ha0] at hU
  obtain ⟨n, hn⟩ : ∃ n, d + 2 = n := ⟨_, rfl⟩
  obtain ⟨n1, hn1⟩ : ∃ n1, d + 1 = n1 := ⟨_, rfl⟩
  have Hn : n ≤ 2 + d ∧ 2 + d ≤ n := by omega
  have Hn1 : n1 ≤ 1 + d ∧ 1 + d ≤ n1 := by omega
  have e3 : d + 3 = n + 1 := by omega
  simp only [e3, hn, hn1] at *
  clear hn hn1 e3
  have w1 : IntKind.i64.wrap ((n : Int) - 1) = (n1 : Int) := by rw [IntWalk.i64_in _ (by omega)]; omega
  have w2 : IntKind.i64.wrap ((n : Int) - 2) = (d : Int) := by rw [IntWalk.i64_in _ (by omega)]; omega
  have k1 : n1 < n + 1 := by omega
  have k2 : d < n + 1 := by omega
  have k3 : n1 < n := by omega
  have k4 : d < n := by omega
  have k5 : n ≤ 9000000000 := by omega
  have k6 : n ≤ c := by omega
  have k7 : (n1 : Int) < (n : Int) + 1 := by omega
  have k8 : (d : Int) < (n : Int) + 1 := by omega
  have HF := Lib.hid hf; have HB := Lib.hid hb; have HN := Lib.hid hne; have HC := Lib.hid hcall; have HG := Lib.hid hgood; have HU := Lib.hid hU
  clear hf hb hne hcall hgood hU ha0 ha1 ha2 hx0 hy0 hx hlt hfB hhB
  go_enter Try.func65, Try.ntmps65
  go_wp2
  go_quiet ((go_at_call 67; exact Calls.quiet_of (HC.out _)))
  have HF1 : Held (w.drewN nq) g o (n + 1) f := HF.out
  have HB1 : Reads (w.drewN nq) (some ⟨bb, bof, none⟩) n h := HB.out
  have HC0 := Lib.hid hc0; have HF0 := Lib.hid hf0
  clear hc0 hc1 hc2 hb1 hb2 hf0 w1 w2 k1 k2 k3 k4 k7 k8
  go_wp2_with fail
  refine (takeTimes_any g o n c _ n c' q _ k5 f h (Nat.le_refl _) hqB (HF1.less (by omega)) HB1 HN.out).mono ?_
  rintro e w1 ⟨f1, over, rfl, hov, hh1, ht1, hv1, _⟩
  have hc0 : w1.cell? ⟨g, o + n, none⟩ = some (.int .u64 (a0 : Int)) := by rw [ht1.cell (o + n) (by omega)]; exact HC0.out
  have hf0 : w1.frozen? ⟨g, o + n, none⟩ = false := by rw [ht1.frz]; exact HF0.out
  have hfull1 : Held w1 g o (n + 1) (spl f f1 0 n) := HF1.splice (k := 0) (m := n) (by simpa using ht1) (by simpa using hh1) (by omega)
  have ht01 : Turn g o n w w1 := ((Turn.refl g o n w).drewN nq).trans ht1
  have hV1 : V (spl f f1 0 n) n = V f1 n := by have := spl_V f f1 0 n; simpa [V] using this
  have hB1' : Reads w1 (some ⟨bb, bof, none⟩) n h := HB1.turn ht1 HN.out
  by_cases hle : over ≤ a0
  · have hcmp : ¬ ((a0 : Int) < (over : Int)) := by omega
    obtain ⟨r1, r2, r3⟩ := take_low HG.out hDpos hDP HU.out (V_lt hh1.lt) (hv1) hle
    have R1 := Lib.hid r1; have R3 := Lib.hid r3; have HFULL := Lib.hid hfull1; have HT := Lib.hid ht01; have HV1 := Lib.hid hV1
    clear r1 r2 r3 hfull1 ht01 hV1 hv1 ht1 hh1 hB1' HF1 HB1 hov
    go_wp2
    go_ret
    refine ⟨upd (spl f f1 0 n) n 0, ret1 (k := .u64) (by rw [R1.out]), HFULL.out.setCell (k := n) B_pos (by omega), (HT.out.wider (by omega) (by omega)).setCell (by omega) (by omega) _, upd_same _ _ _, ?_⟩
    rw [V_upd_below _ _ _ (Nat.le_refl _), HV1.out, R3.out]
  · have hcmp : (a0 : Int) < (over : Int) := by omega
    have hgt : a0 < over := by omega
    have HV := Lib.hid hv1; have HFULL := Lib.hid hfull1; have HT := Lib.hid ht01; have HH1 := Lib.hid hh1; have HB2 := Lib.hid hB1'; have HV1 := Lib.hid hV1
    have hw : IntKind.u64.wrap ((q : Int) - 1) = ((q - 1 : Nat) : Int) ∨ q = 0 := by
      by_cases h0 : q = 0
      · exact .inr h0
      · left; rw [IntKind.wrap_u64]; unfold B at hqB; omega
    have hq0 : q ≠ 0 := by
      intro h0
      have h1 := HV.out
      rw [h0, Nat.mul_zero] at h1
      have h2 := V_lt HH1.out.lt
      have h3 := Nat.mul_le_mul_right (B ^ n) (show 1 ≤ over by omega)
      omega
    obtain ⟨qm, hqm⟩ : ∃ qm, q - 1 = qm := ⟨_, rfl⟩
    have t2 : IntKind.u64.wrap ((q : Int) - 1) = (qm : Int) := by rcases hw with a | a <;> omega
    clear hw hv1 hfull1 ht01 hh1 hB1' hV1 ht1 HF1 HB1 hov hle hq0
    have HQM := Lib.hid hqm; clear hqm
    have HC1 := Lib.hid hc0; have HF1 := Lib.hid hf0
    go_wp2_with fail
    refine (addTo_any g o n c _ n c' _ k5 f1 h (Nat.le_refl _) HH1.out HB2.out HN.out).mono ?_
    rintro e w2 ⟨rfl, f2, cc, hcc, hh2, ht2, hv2⟩
    obtain ⟨r1, r2, r3⟩ := take_high HG.out hDpos hDP HU.out (V_lt HH1.out.lt) (V_lt hh2.lt) HV.out hgt hcc hv2
    have hfull2 : Held w2 g o (n + 1) (spl (spl f f1 0 n) f2 0 n) := HFULL.out.splice (k := 0) (m := n) (by simpa using ht2) (by simpa using hh2) (by omega)
    have hV2 : V (spl (spl f f1 0 n) f2 0 n) n = V f2 n := by have := spl_V (spl f f1 0 n) f2 0 n; simpa [V_zero] using this
    have hc2 : w2.cell? ⟨g, o + n, none⟩ = some (.int .u64 (a0 : Int)) := by rw [ht2.cell (o + n) (by omega)]; exact HC1.out
    have hf2 : w2.frozen? ⟨g, o + n, none⟩ = false := by rw [ht2.frz]; exact HF1.out
    have R2 := Lib.hid r2; have R3 := Lib.hid r3; have HFULL2 := Lib.hid hfull2; have HT2 := Lib.hid (HT.out.trans ht2); have HV2 := Lib.hid hV2
    clear r1 r2 r3 hfull2 hV2 ht2 hh2 hv2 hc0 hf0 hcmp
    go_wp2
    go_ret
    refine ⟨upd (spl (spl f f1 0 n) f2 0 n) n 0, ret1 (k := .u64) (by rw [← R2.out, HQM.out]), HFULL2.out.setCell (k := n) B_pos (by omega), (HT2.out.wider (by omega) (by omega)).setCell (by omega) (by omega) _, upd_same _ _ _, ?_⟩
    rw [V_upd_below _ _ _ (Nat.le_refl _), HV2.out, R3.out]
end Go.Proofs.Ytbfdianmbpfjmaa
