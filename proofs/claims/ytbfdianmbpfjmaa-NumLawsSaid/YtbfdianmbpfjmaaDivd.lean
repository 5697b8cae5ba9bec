/- Div: quotient and rest. -/
import Derived.Test.YtbfdianmbpfjmaaDivc
namespace Go.Proofs.Ytbfdianmbpfjmaa
open Go.RowKit Go.MagM
theorem word_step {fk Vf Vq x r d r' : Nat} (h : Vf = Vq * x + r) (hd : d = (r * B + fk) / x) (hr : r' = (r * B + fk) % x) : fk + B * Vf = (d + B * Vq) * x + r' := by
  have e := Nat.div_add_mod (r * B + fk) x
  rw [← hd, ← hr] at e
  rw [h, Nat.mul_add, Nat.add_mul, Nat.mul_assoc B Vq x, Nat.mul_comm B r, Nat.mul_comm d x]; omega
set_option maxHeartbeats 1000000 in
theorem divWord_any (ao : Option Addr) (n c x : Nat) (w : World) (hn : n ≤ 8000000000) (f : Nat → Nat) (hx0 : 0 < x) (hx : x < B) (hr : Reads w ao n f) :
    Calls Try.prog 56 #[.slice ao n c, .int .u64 x] w fun e w' => ∃ v, e = .returned (.tuple #[v, .int .u64 ((V f n % x : Nat) : Int)]) ∧ RMag w' v n (V f n / x) ∧ Below w.heap.size w w' := by
  have HR := Lib.hid hr; clear hr
  go_enter Try.func56, Try.ntmps56
  go_wp2_with (first
    | (at_make; refine wpList_make_words rfl (.tmp 10) (.tmp 10) 23 rfl 65 under_words info_u64 .i64 .i64 _ _ n rfl rfl rfl rfl (by omega) ?_; intro w1 hh1 hb1 hs1; replace hh1 := Lib.hid hh1))
  go_loopw [7, 8] (fun rr i wr => ∃ k r : Nat, ∃ qf : Nat → Nat, k ≤ n ∧ i = .int .i64 ((k : Int) - 1) ∧ rr = .int .u64 r ∧ r < x ∧ Held wr w.heap.size 0 n qf ∧ Turn w.heap.size 0 n w1 wr ∧ V (fun i => f (k + i)) (n - k) = V (fun i => qf (k + i)) (n - k) * x + r) (fun _ i _ => (intOf i + 1).toNat)
  case atStart => exact ⟨n, 0, fun _ => 0, Nat.le_refl _, rfl, rfl, hx0, hh1.out, Turn.refl _ _ _ _, by rw [Nat.sub_self]; simp [V]⟩
  case round =>
    obtain ⟨k, r, qf, hk, rfl, rfl, hrx, hfr, htr, hV⟩ := hrel
    have HFR := Lib.hid hfr; have HTR := Lib.hid htr; have HV := Lib.hid hV
    clear hfr htr hV
    have hbr : Below w.heap.size w wr := HTR.out.below hb1 (Nat.le_refl _) (by omega)
    cases k with
    | zero =>
      go_wp2_with (go_at_call 48; refine (trim_any _ _ _ _ (by omega) qf (Nat.le_refl _) HFR.out.reads).mono ?_; rintro e w4 ⟨rfl, rfl⟩)
      have hv : V f n = V qf n * x + r := by have := HV.out; simpa using this
      have h1 : V f n / x = V qf n := by rw [hv, Nat.mul_comm, Nat.mul_add_div hx0, Nat.div_eq_of_lt hrx, Nat.add_zero]
      have h2 : V f n % x = r := by rw [hv, Nat.mul_comm, Nat.mul_add_mod, Nat.mod_eq_of_lt hrx]
      have H1 := Lib.hid h1; have H2 := Lib.hid h2; clear h1 h2 hv
      go_ret2
      rw [H1.out, H2.out]
      exact ⟨_, rfl, RMag.of_trim HFR.out.reads (Nat.le_refl n), hbr⟩
    | succ k =>
      obtain ⟨ab, aoff, rfl, hac, haB⟩ := (HR.out.below hbr) k (by omega)
      obtain ⟨hqc, hqf, _⟩ := HFR.out k (by omega)
      rw [Nat.zero_add] at hqc hqf
      have hk1 : ((k + 1 : Nat) : Int) - 1 = (k : Int) := by omega
      rw [hk1]; clear hk1
      have hdB : (r * B + f k) / x < B := full_quot_lt haB hrx
      have hrx' : (r * B + f k) % x < x := Nat.mod_lt _ hx0
      have hdiv := fun w => div64_any r (f k) x w haB hx hrx
      obtain ⟨d, hd⟩ : ∃ d, (r * B + f k) / x = d := ⟨_, rfl⟩
      obtain ⟨r2, hr2⟩ : ∃ r2, (r * B + f k) % x = r2 := ⟨_, rfl⟩
      rw [hd] at hdB; rw [hr2] at hrx'; simp only [hd, hr2] at hdiv
      have HDIV := Lib.hid hdiv; have HD := Lib.hid hd; have HR2 := Lib.hid hr2
      clear hdiv hd hr2
      go_wp2_with fail
      refine (HDIV.out _).mono ?_
      rintro e w2 ⟨rfl, hw⟩
      obtain ⟨dq, rfl⟩ := hw.out
      go_wp2
      refine ⟨⟨k, r2, upd qf k d, by omega, rfl, rfl, hrx', ?_, ?_, ?_⟩, by simp [intOf]⟩
      · have := (HFR.out.drewN dq).setCell (k := k) hdB (by omega); simpa using this
      · exact (HTR.out.drewN dq).setCell (by omega) (by omega) _
      · obtain ⟨m, hm⟩ : ∃ m, n - (k + 1) = m := ⟨_, rfl⟩
        have hv := HV.out
        rw [hm] at hv
        rw [show n - k = m + 1 by omega, V_low, V_low, upd_same, V_congr (f := fun i => upd qf k d (k + 1 + i)) (g := fun i => qf (k + 1 + i)) (fun i _ => upd_other _ _ _ (by omega))]
        exact word_step hv HD.out.symm HR2.out.symm
end Go.Proofs.Ytbfdianmbpfjmaa
