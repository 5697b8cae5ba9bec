/- The guess of a word of the quotient. -/
import Derived.Test.YtbfdianmbpfjmaaDiv
import Derived.Test.YtbfdianmbpfjmaaMathd
namespace Go.Proofs.Ytbfdianmbpfjmaa
open Go.RowKit Go.MagM
theorem guess_max (x b c y : Nat) (w : World) :
    Calls Try.prog 67 #[.int .u64 x, .int .u64 b, .int .u64 c, .int .u64 x, .int .u64 y] w fun e w' => e = .returned (.int .u64 ((B - 1 : Nat) : Int)) ∧ Hid (∃ q, w' = w.drewN q) := by
  have h0 : ((x : Int) == (x : Int)) = true := by simp
  go_enter Try.func67, Try.ntmps67
  go_wp2
  go_ret
  exact ⟨rfl, ⟨0, rfl⟩⟩
set_option maxHeartbeats 4000000 in
theorem guess_less (a b c x y : Nat) (w : World) (hax : a < x) (hbB : b < B) (hcB : c < B) (hxB : x < B) (hyB : y < B) :
    Calls Try.prog 67 #[.int .u64 a, .int .u64 b, .int .u64 c, .int .u64 x, .int .u64 y] w fun e w' => e = .returned (.int .u64 ((((a * B + b) * B + c) / (x * B + y) : Nat) : Int)) ∧ Hid (∃ q, w' = w.drewN q) := by
  have h0 : ((a : Int) == (x : Int)) = false := by simp only [beq_eq_false_iff_ne]; omega
  have hun : a * B + b < x * B := by
    have := Nat.mul_le_mul_right B (show a + 1 ≤ x from hax)
    rw [Nat.add_mul] at this; omega
  have hst := Full.start (y1 := x) (y0 := y) (un := a * B + b) (u1 := c) hyB hcB hxB (by omega) (by omega)
  have hqB0 : (a * B + b) / x < B := Nat.div_lt_of_lt_mul hun
  have hrB0 : (a * B + b) % x < B := Nat.lt_trans (Nat.mod_lt _ (by omega)) hxB
  have hdiv := fun w => div64_any a b x w hbB hxB hax
  obtain ⟨un, hune⟩ : ∃ un, a * B + b = un := ⟨_, rfl⟩
  rw [hune] at hst hqB0 hrB0 hun; simp only [hune] at hdiv
  obtain ⟨q0, hq0⟩ : ∃ t, un / x = t := ⟨_, rfl⟩
  obtain ⟨r0, hr0⟩ : ∃ t, un % x = t := ⟨_, rfl⟩
  rw [hq0, hr0] at hst; rw [hq0] at hqB0; rw [hr0] at hrB0; simp only [hq0, hr0] at hdiv
  have hmul := fun w => mul64_any q0 y w hqB0 hyB
  have hhl0 : q0 * y / B * B + q0 * y % B = q0 * y := by have := Nat.div_add_mod (q0 * y) B; rw [Nat.mul_comm] at this; exact this
  have hhiB0 : q0 * y / B < B := Nat.div_lt_of_lt_mul (Nat.mul_lt_mul'' hqB0 hyB)
  have hloB0 : q0 * y % B < B := mod_lt _
  obtain ⟨hi0, hhi0⟩ : ∃ t, q0 * y / B = t := ⟨_, rfl⟩
  obtain ⟨lo0, hlo0⟩ : ∃ t, q0 * y % B = t := ⟨_, rfl⟩
  rw [hhi0, hlo0] at hhl0; rw [hhi0] at hhiB0; rw [hlo0] at hloB0; simp only [hhi0, hlo0] at hmul
  have HST := Lib.hid hst; have HDIV := Lib.hid hdiv; have HMUL := Lib.hid hmul; have HHL0 := Lib.hid hhl0
  rw [hune]
  obtain ⟨G, hG⟩ : ∃ G, (un * B + c) / (x * B + y) = G := ⟨_, rfl⟩
  rw [hG]
  have HG := Lib.hid hG; clear hG
  clear hst hdiv hmul hhl0 hune hq0 hr0 hhi0 hlo0 hun
  go_enter Try.func67, Try.ntmps67
  go_wp2_with fail
  refine (HDIV.out _).mono ?_
  rintro e w1 ⟨rfl, HW⟩
  go_wp2_with fail
  refine (HMUL.out _).mono ?_
  rintro e w2 ⟨rfl, rfl⟩
  go_wp2_with fail
  go_loop [11, 12, 13, 14] (fun o rr hh ll => ∃ q r hi lo : Nat, Full x y un c q r ∧ q < B ∧ r < B ∧ hi * B + lo = q * y ∧ hi < B ∧ lo < B ∧ o = .int .u64 q ∧ rr = .int .u64 r ∧ hh = .int .u64 hi ∧ ll = .int .u64 lo) (fun o _ _ _ => (intOf o).toNat)
  case atStart => exact ⟨q0, r0, hi0, lo0, HST.out, hqB0, hrB0, HHL0.out, hhiB0, hloB0, rfl, rfl, rfl, rfl⟩
  case round =>
    clear HST HDIV HMUL HHL0 hqB0 hrB0 hhiB0 hloB0
    obtain ⟨q, r, hi, lo, hfull, hqB, hrB, hhl, hhiB, hloB, rfl, rfl, rfl, rfl⟩ := hrel
    rcases Nat.lt_trichotomy r hi with hc | hc | hc
    · have u1 : (r : Int) < (hi : Int) := by omega
      have hcc : r * B + c < q * y := by
        have := Nat.mul_le_mul_right B (show r + 1 ≤ hi from hc)
        rw [Nat.add_mul] at this; omega
      obtain ⟨h1, hnx⟩ := hfull.next (.inr hcc)
      obtain ⟨qm, hqm⟩ : ∃ qm, q - 1 = qm := ⟨_, rfl⟩
      obtain ⟨rn, hrn⟩ : ∃ rn, r + x = rn := ⟨_, rfl⟩
      have hqm2 : qm + 1 = q := by omega
      have hmul : hi * B + lo = qm * y + y := by rw [hhl, ← hqm2, Nat.add_mul, Nat.one_mul]
      rw [hqm, hrn] at hnx
      have t2 : IntKind.u64.wrap ((q : Int) - 1) = (qm : Int) := by rw [IntKind.wrap_u64]; unfold B at hqB; omega
      have hst := diff_stepb hloB hyB (show 0 ≤ 1 by omega)
      have hbl := bor_le lo y 0
      have hsub := fun w => sub64_run lo y 0 (by omega) w
      have hl2B : (lo + B - y - 0) % B < B := mod_lt _
      obtain ⟨l2, hl2⟩ : ∃ t, (lo + B - y - 0) % B = t := ⟨_, rfl⟩
      obtain ⟨b1, hb1⟩ : ∃ t, bor lo y 0 = t := ⟨_, rfl⟩
      rw [hl2, hb1] at hst; rw [hb1] at hbl; rw [hl2] at hl2B; simp only [hl2, hb1] at hsub
      have hge : b1 ≤ hi := by
        rcases Nat.lt_or_ge hi b1 with a1 | a1
        · exfalso
          have : hi = 0 := by omega
          subst this
          have : b1 = 1 := by omega
          subst this
          omega
        · exact a1
      obtain ⟨h2, hh2⟩ : ∃ t, hi - b1 = t := ⟨_, rfl⟩
      have hh2' : h2 + b1 = hi := by omega
      have hnew : h2 * B + l2 = qm * y := by
        have : (h2 + b1) * B + lo = qm * y + y := by rw [hh2']; exact hmul
        rw [Nat.add_mul] at this; omega
      have t3 : IntKind.u64.wrap ((hi : Int) - (b1 : Int)) = (h2 : Int) := by rw [IntKind.wrap_u64]; unfold B at hhiB; omega
      have hsub' : ∀ w, (callFunc 60 #[.int .u64 lo, .int .u64 y, .int .u64 0]).run Try.prog w = .ok (.value (.tuple #[.int .u64 l2, .int .u64 b1])) w := hsub
      have hadd := fun w => add64_run r x 0 (by omega) w
      obtain ⟨r2, hr2⟩ : ∃ t, (r + x + 0) % B = t := ⟨_, rfl⟩
      obtain ⟨c2, hc2⟩ : ∃ t, (r + x + 0) / B = t := ⟨_, rfl⟩
      simp only [hr2, hc2] at hadd
      have hadd' : ∀ w, (callFunc 58 #[.int .u64 r, .int .u64 x, .int .u64 0]).run Try.prog w = .ok (.value (.tuple #[.int .u64 r2, .int .u64 c2])) w := hadd
      have hqmB : qm < B := by omega
      have hless : qm < q := by omega
      have hh2B : h2 < B := by omega
      have HNX := Lib.hid hnx; have HNEW := Lib.hid hnew
      by_cases hcar : B ≤ rn
      · have t4 : ((c2 : Int) != 0) = true := by simp only [bne_iff_ne]; unfold B at *; omega
        have hfin := HNX.out.done (.inl hcar)
        have HFIN := Lib.hid hfin
        clear hfin hcar hnx hnew hfull hqm hrn hqm2 hmul hst hl2 hb1 hbl hsub hadd hr2 hc2 hh2 hh2' hhl hge
        go_wp2
        go_ret
        exact ⟨ret1 (k := .u64) (by rw [HFIN.out.trans HG.out]), HW⟩
      · have t4 : ((c2 : Int) != 0) = false := by simp only [bne_eq_false_iff_eq]; unfold B at *; omega
        have hrr : r2 = rn := by unfold B at *; omega
        have hrnB : rn < B := by omega
        clear hcar hnx hnew hfull hqm hrn hqm2 hmul hst hl2 hb1 hbl hsub hadd hr2 hc2 hh2 hh2' hhl hge
        subst hrr
        go_wp2
        exact ⟨⟨qm, _, h2, l2, HNX.out, hqmB, hrnB, HNEW.out, hh2B, hl2B, rfl, rfl, rfl, rfl⟩, by simp [intOf]; omega⟩
    · subst hc
      have u1 : ¬ ((r : Int) < (r : Int)) := by omega
      have u2 : ((r : Int) == (r : Int)) = true := by simp
      by_cases hd : c < lo
      · have u3 : (c : Int) < (lo : Int) := by omega
        have hcc : r * B + c < q * y := by omega
        obtain ⟨h1, hnx⟩ := hfull.next (.inr hcc)
        obtain ⟨qm, hqm⟩ : ∃ qm, q - 1 = qm := ⟨_, rfl⟩
        obtain ⟨rn, hrn⟩ : ∃ rn, r + x = rn := ⟨_, rfl⟩
        have hqm2 : qm + 1 = q := by omega
        have hmul : r * B + lo = qm * y + y := by rw [hhl, ← hqm2, Nat.add_mul, Nat.one_mul]
        rw [hqm, hrn] at hnx
        have t2 : IntKind.u64.wrap ((q : Int) - 1) = (qm : Int) := by rw [IntKind.wrap_u64]; unfold B at hqB; omega
        have hst := diff_stepb hloB hyB (show 0 ≤ 1 by omega)
        have hbl := bor_le lo y 0
        have hsub := fun w => sub64_run lo y 0 (by omega) w
        have hl2B : (lo + B - y - 0) % B < B := mod_lt _
        obtain ⟨l2, hl2⟩ : ∃ t, (lo + B - y - 0) % B = t := ⟨_, rfl⟩
        obtain ⟨b1, hb1⟩ : ∃ t, bor lo y 0 = t := ⟨_, rfl⟩
        rw [hl2, hb1] at hst; rw [hb1] at hbl; rw [hl2] at hl2B; simp only [hl2, hb1] at hsub
        have hge : b1 ≤ r := by
          rcases Nat.lt_or_ge r b1 with a1 | a1
          · exfalso
            have : r = 0 := by omega
            subst this
            have : b1 = 1 := by omega
            subst this
            omega
          · exact a1
        obtain ⟨h2, hh2⟩ : ∃ t, r - b1 = t := ⟨_, rfl⟩
        have hh2' : h2 + b1 = r := by omega
        have hnew : h2 * B + l2 = qm * y := by
          have : (h2 + b1) * B + lo = qm * y + y := by rw [hh2']; exact hmul
          rw [Nat.add_mul] at this; omega
        have t3 : IntKind.u64.wrap ((r : Int) - (b1 : Int)) = (h2 : Int) := by rw [IntKind.wrap_u64]; unfold B at hrB; omega
        have hsub' : ∀ w, (callFunc 60 #[.int .u64 lo, .int .u64 y, .int .u64 0]).run Try.prog w = .ok (.value (.tuple #[.int .u64 l2, .int .u64 b1])) w := hsub
        have hadd := fun w => add64_run r x 0 (by omega) w
        obtain ⟨r2, hr2⟩ : ∃ t, (r + x + 0) % B = t := ⟨_, rfl⟩
        obtain ⟨c2, hc2⟩ : ∃ t, (r + x + 0) / B = t := ⟨_, rfl⟩
        simp only [hr2, hc2] at hadd
        have hadd' : ∀ w, (callFunc 58 #[.int .u64 r, .int .u64 x, .int .u64 0]).run Try.prog w = .ok (.value (.tuple #[.int .u64 r2, .int .u64 c2])) w := hadd
        have hqmB : qm < B := by omega
        have hless : qm < q := by omega
        have hh2B : h2 < B := by omega
        have HNX := Lib.hid hnx; have HNEW := Lib.hid hnew
        by_cases hcar : B ≤ rn
        · have t4 : ((c2 : Int) != 0) = true := by simp only [bne_iff_ne]; unfold B at *; omega
          have hfin := HNX.out.done (.inl hcar)
          have HFIN := Lib.hid hfin
          clear hfin hcar hnx hnew hfull hqm hrn hqm2 hmul hst hl2 hb1 hbl hsub hadd hr2 hc2 hh2 hh2' hhl hge
          go_wp2
          go_ret
          exact ⟨ret1 (k := .u64) (by rw [HFIN.out.trans HG.out]), HW⟩
        · have t4 : ((c2 : Int) != 0) = false := by simp only [bne_eq_false_iff_eq]; unfold B at *; omega
          have hrr : r2 = rn := by unfold B at *; omega
          have hrnB : rn < B := by omega
          clear hcar hnx hnew hfull hqm hrn hqm2 hmul hst hl2 hb1 hbl hsub hadd hr2 hc2 hh2 hh2' hhl hge
          subst hrr
          go_wp2
          exact ⟨⟨qm, _, h2, l2, HNX.out, hqmB, hrnB, HNEW.out, hh2B, hl2B, rfl, rfl, rfl, rfl⟩, by simp [intOf]; omega⟩
      · have u3 : ¬ ((c : Int) < (lo : Int)) := by omega
        have hfin := hfull.done (.inr ⟨hqB, by omega⟩)
        have HFIN := Lib.hid hfin; clear hfin hfull hhl
        go_wp2
        go_ret
        exact ⟨ret1 (k := .u64) (by rw [HFIN.out.trans HG.out]), HW⟩
    · have u1 : ¬ ((r : Int) < (hi : Int)) := by omega
      have u2 : ((hi : Int) == (r : Int)) = false := by simp only [beq_eq_false_iff_ne]; omega
      have hfin := hfull.done (.inr ⟨hqB, by
        have := Nat.mul_le_mul_right B (show hi + 1 ≤ r from hc)
        rw [Nat.add_mul] at this; omega⟩)
      have HFIN := Lib.hid hfin; clear hfin hfull hhl
      go_wp2
      go_ret
      exact ⟨ret1 (k := .u64) (by rw [HFIN.out.trans HG.out]), HW⟩
end Go.Proofs.Ytbfdianmbpfjmaa
