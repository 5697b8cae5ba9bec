/- Two words divided by one. -/
import Derived.Test.YtbfdianmbpfjmaaWalkG
import Derived.Test.YtbfdianmbpfjmaaMathc
import Derived.Deep.DeepCutAuto
import Derived.Deep.CutBlock
namespace Go.Proofs.Ytbfdianmbpfjmaa
open Go.RowKit Go.MagM
theorem div64_low (lo y : Nat) (w : World) (hlo : lo < B) (h0 : 0 < y) :
    Calls Try.prog 62 #[.int .u64 0, .int .u64 lo, .int .u64 y] w fun e w' => e = .returned (.tuple #[.int .u64 ((lo / y : Nat) : Int), .int .u64 ((lo % y : Nat) : Int)]) ∧ Hid (∃ q, w' = w.drewN q) := by
  have hy0 : ((y : Int) == 0) = false := by simp only [beq_eq_false_iff_ne]; omega
  have hy1 : ¬ (y : Int) ≤ 0 := by omega
  have e1 : IntKind.u64.wrap ((lo : Int) / (y : Int)) = ((lo / y : Nat) : Int) := by
    rw [← Int.natCast_ediv]; exact wrapS _ (Nat.lt_of_le_of_lt (Nat.div_le_self _ _) hlo)
  go_enter Try.func62, Try.ntmps62
  go_wp2
  go_quiet (fail)
  go_wp2
  go_ret2
  exact ⟨ret2 (k := .u64) (k' := .u64) (by simp) (by simp), ⟨nq, rfl⟩⟩
set_option maxHeartbeats 4000000 in
theorem div64_high (s y y' yn1 yn0 hi lo un un10 un1 un0 : Nat) (w : World) (hlo : lo < B) (hy : y < B) (h0 : 0 < hi) (hhi : hi < y) (hs64 : s < 64) (hlead : 64 - bl y = s)
    (e1 : IntKind.u64.wrap ((y : Int) * 2 ^ s) = (y' : Int)) (e2 : (y' : Int) / 4294967296 = (yn1 : Int)) (e3 : bits .and .u64 (y' : Int) 4294967295 = (yn0 : Int))
    (e4 : bits .or .u64 (IntKind.u64.wrap ((hi : Int) * 2 ^ s)) ((lo : Int) / 2 ^ (64 - s)) = (un : Int)) (e5 : IntKind.u64.wrap ((lo : Int) * 2 ^ s) = (un10 : Int))
    (e6 : (un10 : Int) / 4294967296 = (un1 : Int)) (e7 : bits .and .u64 (un10 : Int) 4294967295 = (un0 : Int)) (hyn1 : 0 < yn1)
    (hb0 : yn0 < H) (hb1 : un1 < H) (hb2 : yn1 < H) (hlt : un < yn1 * H + yn0) (hunB : un < B) (hb3 : un0 < H) (HYY : Hid (yn1 * H + yn0 = y')) (hyB : y' < B) :
    Calls Try.prog 62 #[.int .u64 hi, .int .u64 lo, .int .u64 y] w fun e w' => e = .returned (.tuple #[.int .u64 (((un * H + un1) / y' * H + ((un * H + un1) % y' * H + un0) / y' : Nat) : Int), .int .u64 ((((un * H + un1) % y' * H + un0) % y' / 2 ^ s : Nat) : Int)]) ∧ w = w' := by
  have hy0 : ((y : Int) == 0) = false := by simp only [beq_eq_false_iff_ne]; omega
  have hy1 : ¬ (y : Int) ≤ (hi : Int) := by omega
  have hh0 : ((hi : Int) == 0) = false := by simp only [beq_eq_false_iff_ne]; omega
  have hw64 : IntKind.u64.wrap (64 - (s : Int)) = 64 - (s : Int) := IntWalk.u64_in _ (by omega)
  have hz1 : ¬ (yn1 : Int) = 0 := by omega
  have e8 : (un : Int) / (yn1 : Int) = ((un / yn1 : Nat) : Int) := (Int.natCast_ediv _ _).symm
  obtain ⟨qa, hqa⟩ : ∃ qa, un / yn1 = qa := ⟨_, rfl⟩
  have hqaB : qa < B := by rw [← hqa]; exact Nat.lt_of_le_of_lt (Nat.div_le_self _ _) hunB
  rw [hqa] at e8
  have eqa : IntKind.u64.wrap (qa : Int) = (qa : Int) := wrapS _ hqaB
  have e9 : IntKind.u64.wrap ((un : Int) - IntKind.u64.wrap ((qa : Int) * (yn1 : Int))) = ((un % yn1 : Nat) : Int) := by
    have h1 := Nat.div_add_mod un yn1
    rw [hqa, Nat.mul_comm] at h1
    rw [mulN, wrapS _ (by omega)]
    rw [show ((un : Int) - ((qa * yn1 : Nat) : Int)) = ((un % yn1 : Nat) : Int) by omega]
    exact wrapS _ (by omega)
  have hs0 := Half.start (y1 := yn1) (y0 := yn0) (un := un) (u1 := un1) hb0 hb1 hb2 hyn1 hlt
  rw [hqa] at hs0
  obtain ⟨ra, hra⟩ : ∃ ra, un % yn1 = ra := ⟨_, rfl⟩
  rw [hra] at e9 hs0
  have hraH : ra < H := by have := Nat.mod_lt un hyn1; omega
  have HS0 := Lib.hid hs0
  have HL := Lib.hid hlead; have HY := Lib.hid hy; clear hlead hy hqa hra hs0
  go_enter Try.func62, Try.ntmps62
  go_upto_block 0 with (go_at_call 63; refine (lead64_any _ _ HY.out).mono ?_; rintro e w1 ⟨rfl, rfl⟩; rw [HL.out])
  go_cut [15, 16] (fun a b wx => ∃ q1 rh : Nat, a = .int .u64 q1 ∧ b = .int .u64 rh ∧ Hid (q1 = (un * H + un1) / (yn1 * H + yn0)) ∧ wx = w)
  case first =>
    go_wp2
    go_loop [15, 16] (fun a b => ∃ q1 rh : Nat, Half yn1 yn0 un un1 q1 rh ∧ q1 < B ∧ rh < H ∧ a = .int .u64 q1 ∧ b = .int .u64 rh) (fun a _ => (intOf a).toNat)
    case atStart => exact ⟨_, _, HS0.out, by assumption, by assumption, rfl, rfl⟩
    case round =>
      obtain ⟨q1, rh, hhalf, hq1B, hrh, rfl, rfl⟩ := hrel
      have hm3 : IntKind.u64.wrap (4294967296 * (rh : Int)) = 4294967296 * (rh : Int) := by rw [IntKind.wrap_u64]; unfold H at hrh; omega
      have hb1 := hhalf.b1
      have hm2 : IntKind.u64.wrap (4294967296 * (rh : Int) + (un1 : Int)) = 4294967296 * (rh : Int) + (un1 : Int) := by rw [IntKind.wrap_u64]; unfold H at hrh hb1; omega
      by_cases hc1 : H ≤ q1
      · obtain ⟨h1, hnx⟩ := hhalf.next (.inl hc1)
        have t1 : (4294967296 : Int) ≤ (q1 : Int) := by unfold H at hc1; omega
        obtain ⟨qm, hqm⟩ : ∃ qm, q1 - 1 = qm := ⟨_, rfl⟩
        obtain ⟨rn, hrn⟩ : ∃ rn, rh + yn1 = rn := ⟨_, rfl⟩
        rw [hqm, hrn] at hnx
        have t2 : IntKind.u64.wrap ((q1 : Int) - 1) = (qm : Int) := by rw [IntKind.wrap_u64]; unfold B at hq1B; omega
        have hb2 := hhalf.b2
        have t3 : IntKind.u64.wrap ((rh : Int) + (yn1 : Int)) = (rn : Int) := by rw [IntKind.wrap_u64]; unfold H at hrh hb2; omega
        have hqB : qm < B := by omega
        have hless : qm < q1 := by omega
        have HNX := Lib.hid hnx; clear hnx hhalf hqm hrn hc1 hb1 hb2
        by_cases hrb : H ≤ rn
        · have t4 : (4294967296 : Int) ≤ (rn : Int) := by unfold H at hrb; omega
          have hfin := HNX.out.done (.inl hrb)
          have HFIN := Lib.hid hfin; clear hfin hrb
          go_wp2
          go_meet
          exact ⟨qm, rn, rfl, rfl, HFIN, rfl⟩
        · have t4 : ¬ (4294967296 : Int) ≤ (rn : Int) := by unfold H at hrb; omega
          have hrnH : rn < H := by omega
          clear hrb
          go_wp2
          exact ⟨⟨qm, rn, HNX.out, hqB, hrnH, rfl, rfl⟩, by simp [intOf]; omega⟩
      · have t1 : ¬ (4294967296 : Int) ≤ (q1 : Int) := by unfold H at hc1; omega
        obtain ⟨m1, hm1⟩ : ∃ m1, q1 * yn0 = m1 := ⟨_, rfl⟩
        have hm1B : m1 < B := by
          have hb0 := hhalf.b0
          have := Nat.mul_le_mul (show q1 ≤ 4294967295 by unfold H at hc1; omega) (show yn0 ≤ 4294967295 by unfold H at hb0; omega)
          rw [hm1] at this; unfold B; omega
        have t5 : IntKind.u64.wrap ((q1 : Int) * (yn0 : Int)) = (m1 : Int) := by rw [mulN, hm1]; exact wrapS _ hm1B
        by_cases hc2 : rh * H + un1 < q1 * yn0
        · obtain ⟨h1, hnx⟩ := hhalf.next (.inr hc2)
          obtain ⟨qm, hqm⟩ : ∃ qm, q1 - 1 = qm := ⟨_, rfl⟩
          obtain ⟨rn, hrn⟩ : ∃ rn, rh + yn1 = rn := ⟨_, rfl⟩
          rw [hqm, hrn] at hnx
          rw [hm1] at hc2
          have t6 : 4294967296 * (rh : Int) + (un1 : Int) < (m1 : Int) := by unfold H at hc2; omega
          have t2 : IntKind.u64.wrap ((q1 : Int) - 1) = (qm : Int) := by rw [IntKind.wrap_u64]; unfold B at hq1B; omega
          have hb2 := hhalf.b2
          have t3 : IntKind.u64.wrap ((rh : Int) + (yn1 : Int)) = (rn : Int) := by rw [IntKind.wrap_u64]; unfold H at hrh hb2; omega
          have hqB : qm < B := by omega
          have hless : qm < q1 := by omega
          have HNX := Lib.hid hnx; clear hnx hhalf hqm hrn hc1 hb1 hb2 hm1 hc2
          by_cases hrb : H ≤ rn
          · have t4 : (4294967296 : Int) ≤ (rn : Int) := by unfold H at hrb; omega
            have hfin := HNX.out.done (.inl hrb)
            have HFIN := Lib.hid hfin; clear hfin hrb
            go_wp2
            go_meet
            exact ⟨qm, rn, rfl, rfl, HFIN, rfl⟩
          · have t4 : ¬ (4294967296 : Int) ≤ (rn : Int) := by unfold H at hrb; omega
            have hrnH : rn < H := by omega
            clear hrb
            go_wp2
            exact ⟨⟨qm, rn, HNX.out, hqB, hrnH, rfl, rfl⟩, by simp [intOf]; omega⟩
        · have hfin := hhalf.done (.inr ⟨by omega, by omega⟩)
          rw [hm1] at hc2
          have t6 : ¬ (4294967296 * (rh : Int) + (un1 : Int) < (m1 : Int)) := by unfold H at hc2; omega
          have HFIN := Lib.hid hfin; clear hfin hhalf hc1 hb1 hm1 hc2
          go_wp2
          go_meet
          exact ⟨q1, rh, rfl, rfl, HFIN, rfl⟩
  case rest =>
    obtain ⟨q1, rh, rfl, rfl, HQ, rfl⟩ := hcut
    have hyp : 0 < y' := by rw [← HYY.out]; omega
    have hq1 : q1 = (un * H + un1) / y' := by rw [← HYY.out]; exact HQ.out
    obtain ⟨u21, hu21⟩ : ∃ u21, (un * H + un1) % y' = u21 := ⟨_, rfl⟩
    have hu21lt : u21 < y' := by rw [← hu21]; exact Nat.mod_lt _ hyp
    have hdm := Nat.div_add_mod (un * H + un1) y'
    rw [← hq1, hu21, Nat.mul_comm] at hdm
    obtain ⟨A1, hA1⟩ : ∃ A1, un * H % B = A1 := ⟨_, rfl⟩
    obtain ⟨A2, hA2⟩ : ∃ A2, (A1 + un1) % B = A2 := ⟨_, rfl⟩
    obtain ⟨A3, hA3⟩ : ∃ A3, q1 * y' % B = A3 := ⟨_, rfl⟩
    have f1 : IntKind.u64.wrap ((un : Int) * 4294967296) = (A1 : Int) := by
      rw [show ((un : Int) * 4294967296) = ((un * H : Nat) : Int) by unfold H; omega, wrapN, hA1]
    have f2 : IntKind.u64.wrap ((A1 : Int) + (un1 : Int)) = (A2 : Int) := by rw [addN, wrapN, hA2]
    have f3 : IntKind.u64.wrap ((q1 : Int) * (y' : Int)) = (A3 : Int) := by rw [mulN, wrapN, hA3]
    have f4 : IntKind.u64.wrap ((A2 : Int) - (A3 : Int)) = (u21 : Int) := by
      generalize un * H = p at *
      generalize q1 * y' = r at *
      rw [IntKind.wrap_u64]; unfold B at *; omega
    have f5 : (u21 : Int) / (yn1 : Int) = ((u21 / yn1 : Nat) : Int) := (Int.natCast_ediv _ _).symm
    have hlt2 : u21 < yn1 * H + yn0 := by rw [HYY.out]; exact hu21lt
    have hs1 := Half.start (y1 := yn1) (y0 := yn0) (un := u21) (u1 := un0) hb0 hb3 hb2 hyn1 hlt2
    obtain ⟨qb, hqb⟩ : ∃ qb, u21 / yn1 = qb := ⟨_, rfl⟩
    have hqbB : qb < B := by rw [← hqb]; exact Nat.lt_of_le_of_lt (Nat.div_le_self _ _) (by omega)
    obtain ⟨rb, hrb⟩ : ∃ rb, u21 % yn1 = rb := ⟨_, rfl⟩
    have hrbH : rb < H := by have := Nat.mod_lt u21 hyn1; omega
    have h1 := Nat.div_add_mod u21 yn1
    rw [hqb, hrb, Nat.mul_comm] at h1
    rw [hqb] at f5
    rw [hqb, hrb] at hs1
    have f6 : IntKind.u64.wrap (qb : Int) = (qb : Int) := wrapS _ hqbB
    have f7 : IntKind.u64.wrap ((u21 : Int) - IntKind.u64.wrap ((qb : Int) * (yn1 : Int))) = (rb : Int) := by
      rw [mulN, wrapS _ (by omega)]
      rw [show ((u21 : Int) - ((qb * yn1 : Nat) : Int)) = (rb : Int) by omega]
      exact wrapS _ (by omega)
    have HS1 := Lib.hid hs1; have HQ1 := Lib.hid hq1; have HU := Lib.hid hu21
    clear hq1 hu21 hdm hA1 hA2 hA3 hqb hrb h1 hs1 HS0 e8 eqa e9
    go_upto_block 2 with fail
    go_cut [18, 16] (fun a b wx => ∃ q0 rh : Nat, a = .int .u64 q0 ∧ b = .int .u64 rh ∧ Hid (q0 = (u21 * H + un0) / (yn1 * H + yn0)) ∧ wx = wc)
    case first =>
      go_wp2
      go_loop [18, 16] (fun a b => ∃ q1 rh : Nat, Half yn1 yn0 u21 un0 q1 rh ∧ q1 < B ∧ rh < H ∧ a = .int .u64 q1 ∧ b = .int .u64 rh) (fun a _ => (intOf a).toNat)
      case atStart => exact ⟨qb, rb, HS1.out, hqbB, hrbH, rfl, rfl⟩
      case round =>
        obtain ⟨q1, rh, hhalf, hq1B, hrh, rfl, rfl⟩ := hrel
        have hm3 : IntKind.u64.wrap (4294967296 * (rh : Int)) = 4294967296 * (rh : Int) := by rw [IntKind.wrap_u64]; unfold H at hrh; omega
        have hb1 := hhalf.b1
        have hm2 : IntKind.u64.wrap (4294967296 * (rh : Int) + (un0 : Int)) = 4294967296 * (rh : Int) + (un0 : Int) := by rw [IntKind.wrap_u64]; unfold H at hrh hb1; omega
        by_cases hc1 : H ≤ q1
        · obtain ⟨h1, hnx⟩ := hhalf.next (.inl hc1)
          have t1 : (4294967296 : Int) ≤ (q1 : Int) := by unfold H at hc1; omega
          obtain ⟨qm, hqm⟩ : ∃ qm, q1 - 1 = qm := ⟨_, rfl⟩
          obtain ⟨rn, hrn⟩ : ∃ rn, rh + yn1 = rn := ⟨_, rfl⟩
          rw [hqm, hrn] at hnx
          have t2 : IntKind.u64.wrap ((q1 : Int) - 1) = (qm : Int) := by rw [IntKind.wrap_u64]; unfold B at hq1B; omega
          have hb2 := hhalf.b2
          have t3 : IntKind.u64.wrap ((rh : Int) + (yn1 : Int)) = (rn : Int) := by rw [IntKind.wrap_u64]; unfold H at hrh hb2; omega
          have hqB : qm < B := by omega
          have hless : qm < q1 := by omega
          have HNX := Lib.hid hnx; clear hnx hhalf hqm hrn hc1 hb1 hb2
          by_cases hrb : H ≤ rn
          · have t4 : (4294967296 : Int) ≤ (rn : Int) := by unfold H at hrb; omega
            have hfin := HNX.out.done (.inl hrb)
            have HFIN := Lib.hid hfin; clear hfin hrb
            go_wp2
            go_meet
            exact ⟨qm, rn, rfl, rfl, HFIN, rfl⟩
          · have t4 : ¬ (4294967296 : Int) ≤ (rn : Int) := by unfold H at hrb; omega
            have hrnH : rn < H := by omega
            clear hrb
            go_wp2
            exact ⟨⟨qm, rn, HNX.out, hqB, hrnH, rfl, rfl⟩, by simp [intOf]; omega⟩
        · have t1 : ¬ (4294967296 : Int) ≤ (q1 : Int) := by unfold H at hc1; omega
          obtain ⟨m1, hm1⟩ : ∃ m1, q1 * yn0 = m1 := ⟨_, rfl⟩
          have hm1B : m1 < B := by
            have hb0 := hhalf.b0
            have := Nat.mul_le_mul (show q1 ≤ 4294967295 by unfold H at hc1; omega) (show yn0 ≤ 4294967295 by unfold H at hb0; omega)
            rw [hm1] at this; unfold B; omega
          have t5 : IntKind.u64.wrap ((q1 : Int) * (yn0 : Int)) = (m1 : Int) := by rw [mulN, hm1]; exact wrapS _ hm1B
          by_cases hc2 : rh * H + un0 < q1 * yn0
          · obtain ⟨h1, hnx⟩ := hhalf.next (.inr hc2)
            obtain ⟨qm, hqm⟩ : ∃ qm, q1 - 1 = qm := ⟨_, rfl⟩
            obtain ⟨rn, hrn⟩ : ∃ rn, rh + yn1 = rn := ⟨_, rfl⟩
            rw [hqm, hrn] at hnx
            rw [hm1] at hc2
            have t6 : 4294967296 * (rh : Int) + (un0 : Int) < (m1 : Int) := by unfold H at hc2; omega
            have t2 : IntKind.u64.wrap ((q1 : Int) - 1) = (qm : Int) := by rw [IntKind.wrap_u64]; unfold B at hq1B; omega
            have hb2 := hhalf.b2
            have t3 : IntKind.u64.wrap ((rh : Int) + (yn1 : Int)) = (rn : Int) := by rw [IntKind.wrap_u64]; unfold H at hrh hb2; omega
            have hqB : qm < B := by omega
            have hless : qm < q1 := by omega
            have HNX := Lib.hid hnx; clear hnx hhalf hqm hrn hc1 hb1 hb2 hm1 hc2
            by_cases hrb : H ≤ rn
            · have t4 : (4294967296 : Int) ≤ (rn : Int) := by unfold H at hrb; omega
              have hfin := HNX.out.done (.inl hrb)
              have HFIN := Lib.hid hfin; clear hfin hrb
              go_wp2
              go_meet
              exact ⟨qm, rn, rfl, rfl, HFIN, rfl⟩
            · have t4 : ¬ (4294967296 : Int) ≤ (rn : Int) := by unfold H at hrb; omega
              have hrnH : rn < H := by omega
              clear hrb
              go_wp2
              exact ⟨⟨qm, rn, HNX.out, hqB, hrnH, rfl, rfl⟩, by simp [intOf]; omega⟩
          · have hfin := hhalf.done (.inr ⟨by omega, by omega⟩)
            rw [hm1] at hc2
            have t6 : ¬ (4294967296 * (rh : Int) + (un0 : Int) < (m1 : Int)) := by unfold H at hc2; omega
            have HFIN := Lib.hid hfin; clear hfin hhalf hc1 hb1 hm1 hc2
            go_wp2
            go_meet
            exact ⟨q1, rh, rfl, rfl, HFIN, rfl⟩
    case rest =>
      obtain ⟨q0, rh, rfl, rfl, HQ0, rfl⟩ := hcut
      go_wp2
      go_ret2
      refine ⟨ret2 (k := .u64) (k' := .u64) ?_ ?_, rfl⟩
      · have hq0 : q0 = (u21 * H + un0) / y' := by rw [← HYY.out]; exact HQ0.out
        have b1 : q1 < H := by rw [HQ1.out]; exact half_quot_lt hb1 (by rw [← HYY.out]; exact hlt)
        have b0 : q0 < H := by rw [hq0]; exact half_quot_lt hb3 hu21lt
        rw [HU.out, ← hq0, ← HQ1.out, IntKind.wrap_u64, IntKind.wrap_u64]; unfold H at *; omega
      · have hq0 : q0 = (u21 * H + un0) / y' := by rw [← HYY.out]; exact HQ0.out
        have hdm := Nat.div_add_mod (u21 * H + un0) y'
        have hml := Nat.mod_lt (u21 * H + un0) hyp
        rw [← hq0, Nat.mul_comm] at hdm
        rw [HU.out]
        rw [show IntKind.u64.wrap (IntKind.u64.wrap (IntKind.u64.wrap ((u21 : Int) * 4294967296) + (un0 : Int)) - IntKind.u64.wrap ((q0 : Int) * (y' : Int))) = (((u21 * H + un0) % y' : Nat) : Int) by
          rw [mulN, show ((u21 : Int) * 4294967296) = ((u21 * H : Nat) : Int) by unfold H; omega]
          generalize (u21 * H + un0) % y' = z at *
          generalize u21 * H = p at *
          generalize q0 * y' = r at *
          simp only [IntKind.wrap_u64]; unfold B at *; omega]
        exact divP _ _
theorem div64_any (hi lo y : Nat) (w : World) (hlo : lo < B) (hy : y < B) (hhi : hi < y) :
    Calls Try.prog 62 #[.int .u64 hi, .int .u64 lo, .int .u64 y] w fun e w' => e = .returned (.tuple #[.int .u64 (((hi * B + lo) / y : Nat) : Int), .int .u64 (((hi * B + lo) % y : Nat) : Int)]) ∧ Hid (∃ q, w' = w.drewN q) := by
  by_cases h0 : hi = 0
  · subst h0
    rw [Nat.zero_mul, Nat.zero_add]
    exact div64_low lo y w hlo (by omega)
  · have hyne : y ≠ 0 := by omega
    have hb1 := bl_lt y; have hb2 := bl_ge hyne; have hb3 := bl_pos hyne
    have hb4 : bl y ≤ 64 := by
      have := (Nat.pow_lt_pow_iff_right (show 1 < 2 by omega)).1 (show 2 ^ (bl y - 1) < 2 ^ 64 by unfold B at hy; omega)
      omega
    obtain ⟨s, hs⟩ : ∃ s, 64 - bl y = s := ⟨_, rfl⟩
    have hs64 : s < 64 := by omega
    have hps : 0 < 2 ^ s := Nat.pow_pos (by omega)
    -- the divisor, moved up
    have hyB : y * 2 ^ s < B := by
      have h1 := Nat.mul_lt_mul_of_pos_right hb1 hps
      rw [← Nat.pow_add, show bl y + s = 64 from by omega] at h1
      exact h1
    have hyH : 2 ^ 63 ≤ y * 2 ^ s := by
      have h1 := Nat.mul_le_mul_right (2 ^ s) hb2
      rw [← Nat.pow_add, show bl y - 1 + s = 63 from by omega] at h1
      exact h1
    have hunlt : hi * 2 ^ s + lo * 2 ^ s / B < y * 2 ^ s := by
      have h1 := shl_div_lt (n := s) hlo
      have h2 := Nat.mul_le_mul_right (2 ^ s) (show hi + 1 ≤ y from hhi)
      rw [Nat.add_mul] at h2; omega
    have hun : hi * 2 ^ s % B + lo * 2 ^ s / B = hi * 2 ^ s + lo * 2 ^ s / B := by rw [Nat.mod_eq_of_lt (Nat.lt_of_le_of_lt (Nat.le_add_right _ _) (Nat.lt_trans hunlt hyB))]
    obtain ⟨y', hy'⟩ : ∃ y', y * 2 ^ s = y' := ⟨_, rfl⟩
    obtain ⟨un, hune⟩ : ∃ un, hi * 2 ^ s + lo * 2 ^ s / B = un := ⟨_, rfl⟩
    obtain ⟨un10, hun10⟩ : ∃ un10, lo * 2 ^ s % B = un10 := ⟨_, rfl⟩
    have hun10B : un10 < B := by rw [← hun10]; exact mod_lt _
    rw [hy'] at hyB hyH hunlt
    rw [hune] at hunlt hun
    have key := div64_high s y y' (y' / 4294967296) (y' % 4294967296) hi lo un un10 (un10 / 4294967296) (un10 % 4294967296) w hlo hy (by omega) hhi hs64 hs
      (by rw [shlW, hy', Nat.mod_eq_of_lt hyB]) (divH y') (maskN y' hyB) (by rw [orU _ _ _ hlo (by omega), hun]) (by rw [shlW, hun10]) (divH un10) (maskN un10 hun10B)
      (by omega) (by unfold H; omega) (by unfold H B at *; omega) (by unfold H B at *; omega) (by unfold H; omega) (by omega) (by unfold H; omega) (Lib.hid (by unfold H; omega)) hyB
    obtain ⟨r1, r2⟩ := div64_up (hi := hi) (lo := lo) (y := y) (s := s) (un := un) (un1 := un10 / 4294967296) (un0 := un10 % 4294967296) (y' := y') (by omega) (by omega) hy'.symm hune.symm (by rw [hun10]; unfold H; omega)
    rw [r1, r2] at key
    exact key.mono fun e w' h => ⟨h.1, Lib.hid ⟨0, h.2.symm⟩⟩
end Go.Proofs.Ytbfdianmbpfjmaa
