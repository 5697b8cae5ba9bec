/- The statements' own helpers: short, same, fit. -/
import Derived.Test.YtbfdianmbpfjmaaDoorDivf
namespace Go.Proofs.YtbfdianmbpfjmaaDoor
open Go.RowKit Go.MagM
theorem RMag.zero {w : World} {v : Value} {L : Nat} (h : RMag w v L 0) : ∃ ao c, v = .slice ao 0 c := by
  obtain ⟨ao, n, c, f, rfl, h2, h3, h4, h5, h6⟩ := h
  cases n with
  | zero => exact ⟨ao, c, rfl⟩
  | succ k =>
    exfalso
    have := h6.ge
    have := Bp k
    omega
theorem short_yes (K k g : Nat) (av : Nat → Option Addr) (nv cv : Nat → Nat) (w : World) (hk : k ≤ 1000) (hK : K ≤ 1000000)
    (hc : ∀ i, i < k → w.cell? ⟨g, i, none⟩ = some (.slice (av i) (nv i) (cv i))) (hall : ∀ i, i < k → nv i ≤ K) :
    Calls Tryd.prog 5 #[.int .i64 K, .slice (some ⟨g, 0, none⟩) k k] w fun e w' => e = .returned (.bool true) ∧ w = w' := by
  have HC := Lib.hid hc; have HA := Lib.hid hall; clear hc hall
  go_enter Tryd.func5, Tryd.ntmps5
  go_wp2
  go_loop [9] (fun i => ∃ j : Nat, j ≤ k ∧ i = .int .i64 j) (fun i => k - (intOf i).toNat)
  case atStart => exact ⟨0, Nat.zero_le _, by go_num⟩
  case round =>
    obtain ⟨j, hj, rfl⟩ := hrel
    by_cases hlt : j < k
    · have hcell := HC.out j hlt
      have hle : ¬ ((K : Int) < (nv j : Int)) := by have := HA.out j hlt; omega
      go_wp2
      exact ⟨⟨j + 1, by omega, by go_num⟩, by simp [intOf]; omega⟩
    · go_wp2
      go_ret
      exact ⟨rfl, rfl⟩
theorem short_no (K k g : Nat) (av : Nat → Option Addr) (nv cv : Nat → Nat) (w : World) (hk : k ≤ 1000) (hK : K ≤ 1000000)
    (hc : ∀ i, i < k → w.cell? ⟨g, i, none⟩ = some (.slice (av i) (nv i) (cv i))) (hex : ∃ i, i < k ∧ K < nv i) :
    Calls Tryd.prog 5 #[.int .i64 K, .slice (some ⟨g, 0, none⟩) k k] w fun e w' => e = .returned (.bool false) ∧ w = w' := by
  have HC := Lib.hid hc; have HX := Lib.hid hex; clear hc hex
  go_enter Tryd.func5, Tryd.ntmps5
  go_wp2
  go_loop [9] (fun i => ∃ j : Nat, j ≤ k ∧ i = .int .i64 j ∧ ∀ i, i < j → nv i ≤ K) (fun i => k - (intOf i).toNat)
  case atStart => exact ⟨0, Nat.zero_le _, by go_num, fun i hi => by omega⟩
  case round =>
    obtain ⟨j, hj, rfl, hall⟩ := hrel
    have HA := Lib.hid hall; clear hall
    by_cases hlt : j < k
    · have hcell := HC.out j hlt
      by_cases hle : nv j ≤ K
      · have hle' : ¬ ((K : Int) < (nv j : Int)) := by omega
        go_wp2
        refine ⟨⟨j + 1, by omega, by go_num, fun i hi => ?_⟩, by simp [intOf]; omega⟩
        by_cases e : i = j
        · rw [e]; exact hle
        · exact HA.out i (by omega)
      · have hle' : (K : Int) < (nv j : Int) := by omega
        go_wp2
        go_ret
        exact ⟨rfl, rfl⟩
    · exfalso
      obtain ⟨i, h1, h2⟩ := HX.out
      have := HA.out i (by omega)
      omega
set_option maxHeartbeats 1000000 in
theorem same_any (va vb : Value) (L M X : Nat) (w : World) (hL : L ≤ 4000000000) (ha : RMag w va L X) (hb : RMag w vb M X) :
    Calls Tryd.prog 9 #[va, vb] w fun e w' => ∃ q, e = .returned (.bool true) ∧ w' = w.drewN q := by
  obtain ⟨ao, n, ca, f, rfl, hnc, hnL, hra, hX, rf⟩ := ha
  obtain ⟨bo, m, cb, g, rfl, hmc, hmM, hrb, hY, rg⟩ := hb
  obtain ⟨rfl, heq⟩ := right_unique hra.lt hrb.lt rf rg (hX.trans hY.symm)
  have HE := Lib.hid heq; have HA := Lib.hid hra; have HB := Lib.hid hrb; have RF := Lib.hid rf
  clear heq hra hrb rf rg hX hY
  have hnn : ((n : Int) != (n : Int)) = false := by simp
  have main : ∀ (n1 : Nat), n1 = n → True := fun _ _ => trivial
  clear main
  cases n with
  | zero =>
    go_enter Tryd.func9, Tryd.ntmps9
    go_wp2
    refine wp_loop_rounds 1 ?_
    rw [rounds_succ]
    go_wp2
    go_ret
    exact ⟨0, rfl, rfl⟩
  | succ k =>
    obtain ⟨ab, aof, rfl, hac, _⟩ := HA.out k (by omega)
    have hne : (((f k : Nat) : Int) == 0) = false := by have := RF.out k rfl; simp only [beq_eq_false_iff_ne]; omega
    have w1 : IntKind.i64.wrap ((k : Int) + 1 - 1) = (k : Int) := by rw [IntWalk.i64_in _ (by omega)]; omega
    go_enter Tryd.func9, Tryd.ntmps9
    go_wp2
    clear hne hac w1
    go_loopw [27] (fun i wr => ∃ j q : Nat, j ≤ k + 1 ∧ i = .int .i64 j ∧ wr = w.drewN q) (fun i _ => k + 1 - (intOf i).toNat)
    case atStart => exact ⟨0, 0, Nat.zero_le _, by go_num, rfl⟩
    case round =>
      obtain ⟨j, q, hj, rfl, rfl⟩ := hrel
      by_cases hlt : j < k + 1
      · obtain ⟨ab', aof', e', hac, _⟩ := HA.out j hlt
        simp at e'; obtain ⟨rfl, rfl⟩ := e'
        obtain ⟨bb, bof, rfl, hbc, _⟩ := HB.out j hlt
        rw [← HE.out j hlt] at hbc
        have hxx : (((f j : Nat) : Int) != ((f j : Nat) : Int)) = false := by simp
        have b1 : (j : Int) < (k : Int) + 1 := by omega
        go_wp2
        go_quiet (fail)
        go_wp2
        exact ⟨⟨j + 1, q + nq, by omega, by go_num, by simp⟩, by simp [intOf]; omega⟩
      · go_wp2
        go_ret
        exact ⟨q, rfl, rfl⟩
end Go.Proofs.YtbfdianmbpfjmaaDoor
