/- Bits moved up and down. -/
import Derived.Test.YtbfdianmbpfjmaaWalkE
import Derived.StillTailTactics
import Derived.BigRegion
namespace Go.Proofs.Ytbfdianmbpfjmaa
open Go.RowKit Go.MagM
theorem shlW (a n : Nat) : IntKind.u64.wrap ((a : Int) * 2 ^ n) = ((a * 2 ^ n % B : Nat) : Int) := by
  rw [show ((a : Int) * 2 ^ n) = ((a * 2 ^ n : Nat) : Int) by simp, wrapN]
theorem divP (a n : Nat) : (a : Int) / 2 ^ n = ((a / 2 ^ n : Nat) : Int) := by simp
theorem orU (x y n : Nat) (hy : y < B) (h : n ≤ 64) : bits .or .u64 (IntKind.u64.wrap ((x : Int) * 2 ^ n)) ((y : Int) / 2 ^ (64 - n)) = ((x * 2 ^ n % B + y * 2 ^ n / B : Nat) : Int) := by
  have h1 : y / 2 ^ (64 - n) < B := Nat.lt_of_le_of_lt (Nat.div_le_self _ _) hy
  rw [shlW, divP, bits_or_u64_nat _ _ (mod_lt _) h1, shr_eq y n h, or_up hy h]
theorem orD (x y n : Nat) (hx : x < B) (h : n ≤ 64) : bits .or .u64 ((x : Int) / 2 ^ n) (IntKind.u64.wrap ((y : Int) * 2 ^ (64 - n))) = ((x / 2 ^ n + y % 2 ^ n * 2 ^ (64 - n) : Nat) : Int) := by
  have h1 : x / 2 ^ n < B := Nat.lt_of_le_of_lt (Nat.div_le_self _ _) hx
  rw [shlW, divP, bits_or_u64_nat _ _ h1 (mod_lt _), or_down hx h]
theorem up_lt (x : Nat) {y n : Nat} (hy : y < B) (h : n ≤ 64) : x * 2 ^ n % B + y * 2 ^ n / B < B := by
  have h1 := shl_div_lt (n := n) hy
  rw [shl_mod x n h]
  have h2 : x % 2 ^ (64 - n) + 1 ≤ 2 ^ (64 - n) := Nat.mod_lt _ (Nat.pow_pos (by omega))
  have h3 := Nat.mul_le_mul_left (2 ^ n) h2
  rw [Nat.mul_add, Nat.mul_comm (2 ^ n) (2 ^ (64 - n)), ← B_pow n h] at h3
  omega
theorem down_lt {x : Nat} (y : Nat) {n : Nat} (hx : x < B) (h : n ≤ 64) : x / 2 ^ n + y % 2 ^ n * 2 ^ (64 - n) < B := by
  have h1 : x / 2 ^ n < 2 ^ (64 - n) := by
    apply Nat.div_lt_of_lt_mul
    rw [Nat.mul_comm, ← B_pow n h]; exact hx
  have h2 : y % 2 ^ n + 1 ≤ 2 ^ n := Nat.mod_lt _ (Nat.pow_pos (by omega))
  have h3 := Nat.mul_le_mul_right (2 ^ (64 - n)) h2
  rw [Nat.add_mul, Nat.mul_comm (2 ^ n) (2 ^ (64 - n)), ← B_pow n h] at h3
  omega
set_option maxHeartbeats 1000000 in
theorem moveUp_any (g o len c n : Nat) (w : World) (hlen : len + 1 ≤ 9000000000) (hn : n < 64) (f : Nat → Nat) (hf : Held w g o (len + 1) f) :
    Calls Try.prog 64 #[.slice (some ⟨g, o, none⟩) (len + 1 : Nat) c, .int .i64 n] w fun e w' => e = .returned (.tuple #[]) ∧
      ∃ f', Held w' g o (len + 1) f' ∧ Turn g o (len + 1) w w' ∧ f' 0 = f 0 * 2 ^ n % B ∧ ∀ j, j < len → f' (j + 1) = f (j + 1) * 2 ^ n % B + f j * 2 ^ n / B := by
  have HF := Lib.hid hf; clear hf
  go_enter Try.func64, Try.ntmps64
  go_wp2
  go_loopw [4] (fun i wr => ∃ k : Nat, ∃ f' : Nat → Nat, k ≤ len ∧ i = .int .i64 k ∧ Held wr g o (len + 1) f' ∧ Turn g o (len + 1) w wr ∧ (∀ j, j ≤ k → f' j = f j) ∧ ∀ j, k < j + 1 → j < len → f' (j + 1) = f (j + 1) * 2 ^ n % B + f j * 2 ^ n / B) (fun i _ => (intOf i).toNat)
  case atStart => exact ⟨len, f, Nat.le_refl _, by go_num, HF.out, Turn.refl _ _ _ _, fun _ _ => rfl, fun j h1 h2 => by omega⟩
  case round =>
    obtain ⟨k, f', hk, rfl, hfr, htr, hs, hd⟩ := hrel
    have HFR := Lib.hid hfr; have HTR := Lib.hid htr; have HS := Lib.hid hs; have HD := Lib.hid hd
    clear hfr htr hs hd
    cases k with
    | zero =>
      obtain ⟨hac, haf, haB⟩ := HFR.out 0 (by omega)
      simp only [Nat.add_zero] at hac haf
      rw [HS.out 0 (Nat.le_refl _)] at hac haB
      have HAB := Lib.hid haB; clear haB
      go_wp2
      go_end0
      rw [shlW]
      refine ⟨rfl, upd f' 0 (f 0 * 2 ^ n % B), ?_, HTR.out.setCell (by omega) (by omega) _, upd_same _ _ _, ?_⟩
      · have := HFR.out.setCell (k := 0) (mod_lt (f 0 * 2 ^ n)) (by omega); simpa using this
      · intro j hj; rw [upd_other _ _ _ (by omega)]; exact HD.out j (by omega) hj
    | succ k =>
      obtain ⟨hac, haf, haB⟩ := HFR.out (k + 1) (by omega)
      obtain ⟨hbc, hbf, hbB⟩ := HFR.out k (by omega)
      rw [HS.out _ (by omega)] at hac haB hbc hbB
      have HAB := Lib.hid haB; have HBB := Lib.hid hbB; clear haB hbB hbf
      have hk1 : IntKind.i64.wrap (((k + 1 : Nat) : Int) - 1) = (k : Int) := by rw [IntWalk.i64_in _ (by omega)]; omega
      go_wp2
      have hac2 : wr.drew.cell? ⟨g, o + (k + 1), none⟩ = _ := hac
      have hbc2 : wr.drew.cell? ⟨g, o + k, none⟩ = _ := hbc
      have haf2 : wr.drew.frozen? ⟨g, o + (k + 1), none⟩ = _ := haf
      have HFR2 : Hid (Held wr.drew g o (len + 1) f') := HFR
      have HTR2 : Hid (Turn g o (len + 1) w wr.drew) := HTR.out.drew
      clear HFR HTR hac hbc haf
      refine wp_region_still_tail 18 (by kernel_rfl) (by kernel_rfl) ?_
      show wpStill _ _ wr.drew (fun a' => wpList _ _ _ _ a' wr.drew) _ _
      generalize wr.drew = w2 at hac2 hbc2 haf2 HFR2 HTR2 ⊢
      simp only [List.take_succ_cons, List.take_zero, List.drop_succ_cons, List.drop_zero]
      have b1 : (0 : Int) ≤ (k : Int) + 1 := by omega
      have b2 : k < len := by omega
      have b3 : k < len + 1 := by omega
      have b4 : (k : Int) < (len : Int) + 1 := by omega
      have b5 : (0 : Int) ≤ 64 - (n : Int) := by omega
      have b6 : IntKind.i64.wrap (k : Int) = (k : Int) := IntWalk.i64_in _ (by omega)
      have b7 : IntKind.i64.wrap (64 - (n : Int)) = 64 - (n : Int) := IntWalk.i64_in _ (by omega)
      repeat still_step
      refine wpStill_nil ?_
      go_wp2
      rw [orU _ _ _ HBB.out (by omega)]
      refine ⟨⟨k, upd f' (k + 1) (f (k + 1) * 2 ^ n % B + f k * 2 ^ n / B), by omega, rfl, HFR2.out.setCell (up_lt _ HBB.out (by omega)) (by omega), HTR2.out.setCell (by omega) (by omega) _, ?_, ?_⟩, by simp [intOf]⟩
      · intro j hj; rw [upd_other _ _ _ (by omega)]; exact HS.out j (by omega)
      · intro j h1 h2
        by_cases e : j = k
        · rw [e, upd_same]
        · rw [upd_other _ _ _ (by omega)]; exact HD.out j (by omega) h2
set_option maxHeartbeats 1000000 in
theorem moveDown_any (g o len c n : Nat) (w : World) (hlen : len + 1 ≤ 9000000000) (hn : n < 64) (f : Nat → Nat) (hf : Held w g o (len + 1) f) :
    Calls Try.prog 66 #[.slice (some ⟨g, o, none⟩) (len + 1 : Nat) c, .int .i64 n] w fun e w' => e = .returned (.tuple #[]) ∧
      ∃ f', Held w' g o (len + 1) f' ∧ Turn g o (len + 1) w w' ∧ f' len = f len / 2 ^ n ∧ ∀ j, j < len → f' j = f j / 2 ^ n + f (j + 1) % 2 ^ n * 2 ^ (64 - n) := by
  have HF := Lib.hid hf; clear hf
  go_enter Try.func66, Try.ntmps66
  go_wp2
  go_loopw [4] (fun i wr => ∃ k : Nat, ∃ f' : Nat → Nat, k ≤ len ∧ i = .int .i64 k ∧ Held wr g o (len + 1) f' ∧ Turn g o (len + 1) w wr ∧ (∀ j, k ≤ j → f' j = f j) ∧ ∀ j, j < k → f' j = f j / 2 ^ n + f (j + 1) % 2 ^ n * 2 ^ (64 - n)) (fun i _ => len - (intOf i).toNat)
  case atStart => exact ⟨0, f, Nat.zero_le _, by go_num, HF.out, Turn.refl _ _ _ _, fun _ _ => rfl, fun j h => by omega⟩
  case round =>
    obtain ⟨k, f', hk, rfl, hfr, htr, hs, hd⟩ := hrel
    have HFR := Lib.hid hfr; have HTR := Lib.hid htr; have HS := Lib.hid hs; have HD := Lib.hid hd
    clear hfr htr hs hd
    by_cases hlt : k < len
    · obtain ⟨hac, haf, haB⟩ := HFR.out k (by omega)
      obtain ⟨hbc, hbf, hbB⟩ := HFR.out (k + 1) (by omega)
      rw [HS.out _ (by omega)] at hac haB hbc hbB
      have HAB := Lib.hid haB; clear haB hbB hbf
      go_wp2
      have hac2 : wr.drew.cell? ⟨g, o + k, none⟩ = _ := hac
      have hbc2 : wr.drew.cell? ⟨g, o + (k + 1), none⟩ = _ := hbc
      have haf2 : wr.drew.frozen? ⟨g, o + k, none⟩ = _ := haf
      have HFR2 : Hid (Held wr.drew g o (len + 1) f') := HFR
      have HTR2 : Hid (Turn g o (len + 1) w wr.drew) := HTR.out.drew
      clear HFR HTR hac hbc haf
      refine wp_region_still_tail 18 (by kernel_rfl) (by kernel_rfl) ?_
      show wpStill _ _ wr.drew (fun a' => wpList _ _ _ _ a' wr.drew) _ _
      generalize wr.drew = w2 at hac2 hbc2 haf2 HFR2 HTR2 ⊢
      simp only [List.take_succ_cons, List.take_zero, List.drop_succ_cons, List.drop_zero]
      have b1 : (0 : Int) ≤ (k : Int) + 1 := by omega
      have b3 : k < len + 1 := by omega
      have b4 : (k : Int) < (len : Int) + 1 := by omega
      have b5 : (0 : Int) ≤ 64 - (n : Int) := by omega
      have b6 : IntKind.i64.wrap ((k : Int) + 1) = (k : Int) + 1 := IntWalk.i64_in _ (by omega)
      have b7 : IntKind.i64.wrap (64 - (n : Int)) = 64 - (n : Int) := IntWalk.i64_in _ (by omega)
      repeat still_step
      refine wpStill_nil ?_
      go_wp2
      rw [orD _ _ _ HAB.out (by omega)]
      refine ⟨⟨k + 1, upd f' k (f k / 2 ^ n + f (k + 1) % 2 ^ n * 2 ^ (64 - n)), by omega, by go_num, HFR2.out.setCell (down_lt _ HAB.out (by omega)) (by omega), HTR2.out.setCell (by omega) (by omega) _, ?_, ?_⟩, by simp [intOf]; omega⟩
      · intro j hj; rw [upd_other _ _ _ (by omega)]; exact HS.out j (by omega)
      · intro j h1
        by_cases e : j = k
        · rw [e, upd_same]
        · rw [upd_other _ _ _ (by omega)]; exact HD.out j (by omega)
    · have hkl : k = len := by omega
      subst hkl
      obtain ⟨hac, haf, haB⟩ := HFR.out k (by omega)
      rw [HS.out k (Nat.le_refl _)] at hac haB
      have HAB := Lib.hid haB; clear haB
      go_wp2
      go_end0
      rw [divP]
      refine ⟨rfl, upd f' k (f k / 2 ^ n), HFR.out.setCell (Nat.lt_of_le_of_lt (Nat.div_le_self _ _) HAB.out) (by omega), HTR.out.setCell (by omega) (by omega) _, upd_same _ _ _, ?_⟩
      intro j hj; rw [upd_other _ _ _ (by omega)]; exact HD.out j hj
end Go.Proofs.Ytbfdianmbpfjmaa
