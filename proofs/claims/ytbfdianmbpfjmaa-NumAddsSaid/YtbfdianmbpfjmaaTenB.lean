/- The document's own Digits: what it answers. -/
import Derived.Test.YtbfdianmbpfjmaaTenA
import Derived.Test.YtbfdianmbpfjmaaMathb
import Derived.Laws.Bits64b
namespace Go.Proofs.Ytbfdianmbpfjmaa
open Go.RowKit Go.MagM
theorem B_ten (n : Nat) : B ^ n ≤ MagT.B ^ (20 * n) := by
  rw [Nat.pow_mul]
  exact Nat.pow_le_pow_left (by unfold B MagT.B; omega) n
theorem V_low' (f : Nat → Nat) (k m : Nat) : V (fun i => f (k + i)) (m + 1) = f k + B * V (fun i => f (k + 1 + i)) m := by
  have := V_split (fun i => f (k + i)) 1 m
  rw [Nat.add_comm 1 m, V_one, Nat.pow_one] at this
  simp only [Nat.add_zero] at this
  rw [this]; simp only [Nat.add_assoc]
/-- What has been read of a number, bit by bit, from the highest: P the words above, x the word, j bits of it to go. -/
def part (P x j : Nat) : Nat := P * 2 ^ (64 - j) + x / 2 ^ j
theorem part_start {P x : Nat} (hx : x < B) : part P x 64 = P := by
  unfold part
  rw [Nat.div_eq_of_lt (show x < 2 ^ 64 from hx)]; simp
theorem part_end (P x : Nat) : part P x 0 = P * B + x := by
  unfold part
  rw [Nat.pow_zero, Nat.div_one]; rfl
theorem part_step (P x j : Nat) (hj : j < 64) : part P x j = part P x (j + 1) + part P x (j + 1) + x / 2 ^ j % 2 := by
  unfold part
  have e1 : 2 ^ (64 - j) = 2 ^ (64 - (j + 1)) * 2 := by rw [← Nat.pow_succ]; congr 1; omega
  have e2 : x / 2 ^ (j + 1) = x / 2 ^ j / 2 := by rw [Nat.pow_succ, Nat.div_div_eq_div_mul]
  rw [e1, e2, ← Nat.mul_assoc]; omega
theorem part_lt {P x j m : Nat} (hP : P < B ^ m) (hx : x < B) (hj : j ≤ 64) : part P x j < B ^ (m + 1) := by
  unfold part
  have h1 : x / 2 ^ j < 2 ^ (64 - j) := by
    apply Nat.div_lt_of_lt_mul
    rw [← Nat.pow_add, show j + (64 - j) = 64 by omega]; exact hx
  have h2 := Nat.mul_le_mul_right (2 ^ (64 - j)) (show P + 1 ≤ B ^ m from hP)
  rw [Nat.add_mul] at h2
  have h3 : 2 ^ (64 - j) ≤ B := Nat.pow_le_pow_right (by omega) (show 64 - j ≤ 64 by omega)
  have h4 := Nat.mul_le_mul_left (B ^ m) h3
  rw [Nat.pow_succ]; omega
theorem bit_of (x j : Nat) (hx : x < B) : bits .and .u64 ((x : Int) / 2 ^ j) 1 = ((x / 2 ^ j % 2 : Nat) : Int) := by
  have h1 : x / 2 ^ j < B := Nat.lt_of_le_of_lt (Nat.div_le_self _ _) hx
  have h3 := bits_and_u64_nat (x / 2 ^ j) 1 (by unfold B at h1; exact h1) (by omega)
  have h4 : x / 2 ^ j &&& 1 = x / 2 ^ j % 2 := Nat.and_two_pow_sub_one_eq_mod (x / 2 ^ j) 1
  rw [h4] at h3
  rw [show ((x : Int) / 2 ^ j) = ((x / 2 ^ j : Nat) : Int) by simp]
  exact h3
theorem Dec.one {w : World} (T : TypeId) : Dec (w.alloc (.cells #[.int .i64 1] T)) (.slice (some ⟨w.heap.size, 0, none⟩) 1 1) 1 1 := by
  refine ⟨_, 1, 1, fun _ => 1, rfl, Nat.le_refl _, Nat.le_refl _, ?_, by simp [MagT.V], fun _ _ => Nat.one_ne_zero⟩
  intro i hi
  refine ⟨w.heap.size, 0, rfl, ?_, by show 1 < MagT.B; unfold MagT.B; omega⟩
  have : i = 0 := by omega
  subst this
  exact World.cell?_alloc_new w _ _ _
theorem Dec.nil (w : World) (L : Nat) : Dec w (.slice none 0 0) L 0 := ⟨none, 0, 0, fun _ => 0, rfl, Nat.le_refl _, Nat.zero_le _, fun i hi => by omega, rfl, fun k h => by omega⟩
set_option maxHeartbeats 4000000 in
theorem Digits_any (ao : Option Addr) (n c : Nat) (f : Nat → Nat) (w : World) (hn : n ≤ 1000) (hr : Reads w ao n f) :
    Calls Try.prog 31 #[.slice ao n c] w fun e w' => ∃ v, e = .returned v ∧ Dec w' v (20 * n) (V f n) ∧ Below w.heap.size w w' := by
  have HR := Lib.hid hr; clear hr
  go_enter Try.func31, Try.ntmps31
  go_wp2
  go_loopw [3, 4] (fun ov i wr => ∃ k : Nat, k ≤ n ∧ i = .int .i64 ((k : Int) - 1) ∧ Dec wr ov (20 * n) (V (fun i => f (k + i)) (n - k)) ∧ Below w.heap.size w wr) (fun _ i _ => (intOf i + 1).toNat)
  case atStart => exact ⟨n, Nat.le_refl _, rfl, by rw [Nat.sub_self]; exact Dec.nil _ _, Below.refl _ _⟩
  case round =>
    obtain ⟨k, hk, rfl, hdec, hbel⟩ := hrel
    cases k with
    | zero =>
      have hd2 : Dec wr u3 (20 * n) (V f n) := by simpa using hdec
      clear hdec
      go_wp2
      go_ret
      exact ⟨_, rfl, hd2, hbel⟩
    | succ k =>
      have hk1 : ((k + 1 : Nat) : Int) - 1 = (k : Int) := by omega
      rw [hk1]; clear hk1
      obtain ⟨m, hm⟩ : ∃ m, n - (k + 1) = m := ⟨_, rfl⟩
      rw [hm] at hdec
      obtain ⟨P, hP⟩ : ∃ P, V (fun i => f (k + 1 + i)) m = P := ⟨_, rfl⟩
      rw [hP] at hdec
      obtain ⟨ab, aof, rfl, hac0, hxB⟩ := HR.out k (by omega)
      have hPB : P < B ^ m := by rw [← hP]; exact V_lt (fun i hi => HR.out.lt _ (by omega))
      have hbound : ∀ j, j ≤ 64 → part P (f k) j < MagT.B ^ (20 * n) := by
        intro j hj
        have h1 := part_lt hPB hxB hj
        have h2 : B ^ (m + 1) ≤ B ^ n := Nat.pow_le_pow_right B_pos (by omega)
        have h3 := B_ten n
        omega
      have hsum : V (fun i => f (k + i)) (n - k) = part P (f k) 0 := by
        rw [show n - k = m + 1 by omega, V_low', part_end, hP, Nat.mul_comm]; omega
      have HBO := Lib.hid hbound; have HSU := Lib.hid hsum; have HXB := Lib.hid hxB; have HST := Lib.hid (part_start (P := P) hxB)
      clear hbound hsum hxB hPB hP
      go_wp2
      go_loopw [3, 5] (fun ov i wr => ∃ j : Nat, j ≤ 64 ∧ i = .int .i64 ((j : Int) - 1) ∧ Dec wr ov (20 * n) (part P (f k) j) ∧ Below w.heap.size w wr) (fun _ i _ => (intOf i + 1).toNat)
      case atStart => exact ⟨64, Nat.le_refl _, rfl, by rw [HST.out]; exact hdec, hbel⟩
      case round =>
        clear hdec hbel
        obtain ⟨j, hj, rfl, hdec, hbel⟩ := hrel
        cases j with
        | zero =>
          go_wp2
          refine ⟨⟨k, by omega, rfl, by rw [HSU.out]; exact hdec, hbel⟩, by simp [intOf]⟩
        | succ j =>
          have hjj : ((j + 1 : Nat) : Int) - 1 = (j : Int) := by omega
          rw [hjj]; clear hjj
          have hps := part_step P (f k) j (by omega)
          have hb1 := HBO.out j (by omega)
          obtain ⟨P1, hP1⟩ : ∃ P1, part P (f k) (j + 1) = P1 := ⟨_, rfl⟩
          rw [hP1] at hdec hps
          have hbit := bit_of (f k) j HXB.out
          obtain ⟨b, hb⟩ : ∃ b, f k / 2 ^ j % 2 = b := ⟨_, rfl⟩
          rw [hb] at hps hbit
          have hb2 : b ≤ 1 := by omega
          have hP1B : P1 + P1 < MagT.B ^ (20 * n) := by omega
          have HPS := Lib.hid hps; have HB1 := Lib.hid hb1; have HP1B := Lib.hid hP1B
          clear hps hb1 hP1B hP1 hb
          go_wp2_with fail
          refine (radd_any _ _ (20 * n) (20 * n) P1 P1 _ (by omega) (by omega) hdec hdec).mono ?_
          rintro e w2 ⟨v2, rfl, hd2, hbb2⟩
          have hd3 := hd2.short HP1B.out
          have hbel2 := hbel.trans (hbb2.mono hbel.size)
          obtain ⟨ab', aof', e', hac, _⟩ := (HR.out.below hbel2) k (by omega)
          simp at e'; obtain ⟨rfl, rfl⟩ := e'
          clear hd2 hbb2 hdec hbel
          have hb01 : b = 0 ∨ b = 1 := by omega
          rcases hb01 with rfl | rfl
          · have hpe : part P (f k) j = P1 + P1 := by have := HPS.out; omega
            have HPE := Lib.hid hpe; clear hpe
            go_wp2
            refine ⟨⟨j, by omega, rfl, by rw [HPE.out]; exact hd3, hbel2⟩, by simp [intOf]⟩
          · have HPE := HPS
            go_wp2_with fail
            refine (radd_any _ _ (20 * n) 1 (P1 + P1) 1 _ (by omega) (by omega) (hd3.below ((Below.refl _ _).alloc (Nat.le_refl _) _)) (Dec.one _)).mono ?_
            rintro e w3 ⟨v3, rfl, hd4, hbb3⟩
            have hd5 := hd4.short (by have := HB1.out; rw [HPE.out] at this; exact this)
            have hbel3 : Below w.heap.size w w3 := (hbel2.alloc hbel2.size _).trans (hbb3.mono (by have := hbel2.size; simp; omega))
            clear hd4 hbb3 hd3 hac hbit
            go_wp2
            refine ⟨⟨j, by omega, rfl, by rw [HPE.out]; exact hd5, hbel3⟩, by simp [intOf]⟩
end Go.Proofs.Ytbfdianmbpfjmaa
