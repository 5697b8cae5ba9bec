/- The statements MagParts, MagShifts, MagEdges, walked. -/
import Derived.Test.YthbjiogpekhbeaaDoorLawA
namespace Go.Proofs.YthbjiogpekhbeaaDoor
open Go.RowKit Go.MagM
theorem shn_nat (n : Nat) (h : n ≤ 8192) : shn (n : Int) = n := by unfold shn; omega
/-- What is left of a number by a mask of nine bits. -/
theorem mask9 (n : Int) : ∃ k : Nat, k ≤ 511 ∧ bits .and .i64 n 511 = (k : Int) := by
  refine ⟨(BitVec.ofInt 64 n &&& BitVec.ofInt 64 511).toNat, ?_, ?_⟩
  · rw [BitVec.toNat_and]
    exact Nat.and_le_right
  · have h : (BitVec.ofInt 64 n &&& BitVec.ofInt 64 511).toNat ≤ 511 := by
      rw [BitVec.toNat_and]
      exact Nat.and_le_right
    show IntKind.i64.wrap (((BitVec.ofInt 64 n &&& BitVec.ofInt 64 511).toNat : Nat) : Int) = _
    exact IntWalk.i64_in _ (by omega)
theorem two_odd {a b m k : Nat} (h : 2 ^ a * (2 * m + 1) = 2 ^ b * (2 * k + 1)) : a = b := by
  rcases Nat.lt_trichotomy a b with c | c | c
  · exfalso
    obtain ⟨d, rfl⟩ : ∃ d, b = a + (d + 1) := ⟨b - a - 1, by omega⟩
    rw [Nat.pow_add, Nat.mul_assoc] at h
    have := Nat.eq_of_mul_eq_mul_left (Nat.pow_pos (by omega)) h
    rw [Nat.pow_succ, Nat.mul_assoc, Nat.mul_left_comm] at this
    omega
  · exact c
  · exfalso
    obtain ⟨d, rfl⟩ : ∃ d, a = b + (d + 1) := ⟨a - b - 1, by omega⟩
    rw [Nat.pow_add, Nat.mul_assoc] at h
    have := Nat.eq_of_mul_eq_mul_left (Nat.pow_pos (by omega)) h
    rw [Nat.pow_succ, Nat.mul_assoc, Nat.mul_left_comm] at this
    omega
theorem zeros_unique {X a b : Nat} (h : IsZeros X a) (h' : IsZeros X b) : a = b := by
  rcases h with ⟨h0, rfl⟩ | ⟨m, hm⟩
  · rcases h' with ⟨_, rfl⟩ | ⟨k, hk⟩
    · rfl
    · exfalso; rw [h0] at hk
      have := Nat.mul_pos (Nat.pow_pos (n := b) (show 0 < 2 by omega)) (show 0 < 2 * k + 1 by omega); omega
  · rcases h' with ⟨h0, rfl⟩ | ⟨k, hk⟩
    · exfalso; rw [h0] at hm
      have := Nat.mul_pos (Nat.pow_pos (n := a) (show 0 < 2 by omega)) (show 0 < 2 * m + 1 by omega); omega
    · exact two_odd (hm.symm.trans hk)
/-- What lies below some bits has the noughts of the whole, if it isn't nothing. -/
theorem zeros_low {X n z : Nat} (h0 : X % 2 ^ n ≠ 0) (h : IsZeros (X % 2 ^ n) z) : IsZeros X z := by
  rcases h with ⟨h1, _⟩ | ⟨m, hm⟩
  · exact absurd h1 h0
  · have hlt : X % 2 ^ n < 2 ^ n := Nat.mod_lt _ (Nat.pow_pos (by omega))
    have hz : z < n := by
      rcases Nat.lt_or_ge z n with a | a
      · exact a
      · exfalso
        have h2 : 2 ^ n ≤ 2 ^ z := Nat.pow_le_pow_right (by omega) a
        have h3 : 2 ^ z ≤ 2 ^ z * (2 * m + 1) := Nat.le_mul_of_pos_right _ (by omega)
        omega
    obtain ⟨d, rfl⟩ : ∃ d, n = z + (d + 1) := ⟨n - z - 1, by omega⟩
    have e := Nat.div_add_mod X (2 ^ (z + (d + 1)))
    rw [hm] at e
    generalize X / 2 ^ (z + (d + 1)) = q at e
    refine .inr ⟨2 ^ d * q + m, ?_⟩
    have e2 : 2 ^ (z + (d + 1)) * q = 2 ^ z * (2 * (2 ^ d * q)) := by
      rw [Nat.pow_add, Nat.pow_succ, Nat.mul_assoc (2 ^ z), Nat.mul_comm (2 ^ d) 2, Nat.mul_assoc 2]
    rw [← e, e2, ← Nat.mul_add]
    congr 1; omega
theorem bl_le_of_lt {x n : Nat} (h : x < 2 ^ n) : bl x ≤ n := by
  by_cases h0 : x = 0
  · rw [h0]; exact Nat.zero_le _
  · have h1 := bl_ge h0
    have h2 := (Nat.pow_lt_pow_iff_right (show 1 < 2 by omega)).1 (Nat.lt_of_le_of_lt h1 h)
    have := bl_pos h0
    omega
set_option maxHeartbeats 4000000 in
theorem MagParts_walk (ao : Option Addr) (an ac : Nat) (f : Nat → Nat) (x1 : Int) (hw1 : (Lit.int .i64 x1).wf = true) (w : World) (ahc : an ≤ ac) (ar : Reads w ao an f) (hT : Tab w) :
    Calls Tryd.prog 11 #[.slice ao an ac, .int .i64 x1] w fun e w' => e = .returned (.bool true) ∧ Below w.heap.size w w' := by
  have hB := Below.refl w.heap.size w
  obtain ⟨X, hX⟩ : ∃ X, V f an = X := ⟨_, rfl⟩
  have am : Mag w (.slice ao an ac) an X := ⟨ao, an, ac, f, rfl, ahc, Nat.le_refl _, ar, hX⟩
  clear ahc ar hX
  obtain ⟨n, hn, hmask⟩ := mask9 x1
  clear hw1
  have hsn := shn_nat n (by omega)
  have HSN := Lib.hid hsn
  clear hsn
  go_enter Tryd.func11, Tryd.ntmps11
  go_wp2_with fail
  refine (fit_any _ hT).mono ?_
  rintro e w1 ⟨rfl, hb1⟩
  replace hT := hT.below hb1
  replace am := am.below hb1
  replace hB := hB.trans (hb1.mono hB.size)
  clear hb1
  by_cases hsh : an ≤ 10
  rotate_left
  · skip
    go_wp2_with fail
    refine (short1_no 10 ao an ac w1 22 (by omega) hsh).mono ?_
    rintro e w2 ⟨rfl, hw'⟩
    have hb2 : Below w1.heap.size w1 w2 := by rw [← hw']; exact (Below.refl _ _).alloc (Nat.le_refl _) _
    clear hw'
    replace hT := hT.below hb2
    replace am := am.below hb2
    replace hB := hB.trans (hb2.mono hB.size)
    clear hb2
    go_wp2
    go_ret
    exact ⟨rfl, hB⟩
  go_wp2_with fail
  refine (short1_yes 10 ao an ac w1 22 (by omega) (by omega)).mono ?_
  rintro e w2 ⟨rfl, hw'⟩
  have hb2 : Below w1.heap.size w1 w2 := by rw [← hw']; exact (Below.refl _ _).alloc (Nat.le_refl _) _
  clear hw'
  replace hT := hT.below hb2
  replace am := am.below hb2
  replace hB := hB.trans (hb2.mono hB.size)
  clear hb2
  replace am := am.more hsh
  go_wp2_with fail
  refine (Down_any _ 10 X n _ (by omega) am).mono ?_
  rintro e w3 ⟨v1, rfl, h1, hb3⟩
  replace hT := hT.below hb3
  replace am := am.below hb3
  replace hB := hB.trans (hb3.mono hB.size)
  clear hb3
  rw [HSN.out] at h1
  go_wp2_with fail
  refine (Up_any _ 10 (X / 2 ^ n) n _ (by omega) h1.mag).mono ?_
  rintro e w4 ⟨v2, rfl, h2, hb4⟩
  replace hT := hT.below hb4
  replace am := am.below hb4
  replace h1 := h1.below hb4
  replace hB := hB.trans (hb4.mono hB.size)
  clear hb4
  rw [HSN.out] at h2
  go_wp2_with fail
  refine (Sub_any _ _ 10 (10 + 129) X (X / 2 ^ n * 2 ^ n) _ (by omega) (by omega) am h2.mag).mono ?_
  rintro e w5 ⟨v3, rfl, h3, hb5⟩
  replace hT := hT.below hb5
  replace am := am.below hb5
  replace h1 := h1.below hb5
  replace h2 := h2.below hb5
  replace hB := hB.trans (hb5.mono hB.size)
  clear hb5
  have elow : X - X / 2 ^ n * 2 ^ n = X % 2 ^ n := by have := Nat.div_add_mod X (2 ^ n); rw [Nat.mul_comm] at this; omega
  rw [elow] at h3
  clear elow
  go_wp2_with fail
  refine (Add_any _ _ (10 + 129) 10 (X / 2 ^ n * 2 ^ n) (X % 2 ^ n) _ (by omega) (by omega) h2.mag h3.mag).mono ?_
  rintro e w6 ⟨v4, rfl, h4, hb6⟩
  replace hT := hT.below hb6
  replace am := am.below hb6
  replace h1 := h1.below hb6
  replace h2 := h2.below hb6
  replace h3 := h3.below hb6
  replace hB := hB.trans (hb6.mono hB.size)
  clear hb6
  go_wp2_with fail
  have cc := Cmp_any v4 _ (max (10 + 129) 10 + 1) 10 (X / 2 ^ n * 2 ^ n + X % 2 ^ n) X w6 (by omega) (by omega) h4.mag am
  rw [show cmpn (X / 2 ^ n * 2 ^ n + X % 2 ^ n) X = 0 from by rw [Nat.mul_comm, Nat.div_add_mod]; exact cmpn_self X] at cc
  refine cc.mono ?_
  clear cc
  rintro e w7 ⟨q, rfl, hq'⟩
  obtain ⟨hb7, hz⟩ := drewN_size hq'
  clear hq' hz
  replace hT := hT.below hb7
  replace am := am.below hb7
  replace h1 := h1.below hb7
  replace h2 := h2.below hb7
  replace h3 := h3.below hb7
  replace h4 := h4.below hb7
  replace hB := hB.trans (hb7.mono hB.size)
  clear hb7
  have hlow : X % 2 ^ n < 2 ^ n := Nat.mod_lt _ (Nat.pow_pos (by omega))
  have hbl := bl_le_of_lt hlow
  have hbl' : ¬ ((n : Int) < ((bl (X % 2 ^ n) : Nat) : Int)) := by omega
  go_wp2_with fail
  refine (Len_any _ 10 (X % 2 ^ n) _ (by omega) h3.mag).mono ?_
  rintro e w' ⟨rfl, rfl⟩
  go_wp2_with fail
  refine (Of_any 1 _ (by unfold B; omega)).mono ?_
  rintro e w8 ⟨v5, rfl, h5, hb8⟩
  replace hT := hT.below hb8
  replace am := am.below hb8
  replace h1 := h1.below hb8
  replace h2 := h2.below hb8
  replace h3 := h3.below hb8
  replace h4 := h4.below hb8
  replace hB := hB.trans (hb8.mono hB.size)
  clear hb8
  go_wp2_with fail
  refine (Up_any _ 1 1 n _ (by omega) h5.mag).mono ?_
  rintro e w9 ⟨v6, rfl, h6, hb9⟩
  replace hT := hT.below hb9
  replace am := am.below hb9
  replace h1 := h1.below hb9
  replace h2 := h2.below hb9
  replace h3 := h3.below hb9
  replace h4 := h4.below hb9
  replace h5 := h5.below hb9
  replace hB := hB.trans (hb9.mono hB.size)
  clear hb9
  rw [HSN.out, Nat.one_mul] at h6
  go_wp2_with fail
  refine (Div_any _ _ 10 (1 + 129) X (2 ^ n) _ (by omega) (by omega) am h6.mag).mono ?_
  rintro e w10 ⟨v7, v8, rfl, h7, h8, hb10⟩
  replace hT := hT.below hb10
  replace am := am.below hb10
  replace h1 := h1.below hb10
  replace h2 := h2.below hb10
  replace h3 := h3.below hb10
  replace h4 := h4.below hb10
  replace h5 := h5.below hb10
  replace h6 := h6.below hb10
  replace hB := hB.trans (hb10.mono hB.size)
  clear hb10
  go_wp2_with fail
  refine (same_any _ _ _ _ (X % 2 ^ n) _ (by omega) h8 h3).mono ?_
  rintro e w11 ⟨q, rfl, hq'⟩
  obtain ⟨hb11, hz⟩ := drewN_size hq'
  clear hq' hz
  replace hT := hT.below hb11
  replace am := am.below hb11
  replace h1 := h1.below hb11
  replace h2 := h2.below hb11
  replace h3 := h3.below hb11
  replace h4 := h4.below hb11
  replace h5 := h5.below hb11
  replace h6 := h6.below hb11
  replace h7 := h7.below hb11
  replace h8 := h8.below hb11
  replace hB := hB.trans (hb11.mono hB.size)
  clear hb11
  by_cases hl0 : X % 2 ^ n = 0
  · skip
    go_wp2_with fail
    have cc := Len_any _ 10 (X % 2 ^ n) _ (by omega) h3.mag
    rw [show bl (X % 2 ^ n) = 0 by rw [hl0]; rfl] at cc
    refine cc.mono ?_
    clear cc
    rintro e w' ⟨rfl, rfl⟩
    clear hbl' hbl hlow hl0
    go_wp2
    go_ret
    exact ⟨rfl, hB⟩
  · skip
    have hblp := bl_pos hl0
    have hbl2 : ((((bl (X % 2 ^ n) : Nat) : Int)) == 0) = false := by simp only [beq_eq_false_iff_ne]; omega
    go_wp2_with fail
    refine (Len_any _ 10 (X % 2 ^ n) _ (by omega) h3.mag).mono ?_
    rintro e w' ⟨rfl, rfl⟩
    go_wp2_with fail
    refine (Zeros_any _ 10 (X % 2 ^ n) _ (by omega) h3.mag hT).mono ?_
    rintro e w' ⟨z1, rfl, hz1, _, rfl⟩
    go_wp2_with fail
    refine (Zeros_any _ 10 X _ (by omega) am hT).mono ?_
    rintro e w' ⟨z2, rfl, hz2, _, rfl⟩
    obtain rfl := zeros_unique (zeros_low hl0 hz1) hz2
    clear hz1 hz2 hl0 hbl' hbl hlow hblp hbl2
    have hzz : ((z1 : Int) == (z1 : Int)) = true := by simp
    go_wp2
    go_ret
    exact ⟨rfl, hB⟩
end Go.Proofs.YthbjiogpekhbeaaDoor
