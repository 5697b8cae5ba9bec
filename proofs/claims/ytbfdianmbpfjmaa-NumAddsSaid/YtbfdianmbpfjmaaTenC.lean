/- The document's own Cmp: what it answers; Is, the comparison of a number with its digits. -/
import Derived.Test.YtbfdianmbpfjmaaTenB
namespace Go.Proofs.Ytbfdianmbpfjmaa
open Go.RowKit Go.MagM
set_option maxHeartbeats 2000000 in
theorem rCmp_any (va vb : Value) (L M X Y : Nat) (w : World) (hL : L ≤ 1000000) (hM : M ≤ 1000000) (ha : Dec w va L X) (hb : Dec w vb M Y) :
    Calls Try.prog 33 #[va, vb] w fun e w' => ∃ q, e = .returned (.int .i64 (cmpn X Y)) ∧ w' = w.drewN q := by
  obtain ⟨ao, n, ca, f, rfl, hnc, hnL, hra, hX, rf⟩ := ha
  obtain ⟨bo, m, cb, g, rfl, hmc, hmM, hrb, hY, rg⟩ := hb
  have hn9 : n ≤ 1000000 := by omega
  have hm9 : m ≤ 1000000 := by omega
  have HX := Lib.hid hX; have HY := Lib.hid hY; have RF := Lib.hid rf; have RG := Lib.hid rg; have HA := Lib.hid hra; have HB := Lib.hid hrb
  clear hX hY rf rg hra hrb
  by_cases hnm : n = m
  · subst hnm
    have hne : ((n : Int) != (n : Int)) = false := by simp
    go_enter Try.func33, Try.ntmps33
    go_wp2
    go_loopw [5] (fun i wr => ∃ k q : Nat, k ≤ n ∧ i = .int .i64 ((k : Int) - 1) ∧ wr = w.drewN q ∧ ∀ j, k ≤ j → j < n → f j = g j) (fun i _ => (intOf i + 1).toNat)
    case atStart => exact ⟨n, 0, Nat.le_refl _, rfl, rfl, fun j h1 h2 => by omega⟩
    case round =>
      obtain ⟨k, q, hk, rfl, rfl, hsame⟩ := hrel
      have HS := Lib.hid hsame; clear hsame
      cases k with
      | zero =>
        go_wp2
        go_ret
        refine ⟨q, ?_, rfl⟩
        rw [show X = Y by rw [← HX.out, ← HY.out]; exact MagT.V_congr (fun i hi => HS.out i (by omega) hi), cmpn_self]; rfl
      | succ k =>
        obtain ⟨ab, ao', rfl, hac, haB⟩ := HA.out k (by omega)
        obtain ⟨bb, bo', rfl, hbc, hbB⟩ := HB.out k (by omega)
        obtain ⟨x, hx⟩ : ∃ x, f k = x := ⟨_, rfl⟩
        obtain ⟨y, hy⟩ : ∃ y, g k = y := ⟨_, rfl⟩
        rw [hx] at hac; rw [hy] at hbc
        have HFX := Lib.hid hx; have HGY := Lib.hid hy; clear hx hy haB hbB
        have hk1 : ((k + 1 : Nat) : Int) - 1 = (k : Int) := by omega
        rw [hk1]; clear hk1
        rcases Nat.lt_trichotomy x y with hxy | hxy | hxy
        · have hxx : (x : Int) < (y : Int) := by omega
          go_wp2
          go_quiet (fail)
          go_wp2
          go_ret
          refine ⟨q + nq, ?_, by rw [World.drewN_drewN]⟩
          rw [cmpn_of_lt (show X < Y by rw [← HX.out, ← HY.out]; exact MagT.V_lt_at (k := k) (by omega) HA.out.lt (fun i h1 h2 => HS.out i (by omega) h2) (by rw [HFX.out, HGY.out]; exact hxy))]; rfl
        · subst hxy
          have hxx : ¬ ((x : Int) < (x : Int)) := by omega
          go_wp2
          go_quiet (fail)
          go_wp2
          have hac2 : ((w.drewN q).drewN nq).cell? ⟨ab, ao' + k, none⟩ = some (.int .i64 (x : Int)) := hac
          have hbc2 : ((w.drewN q).drewN nq).cell? ⟨bb, bo' + k, none⟩ = some (.int .i64 (x : Int)) := hbc
          generalize hw2 : (w.drewN q).drewN nq = w2 at hac2 hbc2 ⊢
          obtain ⟨q2, hq2⟩ : ∃ q2, w2 = w.drewN q2 := ⟨_, by rw [← hw2, World.drewN_drewN]⟩
          have HW := Lib.hid hq2; clear hw2 hq2
          go_quiet (fail)
          go_wp2
          refine ⟨⟨k, q2 + nq, by omega, rfl, by rw [HW.out, World.drewN_drewN], fun j h1 h2 => ?_⟩, by simp [intOf]⟩
          by_cases hj : j = k
          · rw [hj, HFX.out, HGY.out]
          · exact HS.out j (by omega) h2
        · have hxx : ¬ ((x : Int) < (y : Int)) := by omega
          have hxz : (y : Int) < (x : Int) := by omega
          go_wp2
          go_quiet (fail)
          go_wp2
          have hac2 : ((w.drewN q).drewN nq).cell? ⟨ab, ao' + k, none⟩ = some (.int .i64 (x : Int)) := hac
          have hbc2 : ((w.drewN q).drewN nq).cell? ⟨bb, bo' + k, none⟩ = some (.int .i64 (y : Int)) := hbc
          generalize hw2 : (w.drewN q).drewN nq = w2 at hac2 hbc2 ⊢
          obtain ⟨q2, hq2⟩ : ∃ q2, w2 = w.drewN q2 := ⟨_, by rw [← hw2, World.drewN_drewN]⟩
          have HW := Lib.hid hq2; clear hw2 hq2
          go_quiet (fail)
          go_wp2
          go_ret
          refine ⟨q2 + nq, ?_, by rw [HW.out, World.drewN_drewN]⟩
          rw [cmpn_of_gt (show Y < X by rw [← HX.out, ← HY.out]; exact MagT.V_lt_at (k := k) (by omega) HB.out.lt (fun i h1 h2 => (HS.out i (by omega) h2).symm) (by rw [HFX.out, HGY.out]; exact hxy))]; rfl
  · have hne : ((n : Int) != (m : Int)) = true := by simp; omega
    rcases Nat.lt_or_gt_of_ne hnm with h | h
    · have hlt : (n : Int) < (m : Int) := by omega
      go_enter Try.func33, Try.ntmps33
      go_wp2
      go_ret
      first | refine ⟨0, ?_, rfl⟩ | refine ⟨?_, 0, rfl⟩
      rw [cmpn_of_lt (show X < Y by rw [← HX.out, ← HY.out]; exact MagT.V_lt_of_len HA.out.lt RG.out h)]; rfl
    · have hlt : ¬ ((n : Int) < (m : Int)) := by omega
      go_enter Try.func33, Try.ntmps33
      go_wp2
      go_ret
      first | refine ⟨0, ?_, rfl⟩ | refine ⟨?_, 0, rfl⟩
      rw [cmpn_of_gt (show Y < X by rw [← HX.out, ← HY.out]; exact MagT.V_lt_of_len HB.out.lt RF.out h)]; rfl
set_option maxHeartbeats 2000000 in
/-- Is: a number whose digits these are, and whose top word isn't nought. -/
theorem Is_any (va vd : Value) (L M X : Nat) (w : World) (hL : L ≤ 1000) (hM : M ≤ 1000000) (ha : RMag w va L X) (hd : Dec w vd M X) :
    Calls Try.prog 35 #[va, vd] w fun e w' => e = .returned (.bool true) ∧ Below w.heap.size w w' := by
  obtain ⟨ao, n, ca, f, rfl, hnc, hnL, hra, hX, rf⟩ := ha
  have HX := Lib.hid hX; have HR := Lib.hid hra; have RF := Lib.hid rf
  clear hX hra rf
  cases n with
  | zero =>
    go_enter Try.func35, Try.ntmps35
    go_wp2_with fail
    refine (Digits_any _ 0 _ f _ (by omega) HR.out).mono ?_
    rintro e w1 ⟨v1, rfl, h1, hb1⟩
    rw [HX.out] at h1
    go_wp2_with fail
    have cc := rCmp_any _ _ _ _ X X _ (by omega) hM h1 (hd.below hb1)
    rw [cmpn_self] at cc
    refine cc.mono ?_
    clear cc
    rintro e w2 ⟨q, rfl, hq'⟩
    obtain ⟨hb2, hz⟩ := drewN_size hq'
    clear hq' hz h1 hd
    go_wp2
    go_ret
    exact ⟨rfl, hb1.trans (hb2.mono hb1.size)⟩
  | succ k =>
    obtain ⟨ab, aof, rfl, hac, hxB⟩ := HR.out k (by omega)
    obtain ⟨x, hx⟩ : ∃ x, f k = x := ⟨_, rfl⟩
    rw [hx] at hac
    have hx0 : x ≠ 0 := by rw [← hx]; exact RF.out k rfl
    have hxx : ((x : Int) != 0) = true := by simp; omega
    have hk0 : ((((k + 1 : Nat) : Int)) == 0) = false := by simp only [beq_eq_false_iff_ne]; omega
    have hk1 : ((k + 1 : Nat) : Int) - 1 = (k : Int) := by omega
    clear hx hxB hx0
    go_enter Try.func35, Try.ntmps35
    go_wp2_with fail
    refine (Digits_any _ (k + 1) _ f _ (by omega) HR.out).mono ?_
    rintro e w1 ⟨v1, rfl, h1, hb1⟩
    rw [HX.out] at h1
    go_wp2_with fail
    have cc := rCmp_any _ _ _ _ X X _ (by omega) hM h1 (hd.below hb1)
    rw [cmpn_self] at cc
    refine cc.mono ?_
    clear cc
    rintro e w2 ⟨q, rfl, hq'⟩
    obtain ⟨hb2, hz⟩ := drewN_size hq'
    clear hq' hz h1 hd hac
    go_wp2
    go_ret
    exact ⟨rfl, hb1.trans (hb2.mono hb1.size)⟩
end Go.Proofs.Ytbfdianmbpfjmaa
