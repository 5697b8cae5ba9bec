/- Div, and what the statements' own helpers answer. -/
import Derived.Test.YtbfdianmbpfjmaaDive
namespace Go.Proofs.Ytbfdianmbpfjmaa
open Go.RowKit Go.MagM
set_option maxHeartbeats 2000000 in
theorem Div_any (va vb : Value) (L M X Y : Nat) (w : World) (hL : L ≤ 4000000000) (hM : M ≤ 4000000000) (ha : Mag w va L X) (hb : Mag w vb M Y) :
    Calls Try.prog 45 #[va, vb] w fun e w' => ∃ vq vr, e = .returned (.tuple #[vq, vr]) ∧ RMag w' vq L (X / Y) ∧ RMag w' vr L (X % Y) ∧ Below w.heap.size w w' := by
  have hXL := ha.lt
  have hmodL : X % Y < B ^ L := Nat.lt_of_le_of_lt (Nat.mod_le _ _) hXL
  obtain ⟨ao, n0, ca, f, rfl, hnc, hnL, hra, hX⟩ := ha
  obtain ⟨bo, m0, cb, g, rfl, hmc, hmM, hrb, hY⟩ := hb
  have htn := tlen_le f n0
  have htm := tlen_le g m0
  have rf := tlen_right f n0
  have rg := tlen_right g m0
  rw [← tlen_V] at hX hY
  have hra' := hra.less htn
  have hrb' := hrb.less htm
  have T1 := Lib.hid (trim_any ao n0 ca w (by omega) f hnc hra)
  have T2 := Lib.hid (trim_any bo m0 cb w (by omega) g hmc hrb)
  obtain ⟨n, hn⟩ : ∃ n, tlen f n0 = n := ⟨_, rfl⟩
  obtain ⟨m, hm⟩ : ∃ m, tlen g m0 = m := ⟨_, rfl⟩
  rw [hn] at T1 hX htn rf hra'
  rw [hm] at T2 hY htm rg hrb'
  have hn9 : n ≤ 4000000000 := by omega
  have hm9 : m ≤ 4000000000 := by omega
  have hnL' : n ≤ L := by omega
  have hncc : n ≤ ca := by omega
  have hmcc : m ≤ cb := by omega
  have hcmp := Cmp_any (.slice ao n ca) (.slice bo m cb) n m X Y w hn9 hm9 ⟨ao, n, ca, f, rfl, hncc, Nat.le_refl _, hra', hX⟩ ⟨bo, m, cb, g, rfl, hmcc, Nat.le_refl _, hrb', hY⟩
  have HX := Lib.hid hX; have HY := Lib.hid hY; have RF := Lib.hid rf; have RG := Lib.hid rg; have HA := Lib.hid hra'; have HB := Lib.hid hrb'; have HML := Lib.hid hmodL
  clear hX hY rf rg hra' hrb' hn hm hra hrb hXL hmodL
  -- what a copy of the dividend is
  have hrest : ∀ (w1 w2 : World), Below w.heap.size w w2 → Held w2 w1.heap.size 0 n f → (X % Y = X) → RMag w2 (.slice (some ⟨w1.heap.size, 0, none⟩) n n) L (X % Y) := by
    intro w1 w2 _ hh e
    rw [e]
    exact ⟨_, n, n, f, rfl, Nat.le_refl _, hnL', hh.reads, HX.out, RF.out⟩
  have HR := Lib.hid hrest; clear hrest
  by_cases hm0 : m = 0
  · subst hm0
    have hY0 : Y = 0 := by rw [← HY.out]; rfl
    have hz : X / Y = 0 ∧ X % Y = X := by rw [hY0]; exact ⟨Nat.div_zero X, Nat.mod_zero X⟩
    have HZ := Lib.hid hz; clear hz hY0 hcmp
    go_enter Try.func45, Try.ntmps45
    go_wp2_with fail
    refine T1.out.mono ?_
    rintro e w1 ⟨rfl, rfl⟩
    go_wp2_with fail
    refine T2.out.mono ?_
    rintro e w1 ⟨rfl, rfl⟩
    go_wp2_with (go_at_call 51; refine (clone_any _ _ _ _ (by omega) f HA.out).mono ?_; rintro e w1 ⟨rfl, hh, hb1, hs1⟩; have HH := Lib.hid hh; clear hh)
    go_ret2
    refine ⟨_, _, rfl, ?_, HR.out _ _ hb1 HH.out HZ.out.2, hb1⟩
    rw [HZ.out.1]; exact (RMag.nil _).more (by omega)
  · have hmne : ((m : Int) == 0) = false := by simp only [beq_eq_false_iff_ne]; omega
    rcases Nat.lt_or_ge X Y with hlt | hge
    · rw [cmpn_of_lt hlt] at hcmp
      have HC := Lib.hid hcmp
      have hz : X / Y = 0 ∧ X % Y = X := ⟨Nat.div_eq_of_lt hlt, Nat.mod_eq_of_lt hlt⟩
      have HZ := Lib.hid hz; clear hz hcmp
      go_enter Try.func45, Try.ntmps45
      go_wp2_with fail
      refine T1.out.mono ?_
      rintro e w1 ⟨rfl, rfl⟩
      go_wp2_with fail
      refine T2.out.mono ?_
      rintro e w1 ⟨rfl, rfl⟩
      go_wp2_with fail
      refine HC.out.mono ?_
      rintro e w1 ⟨q, rfl, hq⟩
      obtain ⟨hb1, hz1⟩ := drewN_size hq
      have HZ1 := Lib.hid hz1; clear hq hz1
      go_wp2_with fail
      refine (clone_any _ _ _ _ (by omega) f (HA.out.below hb1)).mono ?_
      rintro e w2 ⟨rfl, hh, hb2, hs2⟩
      have HH := Lib.hid hh; clear hh
      have hb02 : Below w.heap.size w w2 := hb1.trans (hb2.mono (by have := HZ1.out; omega))
      go_wp2
      go_ret2
      refine ⟨_, _, rfl, ?_, HR.out _ _ hb02 HH.out HZ.out.2, hb02⟩
      rw [HZ.out.1]; exact (RMag.nil _).more (by omega)
    · have hc01 : cmpn X Y = 0 ∨ cmpn X Y = 1 := by
        rcases Nat.lt_or_eq_of_le hge with h | h
        · exact .inr (cmpn_of_gt h)
        · rw [h]; exact .inl (cmpn_self _)
      obtain ⟨cc, hcc⟩ : ∃ cc, cmpn X Y = cc := ⟨_, rfl⟩
      rw [hcc] at hcmp hc01
      have hcc0 : ¬ (cc < 0) := by omega
      have HC := Lib.hid hcmp; clear hcmp hcc hc01
      by_cases hm1 : m = 1
      · subst hm1
        obtain ⟨bb, bof, rfl, hbc, hbB⟩ := HB.out 0 (by omega)
        rw [Nat.add_zero] at hbc
        have hY1 : Y = g 0 := by rw [← HY.out, V_one]
        have hg0 : 0 < g 0 := by have := RG.out 0 rfl; omega
        have HY1 := Lib.hid hY1; have HBB := Lib.hid hbB; clear hY1 hbB
        go_enter Try.func45, Try.ntmps45
        go_wp2_with fail
        refine T1.out.mono ?_
        rintro e w1 ⟨rfl, rfl⟩
        go_wp2_with fail
        refine T2.out.mono ?_
        rintro e w1 ⟨rfl, rfl⟩
        go_wp2_with fail
        refine HC.out.mono ?_
        rintro e w1 ⟨q, rfl, hq⟩
        obtain ⟨hb1, hz1⟩ := drewN_size hq
        have hbc1 : w1.cell? ⟨bb, bof, none⟩ = some (.int .u64 ((g 0 : Nat) : Int)) := by rw [hq]; exact hbc
        have HZ1 := Lib.hid hz1; clear hq hz1 hbc
        go_wp2_with fail
        refine (divWord_any _ _ _ _ _ (by omega) f hg0 HBB.out (HA.out.below hb1)).mono ?_
        rintro e w2 ⟨vq, rfl, hrq, hb2⟩
        have HRQ := Lib.hid hrq; clear hrq
        have hb02 : Below w.heap.size w w2 := hb1.trans (hb2.mono (by have := HZ1.out; omega))
        have hrB : V f n % g 0 < B := Nat.lt_trans (Nat.mod_lt _ hg0) HBB.out
        obtain ⟨rr, hrr⟩ : ∃ rr, V f n % g 0 = rr := ⟨_, rfl⟩
        rw [hrr] at hrB
        rw [hrr]
        have HRR := Lib.hid hrr; clear hrr
        go_wp2_with fail
        refine (Of_any rr w2 hrB).mono ?_
        rintro e w3 ⟨vr, rfl, hrv, hb3⟩
        have HRV := Lib.hid hrv; clear hrv
        have hb03 : Below w.heap.size w w3 := hb02.trans (hb3.mono (by have := hb02.size; omega))
        go_wp2
        go_ret2
        refine ⟨_, _, rfl, ?_, ?_, hb03⟩
        · have := HRQ.out; rw [HX.out, ← HY1.out] at this; exact (this.below hb3).more (by omega)
        · have e1 : rr = X % Y := by rw [← HRR.out, HX.out, HY1.out]
          rw [← e1]; exact HRV.out.short (by rw [e1]; exact HML.out)
      · obtain ⟨d, rfl⟩ : ∃ d, m = d + 2 := ⟨m - 2, by omega⟩
        have hm1' : (((d : Int) + 2) == 1) = false := by simp only [beq_eq_false_iff_ne]; omega
        have hm0' : (((d : Int) + 2) == 0) = false := by simp only [beq_eq_false_iff_ne]; omega
        have hdn : d + 2 ≤ n := by
          rcases Nat.lt_or_ge n (d + 2) with a | a
          · exfalso
            have := V_lt_of_len HA.out.lt RG.out a
            have h1 := HX.out; have h2 := HY.out; omega
          · exact a
        have hright : g (d + 1) ≠ 0 := RG.out (d + 1) (by omega)
        go_enter Try.func45, Try.ntmps45
        go_wp2_with fail
        refine T1.out.mono ?_
        rintro e w1 ⟨rfl, rfl⟩
        go_wp2_with fail
        refine T2.out.mono ?_
        rintro e w1 ⟨rfl, rfl⟩
        go_wp2_with fail
        refine HC.out.mono ?_
        rintro e w1 ⟨q, rfl, hq⟩
        obtain ⟨hb1, hz1⟩ := drewN_size hq
        have HZ1 := Lib.hid hz1; clear hq hz1
        go_wp2_with fail
        refine (divLong_any _ _ _ _ _ _ _ (by omega) f g hdn (HA.out.below hb1) (HB.out.below hb1) hright).mono ?_
        rintro e w2 ⟨vq, vr, rfl, hrq, hrr, hb2⟩
        have hb02 : Below w.heap.size w w2 := hb1.trans (hb2.mono (by have := HZ1.out; omega))
        have HRQ := Lib.hid hrq; have HRR := Lib.hid hrr; clear hrq hrr
        go_wp2
        go_ret2
        refine ⟨_, _, rfl, ?_, ?_, hb02⟩
        · have := HRQ.out; rw [HX.out, HY.out] at this; exact this.more hnL'
        · have := HRR.out; rw [HX.out, HY.out] at this; exact this.short HML.out
end Go.Proofs.Ytbfdianmbpfjmaa
