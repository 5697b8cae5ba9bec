/- Sub and Mul: what they answer. -/
import Derived.Test.YtbfdianmbpfjmaaWalkC
namespace Go.Proofs.Ytbfdianmbpfjmaa
open Go.RowKit Go.MagM
theorem below_drewN (w : World) (q : Nat) : Below w.heap.size w (w.drewN q) := ⟨rfl, rfl, rfl, Nat.le_refl _, fun _ _ => rfl⟩
/-- What a call that only draws leaves. -/
theorem drewN_size {w w1 : World} {q : Nat} (h : w1 = w.drewN q) : Below w.heap.size w w1 ∧ w1.heap.size = w.heap.size := by subst h; exact ⟨below_drewN w q, rfl⟩
set_option maxHeartbeats 1000000 in
theorem Sub_any (va vb : Value) (L M X Y : Nat) (w : World) (hL : L ≤ 4000000000) (hM : M ≤ 4000000000) (ha : Mag w va L X) (hb : Mag w vb M Y) :
    Calls Try.prog 39 #[va, vb] w fun e w' => ∃ v, e = .returned v ∧ RMag w' v L (X - Y) ∧ Below w.heap.size w w' := by
  have hcmp := Cmp_any va vb L M X Y w hL hM ha hb
  obtain ⟨ao, n0, ca, f, rfl, hnc, hnL, hra, hX⟩ := ha
  obtain ⟨bo, m0, cb, g, rfl, hmc, hmM, hrb, hY⟩ := hb
  rcases Nat.lt_or_ge Y X with hlt | hge
  · rw [cmpn_of_gt hlt] at hcmp
    have htn := tlen_le f n0
    have htm := tlen_le g m0
    have hX' := hX; have hY' := hY
    rw [← tlen_V] at hX' hY'
    have HC := Lib.hid hcmp; have HA := Lib.hid hra; have HB := Lib.hid hrb
    clear hcmp hra hrb
    obtain ⟨n, hn⟩ : ∃ n, tlen f n0 = n := ⟨_, rfl⟩
    obtain ⟨m, hm⟩ : ∃ m, tlen g m0 = m := ⟨_, rfl⟩
    have HN := Lib.hid hn; have HM := Lib.hid hm
    rw [hn] at htn hX'; rw [hm] at htm hY'
    have HX := Lib.hid hX'; have HY := Lib.hid hY'; clear hX hY hX' hY' hn hm
    have hmn : m ≤ 9000000000 := by omega
    go_enter Try.func39, Try.ntmps39
    go_wp2_with fail
    refine HC.out.mono ?_
    rintro e w1 ⟨q, rfl, hq⟩
    obtain ⟨hb1, hz1⟩ := drewN_size hq
    have HZ1 := Lib.hid hz1; clear hq hz1
    have c1 := trim_any ao n0 ca w1 (by omega) f hnc (HA.out.below hb1)
    rw [HN.out] at c1; have C1 := Lib.hid c1; clear c1
    go_wp2_with fail
    refine C1.out.mono ?_
    rintro e w2 ⟨rfl, rfl⟩
    go_wp2_with fail
    refine (clone_any ao n ca _ (by omega) f ((HA.out.below hb1).less htn)).mono ?_
    rintro e w2 ⟨rfl, hh2, hb2, hs2⟩
    replace hh2 := Lib.hid hh2
    have hb12 : Below w.heap.size w w2 := hb1.trans (hb2.mono (by have := HZ1.out; omega))
    have c2 := trim_any bo m0 cb w2 (by omega) g hmc (HB.out.below hb12)
    rw [HM.out] at c2; have C2 := Lib.hid c2; clear c2
    go_wp2_with fail
    refine C2.out.mono ?_
    rintro e w3 ⟨rfl, rfl⟩
    have hle : m ≤ n := by
      rcases Nat.lt_or_ge n m with h | h
      · have h1 := V_lt_of_len (f := f) (g := g) (n := n) (m := m) (HA.out.less htn).lt (by rw [← HM.out]; exact tlen_right g m0) h
        have h2 := HX.out; have h3 := HY.out; omega
      · exact h
    go_wp2_with (first
      | (go_at_call 52; refine (takeFrom_any _ _ _ _ _ _ _ _ (by omega) f g hle hh2.out ((HB.out.below hb12).less htm) ((HB.out.less htm).apart (by have := HZ1.out; omega)) (by have h2 := HX.out; have h3 := HY.out; omega)).mono ?_; rintro e w3 ⟨rfl, f3, hh3, ht3, hv3⟩; replace hh3 := Lib.hid hh3; replace hv3 := Lib.hid hv3)
      | (go_at_call 48; refine (trim_any _ _ _ _ (by omega) f3 (Nat.le_refl _) hh3.out.reads).mono ?_; rintro e w4 ⟨rfl, rfl⟩))
    go_ret
    have := RMag.of_trim hh3.out.reads (Nat.le_refl n)
    rw [show V f3 n = X - Y by have h1 := hv3.out; have h2 := HX.out; have h3 := HY.out; omega] at this
    refine ⟨_, rfl, this.more (by omega), ht3.below hb12 (by have := HZ1.out; omega) (by have := hb12.size; omega)⟩
  · have h0 : X - Y = 0 := by omega
    rw [h0]
    have hc : cmpn X Y = 0 ∨ cmpn X Y = -1 := by
      rcases Nat.lt_or_eq_of_le hge with h | h
      · exact .inr (cmpn_of_lt h)
      · rw [h]; exact .inl (cmpn_self _)
    rcases hc with hc | hc
    all_goals
      rw [hc] at hcmp
      have HC := Lib.hid hcmp
      clear hcmp hX hY hge h0 hc hra hrb
      go_enter Try.func39, Try.ntmps39
      go_wp2_with fail
      refine HC.out.mono ?_
      rintro e w1 ⟨q, rfl, rfl⟩
      go_wp2
      go_ret
      exact ⟨_, rfl, (RMag.nil _).more (by omega), below_drewN _ _⟩
set_option maxHeartbeats 1000000 in
theorem Mul_any (va vb : Value) (L M X Y : Nat) (w : World) (hL : L ≤ 4000000000) (hM : M ≤ 4000000000) (ha : Mag w va L X) (hb : Mag w vb M Y) :
    Calls Try.prog 40 #[va, vb] w fun e w' => ∃ v, e = .returned v ∧ RMag w' v (L + M) (X * Y) ∧ Below w.heap.size w w' := by
  obtain ⟨ao, n0, ca, f, rfl, hnc, hnL, hra, hX⟩ := ha
  obtain ⟨bo, m0, cb, g, rfl, hmc, hmM, hrb, hY⟩ := hb
  have htn := tlen_le f n0
  have htm := tlen_le g m0
  rw [← tlen_V] at hX hY
  have hra' := hra.less htn
  have hrb' := hrb.less htm
  have T1 := Lib.hid (trim_any ao n0 ca w (by omega) f hnc hra)
  have T2 := Lib.hid (trim_any bo m0 cb w (by omega) g hmc hrb)
  obtain ⟨n, hn⟩ : ∃ n, tlen f n0 = n := ⟨_, rfl⟩
  obtain ⟨m, hm⟩ : ∃ m, tlen g m0 = m := ⟨_, rfl⟩
  rw [hn] at T1 hX htn hra'
  rw [hm] at T2 hY htm hrb'
  have hn9 : n ≤ 4000000000 := by omega
  have hm9 : m ≤ 4000000000 := by omega
  have hnL' : n ≤ L := by omega
  have hmM' : m ≤ M := by omega
  have HX := Lib.hid hX; have HY := Lib.hid hY; have HA := Lib.hid hra'; have HB := Lib.hid hrb'
  clear hX hY hra' hrb' hn hm hra hrb
  go_enter Try.func40, Try.ntmps40
  go_wp2_with fail
  refine T1.out.mono ?_
  rintro e w1 ⟨rfl, rfl⟩
  go_wp2_with fail
  refine T2.out.mono ?_
  rintro e w1 ⟨rfl, rfl⟩
  go_wp2_with (first
    | (at_make; refine wpList_make_words rfl (.tmp 16) (.tmp 16) 23 rfl 65 under_words info_u64 .i64 .i64 _ _ (n + m) rfl rfl (by omega) (by omega) (by omega) ?_; intro w1 hh1 hb1 hs1; replace hh1 := Lib.hid hh1))
  go_loopw [20] (fun i wr => ∃ k : Nat, ∃ f' : Nat → Nat, k ≤ n ∧ i = .int .i64 k ∧ Held wr w.heap.size 0 (n + m) f' ∧ Turn w.heap.size 0 (n + m) w1 wr ∧ V f' (k + m) = V f k * V g m ∧ ∀ i, k + m ≤ i → f' i = 0) (fun i _ => n - (intOf i).toNat)
  case atStart => exact ⟨0, fun _ => 0, Nat.zero_le _, rfl, hh1.out, Turn.refl _ _ _ _, by rw [V_none (fun _ _ => rfl)]; simp [V], fun _ _ => rfl⟩
  case round =>
    obtain ⟨k, f', hk, rfl, hfr, htr, hV, hs⟩ := hrel
    have HFR := Lib.hid hfr; have HTR := Lib.hid htr; have HV := Lib.hid hV; have HS := Lib.hid hs
    clear hfr htr hV hs
    have hbr : Below w.heap.size w wr := HTR.out.below hb1 (Nat.le_refl _) (by omega)
    by_cases hlt : k < n
    · obtain ⟨ab, aoff, rfl, hac, haB⟩ := (HA.out.below hbr) k hlt
      have hcap : ¬ (n + m = k) := by omega
      obtain ⟨hoc, hof, hoB⟩ := HFR.out (k + m) (by omega)
      go_wp2_with fail
      refine (addTimes_any w.heap.size k m _ _ _ _ (f k) wr (by omega) (fun i => f' (k + i)) g (Nat.le_refl _) haB (by have := HFR.out.part (k := k) (m := m) (by omega); simpa using this) (HB.out.below hbr) (HB.out.apart (Nat.le_refl _))).mono ?_
      rintro e w2 ⟨f2, over, rfl, hov, hh2, ht2, hv2, _⟩
      have hoc2 : w2.cell? ⟨w.heap.size, k + m, none⟩ = some (.int .u64 ((f' (k + m) : Nat) : Int)) := by
        rw [ht2.cell (k + m) (by omega)]; simpa using hoc
      have hof2 : w2.frozen? ⟨w.heap.size, k + m, none⟩ = false := by rw [ht2.frz]; simpa using hof
      have hh3 : Held w2 w.heap.size 0 (n + m) (spl f' f2 k m) := HFR.out.splice (by simpa using ht2) (by simpa using hh2) (by omega)
      have HH3 := Lib.hid hh3; have HT2 := Lib.hid ht2; have HV2 := Lib.hid hv2; have HOV := Lib.hid hov
      clear hh3 ht2 hv2 hov hh2
      go_wp2
      refine ⟨⟨k + 1, upd (spl f' f2 k m) (k + m) over, by omega, by go_num, ?_, ?_, ?_, ?_⟩, by simp [intOf]; omega⟩
      · have := HH3.out.setCell (k := k + m) HOV.out (by omega); simpa using this
      · exact (HTR.out.trans (HT2.out.wider (by omega) (by omega))).setCell (by omega) (by omega) _
      · rw [show k + 1 + m = k + m + 1 from by omega, V_upd_succ, spl_V, V_succ]
        refine mul_arith _ _ _ _ HV2.out ?_ (Nat.pow_add _ _ _)
        rw [← HV.out, V_split]
      · intro i hi
        rw [upd_other _ _ _ (by omega), spl_out _ _ (.inr (by omega))]; exact HS.out i (by omega)
    · have hkn : k = n := by omega
      subst hkn
      go_wp2_with (go_at_call 48; refine (trim_any _ _ _ _ (by omega) f' (Nat.le_refl _) HFR.out.reads).mono ?_; rintro e w4 ⟨rfl, rfl⟩)
      go_ret
      have := RMag.of_trim HFR.out.reads (Nat.le_refl (k + m))
      rw [HV.out, HX.out, HY.out] at this
      exact ⟨_, rfl, this.more (by omega), hbr⟩
end Go.Proofs.Ytbfdianmbpfjmaa
