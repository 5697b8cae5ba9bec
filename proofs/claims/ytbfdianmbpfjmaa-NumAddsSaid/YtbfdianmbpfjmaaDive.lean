/- Division by two words or more. -/
import Derived.Test.YtbfdianmbpfjmaaDivd
namespace Go.Proofs.Ytbfdianmbpfjmaa
open Go.RowKit Go.MagM
theorem Below.of_turn {g o n M : Nat} {w0 w w' : World} (hb : Below M w0 w) (h : Turn g o n w w') (hg : M ≤ g) (hm : M ≤ w.heap.size) : Below M w0 w' := h.below hb hg hm
/-- The divisor's highest word, moved up, has its highest bit. -/
theorem top_bit {x y s : Nat} (hx : x ≠ 0) (hxB : x < B) (hs : 64 - bl x = s) : B ≤ 2 * (x * 2 ^ s % B + y * 2 ^ s / B) ∧ s < 64 ∧ x * 2 ^ s < B := by
  have h1 := bl_lt x; have h2 := bl_ge hx; have h3 := bl_pos hx
  have h4 : bl x ≤ 64 := by
    have := (Nat.pow_lt_pow_iff_right (show 1 < 2 by omega)).1 (show 2 ^ (bl x - 1) < 2 ^ 64 by unfold B at hxB; omega)
    omega
  have hp : 0 < 2 ^ s := Nat.pow_pos (by omega)
  have h5 := Nat.mul_lt_mul_of_pos_right h1 hp
  rw [← Nat.pow_add, show bl x + s = 64 from by omega] at h5
  have h6 := Nat.mul_le_mul_right (2 ^ s) h2
  rw [← Nat.pow_add, show bl x - 1 + s = 63 from by omega] at h6
  have h7 : x * 2 ^ s < B := h5
  rw [Nat.mod_eq_of_lt h7]
  refine ⟨?_, by omega, h7⟩
  have h8 : B = 2 * 2 ^ 63 := rfl
  generalize y * 2 ^ s / B = z
  omega
theorem spl_V' (f h : Nat → Nat) (k d : Nat) : V (spl f h k (d + 3)) (k + (d + 2)) = V f k + B ^ k * V h (d + 2) := by
  rw [V_split, V_congr (g := f) (fun i hi => spl_out f h (.inl hi)), V_congr (f := fun i => spl f h k (d + 3) (k + i)) (g := h) (fun i hi => spl_in f h (by omega))]
set_option maxHeartbeats 4000000 in
theorem divLong_any (ao bo : Option Addr) (n d ca cb : Nat) (w : World) (hn : n ≤ 8000000000) (f h : Nat → Nat) (hdn : d + 2 ≤ n) (hra : Reads w ao n f) (hrb : Reads w bo (d + 2) h) (hright : h (d + 1) ≠ 0) :
    Calls Try.prog 57 #[.slice ao n ca, .slice bo (d + 2 : Nat) cb] w fun e w' => ∃ vq vr, e = .returned (.tuple #[vq, vr]) ∧ RMag w' vq n (V f n / V h (d + 2)) ∧ RMag w' vr (n + 1) (V f n % V h (d + 2)) ∧ Below w.heap.size w w' := by
  obtain ⟨bb, bof, rfl, hbc, hbB⟩ := hrb (d + 1) (by omega)
  have hhB := hrb.lt
  obtain ⟨s, hs⟩ : ∃ s, 64 - bl (h (d + 1)) = s := ⟨_, rfl⟩
  obtain ⟨htop, hs64, hxs⟩ := top_bit (y := h d) hright hbB hs
  have hlead := fun w => lead64_any (h (d + 1)) w hbB
  simp only [hs] at hlead
  have m1 : IntKind.i64.wrap ((d : Int) + 2 - 1) = (d : Int) + 1 := by rw [IntWalk.i64_in _ (by omega)]; omega
  have hDpos : 0 < V h (d + 2) := V_pos (k := d + 1) (by omega) (by omega)
  have hR : MagM.Right h (d + 1 + 1) := by
    intro k hk
    have : k = d + 1 := by omega
    rw [this]; exact hright
  have hDge : B ^ (d + 1) ≤ V h (d + 2) := hR.ge
  clear hR
  obtain ⟨lq, hlq⟩ : ∃ lq, n = lq + d + 1 := ⟨n - (d + 1), by omega⟩
  have HA := Lib.hid hra; have HB := Lib.hid hrb; have HL := Lib.hid hlead; have HT := Lib.hid htop; have HLQ := Lib.hid hlq; have HHB := Lib.hid hhB; have HFB := Lib.hid hra.lt
  have hlq1 : lq + d + 1 ≤ n := by omega
  have hlq2 : n ≤ lq + d + 1 := by omega
  have m2 : IntKind.i64.wrap ((n : Int) - ((d : Int) + 2)) = (lq : Int) - 1 := by rw [IntWalk.i64_in _ (by omega)]; omega
  have m3 : IntKind.i64.wrap ((lq : Int) - 1 + 1) = (lq : Int) := by rw [IntWalk.i64_in _ (by omega)]; omega
  clear hra hrb hlead htop hlq hhB hs
  go_enter Try.func57, Try.ntmps57
  go_wp2_with (first
    | (go_at_call 63; refine (HL.out _).mono ?_; rintro e w1 ⟨rfl, rfl⟩)
    | (at_make; refine wpList_make_words rfl (.tmp 20) (.tmp 20) 23 rfl 65 under_words info_u64 .i64 .i64 _ _ (n + 1) rfl rfl (by omega) (by omega) (by omega) ?_; intro w1 hh1 hb1 hs1; replace hh1 := Lib.hid hh1)
    | (with_reducible refine wpList_copy_words rfl (.tmp 22) (.tmp 23) 23 23 rfl 65 under_words size_u64 _ _ _ _ _ _ _ rfl rfl _ f hh1.out (HA.out.below hb1) ?_; intro w2 hh2 ht2; replace hh2 := Lib.hid hh2; replace ht2 := Lib.hid ht2)
    | fail)
  refine (moveUp_any _ _ n _ s _ (by omega) hs64 _ hh2.out).mono ?_
  rintro e w3 ⟨rfl, f3, hh3, ht3, hz3, hd3⟩
  have ht13 := ht2.out.trans ht3
  have hb3 : Below w.heap.size w w3 := ht13.below hb1 (Nat.le_refl _) (by omega)
  have hs3 : w.heap.size < w3.heap.size := by have := ht13.size; omega
  -- what the moved number counts
  have hv3 := V_moveUp (f := fun i => if i < n then f i else 0) (f' := f3) hz3 hd3
  rw [show (if n < n then f n else 0) = 0 from if_neg (by omega), copied_V, Nat.zero_mul, Nat.zero_div, Nat.zero_mul, Nat.add_zero] at hv3
  have HH3 := Lib.hid hh3; have HV3 := Lib.hid hv3
  clear hh3 hv3 hz3 hd3 ht3 ht13 hh1 hh2 ht2
  go_wp2_with fail
  refine (clone_any _ _ _ _ (by omega) h (HB.out.below hb3)).mono ?_
  rintro e w4 ⟨rfl, hh4, hb4, hs4⟩
  have hb04 : Below w.heap.size w w4 := hb3.trans (hb4.mono (by omega))
  have HH3' := Lib.hid (HH3.out.below hb4); have HH4 := Lib.hid hh4
  clear hh4 HH3
  go_wp2_with fail
  refine (moveUp_any _ _ (d + 1) _ s _ (by omega) hs64 _ HH4.out).mono ?_
  rintro e w5 ⟨rfl, h5, hh5, ht5, hz5, hd5⟩
  have hv5 := V_moveUp hz5 hd5
  have hcarry : h (d + 1) * 2 ^ s / B = 0 := Nat.div_eq_of_lt hxs
  rw [hcarry, Nat.zero_mul, Nat.add_zero] at hv5
  have hh35 : Held w5 w.heap.size 0 (n + 1) f3 := HH3'.out.turn_other ht5 (by omega)
  have hb05 : Below w.heap.size w w5 := ht5.below hb04 (by omega) (by omega)
  have htop5 : B ≤ 2 * h5 (d + 1) := by rw [hd5 d (by omega)]; exact HT.out
  obtain ⟨gb, hgb⟩ : ∃ gb, w3.heap.size = gb := ⟨_, rfl⟩
  rw [hgb] at hh5 ht5 HH4
  have hgb1 : w.heap.size < gb := by omega
  have hgb2 : gb < w5.heap.size := by have := ht5.size; omega
  have HH5 := Lib.hid hh5.reads; have HV5 := Lib.hid hv5; have HH35 := Lib.hid hh35; have HTOP := Lib.hid htop5
  rw [hgb]
  clear hh5 hv5 hh35 htop5 hz5 hd5 ht5 HH4 HH3' hb4 hs4 hb3 hs3 hgb hcarry
  have DD : Hid (∃ D, D = V h (d + 2) * 2 ^ s) := ⟨_, rfl⟩
  obtain ⟨D, hD⟩ := DD.out
  obtain ⟨A, hA⟩ : ∃ A, A = V f n * 2 ^ s := ⟨_, rfl⟩
  have hA0 : V f3 (n + 1) = A := by rw [hA]; exact HV3.out
  have hD0 : V h5 (d + 2) = D := by rw [hD]; exact HV5.out
  have hps : 0 < 2 ^ s := Nat.pow_pos (by omega)
  have hDp : 0 < D := by rw [hD]; exact Nat.mul_pos hDpos hps
  have hDB : D < B ^ (d + 2) := by rw [← hD0]; exact V_lt HH5.out.lt
  have hAD : A < B ^ lq * D := by
    have h1 := V_lt HFB.out
    have h2 := Nat.mul_le_mul_left (B ^ lq) hDge
    rw [← Nat.pow_add, show lq + (d + 1) = n by omega] at h2
    rw [hA, hD, ← Nat.mul_assoc]
    exact Nat.mul_lt_mul_of_pos_right (by omega) hps
  have HAD := Lib.hid hAD; have HA0 := Lib.hid hA0; have HD0 := Lib.hid hD0; have HDE := Lib.hid hD; have HAE := Lib.hid hA; have HDB := Lib.hid hDB; have HDP := Lib.hid hDp; have HDPOS := Lib.hid hDpos
  clear hAD hA0 hD0 hD hA hDB hDge DD HV3 HV5 hDp hDpos
  go_wp2_with (first
    | (at_make; refine wpList_make_words rfl (.tmp 38) (.tmp 38) 23 rfl 65 under_words info_u64 .i64 .i64 _ _ lq rfl rfl rfl rfl (by omega) ?_; intro w6 hh6 hb6 hs6; replace hh6 := Lib.hid hh6))
  obtain ⟨gq, hgq⟩ : ∃ gq, w5.heap.size = gq := ⟨_, rfl⟩
  rw [hgq] at hh6 hb6 hs6 hgb2
  rw [hgq]
  have hb06 : Below w.heap.size w w6 := hb05.trans (hb6.mono (by have := hb05.size; omega))
  have hgq1 : w.heap.size < gq := by omega
  have HH36 := Lib.hid (HH35.out.below (by rw [hgq]; exact hb6)); have HH56 := Lib.hid (HH5.out.below (by rw [hgq]; exact hb6))
  clear HH35 HH5 hb05 hb6 hgq
  go_loopw [10] (fun i wr => ∃ k : Nat, ∃ rf qf : Nat → Nat, k ≤ lq ∧ i = .int .i64 ((k : Int) - 1) ∧ Held wr w.heap.size 0 (n + 1) rf ∧ Held wr gq 0 lq qf ∧ Reads wr (some ⟨gb, 0, none⟩) (d + 2) h5 ∧ Below w.heap.size w wr ∧ w6.heap.size ≤ wr.heap.size ∧
      A = V (fun i => qf (k + i)) (lq - k) * B ^ k * D + V rf (k + (d + 2)) ∧ V rf (k + (d + 2)) < B ^ k * D ∧ ∀ j, k + (d + 2) ≤ j → j < n + 1 → rf j = 0) (fun i _ => (intOf i + 1).toNat)
  case atStart =>
    have e1 : lq + (d + 2) = n + 1 := by omega
    exact ⟨lq, f3, fun _ => 0, Nat.le_refl _, rfl, HH36.out, hh6.out, HH56.out, hb06, Nat.le_refl _, by rw [e1, HA0.out, V_none (fun _ _ => rfl)]; simp, by rw [e1, HA0.out]; exact HAD.out, fun j h1 h2 => by omega⟩
  case round =>
    clear HH36 hh6 HH56 hb06
    obtain ⟨k, rf, qf, hk, rfl, hrf, hqf, hby, hbw, hsz, hsum, hless, hzero⟩ := hrel
    have HRF := Lib.hid hrf; have HQF := Lib.hid hqf; have HBY := Lib.hid hby; have HSUM := Lib.hid hsum; have HLESS := Lib.hid hless; have HZ := Lib.hid hzero
    clear hrf hqf hby hsum hless hzero
    cases k with
    | zero =>
      go_wp2_with fail
      refine (moveDown_any _ _ n _ s _ (by omega) hs64 _ HRF.out).mono ?_
      rintro e w7 ⟨rfl, f7, hh7, ht7, hz7, hd7⟩
      have hv7 := V_down_all (by omega) hz7 hd7
      have hR : V rf (n + 1) = V rf (d + 2) := by
        obtain ⟨e0, he0⟩ : ∃ e0, n + 1 = d + 2 + e0 := ⟨n + 1 - (d + 2), by omega⟩
        have hz0 : V (fun i => rf (d + 2 + i)) e0 = 0 := V_none (fun i hi => HZ.out _ (by omega) (by omega))
        rw [he0, V_split, hz0, Nat.mul_zero, Nat.add_zero]
      have hs0 : V f n * 2 ^ s = V qf lq * (V h (d + 2) * 2 ^ s) + V rf (d + 2) := by
        have := HSUM.out
        simp only [Nat.zero_add, Nat.pow_zero, Nat.mul_one, Nat.sub_zero] at this
        rw [← HAE.out, ← HDE.out]; exact this
      have hl0 : V rf (d + 2) < V h (d + 2) * 2 ^ s := by
        have := HLESS.out
        simp only [Nat.zero_add, Nat.pow_zero, Nat.one_mul] at this
        rw [← HDE.out]; exact this
      obtain ⟨q1, q2⟩ := long_end HDPOS.out hs0 hl0
      rw [hR, q2] at hv7
      have hb7 : Below w.heap.size w w7 := ht7.below hbw (Nat.le_refl _) (by omega)
      have hqf7 : Held w7 gq 0 lq qf := HQF.out.turn_other ht7 (by omega)
      have HH7 := Lib.hid hh7; have HQ7 := Lib.hid hqf7; have HV7 := Lib.hid hv7; have Q1 := Lib.hid q1
      clear hh7 hqf7 hv7 q1 q2 hs0 hl0 hR hz7 hd7 ht7
      go_wp2_with fail
      refine (trim_any _ _ _ _ (by omega) qf (Nat.le_refl _) HQ7.out.reads).mono ?_
      rintro e w8 ⟨rfl, rfl⟩
      go_wp2_with fail
      refine (trim_any _ _ _ _ (by omega) f7 (Nat.le_refl _) HH7.out.reads).mono ?_
      rintro e w8 ⟨rfl, rfl⟩
      go_wp2
      go_ret2
      have r1 := RMag.of_trim HQ7.out.reads (Nat.le_refl lq)
      have r2 := RMag.of_trim HH7.out.reads (Nat.le_refl (n + 1))
      rw [Q1.out] at r1; rw [HV7.out] at r2
      exact ⟨_, _, rfl, r1.more (by omega), r2, hb7⟩
    | succ k =>
      have hk1 : ((k + 1 : Nat) : Int) - 1 = (k : Int) := by omega
      rw [hk1]; clear hk1
      have hcut : ¬ (n + 1 = k) := by omega
      have he : k + (d + 2) + 1 - k = d + 3 := by omega
      have hpart := HRF.out.part (k := k) (m := d + 3) (by omega)
      rw [Nat.zero_add] at hpart
      have hW : V (fun i => rf (k + i)) (d + 3) < V h5 (d + 2) * B := by
        have h1 := HLESS.out
        rw [show k + 1 + (d + 2) = k + (d + 3) by omega, V_split, Nat.pow_succ, Nat.mul_assoc] at h1
        rw [HD0.out, Nat.mul_comm D B]
        exact Nat.lt_of_mul_lt_mul_left (Nat.lt_of_le_of_lt (Nat.le_add_left _ _) h1)
      have hsum := HSUM.out
      rw [show k + 1 + (d + 2) = k + (d + 3) by omega, V_split rf k (d + 3), Nat.pow_succ] at hsum
      obtain ⟨s1, s2⟩ := long_step HDP.out (V_lt (fun i hi => HRF.out.lt i (by omega))) hsum
      have HPART := Lib.hid hpart; have HW := Lib.hid hW; have S1 := Lib.hid s1; have S2 := Lib.hid s2
      have hwq : V (fun i => rf (k + i)) (d + 3) / V h5 (d + 2) < B := Nat.div_lt_of_lt_mul hW
      have HWQ := Lib.hid hwq
      clear hpart hW hsum s1 s2 HSUM HLESS hwq
      go_wp2_with fail
      refine (takeOften_any w.heap.size k d _ _ _ wr (by omega) (by omega) _ h5 HPART.out HBY.out (by intro _ b' o' e; simp at e; omega) HTOP.out HW.out).mono ?_
      rintro e w7 ⟨f2, rfl, hh7, ht7, hz7, hv7⟩
      have hq7 := HQF.out.turn_other ht7 (by omega)
      obtain ⟨hqc, hqz, _⟩ := hq7 k (by omega)
      rw [Nat.zero_add] at hqc hqz
      have hr7 : Held w7 w.heap.size 0 (n + 1) (spl rf f2 k (d + 3)) := HRF.out.splice (by rw [Nat.zero_add]; exact ht7) (by rw [Nat.zero_add]; exact hh7) (by omega)
      have hby7 : Reads w7 (some ⟨gb, 0, none⟩) (d + 2) h5 := HBY.out.turn ht7 (by intro _ b' o' e; simp at e; omega)
      have hb7 : Below w.heap.size w w7 := ht7.below hbw (Nat.le_refl _) (by have := hbw.size; omega)
      have hsz7 : w6.heap.size ≤ w7.heap.size := by have := ht7.size; omega
      have hwlt : gq < w7.heap.size := by omega
      obtain ⟨wd, hwd⟩ : ∃ wd, V (fun i => rf (k + i)) (d + 3) / V h5 (d + 2) = wd := ⟨_, rfl⟩
      have HQ7 := Lib.hid hq7; have HR7 := Lib.hid hr7; have HB7 := Lib.hid hby7; have HZ7 := Lib.hid hz7; have HV7 := Lib.hid hv7; have HWD := Lib.hid hwd
      have hwB : wd < B := by rw [← hwd]; exact HWQ.out
      rw [hwd]
      clear hq7 hr7 hby7 hz7 hv7 ht7 hh7 hwd HBY HRF HQF HPART HWQ
      go_wp2
      have hturn : Turn gq 0 lq w7 (w7.setCell ⟨gq, k, none⟩ (.int .u64 (wd : Int))) := (Turn.refl _ _ _ _).setCell (by omega) (by omega) _
      refine ⟨⟨k, spl rf f2 k (d + 3), upd qf k wd, by omega, rfl, HR7.out.turn_other hturn (by omega), ?_, HB7.out.turn hturn (by intro _ b' o' e; simp at e; omega), hturn.below hb7 (by omega) (by have := hb7.size; omega), by have := hturn.size; omega, ?_, ?_, ?_⟩, by simp [intOf]⟩
      · have := HQ7.out.setCell (k := k) hwB (by omega); simpa using this
      · obtain ⟨mm, hmm⟩ : ∃ mm, lq - (k + 1) = mm := ⟨_, rfl⟩
        have h1 := S1.out
        rw [hmm] at h1
        rw [show lq - k = mm + 1 by omega, V_low, upd_same, V_congr (f := fun i => upd qf k wd (k + 1 + i)) (g := fun i => qf (k + 1 + i)) (fun i _ => upd_other _ _ _ (by omega)), spl_V', HV7.out, HD0.out]
        rw [← HD0.out, HWD.out, HD0.out] at h1
        rw [Nat.add_comm wd, Nat.mul_comm B]; exact h1
      · rw [spl_V', HV7.out, HD0.out]; exact S2.out
      · intro j h1 h2
        by_cases e : j = k + (d + 2)
        · rw [e, spl_in _ _ (by omega)]; exact HZ7.out
        · rw [spl_out _ _ (.inr (by omega))]; exact HZ.out j (by omega) h2
end Go.Proofs.Ytbfdianmbpfjmaa
