/- Add, Sub, Mul: what they answer. -/
import Derived.Test.YtbfdianmbpfjmaaWalkB
namespace Go.Proofs.Ytbfdianmbpfjmaa
open Go.RowKit Go.MagM
theorem copied_V (f : Nat → Nat) (n d : Nat) : V (fun i => if i < n then f i else 0) (n + d) = V f n := by
  rw [V_split, V_congr (g := f) (fun i hi => if_pos hi), V_none (fun i _ => if_neg (by omega))]; simp
set_option maxHeartbeats 1000000 in
/-- The second half of Add: the longer one is copied, the shorter one added. -/
theorem Add_end {n m : Nat} {f g f' : Nat → Nat} {cc X Y : Nat} (hcc : cc ≤ 1) (hmn : m ≤ n) (hf : ∀ i, i < n → f i < B) (hg : ∀ i, i < m → g i < B)
    (hX : V f n = X) (hY : V g m = Y) (h : V f' (n + 1) + cc * B ^ (n + 1) = V (fun i => if i < n then f i else 0) (n + 1) + V g m) : V f' (n + 1) = X + Y := by
  rw [copied_V, hX, hY] at h
  have h1 := V_lt hf; have h2 := V_lt hg
  have h3 : B ^ m ≤ B ^ n := Nat.pow_le_pow_right B_pos hmn
  have h4 : 2 * B ^ n ≤ B ^ (n + 1) := by
    rw [Nat.pow_succ, Nat.mul_comm (B ^ n) B]; exact Nat.mul_le_mul_right _ (by unfold B; omega)
  have h5 : cc = 0 ∨ cc = 1 := by omega
  rcases h5 with rfl | rfl <;> omega
set_option maxHeartbeats 1000000 in
theorem Add_any (va vb : Value) (L M X Y : Nat) (w : World) (hL : L ≤ 4000000000) (hM : M ≤ 4000000000) (ha : Mag w va L X) (hb : Mag w vb M Y) :
    Calls Try.prog 37 #[va, vb] w fun e w' => ∃ v, e = .returned v ∧ RMag w' v (max L M + 1) (X + Y) ∧ Below w.heap.size w w' := by
  obtain ⟨ao, n0, ca, f, rfl, hnc, hnL, hra, hX⟩ := ha
  obtain ⟨bo, m0, cb, g, rfl, hmc, hmM, hrb, hY⟩ := hb
  have htn := tlen_le f n0
  have htm := tlen_le g m0
  rw [← tlen_V] at hX hY
  have hra' := hra.less htn
  have hrb' := hrb.less htm
  have T1 := Lib.hid (trim_any ao n0 ca w (by omega) f hnc hra)
  have T2 := Lib.hid (trim_any bo m0 cb w (by omega) g hmc hrb)
  obtain ⟨n, hn⟩ : ∃ n, tlen f n0 = n := ⟨_, rfl⟩
  obtain ⟨m, hm⟩ : ∃ m, tlen g m0 = m := ⟨_, rfl⟩
  rw [hn] at T1 hX htn hra'
  rw [hm] at T2 hY htm hrb'
  have hn9 : n ≤ 4000000000 := by omega
  have hm9 : m ≤ 4000000000 := by omega
  have hnL' : n ≤ L := by omega
  have hmM' : m ≤ M := by omega
  have HX := Lib.hid hX; have HY := Lib.hid hY; have HA := Lib.hid hra'; have HB := Lib.hid hrb'
  clear hX hY hra' hrb' hn hm hra hrb
  by_cases hnm : n < m
  · go_enter Try.func37, Try.ntmps37
    go_wp2_with fail
    refine T1.out.mono ?_
    rintro e w1 ⟨rfl, rfl⟩
    go_wp2_with fail
    refine T2.out.mono ?_
    rintro e w1 ⟨rfl, rfl⟩
    go_wp2_with (first
      | (at_make; refine wpList_make_words rfl (.tmp 19) (.tmp 19) 23 rfl 65 under_words info_u64 .i64 .i64 _ _ (m + 1) rfl rfl (by omega) (by omega) (by omega) ?_; intro w1 hh1 hb1 hs1; replace hh1 := Lib.hid hh1)
      | (with_reducible refine wpList_copy_words rfl (.tmp 21) (.tmp 22) 23 23 rfl 65 under_words size_u64 _ _ _ _ _ _ _ rfl rfl _ g hh1.out (HB.out.below hb1) ?_; intro w2 hh2 ht2; replace hh2 := Lib.hid hh2)
      | (go_at_call 49; refine (addTo_any _ _ _ _ _ _ _ _ (by omega) _ f (by omega) hh2.out ((HA.out.below hb1).turn ht2 (HA.out.apart (Nat.le_refl _))) (HA.out.apart (Nat.le_refl _))).mono ?_; rintro e w3 ⟨rfl, f3, cc, hcc, hh3, ht3, hv3⟩; replace hh3 := Lib.hid hh3; replace hv3 := Lib.hid hv3)
      | (go_at_call 48; refine (trim_any _ _ _ _ (by omega) f3 (Nat.le_refl _) hh3.out.reads).mono ?_; rintro e w4 ⟨rfl, rfl⟩))
    go_ret
    refine ⟨_, rfl, ?_, (ht3.below (ht2.below hb1 (Nat.le_refl _) (by omega)) (Nat.le_refl _) (by have := ht2.size; omega))⟩
    have hv := Add_end hcc (by omega) HB.out.lt HA.out.lt HY.out HX.out hv3.out
    have := RMag.of_trim hh3.out.reads (Nat.le_refl (m + 1))
    rw [hv, Nat.add_comm Y X] at this
    exact this.more (by omega)
  · go_enter Try.func37, Try.ntmps37
    go_wp2_with fail
    refine T1.out.mono ?_
    rintro e w1 ⟨rfl, rfl⟩
    go_wp2_with fail
    refine T2.out.mono ?_
    rintro e w1 ⟨rfl, rfl⟩
    go_wp2_with (first
      | (at_make; refine wpList_make_words rfl (.tmp 19) (.tmp 19) 23 rfl 65 under_words info_u64 .i64 .i64 _ _ (n + 1) rfl rfl (by omega) (by omega) (by omega) ?_; intro w1 hh1 hb1 hs1; replace hh1 := Lib.hid hh1)
      | (with_reducible refine wpList_copy_words rfl (.tmp 21) (.tmp 22) 23 23 rfl 65 under_words size_u64 _ _ _ _ _ _ _ rfl rfl _ f hh1.out (HA.out.below hb1) ?_; intro w2 hh2 ht2; replace hh2 := Lib.hid hh2)
      | (go_at_call 49; refine (addTo_any _ _ _ _ _ _ _ _ (by omega) _ g (by omega) hh2.out ((HB.out.below hb1).turn ht2 (HB.out.apart (Nat.le_refl _))) (HB.out.apart (Nat.le_refl _))).mono ?_; rintro e w3 ⟨rfl, f3, cc, hcc, hh3, ht3, hv3⟩; replace hh3 := Lib.hid hh3; replace hv3 := Lib.hid hv3)
      | (go_at_call 48; refine (trim_any _ _ _ _ (by omega) f3 (Nat.le_refl _) hh3.out.reads).mono ?_; rintro e w4 ⟨rfl, rfl⟩))
    go_ret
    refine ⟨_, rfl, ?_, (ht3.below (ht2.below hb1 (Nat.le_refl _) (by omega)) (Nat.le_refl _) (by have := ht2.size; omega))⟩
    have hv := Add_end hcc (by omega) HA.out.lt HB.out.lt HX.out HY.out hv3.out
    have := RMag.of_trim hh3.out.reads (Nat.le_refl (n + 1))
    rw [hv] at this
    exact this.more (by omega)
end Go.Proofs.Ytbfdianmbpfjmaa
