/- mix. -/
import Derived.Test.YtbfdianmbpfjmaaDoorGcdb
namespace Go.Proofs.YtbfdianmbpfjmaaDoor
open Go.RowKit Go.MagM Go.MagG
theorem mix_over {P H o lo c A : Nat} (h1 : c ≤ A) (h2 : lo < P) {lo3 : Nat} (h3 : lo3 + P * H = A) (h4 : lo + c = lo3 + o * P) : o ≤ H := by
  rcases Nat.lt_or_ge H o with h | h
  · exfalso
    have := Nat.mul_le_mul_left P (show H + 1 ≤ o by omega)
    rw [Nat.mul_add, Nat.mul_one, Nat.mul_comm P o] at this
    omega
  · exact h
theorem mix_sum {P H o lo lo3 c A hi : Nat} (h3 : lo3 + P * H = A) (h4 : lo + c = lo3 + o * P) (h5 : hi + o = H) : lo + P * hi = A - c := by
  subst h5
  rw [Nat.mul_add, Nat.mul_comm P o] at h3
  omega
theorem mix_first (f2 : Nat → Nat) (n d over : Nat) : V (upd (spl (fun _ => 0) f2 0 n) n over) (n + (d + 1)) = V f2 n + over * B ^ n := by
  rw [show n + (d + 1) = n + 1 + d by omega, V_split, V_none (n := d), Nat.mul_zero, Nat.add_zero, V_upd_succ]
  · have := spl_V (fun _ => 0) f2 0 n
    rw [Nat.zero_add] at this
    rw [this, V_zero]; simp
  · intro i _
    rw [upd_other _ _ _ (by omega), spl_out _ _ (.inr (by omega))]
set_option maxRecDepth 100000 in
set_option maxHeartbeats 4000000 in
theorem mix_any (ao : Option Addr) (n ca : Nat) (f : Nat → Nat) (bo : Option Addr) (m cb : Nat) (fb : Nat → Nat) (p q K : Nat) (w : World) (hn : n ≤ 4000000000) (hm : m ≤ 4000000000) (hK : K = max n m + 1)
    (hra : Reads w ao n f) (hrb : Reads w bo m fb) (hp : p < B) (hq : q < B) (hle : V fb m * q ≤ V f n * p) :
    Calls Tryd.prog 28 #[.slice ao n ca, .int .u64 (p : Int), .slice bo m cb, .int .u64 (q : Int)] w fun e w' =>
      ∃ v, e = .returned v ∧ RMag w' v K (V f n * p - V fb m * q) ∧ Below w.heap.size w w' := by
  have HP := Lib.hid hp; have HQ := Lib.hid hq; have HA := Lib.hid hra; have HB := Lib.hid hrb; have HL := Lib.hid hle
  have hKn : n < K := by omega
  have hKm : m < K := by omega
  have hKx : K ≤ 4000000001 := by omega
  have HK := Lib.hid hK
  clear hp hq hra hrb hle hK
  go_enter Tryd.func28, Tryd.ntmps28
  go_wp2_with (first
    | (at_make; refine wpList_make_words rfl (.tmp 16) (.tmp 16) 25 rfl 33 under_words info_u64 .i64 .i64 _ _ K rfl rfl (by rw [HK.out]; omega) (by rw [HK.out]; omega) (by omega) ?_; intro w1 hh1 hb1 hs1; replace hh1 := Lib.hid hh1))
  all_goals
    go_wp2_with fail
    refine (addTimes_any w.heap.size 0 n _ _ _ _ p w1 (by omega) (fun _ => 0) f (Nat.le_refl _) HP.out (hh1.out.less (by omega)) (HA.out.below hb1) (HA.out.apart (Nat.le_refl _))).mono ?_
    rintro e w2 ⟨f2, over, rfl, hov, hh2, ht2, hv2, _⟩
    obtain ⟨hoc, hof, hoB⟩ := hh1.out n (by omega)
    have hoc2 : w2.cell? ⟨w.heap.size, n, none⟩ = some (.int .u64 0) := by
      rw [ht2.cell n (by omega)]; simpa using hoc
    have hof2 : w2.frozen? ⟨w.heap.size, n, none⟩ = false := by rw [ht2.frz]; simpa using hof
    have hh3 : Held (w2.setCell ⟨w.heap.size, n, none⟩ (.int .u64 (over : Int))) w.heap.size 0 K (upd (spl (fun _ => 0) f2 0 n) n over) := by
      have h := (hh1.out.splice (by simpa using ht2) (by simpa using hh2) (by omega)).setCell (k := n) hov hKn
      simpa using h
    have ht3 : Turn w.heap.size 0 K w1 (w2.setCell ⟨w.heap.size, n, none⟩ (.int .u64 (over : Int))) := (ht2.wider (by omega) (by omega)).setCell (by omega) (by omega) _
    have hbe3 : Below w.heap.size w (w2.setCell ⟨w.heap.size, n, none⟩ (.int .u64 (over : Int))) := ht3.below hb1 (Nat.le_refl _) (by omega)
    obtain ⟨f3, hf3⟩ : ∃ f3, upd (spl (fun _ => 0) f2 0 n) n over = f3 := ⟨_, rfl⟩
    have hV3 : V f3 K = V f n * p := by
      obtain ⟨d, hd⟩ : ∃ d, K = n + (d + 1) := ⟨K - n - 1, by omega⟩
      rw [← hf3, hd, mix_first, hv2, V_none (fun _ _ => rfl)]; simp
    rw [hf3] at hh3
    have HH3 := Lib.hid hh3; have HT3 := Lib.hid ht3; have HB3 := Lib.hid hbe3; have HV3 := Lib.hid hV3
    clear hov hh2 ht2 hv2 hoc hof hoB hh3 ht3 hbe3 hf3 hV3
    go_wp2_with fail
    clear hoc2 hof2
    generalize w2.setCell ⟨w.heap.size, n, none⟩ (.int .u64 (over : Int)) = w3 at *
    refine (takeTimes_any w.heap.size 0 m _ _ _ _ q w3 (by omega) f3 fb (Nat.le_refl _) HQ.out (HH3.out.less (by omega)) (HB.out.below HB3.out) (HB.out.apart (Nat.le_refl _))).mono ?_
    rintro e w4 ⟨f4, ov, rfl, hov, hh4, ht4, hv4, _⟩
    have hsp := V_split f3 m (K - m)
    rw [show m + (K - m) = K by omega, HV3.out] at hsp
    have h4lt := V_lt hh4.lt
    have hoH : ov ≤ V (fun i => f3 (m + i)) (K - m) := mix_over HL.out h4lt hsp.symm hv4
    have hb4 := (ht4.wider (o' := 0) (n' := K) (by omega) (by omega)).below HB3.out (Nat.le_refl _) HB3.out.size
    have hpart : Held w4 w.heap.size (0 + m) (K - m) (fun i => f3 (m + i)) := (HH3.out.part (k := m) (m := K - m) (by omega)).turn ht4 (.inr (by omega))
    have hlt : w.heap.size < w4.heap.size := hpart.lt_size (by omega)
    have hal : Below w4.heap.size w4 (w4.alloc (.cells #[.int .u64 (ov : Int)] 33)) := (Below.refl _ _).alloc (Nat.le_refl _) _
    have hrd : Reads (w4.alloc (.cells #[.int .u64 (ov : Int)] 33)) (some ⟨w4.heap.size, 0, none⟩) 1 (fun _ => ov) := by
      intro i hi
      refine ⟨w4.heap.size, 0, rfl, ?_, hov⟩
      have : i = 0 := by omega
      subst this
      exact World.cell?_alloc_new w4 _ _ _
    have HH4 := Lib.hid hh4; have HV4 := Lib.hid hv4; have HSP := Lib.hid hsp; have HOH := Lib.hid hoH; have HB4 := Lib.hid hb4; have HPT := Lib.hid hpart; have HLT := Lib.hid hlt; have HAL := Lib.hid hal; have HRD := Lib.hid hrd
    clear hov hh4 ht4 hv4 hsp h4lt hoH hb4 hpart hlt hal hrd
    have hcap : ¬ (K = m) := by omega
    go_wp2_with fail
    refine (takeFrom_any w.heap.size m (K - m) _ _ 1 _ _ (by omega) (fun i => f3 (m + i)) (fun _ => ov) (by omega) (by have := HPT.out.below HAL.out; simpa using this) HRD.out (fun _ b' o' e => by simp at e; have := HLT.out; omega) (by rw [V_one]; exact HOH.out)).mono ?_
    rintro e w5 ⟨rfl, f5, hh5, ht5, hv5⟩
    rw [V_one] at hv5
    have hlow : Held w5 w.heap.size 0 m f4 := (HH4.out.below HAL.out).turn ht5 (.inl (by omega))
    obtain ⟨F, hF⟩ : ∃ F : Nat → Nat, F = fun i => if i < m then f4 i else f5 (i - m) := ⟨_, rfl⟩
    have hjoin : Held w5 w.heap.size 0 (m + (K - m)) F := by
      refine Held.join (hlow.congr fun i hi => ?_) ((show Held w5 w.heap.size (0 + m) (K - m) f5 by simpa using hh5).congr fun i hi => ?_)
      · rw [hF]; simp [hi]
      · rw [hF]; simp only [show ¬ (m + i < m) by omega, if_false, Nat.add_sub_cancel_left]
    rw [show m + (K - m) = K by omega] at hjoin
    have hVF : V F K = V f n * p - V fb m * q := by
      have h1 := V_split F m (K - m)
      rw [show m + (K - m) = K by omega] at h1
      rw [h1, V_congr (f := F) (g := f4) (n := m) (fun i hi => by rw [hF]; simp [hi]), V_congr (f := fun i => F (m + i)) (g := f5) (n := K - m) (fun i hi => by rw [hF]; simp only [show ¬ (m + i < m) by omega, if_false, Nat.add_sub_cancel_left])]
      exact mix_sum HSP.out.symm HV4.out hv5
    have hb5 : Below w.heap.size w w5 := ht5.below (HB4.out.trans (HAL.out.mono HB4.out.size)) (Nat.le_refl _) (by have := HAL.out.size; have := HB4.out.size; omega)
    have HJ := Lib.hid hjoin; have HVF := Lib.hid hVF; have HB5 := Lib.hid hb5
    clear hjoin hVF hb5 hlow hh5 ht5 hv5 hF
    go_wp2_with fail
    refine (trim_any _ _ _ _ (by omega) F (Nat.le_refl _) HJ.out.reads).mono ?_
    rintro e w6 ⟨rfl, rfl⟩
    go_wp2
    go_ret
    have hfin := RMag.of_trim HJ.out.reads (Nat.le_refl K)
    rw [HVF.out] at hfin
    exact ⟨_, rfl, hfin, HB5.out⟩
end Go.Proofs.YtbfdianmbpfjmaaDoor
