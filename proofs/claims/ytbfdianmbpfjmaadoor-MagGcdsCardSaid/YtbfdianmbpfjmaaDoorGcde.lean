/- Gcd. -/
import Derived.Test.YtbfdianmbpfjmaaDoorGcdd
import Derived.Deep.LoopGhost
namespace Go.Proofs.YtbfdianmbpfjmaaDoor
open Go.RowKit Go.MagM Go.MagG
/-- Where the loop stands. -/
def GcdRel (w : World) (L D k : Nat) (av bv : Value) (wr : World) : Prop := ∃ P Q, RMag wr av L P ∧ RMag wr bv L Q ∧ Q ≤ P ∧ Nat.gcd P Q = D ∧ P + Q = k ∧ Below w.heap.size w wr
set_option maxRecDepth 100000 in
set_option maxHeartbeats 4000000 in
theorem Gcd_lt (va vb : Value) (L D X Y : Nat) (w : World) (hL : L ≤ 4000000000) (ha : Mag w va L X) (hb : Mag w vb L Y) (hDD : Nat.gcd X Y = D) (h : X < Y) :
    Calls Tryd.prog 6 #[va, vb] w fun e w' => ∃ v, e = .returned v ∧ RMag w' v L D ∧ Below w.heap.size w w' := by
  obtain ⟨ao, n0, ca, f, rfl, hnc0, hnL0, hra0, hX⟩ := ha
  obtain ⟨bo, m0, cb, g, rfl, hmc0, hmM0, hrb0, hY⟩ := hb
  have htn := tlen_le f n0
  have htm := tlen_le g m0
  have T1 := Lib.hid (trim_any ao n0 ca w (by omega) f hnc0 hra0)
  have T2 := Lib.hid (trim_any bo m0 cb w (by omega) g hmc0 hrb0)
  have r1 := (RMag.of_trim hra0 hnc0).more hnL0
  have r2 := (RMag.of_trim hrb0 hmc0).more hmM0
  rw [hX] at r1
  rw [hY] at r2
  have cc := Cmp_any _ _ L L X Y w hL hL r1.mag r2.mag
  rw [show cmpn X Y = -1 from cmpn_of_lt h] at cc
  have hXY : X ≤ Y := by omega
  have CC := Lib.hid cc; have R1 := Lib.hid r1; have R2 := Lib.hid r2; have HXY := Lib.hid hXY; have HDD := Lib.hid hDD
  clear cc r1 r2 hra0 hrb0 hX hY h htn htm hnc0 hmc0 hXY hDD
  generalize tlen f n0 = n1 at *
  generalize tlen g m0 = m1 at *
  go_enter Tryd.func6, Tryd.ntmps6
  go_wp2_with fail
  refine T1.out.mono ?_
  rintro e w1 ⟨rfl, rfl⟩
  go_wp2_with fail
  refine T2.out.mono ?_
  rintro e w1 ⟨rfl, rfl⟩
  go_wp2_with fail
  refine CC.out.mono ?_
  rintro e w2 ⟨q, rfl, hq⟩
  obtain ⟨hb2, hz⟩ := drewN_size hq
  clear hq hz
  have HB2 := Lib.hid hb2; clear hb2
  go_wp2
  go_loopg [0, 1] (Y + X) (fun k av bv wr => GcdRel w L D k av bv wr)
  case atStart => exact ⟨Y, X, R2.out.below HB2.out, R1.out.below HB2.out, HXY.out, by rw [Nat.gcd_comm]; exact HDD.out, rfl, HB2.out⟩
  case round =>
    obtain ⟨P, Q, hP, hQ, hle, hD, hk, hbe⟩ := hrel
    obtain ⟨ao', n, ca', f', rfl, hnc, hnL, hra, hVP, rf⟩ := hP
    obtain ⟨bo', m, cb', g', rfl, hmc, hmL, hrb, hVQ, rg⟩ := hQ
    have HBE := Lib.hid hbe; have HD := Lib.hid hD; have HKK := Lib.hid hk; have HLE := Lib.hid hle; have HRA := Lib.hid hra; have HRB := Lib.hid hrb; have HVP := Lib.hid hVP; have HVQ := Lib.hid hVQ; have HRF := Lib.hid rf; have HRG := Lib.hid rg
    clear hbe hD hk hle hra hrb hVP hVQ rf rg
    by_cases hm : 1 < m
    · have hmn : m ≤ n := by
        rcases Nat.lt_or_ge n m with h | h
        · have h1 := V_lt_of_len HRA.out.lt HRG.out h
          have h2 := HLE.out; have h3 := HVP.out; have h4 := HVQ.out
          omega
        · exact h
      have cc := nearer_core ao' n ca' f' bo' m cb' g' (n - 1) (n - 2) (64 - bl (f' (n - 1))) wr (by omega) (by omega) (by omega) hmn hnc hmc HRA.out HRB.out HRF.out HRG.out (by omega) (by rw [HVP.out, HVQ.out]; exact HLE.out) rfl
      rw [HVP.out, HVQ.out] at cc
      have CC := Lib.hid cc; clear cc hmn
      go_wp2_with fail
      refine CC.out.mono ?_
      rintro e w9 ⟨va', vb', P', Q', rfl, h1, h2, h3, h4, h5, h6, h7⟩
      have H1 := Lib.hid h1; have H2 := Lib.hid h2; have H3 := Lib.hid h3; have H4 := Lib.hid h4; have H5 := Lib.hid h5; have H7 := Lib.hid h7
      clear h1 h2 h3 h4 h5 h6 h7
      go_wp2
      go_roundg (P' + Q')
      case measure => have := H5.out; have := HKK.out; omega
      case rel => exact ⟨P', Q', H1.out.more hnL, H2.out.more hnL, H3.out, by rw [H4.out]; exact HD.out, rfl, HBE.out.trans (H7.out.mono HBE.out.size)⟩
    · by_cases hm0 : m = 0
      · subst hm0
        have hQ0 : Q = 0 := HVQ.out.symm
        go_wp2_with fail
        refine (clone_any _ n _ _ (by omega) f' HRA.out).mono ?_
        rintro e w9 ⟨rfl, h1, h2, h3⟩
        have H1 := Lib.hid h1; have H2 := Lib.hid h2; have HQ0 := Lib.hid hQ0
        clear h1 h2 h3 hQ0
        go_wp2
        go_ret
        have hd : P = D := by rw [← HD.out, HQ0.out, Nat.gcd_zero_right]
        rw [← hd]
        exact ⟨_, rfl, ⟨_, n, n, f', rfl, Nat.le_refl _, hnL, H1.out.reads, HVP.out, HRF.out⟩, HBE.out.trans (H2.out.mono HBE.out.size)⟩
      · obtain rfl : m = 1 := by omega
        obtain ⟨xb, xo, rfl, hxc, hxB⟩ := HRB.out 0 (by omega)
        have hQ1 : g' 0 = Q := by have := HVQ.out; rw [V_one] at this; exact this
        have hq0 : Q ≠ 0 := by rw [← hQ1]; exact HRG.out 0 rfl
        rw [hQ1] at hxc hxB
        rw [Nat.add_zero] at hxc
        have cc := divWord_any ao' n ca' Q wr (by omega) f' (by omega) hxB HRA.out
        rw [HVP.out] at cc
        have CC := Lib.hid cc; have HQB := Lib.hid hxB
        have hlt : P % Q < B := Nat.lt_trans (Nat.mod_lt _ (by omega)) hxB
        have HLT := Lib.hid hlt; have HRB2 := Lib.hid (HRB.out)
        have hgc : Nat.gcd Q (P % Q) = D := by rw [← HD.out, Nat.gcd_comm P, Nat.gcd_rec Q P, Nat.gcd_comm]
        have HGC := Lib.hid hgc
        clear cc hxB hQ1 hq0 hlt hgc
        go_wp2_with fail
        refine CC.out.mono ?_
        rintro e w3 ⟨v3, rfl, h3, hb3⟩
        have hxc3 : w3.cell? ⟨xb, xo, none⟩ = some (.int .u64 (Q : Int)) := by rw [hb3.cell (p := ⟨xb, xo, none⟩) (World.block_lt_of_cell? wr _ hxc)]; exact hxc
        have HB3 := Lib.hid (HBE.out.trans (hb3.mono HBE.out.size))
        clear hb3 h3 hxc
        go_wp2_with fail
        refine (gcdWords_any Q (P % Q) _ HQB.out HLT.out).mono ?_
        rintro e w4 ⟨q4, rfl, hq4⟩
        obtain ⟨hb4, hz4⟩ := drewN_size hq4
        clear hq4 hz4
        have HB4 := Lib.hid (HB3.out.trans (hb4.mono HB3.out.size))
        clear hb4
        rw [HGC.out]
        have hDB : D < B := by
          rw [← HGC.out]
          have h1 := HQB.out
          have h2 := Nat.gcd_le_left (P % Q) (show 0 < Q by have := HRG.out 0 rfl; have h5 := HVQ.out; rw [V_one] at h5; omega)
          omega
        go_wp2_with fail
        refine (Of_any D _ hDB).mono ?_
        rintro e w5 ⟨v5, rfl, h5, hb5⟩
        go_wp2
        go_ret
        exact ⟨_, rfl, h5.more (by omega), HB4.out.trans (hb5.mono HB4.out.size)⟩
set_option maxRecDepth 100000 in
set_option maxHeartbeats 4000000 in
theorem Gcd_eq (va vb : Value) (L D X Y : Nat) (w : World) (hL : L ≤ 4000000000) (ha : Mag w va L X) (hb : Mag w vb L Y) (hDD : Nat.gcd X Y = D) (h : X = Y) :
    Calls Tryd.prog 6 #[va, vb] w fun e w' => ∃ v, e = .returned v ∧ RMag w' v L D ∧ Below w.heap.size w w' := by
  obtain ⟨ao, n0, ca, f, rfl, hnc0, hnL0, hra0, hX⟩ := ha
  obtain ⟨bo, m0, cb, g, rfl, hmc0, hmM0, hrb0, hY⟩ := hb
  have htn := tlen_le f n0
  have htm := tlen_le g m0
  have T1 := Lib.hid (trim_any ao n0 ca w (by omega) f hnc0 hra0)
  have T2 := Lib.hid (trim_any bo m0 cb w (by omega) g hmc0 hrb0)
  have r1 := (RMag.of_trim hra0 hnc0).more hnL0
  have r2 := (RMag.of_trim hrb0 hmc0).more hmM0
  rw [hX] at r1
  rw [hY] at r2
  have cc := Cmp_any _ _ L L X Y w hL hL r1.mag r2.mag
  rw [show cmpn X Y = 0 from (by rw [h]; exact cmpn_self _)] at cc
  have hXY : Y ≤ X := by omega
  have CC := Lib.hid cc; have R1 := Lib.hid r1; have R2 := Lib.hid r2; have HXY := Lib.hid hXY; have HDD := Lib.hid hDD
  clear cc r1 r2 hra0 hrb0 hX hY h htn htm hnc0 hmc0 hXY hDD
  generalize tlen f n0 = n1 at *
  generalize tlen g m0 = m1 at *
  go_enter Tryd.func6, Tryd.ntmps6
  go_wp2_with fail
  refine T1.out.mono ?_
  rintro e w1 ⟨rfl, rfl⟩
  go_wp2_with fail
  refine T2.out.mono ?_
  rintro e w1 ⟨rfl, rfl⟩
  go_wp2_with fail
  refine CC.out.mono ?_
  rintro e w2 ⟨q, rfl, hq⟩
  obtain ⟨hb2, hz⟩ := drewN_size hq
  clear hq hz
  have HB2 := Lib.hid hb2; clear hb2
  go_wp2
  go_loopg [0, 1] (X + Y) (fun k av bv wr => GcdRel w L D k av bv wr)
  case atStart => exact ⟨X, Y, R1.out.below HB2.out, R2.out.below HB2.out, HXY.out, HDD.out, rfl, HB2.out⟩
  case round =>
    obtain ⟨P, Q, hP, hQ, hle, hD, hk, hbe⟩ := hrel
    obtain ⟨ao', n, ca', f', rfl, hnc, hnL, hra, hVP, rf⟩ := hP
    obtain ⟨bo', m, cb', g', rfl, hmc, hmL, hrb, hVQ, rg⟩ := hQ
    have HBE := Lib.hid hbe; have HD := Lib.hid hD; have HKK := Lib.hid hk; have HLE := Lib.hid hle; have HRA := Lib.hid hra; have HRB := Lib.hid hrb; have HVP := Lib.hid hVP; have HVQ := Lib.hid hVQ; have HRF := Lib.hid rf; have HRG := Lib.hid rg
    clear hbe hD hk hle hra hrb hVP hVQ rf rg
    by_cases hm : 1 < m
    · have hmn : m ≤ n := by
        rcases Nat.lt_or_ge n m with h | h
        · have h1 := V_lt_of_len HRA.out.lt HRG.out h
          have h2 := HLE.out; have h3 := HVP.out; have h4 := HVQ.out
          omega
        · exact h
      have cc := nearer_core ao' n ca' f' bo' m cb' g' (n - 1) (n - 2) (64 - bl (f' (n - 1))) wr (by omega) (by omega) (by omega) hmn hnc hmc HRA.out HRB.out HRF.out HRG.out (by omega) (by rw [HVP.out, HVQ.out]; exact HLE.out) rfl
      rw [HVP.out, HVQ.out] at cc
      have CC := Lib.hid cc; clear cc hmn
      go_wp2_with fail
      refine CC.out.mono ?_
      rintro e w9 ⟨va', vb', P', Q', rfl, h1, h2, h3, h4, h5, h6, h7⟩
      have H1 := Lib.hid h1; have H2 := Lib.hid h2; have H3 := Lib.hid h3; have H4 := Lib.hid h4; have H5 := Lib.hid h5; have H7 := Lib.hid h7
      clear h1 h2 h3 h4 h5 h6 h7
      go_wp2
      go_roundg (P' + Q')
      case measure => have := H5.out; have := HKK.out; omega
      case rel => exact ⟨P', Q', H1.out.more hnL, H2.out.more hnL, H3.out, by rw [H4.out]; exact HD.out, rfl, HBE.out.trans (H7.out.mono HBE.out.size)⟩
    · by_cases hm0 : m = 0
      · subst hm0
        have hQ0 : Q = 0 := HVQ.out.symm
        go_wp2_with fail
        refine (clone_any _ n _ _ (by omega) f' HRA.out).mono ?_
        rintro e w9 ⟨rfl, h1, h2, h3⟩
        have H1 := Lib.hid h1; have H2 := Lib.hid h2; have HQ0 := Lib.hid hQ0
        clear h1 h2 h3 hQ0
        go_wp2
        go_ret
        have hd : P = D := by rw [← HD.out, HQ0.out, Nat.gcd_zero_right]
        rw [← hd]
        exact ⟨_, rfl, ⟨_, n, n, f', rfl, Nat.le_refl _, hnL, H1.out.reads, HVP.out, HRF.out⟩, HBE.out.trans (H2.out.mono HBE.out.size)⟩
      · obtain rfl : m = 1 := by omega
        obtain ⟨xb, xo, rfl, hxc, hxB⟩ := HRB.out 0 (by omega)
        have hQ1 : g' 0 = Q := by have := HVQ.out; rw [V_one] at this; exact this
        have hq0 : Q ≠ 0 := by rw [← hQ1]; exact HRG.out 0 rfl
        rw [hQ1] at hxc hxB
        rw [Nat.add_zero] at hxc
        have cc := divWord_any ao' n ca' Q wr (by omega) f' (by omega) hxB HRA.out
        rw [HVP.out] at cc
        have CC := Lib.hid cc; have HQB := Lib.hid hxB
        have hlt : P % Q < B := Nat.lt_trans (Nat.mod_lt _ (by omega)) hxB
        have HLT := Lib.hid hlt; have HRB2 := Lib.hid (HRB.out)
        have hgc : Nat.gcd Q (P % Q) = D := by rw [← HD.out, Nat.gcd_comm P, Nat.gcd_rec Q P, Nat.gcd_comm]
        have HGC := Lib.hid hgc
        clear cc hxB hQ1 hq0 hlt hgc
        go_wp2_with fail
        refine CC.out.mono ?_
        rintro e w3 ⟨v3, rfl, h3, hb3⟩
        have hxc3 : w3.cell? ⟨xb, xo, none⟩ = some (.int .u64 (Q : Int)) := by rw [hb3.cell (p := ⟨xb, xo, none⟩) (World.block_lt_of_cell? wr _ hxc)]; exact hxc
        have HB3 := Lib.hid (HBE.out.trans (hb3.mono HBE.out.size))
        clear hb3 h3 hxc
        go_wp2_with fail
        refine (gcdWords_any Q (P % Q) _ HQB.out HLT.out).mono ?_
        rintro e w4 ⟨q4, rfl, hq4⟩
        obtain ⟨hb4, hz4⟩ := drewN_size hq4
        clear hq4 hz4
        have HB4 := Lib.hid (HB3.out.trans (hb4.mono HB3.out.size))
        clear hb4
        rw [HGC.out]
        have hDB : D < B := by
          rw [← HGC.out]
          have h1 := HQB.out
          have h2 := Nat.gcd_le_left (P % Q) (show 0 < Q by have := HRG.out 0 rfl; have h5 := HVQ.out; rw [V_one] at h5; omega)
          omega
        go_wp2_with fail
        refine (Of_any D _ hDB).mono ?_
        rintro e w5 ⟨v5, rfl, h5, hb5⟩
        go_wp2
        go_ret
        exact ⟨_, rfl, h5.more (by omega), HB4.out.trans (hb5.mono HB4.out.size)⟩
set_option maxRecDepth 100000 in
set_option maxHeartbeats 4000000 in
theorem Gcd_gt (va vb : Value) (L D X Y : Nat) (w : World) (hL : L ≤ 4000000000) (ha : Mag w va L X) (hb : Mag w vb L Y) (hDD : Nat.gcd X Y = D) (h : Y < X) :
    Calls Tryd.prog 6 #[va, vb] w fun e w' => ∃ v, e = .returned v ∧ RMag w' v L D ∧ Below w.heap.size w w' := by
  obtain ⟨ao, n0, ca, f, rfl, hnc0, hnL0, hra0, hX⟩ := ha
  obtain ⟨bo, m0, cb, g, rfl, hmc0, hmM0, hrb0, hY⟩ := hb
  have htn := tlen_le f n0
  have htm := tlen_le g m0
  have T1 := Lib.hid (trim_any ao n0 ca w (by omega) f hnc0 hra0)
  have T2 := Lib.hid (trim_any bo m0 cb w (by omega) g hmc0 hrb0)
  have r1 := (RMag.of_trim hra0 hnc0).more hnL0
  have r2 := (RMag.of_trim hrb0 hmc0).more hmM0
  rw [hX] at r1
  rw [hY] at r2
  have cc := Cmp_any _ _ L L X Y w hL hL r1.mag r2.mag
  rw [show cmpn X Y = 1 from cmpn_of_gt h] at cc
  have hXY : Y ≤ X := by omega
  have CC := Lib.hid cc; have R1 := Lib.hid r1; have R2 := Lib.hid r2; have HXY := Lib.hid hXY; have HDD := Lib.hid hDD
  clear cc r1 r2 hra0 hrb0 hX hY h htn htm hnc0 hmc0 hXY hDD
  generalize tlen f n0 = n1 at *
  generalize tlen g m0 = m1 at *
  go_enter Tryd.func6, Tryd.ntmps6
  go_wp2_with fail
  refine T1.out.mono ?_
  rintro e w1 ⟨rfl, rfl⟩
  go_wp2_with fail
  refine T2.out.mono ?_
  rintro e w1 ⟨rfl, rfl⟩
  go_wp2_with fail
  refine CC.out.mono ?_
  rintro e w2 ⟨q, rfl, hq⟩
  obtain ⟨hb2, hz⟩ := drewN_size hq
  clear hq hz
  have HB2 := Lib.hid hb2; clear hb2
  go_wp2
  go_loopg [0, 1] (X + Y) (fun k av bv wr => GcdRel w L D k av bv wr)
  case atStart => exact ⟨X, Y, R1.out.below HB2.out, R2.out.below HB2.out, HXY.out, HDD.out, rfl, HB2.out⟩
  case round =>
    obtain ⟨P, Q, hP, hQ, hle, hD, hk, hbe⟩ := hrel
    obtain ⟨ao', n, ca', f', rfl, hnc, hnL, hra, hVP, rf⟩ := hP
    obtain ⟨bo', m, cb', g', rfl, hmc, hmL, hrb, hVQ, rg⟩ := hQ
    have HBE := Lib.hid hbe; have HD := Lib.hid hD; have HKK := Lib.hid hk; have HLE := Lib.hid hle; have HRA := Lib.hid hra; have HRB := Lib.hid hrb; have HVP := Lib.hid hVP; have HVQ := Lib.hid hVQ; have HRF := Lib.hid rf; have HRG := Lib.hid rg
    clear hbe hD hk hle hra hrb hVP hVQ rf rg
    by_cases hm : 1 < m
    · have hmn : m ≤ n := by
        rcases Nat.lt_or_ge n m with h | h
        · have h1 := V_lt_of_len HRA.out.lt HRG.out h
          have h2 := HLE.out; have h3 := HVP.out; have h4 := HVQ.out
          omega
        · exact h
      have cc := nearer_core ao' n ca' f' bo' m cb' g' (n - 1) (n - 2) (64 - bl (f' (n - 1))) wr (by omega) (by omega) (by omega) hmn hnc hmc HRA.out HRB.out HRF.out HRG.out (by omega) (by rw [HVP.out, HVQ.out]; exact HLE.out) rfl
      rw [HVP.out, HVQ.out] at cc
      have CC := Lib.hid cc; clear cc hmn
      go_wp2_with fail
      refine CC.out.mono ?_
      rintro e w9 ⟨va', vb', P', Q', rfl, h1, h2, h3, h4, h5, h6, h7⟩
      have H1 := Lib.hid h1; have H2 := Lib.hid h2; have H3 := Lib.hid h3; have H4 := Lib.hid h4; have H5 := Lib.hid h5; have H7 := Lib.hid h7
      clear h1 h2 h3 h4 h5 h6 h7
      go_wp2
      go_roundg (P' + Q')
      case measure => have := H5.out; have := HKK.out; omega
      case rel => exact ⟨P', Q', H1.out.more hnL, H2.out.more hnL, H3.out, by rw [H4.out]; exact HD.out, rfl, HBE.out.trans (H7.out.mono HBE.out.size)⟩
    · by_cases hm0 : m = 0
      · subst hm0
        have hQ0 : Q = 0 := HVQ.out.symm
        go_wp2_with fail
        refine (clone_any _ n _ _ (by omega) f' HRA.out).mono ?_
        rintro e w9 ⟨rfl, h1, h2, h3⟩
        have H1 := Lib.hid h1; have H2 := Lib.hid h2; have HQ0 := Lib.hid hQ0
        clear h1 h2 h3 hQ0
        go_wp2
        go_ret
        have hd : P = D := by rw [← HD.out, HQ0.out, Nat.gcd_zero_right]
        rw [← hd]
        exact ⟨_, rfl, ⟨_, n, n, f', rfl, Nat.le_refl _, hnL, H1.out.reads, HVP.out, HRF.out⟩, HBE.out.trans (H2.out.mono HBE.out.size)⟩
      · obtain rfl : m = 1 := by omega
        obtain ⟨xb, xo, rfl, hxc, hxB⟩ := HRB.out 0 (by omega)
        have hQ1 : g' 0 = Q := by have := HVQ.out; rw [V_one] at this; exact this
        have hq0 : Q ≠ 0 := by rw [← hQ1]; exact HRG.out 0 rfl
        rw [hQ1] at hxc hxB
        rw [Nat.add_zero] at hxc
        have cc := divWord_any ao' n ca' Q wr (by omega) f' (by omega) hxB HRA.out
        rw [HVP.out] at cc
        have CC := Lib.hid cc; have HQB := Lib.hid hxB
        have hlt : P % Q < B := Nat.lt_trans (Nat.mod_lt _ (by omega)) hxB
        have HLT := Lib.hid hlt; have HRB2 := Lib.hid (HRB.out)
        have hgc : Nat.gcd Q (P % Q) = D := by rw [← HD.out, Nat.gcd_comm P, Nat.gcd_rec Q P, Nat.gcd_comm]
        have HGC := Lib.hid hgc
        clear cc hxB hQ1 hq0 hlt hgc
        go_wp2_with fail
        refine CC.out.mono ?_
        rintro e w3 ⟨v3, rfl, h3, hb3⟩
        have hxc3 : w3.cell? ⟨xb, xo, none⟩ = some (.int .u64 (Q : Int)) := by rw [hb3.cell (p := ⟨xb, xo, none⟩) (World.block_lt_of_cell? wr _ hxc)]; exact hxc
        have HB3 := Lib.hid (HBE.out.trans (hb3.mono HBE.out.size))
        clear hb3 h3 hxc
        go_wp2_with fail
        refine (gcdWords_any Q (P % Q) _ HQB.out HLT.out).mono ?_
        rintro e w4 ⟨q4, rfl, hq4⟩
        obtain ⟨hb4, hz4⟩ := drewN_size hq4
        clear hq4 hz4
        have HB4 := Lib.hid (HB3.out.trans (hb4.mono HB3.out.size))
        clear hb4
        rw [HGC.out]
        have hDB : D < B := by
          rw [← HGC.out]
          have h1 := HQB.out
          have h2 := Nat.gcd_le_left (P % Q) (show 0 < Q by have := HRG.out 0 rfl; have h5 := HVQ.out; rw [V_one] at h5; omega)
          omega
        go_wp2_with fail
        refine (Of_any D _ hDB).mono ?_
        rintro e w5 ⟨v5, rfl, h5, hb5⟩
        go_wp2
        go_ret
        exact ⟨_, rfl, h5.more (by omega), HB4.out.trans (hb5.mono HB4.out.size)⟩
theorem Gcd_any (va vb : Value) (L M X Y : Nat) (w : World) (hL : L ≤ 4000000000) (hM : M ≤ 4000000000) (ha : Mag w va L X) (hb : Mag w vb M Y) :
    Calls Tryd.prog 6 #[va, vb] w fun e w' => ∃ v, e = .returned v ∧ RMag w' v (max L M) (Nat.gcd X Y) ∧ Below w.heap.size w w' := by
  rcases Nat.lt_trichotomy X Y with h | h | h
  · exact Gcd_lt va vb (max L M) _ X Y w (by omega) (ha.more (by omega)) (hb.more (by omega)) rfl h
  · exact Gcd_eq va vb (max L M) _ X Y w (by omega) (ha.more (by omega)) (hb.more (by omega)) rfl h
  · exact Gcd_gt va vb (max L M) _ X Y w (by omega) (ha.more (by omega)) (hb.more (by omega)) rfl h
end Go.Proofs.YtbfdianmbpfjmaaDoor
