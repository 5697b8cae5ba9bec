/- Gcd. -/
import Derived.Test.YtdfabocecpcmcaaParti
import Derived.Deep.LoopGhost
import Derived.Test.YtdfabocecpcmcaaParth
namespace Go.Proofs.Ytdfabocecpcmcaa
open Go.RowKit Go.MagM Go.MagG
/-- Where the loop stands. -/
def GcdRel (w : World) (L D k : Nat) (av bv : Value) (wr : World) : Prop := ∃ P Q, RMag wr av L P ∧ RMag wr bv L Q ∧ Q ≤ P ∧ Nat.gcd P Q = D ∧ P + Q = k ∧ Below w.heap.size w wr
set_option maxRecDepth 100000 in
set_option maxHeartbeats 4000000 in
theorem Gcd_lt (va vb : Value) (L D X Y : Nat) (w : World) (hL : L ≤ 4000000000) (ha : Mag w va L X) (hb : Mag w vb L Y) (hDD : Nat.gcd X Y = D) (h : X < Y) :
    Calls Try.prog 59 #[va, vb] w fun e w' => ∃ v, e = .returned v ∧ RMag w' v L D ∧ Below w.heap.size w w' := by
  obtain ⟨ao, n0, ca, f, rfl, hnc0, hnL0, hra0, hX⟩ := ha
  obtain ⟨bo, m0, cb, g, rfl, hmc0, hmM0, hrb0, hY⟩ := hb
  have htn := tlen_le f n0
  have htm := tlen_le g m0
  have T1 := Lib.hid (trim_any ao n0 ca w (by omega) f hnc0 hra0)
  have T2 := Lib.hid (trim_any bo m0 cb w (by omega) g hmc0 hrb0)
  have r1 := (RMag.of_trim hra0 hnc0).more hnL0
  have r2 := (RMag.of_trim hrb0 hmc0).more hmM0
  rw [hX] at r1
  rw [hY] at r2
  have cc := Cmp_any _ _ L L X Y w hL hL r1.mag r2.mag
  rw [show cmpn X Y = -1 from cmpn_of_lt h] at cc
  have hXY : X ≤ Y := by omega
  have CC := Lib.hid cc; have R1 := Lib.hid r1; have R2 := Lib.hid r2; have HXY := Lib.hid hXY; have HDD := Lib.hid hDD
  clear cc r1 r2 hra0 hrb0 hX hY h htn htm hnc0 hmc0 hXY hDD
  generalize tlen f n0 = n1 at *
  generalize tlen g m0 = m1 at *
  go_enter Try.func59, Try.ntmps59
  go_wp2_with fail
  refine T1.out.mono ?_
  rintro e w1 ⟨rfl, rfl⟩
  go_wp2_with fail
  refine T2.out.mono ?_
  rintro e w1 ⟨rfl, rfl⟩
  go_wp2_with fail
  refine CC.out.mono ?_
  rintro e w2 ⟨q, rfl, hq⟩
  obtain ⟨hb2, hz⟩ := drewN_size hq
  clear hq hz
  have HB2 := Lib.hid hb2; clear hb2
  go_wp2
  go_loopg [0, 1] (Y + X) (fun k av bv wr => GcdRel w L D k av bv wr)
  case atStart => exact ⟨Y, X, R2.out.below HB2.out, R1.out.below HB2.out, HXY.out, by rw [Nat.gcd_comm]; exact HDD.out, rfl, HB2.out⟩
  case round =>
    obtain ⟨P, Q, hP, hQ, hle, hD, hk, hbe⟩ := hrel
    obtain ⟨ao', n, ca', f', rfl, hnc, hnL, hra, hVP, rf⟩ := hP
    obtain ⟨bo', m, cb', g', rfl, hmc, hmL, hrb, hVQ, rg⟩ := hQ
    have HBE := Lib.hid hbe; have HD := Lib.hid hD; have HKK := Lib.hid hk; have HLE := Lib.hid hle; have HRA := Lib.hid hra; have HRB := Lib.hid hrb; have HVP := Lib.hid hVP; have HVQ := Lib.hid hVQ; have HRF := Lib.hid rf; have HRG := Lib.hid rg
    clear hbe hD hk hle hra hrb hVP hVQ rf rg
    by_cases hm : 1 < m
    · have hmn : m ≤ n := by
        rcases Nat.lt_or_ge n m with h | h
        · have h1 := V_lt_of_len HRA.out.lt HRG.out h
          have h2 := HLE.out; have h3 := HVP.out; have h4 := HVQ.out
          omega
        · exact h
      have cc := nearer_core ao' n ca' f' bo' m cb' g' (n - 1) (n - 2) (64 - bl (f' (n - 1))) wr (by omega) (by omega) (by omega) hmn hnc hmc HRA.out HRB.out HRF.out HRG.out (by omega) (by rw [HVP.out, HVQ.out]; exact HLE.out) rfl
      rw [HVP.out, HVQ.out] at cc
      have CC := Lib.hid cc; clear cc hmn
      go_wp2_with fail
      refine CC.out.mono ?_
      rintro e w9 ⟨va', vb', P', Q', rfl, h1, h2, h3, h4, h5, h6, h7⟩
      have H1 := Lib.hid h1; have H2 := Lib.hid h2; have H3 := Lib.hid h3; have H4 := Lib.hid h4; have H5 := Lib.hid h5; have H7 := Lib.hid h7
      clear h1 h2 h3 h4 h5 h6 h7
      go_wp2
      go_roundg (P' + Q')
      case measure => have := H5.out; have := HKK.out; omega
      case rel => exact ⟨P', Q', H1.out.more hnL, H2.out.more hnL, H3.out, by rw [H4.out]; exact HD.out, rfl, HBE.out.trans (H7.out.mono HBE.out.size)⟩
    · by_cases hm0 : m = 0
      · subst hm0
        have hQ0 : Q = 0 := HVQ.out.symm
        go_wp2_with fail
        refine (clone_any _ n _ _ (by omega) f' HRA.out).mono ?_
        rintro e w9 ⟨rfl, h1, h2, h3⟩
        have H1 := Lib.hid h1; have H2 := Lib.hid h2; have HQ0 := Lib.hid hQ0
        clear h1 h2 h3 hQ0
        go_wp2
        go_ret
        have hd : P = D := by rw [← HD.out, HQ0.out, Nat.gcd_zero_right]
        rw [← hd]
        exact ⟨_, rfl, ⟨_, n, n, f', rfl, Nat.le_refl _, hnL, H1.out.reads, HVP.out, HRF.out⟩, HBE.out.trans (H2.out.mono HBE.out.size)⟩
      · obtain rfl : m = 1 := by omega
        obtain ⟨xb, xo, rfl, hxc, hxB⟩ := HRB.out 0 (by omega)
        have hQ1 : g' 0 = Q := by have := HVQ.out; rw [V_one] at this; exact this
        have hq0 : Q ≠ 0 := by rw [← hQ1]; exact HRG.out 0 rfl
        rw [hQ1] at hxc hxB
        rw [Nat.add_zero] at hxc
        have cc := divWord_any ao' n ca' Q wr (by omega) f' (by omega) hxB HRA.out
        rw [HVP.out] at cc
        have CC := Lib.hid cc; have HQB := Lib.hid hxB
        have hlt : P % Q < B := Nat.lt_trans (Nat.mod_lt _ (by omega)) hxB
        have HLT := Lib.hid hlt; have HRB2 := Lib.hid (HRB.out)
        have hgc : Nat.gcd Q (P % Q) = D := by rw [← HD.out, Nat.gcd_comm P, Nat.gcd_rec Q P, Nat.gcd_comm]
        have HGC := Lib.hid hgc
        clear cc hxB hQ1 hq0 hlt hgc
        go_wp2_with fail
        refine CC.out.mono ?_
        rintro e w3 ⟨v3, rfl, h3, hb3⟩
        have hxc3 : w3.cell? ⟨xb, xo, none⟩ = some (.int .u64 (Q : Int)) := by rw [hb3.cell (p := ⟨xb, xo, none⟩) (World.block_lt_of_cell? wr _ hxc)]; exact hxc
        have HB3 := Lib.hid (HBE.out.trans (hb3.mono HBE.out.size))
        clear hb3 h3 hxc
        go_wp2_with fail
        refine (gcdWords_any Q (P % Q) _ HQB.out HLT.out).mono ?_
        rintro e w4 ⟨q4, rfl, hq4⟩
        obtain ⟨hb4, hz4⟩ := drewN_size hq4
        clear hq4 hz4
        have HB4 := Lib.hid (HB3.out.trans (hb4.mono HB3.out.size))
        clear hb4
        rw [HGC.out]
        have hDB : D < B := by
          rw [← HGC.out]
          have h1 := HQB.out
          have h2 := Nat.gcd_le_left (P % Q) (show 0 < Q by have := HRG.out 0 rfl; have h5 := HVQ.out; rw [V_one] at h5; omega)
          omega
        go_wp2_with fail
        refine (Of_any D _ hDB).mono ?_
        rintro e w5 ⟨v5, rfl, h5, hb5⟩
        go_wp2
        go_ret
        exact ⟨_, rfl, h5.more (by omega), HB4.out.trans (hb5.mono HB4.out.size)⟩
set_option maxRecDepth 100000 in
set_option maxHeartbeats 4000000 in
theorem Gcd_eq (va vb : Value) (L D X Y : Nat) (w : World) (hL : L ≤ 4000000000) (ha : Mag w va L X) (hb : Mag w vb L Y) (hDD : Nat.gcd X Y = D) (h : X = Y) :
    Calls Try.prog 59 #[va, vb] w fun e w' => ∃ v, e = .returned v ∧ RMag w' v L D ∧ Below w.heap.size w w' := by
  obtain ⟨ao, n0, ca, f, rfl, hnc0, hnL0, hra0, hX⟩ := ha
  obtain ⟨bo, m0, cb, g, rfl, hmc0, hmM0, hrb0, hY⟩ := hb
  have htn := tlen_le f n0
  have htm := tlen_le g m0
  have T1 := Lib.hid (trim_any ao n0 ca w (by omega) f hnc0 hra0)
  have T2 := Lib.hid (trim_any bo m0 cb w (by omega) g hmc0 hrb0)
  have r1 := (RMag.of_trim hra0 hnc0).more hnL0
  have r2 := (RMag.of_trim hrb0 hmc0).more hmM0
  rw [hX] at r1
  rw [hY] at r2
  have cc := Cmp_any _ _ L L X Y w hL hL r1.mag r2.mag
  rw [show cmpn X Y = 0 from (by rw [h]; exact cmpn_self _)] at cc
  have hXY : Y ≤ X := by omega
  have CC := Lib.hid cc; have R1 := Lib.hid r1; have R2 := Lib.hid r2; have HXY := Lib.hid hXY; have HDD := Lib.hid hDD
  clear cc r1 r2 hra0 hrb0 hX hY h htn htm hnc0 hmc0 hXY hDD
  generalize tlen f n0 = n1 at *
  generalize tlen g m0 = m1 at *
  go_enter Try.func59, Try.ntmps59
  go_wp2_with fail
  refine T1.out.mono ?_
  rintro e w1 ⟨rfl, rfl⟩
  go_wp2_with fail
  refine T2.out.mono ?_
  rintro e w1 ⟨rfl, rfl⟩
  go_wp2_with fail
  refine CC.out.mono ?_
  rintro e w2 ⟨q, rfl, hq⟩
  obtain ⟨hb2, hz⟩ := drewN_size hq
  clear hq hz
  have HB2 := Lib.hid hb2; clear hb2
  go_wp2
  go_loopg [0, 1] (X + Y) (fun k av bv wr => GcdRel w L D k av bv wr)
  case atStart => exact ⟨X, Y, R1.out.below HB2.out, R2.out.below HB2.out, HXY.out, HDD.out, rfl, HB2.out⟩
  case round =>
    obtain ⟨P, Q, hP, hQ, hle, hD, hk, hbe⟩ := hrel
    obtain ⟨ao', n, ca', f', rfl, hnc, hnL, hra, hVP, rf⟩ := hP
    obtain ⟨bo', m, cb', g', rfl, hmc, hmL, hrb, hVQ, rg⟩ := hQ
    have HBE := Lib.hid hbe; have HD := Lib.hid hD; have HKK := Lib.hid hk; have HLE := Lib.hid hle; have HRA := Lib.hid hra; have HRB := Lib.hid hrb; have HVP := Lib.hid hVP; have HVQ := Lib.hid hVQ; have HRF := Lib.hid rf; have HRG := Lib.hid rg
    clear hbe hD hk hle hra hrb hVP hVQ rf rg
    by_cases hm : 1 < m
    · have hmn : m ≤ n := by
        rcases Nat.lt_or_ge n m with h | h
        · have h1 := V_lt_of_len HRA.out.lt HRG.out h
          have h2 := HLE.out; have h3 := HVP.out; have h4 := HVQ.out
          omega
        · exact h
      have cc := nearer_core ao' n ca' f' bo' m cb' g' (n - 1) (n - 2) (64 - bl (f' (n - 1))) wr (by omega) (by omega) (by omega) hmn hnc hmc HRA.out HRB.out HRF.out HRG.out (by omega) (by rw [HVP.out, HVQ.out]; exact HLE.out) rfl
      rw [HVP.out, HVQ.out] at cc
      have CC := Lib.hid cc; clear cc hmn
      go_wp2_with fail
      refine CC.out.mono ?_
      rintro e w9 ⟨va', vb', P', Q', rfl, h1, h2, h3, h4, h5, h6, h7⟩
      have H1 := Lib.hid h1; have H2 := Lib.hid h2; have H3 := Lib.hid h3; have H4 := Lib.hid h4; have H5 := Lib.hid h5; have H7 := Lib.hid h7
      clear h1 h2 h3 h4 h5 h6 h7
      go_wp2
      go_roundg (P' + Q')
      case measure => have := H5.out; have := HKK.out; omega
      case rel => exact ⟨P', Q', H1.out.more hnL, H2.out.more hnL, H3.out, by rw [H4.out]; exact HD.out, rfl, HBE.out.trans (H7.out.mono HBE.out.size)⟩
    · by_cases hm0 : m = 0
      · subst hm0
        have hQ0 : Q = 0 := HVQ.out.symm
        go_wp2_with fail
        refine (clone_any _ n _ _ (by omega) f' HRA.out).mono ?_
        rintro e w9 ⟨rfl, h1, h2, h3⟩
        have H1 := Lib.hid h1; have H2 := Lib.hid h2; have HQ0 := Lib.hid hQ0
        clear h1 h2 h3 hQ0
        go_wp2
        go_ret
        have hd : P = D := by rw [← HD.out, HQ0.out, Nat.gcd_zero_right]
        rw [← hd]
        exact ⟨_, rfl, ⟨_, n, n, f', rfl, Nat.le_refl _, hnL, H1.out.reads, HVP.out, HRF.out⟩, HBE.out.trans (H2.out.mono HBE.out.size)⟩
      · obtain rfl : m = 1 := by omega
        obtain ⟨xb, xo, rfl, hxc, hxB⟩ := HRB.out 0 (by omega)
        have hQ1 : g' 0 = Q := by have := HVQ.out; rw [V_one] at this; exact this
        have hq0 : Q ≠ 0 := by rw [← hQ1]; exact HRG.out 0 rfl
        rw [hQ1] at hxc hxB
        rw [Nat.add_zero] at hxc
        have cc := divWord_any ao' n ca' Q wr (by omega) f' (by omega) hxB HRA.out
        rw [HVP.out] at cc
        have CC := Lib.hid cc; have HQB := Lib.hid hxB
        have hlt : P % Q < B := Nat.lt_trans (Nat.mod_lt _ (by omega)) hxB
        have HLT := Lib.hid hlt; have HRB2 := Lib.hid (HRB.out)
        have hgc : Nat.gcd Q (P % Q) = D := by rw [← HD.out, Nat.gcd_comm P, Nat.gcd_rec Q P, Nat.gcd_comm]
        have HGC := Lib.hid hgc
        clear cc hxB hQ1 hq0 hlt hgc
        go_wp2_with fail
        refine CC.out.mono ?_
        rintro e w3 ⟨v3, rfl, h3, hb3⟩
        have hxc3 : w3.cell? ⟨xb, xo, none⟩ = some (.int .u64 (Q : Int)) := by rw [hb3.cell (p := ⟨xb, xo, none⟩) (World.block_lt_of_cell? wr _ hxc)]; exact hxc
        have HB3 := Lib.hid (HBE.out.trans (hb3.mono HBE.out.size))
        clear hb3 h3 hxc
        go_wp2_with fail
        refine (gcdWords_any Q (P % Q) _ HQB.out HLT.out).mono ?_
        rintro e w4 ⟨q4, rfl, hq4⟩
        obtain ⟨hb4, hz4⟩ := drewN_size hq4
        clear hq4 hz4
        have HB4 := Lib.hid (HB3.out.trans (hb4.mono HB3.out.size))
        clear hb4
        rw [HGC.out]
        have hDB : D < B := by
          rw [← HGC.out]
          have h1 := HQB.out
          have h2 := Nat.gcd_le_left (P % Q) (show 0 < Q by have := HRG.out 0 rfl; have h5 := HVQ.out; rw [V_one] at h5; omega)
          omega
        go_wp2_with fail
        refine (Of_any D _ hDB).mono ?_
        rintro e w5 ⟨v5, rfl, h5, hb5⟩
        go_wp2
        go_ret
        exact ⟨_, rfl, h5.more (by omega), HB4.out.trans (hb5.mono HB4.out.size)⟩
set_option maxRecDepth 100000 in
set_option maxHeartbeats 4000000 in
theorem Gcd_gt (va vb : Value) (L D X Y : Nat) (w : World) (hL : L ≤ 4000000000) (ha : Mag w va L X) (hb : Mag w vb L Y) (hDD : Nat.gcd X Y = D) (h : Y < X) :
    Calls Try.prog 59 #[va, vb] w fun e w' => ∃ v, e = .returned v ∧ RMag w' v L D ∧ Below w.heap.size w w' := by
  obtain ⟨ao, n0, ca, f, rfl, hnc0, hnL0, hra0, hX⟩ := ha
  obtain ⟨bo, m0, cb, g, rfl, hmc0, hmM0, hrb0, hY⟩ := hb
  have htn := tlen_le f n0
  have htm := tlen_le g m0
  have T1 := Lib.hid (trim_any ao n0 ca w (by omega) f hnc0 hra0)
  have T2 := Lib.hid (trim_any bo m0 cb w (by omega) g hmc0 hrb0)
  have r1 := (RMag.of_trim hra0 hnc0).more hnL0
  have r2 := (RMag.of_trim hrb0 hmc0).more hmM0
  rw [hX] at r1
  rw [hY] at r2
  have cc := Cmp_any _ _ L L X Y w hL hL r1.mag r2.mag
  rw [show cmpn X Y = 1 from cmpn_of_gt h] at cc
  have hXY : Y ≤ X := by omega
  have CC := Lib.hid cc; have R1 := Lib.hid r1; have R2 := Lib.hid r2; have HXY := Lib.hid hXY; have HDD := Lib.hid hDD
  clear cc r1 r2 hra0 hrb0 hX hY h htn htm hnc0 hmc0 hXY hDD
  generalize tlen f n0 = n1 at *
  generalize tlen g m0 = m1 at *
  go_enter Try.func59, Try.ntmps59
  go_wp2_with fail
  refine T1.out.mono ?_
  rintro e w1 ⟨rfl, rfl⟩
  go_wp2_with fail
  refine T2.out.mono ?_
  rintro e w1 ⟨rfl, rfl⟩
  go_wp2_with fail
  refine CC.out.mono ?_
  rintro e w2 ⟨q, rfl, hq⟩
  obtain ⟨hb2, hz⟩ := drewN_size hq
  clear hq hz
  have HB2 := Lib.hid hb2; clear hb2
  go_wp2
  go_loopg [0, 1] (X + Y) (fun k av bv wr => GcdRel w L D k av bv wr)
  case atStart => exact ⟨X, Y, R1.out.below HB2.out, R2.out.below HB2.out, HXY.out, HDD.out, rfl, HB2.out⟩
  case round =>
    obtain ⟨P, Q, hP, hQ, hle, hD, hk, hbe⟩ := hrel
    obtain ⟨ao', n, ca', f', rfl, hnc, hnL, hra, hVP, rf⟩ := hP
    obtain ⟨bo', m, cb', g', rfl, hmc, hmL, hrb, hVQ, rg⟩ := hQ
    have HBE := Lib.hid hbe; have HD := Lib.hid hD; have HKK := Lib.hid hk; have HLE := Lib.hid hle; have HRA := Lib.hid hra; have HRB := Lib.hid hrb; have HVP := Lib.hid hVP; have HVQ := Lib.hid hVQ; have HRF := Lib.hid rf; have HRG := Lib.hid rg
    clear hbe hD hk hle hra hrb hVP hVQ rf rg
    by_cases hm : 1 < m
    · have hmn : m ≤ n := by
        rcases Nat.lt_or_ge n m with h | h
        · have h1 := V_lt_of_len HRA.out.lt HRG.out h
          have h2 := HLE.out; have h3 := HVP.out; have h4 := HVQ.out
          omega
        · exact h
      have cc := nearer_core ao' n ca' f' bo' m cb' g' (n - 1) (n - 2) (64 - bl (f' (n - 1))) wr (by omega) (by omega) (by omega) hmn hnc hmc HRA.out HRB.out HRF.out HRG.out (by omega) (by rw [HVP.out, HVQ.out]; exact HLE.out) rfl
      rw [HVP.out, HVQ.out] at cc
      have CC := Lib.hid cc; clear cc hmn
      go_wp2_with fail
      refine CC.out.mono ?_
      rintro e w9 ⟨va', vb', P', Q', rfl, h1, h2, h3, h4, h5, h6, h7⟩
      have H1 := Lib.hid h1; have H2 := Lib.hid h2; have H3 := Lib.hid h3; have H4 := Lib.hid h4; have H5 := Lib.hid h5; have H7 := Lib.hid h7
      clear h1 h2 h3 h4 h5 h6 h7
      go_wp2
      go_roundg (P' + Q')
      case measure => have := H5.out; have := HKK.out; omega
      case rel => exact ⟨P', Q', H1.out.more hnL, H2.out.more hnL, H3.out, by rw [H4.out]; exact HD.out, rfl, HBE.out.trans (H7.out.mono HBE.out.size)⟩
    · by_cases hm0 : m = 0
      · subst hm0
        have hQ0 : Q = 0 := HVQ.out.symm
        go_wp2_with fail
        refine (clone_any _ n _ _ (by omega) f' HRA.out).mono ?_
        rintro e w9 ⟨rfl, h1, h2, h3⟩
        have H1 := Lib.hid h1; have H2 := Lib.hid h2; have HQ0 := Lib.hid hQ0
        clear h1 h2 h3 hQ0
        go_wp2
        go_ret
        have hd : P = D := by rw [← HD.out, HQ0.out, Nat.gcd_zero_right]
        rw [← hd]
        exact ⟨_, rfl, ⟨_, n, n, f', rfl, Nat.le_refl _, hnL, H1.out.reads, HVP.out, HRF.out⟩, HBE.out.trans (H2.out.mono HBE.out.size)⟩
      · obtain rfl : m = 1 := by omega
        obtain ⟨xb, xo, rfl, hxc, hxB⟩ := HRB.out 0 (by omega)
        have hQ1 : g' 0 = Q := by have := HVQ.out; rw [V_one] at this; exact this
        have hq0 : Q ≠ 0 := by rw [← hQ1]; exact HRG.out 0 rfl
        rw [hQ1] at hxc hxB
        rw [Nat.add_zero] at hxc
        have cc := divWord_any ao' n ca' Q wr (by omega) f' (by omega) hxB HRA.out
        rw [HVP.out] at cc
        have CC := Lib.hid cc; have HQB := Lib.hid hxB
        have hlt : P % Q < B := Nat.lt_trans (Nat.mod_lt _ (by omega)) hxB
        have HLT := Lib.hid hlt; have HRB2 := Lib.hid (HRB.out)
        have hgc : Nat.gcd Q (P % Q) = D := by rw [← HD.out, Nat.gcd_comm P, Nat.gcd_rec Q P, Nat.gcd_comm]
        have HGC := Lib.hid hgc
        clear cc hxB hQ1 hq0 hlt hgc
        go_wp2_with fail
        refine CC.out.mono ?_
        rintro e w3 ⟨v3, rfl, h3, hb3⟩
        have hxc3 : w3.cell? ⟨xb, xo, none⟩ = some (.int .u64 (Q : Int)) := by rw [hb3.cell (p := ⟨xb, xo, none⟩) (World.block_lt_of_cell? wr _ hxc)]; exact hxc
        have HB3 := Lib.hid (HBE.out.trans (hb3.mono HBE.out.size))
        clear hb3 h3 hxc
        go_wp2_with fail
        refine (gcdWords_any Q (P % Q) _ HQB.out HLT.out).mono ?_
        rintro e w4 ⟨q4, rfl, hq4⟩
        obtain ⟨hb4, hz4⟩ := drewN_size hq4
        clear hq4 hz4
        have HB4 := Lib.hid (HB3.out.trans (hb4.mono HB3.out.size))
        clear hb4
        rw [HGC.out]
        have hDB : D < B := by
          rw [← HGC.out]
          have h1 := HQB.out
          have h2 := Nat.gcd_le_left (P % Q) (show 0 < Q by have := HRG.out 0 rfl; have h5 := HVQ.out; rw [V_one] at h5; omega)
          omega
        go_wp2_with fail
        refine (Of_any D _ hDB).mono ?_
        rintro e w5 ⟨v5, rfl, h5, hb5⟩
        go_wp2
        go_ret
        exact ⟨_, rfl, h5.more (by omega), HB4.out.trans (hb5.mono HB4.out.size)⟩
theorem Gcd_any (va vb : Value) (L M X Y : Nat) (w : World) (hL : L ≤ 4000000000) (hM : M ≤ 4000000000) (ha : Mag w va L X) (hb : Mag w vb M Y) :
    Calls Try.prog 59 #[va, vb] w fun e w' => ∃ v, e = .returned v ∧ RMag w' v (max L M) (Nat.gcd X Y) ∧ Below w.heap.size w w' := by
  rcases Nat.lt_trichotomy X Y with h | h | h
  · exact Gcd_lt va vb (max L M) _ X Y w (by omega) (ha.more (by omega)) (hb.more (by omega)) rfl h
  · exact Gcd_eq va vb (max L M) _ X Y w (by omega) (ha.more (by omega)) (hb.more (by omega)) rfl h
  · exact Gcd_gt va vb (max L M) _ X Y w (by omega) (ha.more (by omega)) (hb.more (by omega)) rfl h
end Go.Proofs.Ytdfabocecpcmcaa
/- The calls of frac: den, clone, times, lowest. -/
namespace Go.Proofs.Ytdfabocecpcmcaa
open Go.RowKit Go.MagM
set_option maxHeartbeats 4000000 in
theorem den_zero (am : Bool) (ao : Option Addr) (an ac : Nat) (ap : Option Addr) (ak ad : Nat) (L : Nat) (X : Int) (D : Nat) (w : World) (hL : L ≤ 1000000000) (fa_0 : FD w (.agg #[.bool am, .slice ao an ac, .slice ap ak ad]) L X D) (h0 : D = 0) :
    Calls Try.prog 35 #[.agg #[.bool am, .slice ao an ac, .slice ap ak ad]] w fun e w' => AnsMag w w' e (max L 1) (den1 D) := by
  have hB_0 := Below.refl w.heap.size w
  subst h0
  obtain ⟨w1, hw1, pa_0, hb1, hs1⟩ := new_box w (w.heap.size) rfl [.bool am, .slice ao an ac, .slice ap ak ad] 28
  have hb1' : Below w.heap.size w w1 := hb1.mono (by omega)
  clear hb1
  have hB_1 := hB_0.trans (hb1'.mono hB_0.size)
  have fa_1 := fa_0.below hb1'
  clear hb1' hB_0 fa_0
  go_enter Try.func35, Try.ntmps35
  obtain ⟨pae0, pae1, pae2, pae3, pae4, pae5⟩ := pa_0.open3
  go_wp2_with fail
  have cc := Len_any _ L 0 _ (by omega) fa_1.mag
  rw [show ((bl 0 : Nat) : Int) = 0 from rfl] at cc
  refine cc.mono ?_
  clear cc
  rintro e w2 ⟨rfl, rfl⟩
  clear pae0 pae1 pae2 pae3 pae4 pae5
  go_wp2_with fail
  refine (Of_any 1 _ (by unfold B; omega)).mono ?_
  rintro e w3 ⟨v1, rfl, f1_0, hb3⟩
  have hB_2 := hB_1.trans (hb3.mono hB_1.size)
  have fa_2 := fa_1.below hb3
  have pa_1 := pa_0.below hb3
  clear hb3 hB_1 fa_1 pa_0
  obtain ⟨o1, n1, c1, rfl⟩ := f1_0.slice
  go_wp2
  go_ret
  exact ⟨_, _, _, rfl, f1_0.mag.more (by omega), hB_2⟩
set_option maxHeartbeats 4000000 in
theorem den_some (am : Bool) (ao : Option Addr) (an ac : Nat) (ap : Option Addr) (ak ad : Nat) (L : Nat) (X : Int) (D : Nat) (w : World) (hL : L ≤ 1000000000) (fa_0 : FD w (.agg #[.bool am, .slice ao an ac, .slice ap ak ad]) L X D) (h0 : D ≠ 0) :
    Calls Try.prog 35 #[.agg #[.bool am, .slice ao an ac, .slice ap ak ad]] w fun e w' => AnsMag w w' e (max L 1) (den1 D) := by
  have hB_0 := Below.refl w.heap.size w
  have hz : (((bl D : Nat) : Int) == 0) = false := bl_ne h0
  obtain ⟨w1, hw1, pa_0, hb1, hs1⟩ := new_box w (w.heap.size) rfl [.bool am, .slice ao an ac, .slice ap ak ad] 28
  have hb1' : Below w.heap.size w w1 := hb1.mono (by omega)
  clear hb1
  have hB_1 := hB_0.trans (hb1'.mono hB_0.size)
  have fa_1 := fa_0.below hb1'
  clear hb1' hB_0 fa_0
  go_enter Try.func35, Try.ntmps35
  obtain ⟨pae0, pae1, pae2, pae3, pae4, pae5⟩ := pa_0.open3
  go_wp2_with fail
  have cc := Len_any _ L D _ (by omega) fa_1.mag
  refine cc.mono ?_
  clear cc
  rintro e w2 ⟨rfl, rfl⟩
  clear pae0 pae1 pae2 pae3 pae4 pae5
  obtain ⟨pae0, pae1, pae2, pae3, pae4, pae5⟩ := pa_0.open3
  go_wp2
  go_ret
  exact ⟨_, _, _, rfl, by rw [den1_of h0]; exact fa_1.mag.more (by omega), hB_1⟩
theorem den_any (va : Value) (L : Nat) (X : Int) (D : Nat) (w : World) (hL : L ≤ 1000000000) (ha : FD w va L X D) :
    Calls Try.prog 35 #[va] w fun e w' => AnsMag w w' e (max L 1) (den1 D) := by
  have ha' := ha
  obtain ⟨_, _, _, _, _, _, _, rfl, _, _⟩ := ha
  by_cases h0 : D = 0
  · exact den_zero _ _ _ _ _ _ _ L X D w hL ha' h0
  · exact den_some _ _ _ _ _ _ _ L X D w hL ha' h0
set_option maxHeartbeats 4000000 in
theorem fclone_any (vm : Value) (L D : Nat) (w : World) (hL : L ≤ 4000000000) (fm_0 : Mag w vm L D) :
    Calls Try.prog 57 #[vm] w fun e w' => AnsRMag w w' e L D := by
  have hB_0 := Below.refl w.heap.size w
  have hlt := fm_0.lt
  go_enter Try.func57, Try.ntmps57
  go_wp2_with fail
  refine (Add_any _ _ L 0 D 0 _ (by omega) (by omega) fm_0 (RMag.nil _).mag).mono ?_
  rintro e w1 ⟨v1, rfl, f1_0, hb1⟩
  have hB_1 := hB_0.trans (hb1.mono hB_0.size)
  have fm_1 := fm_0.below hb1
  clear hb1 hB_0 fm_0
  obtain ⟨o1, n1, c1, rfl⟩ := f1_0.slice
  go_wp2
  go_ret
  have h1 := f1_0
  rw [Nat.add_zero] at h1
  exact ⟨_, _, _, rfl, h1.short hlt, hB_1⟩
set_option maxHeartbeats 4000000 in
theorem times_core (am : Bool) (ao : Option Addr) (an ac : Nat) (bo : Option Addr) (bn bc : Nat) (L M : Nat) (X : Int) (D : Nat) (w : World) (hL : L ≤ 2000000000) (hM : M ≤ 2000000000) (fa_0 : Num w (.agg #[.bool am, .slice ao an ac]) L X) (fm_0 : Mag w (.slice bo bn bc) M D) :
    Calls Try.prog 38 #[.agg #[.bool am, .slice ao an ac], .slice bo bn bc] w fun e w' => AnsNum w w' e (L + M) (X * D) := by
  have hB_0 := Below.refl w.heap.size w
  obtain ⟨w1, hw1, pa_0, hb1, hs1⟩ := new_box w (w.heap.size) rfl [.bool am, .slice ao an ac] 26
  have hb1' : Below w.heap.size w w1 := hb1.mono (by omega)
  clear hb1
  have hB_1 := hB_0.trans (hb1'.mono hB_0.size)
  have fa_1 := fa_0.below hb1'
  have fm_1 := fm_0.below hb1'
  clear hb1' hB_0 fa_0 fm_0
  obtain ⟨w2, hw2, pr_0, hb2, hs2⟩ := new_box w1 (w.heap.size + 1) hs1 [.bool false, .slice none 0 0] 26
  have hb2' : Below w1.heap.size w1 w2 := hb2.mono (by omega)
  clear hb2
  have hB_2 := hB_1.trans (hb2'.mono hB_1.size)
  have fa_2 := fa_1.below hb2'
  have fm_2 := fm_1.below hb2'
  have pa_1 := pa_0.below hb2'
  clear hb2' hB_1 fa_1 fm_1 pa_0
  go_enter Try.func38, Try.ntmps38
  obtain ⟨pae0, pae1, pae2, pae3⟩ := pa_1.open2
  go_wp2_with fail
  refine (nMul_any _ _ L M X D _ (by omega) (by omega) fa_2 fm_2.num).mono ?_
  rintro e w3 ⟨m1, o1, n1, c1, rfl, f1_0, hb3⟩
  clear pae0 pae1 pae2 pae3
  have hB_3 := hB_2.trans (hb3.mono hB_2.size)
  have fa_3 := fa_2.below hb3
  have fm_3 := fm_2.below hb3
  have pa_2 := pa_1.below hb3
  have pr_1 := pr_0.below hb3
  clear hb3 hB_2 fa_2 fm_2 pa_1 pr_0
  obtain ⟨sf3a, sf3b, sf3c, sf3d⟩ := pr_1.open2
  obtain ⟨sg3a, sg3b⟩ := Box.put2 pr_1 (.bool m1)
  go_wp2
  clear sf3a sf3b sf3c sf3d sg3a sg3b
  have hB_4 := below_setAll hB_3 (g := w.heap.size + 1) (by omega) [.bool m1, .slice o1 n1 c1]
  have fa_4 := fa_3.setAll pr_1 (noWord2 _ _ _ _) [.bool m1, .slice o1 n1 c1] rfl
  have fm_4 := fm_3.setAll pr_1 (noWord2 _ _ _ _) [.bool m1, .slice o1 n1 c1] rfl
  have pa_3 := pa_2.farAll (g' := w.heap.size + 1) (by omega) [.bool m1, .slice o1 n1 c1]
  have f1_1 := f1_0.setAll pr_1 (noWord2 _ _ _ _) [.bool m1, .slice o1 n1 c1] rfl
  have pr_2 := pr_1.setAll [.bool m1, .slice o1 n1 c1] rfl
  simp only [setAll, Nat.zero_add] at hB_4 fa_4 fm_4 pa_3 pr_2 f1_1
  clear hB_3 fa_3 fm_3 pa_2 f1_0 pr_1
  generalize (World.setCell (World.setCell w3 ⟨w.heap.size + 1, 0, none⟩ (.bool m1)) ⟨w.heap.size + 1, 1, none⟩ (.slice o1 n1 c1)) = w4 at *
  go_wp2
  obtain ⟨pre0, pre1, pre2, pre3⟩ := pr_2.open2
  exact bodyPost_ret (v := .agg #[.bool m1, .slice o1 n1 c1]) (by simp [results, Try.results38, go_sem, pre0, pre1]) rfl ⟨_, _, _, _, rfl, f1_1, hB_4⟩
theorem times_any (va vm : Value) (L M : Nat) (X : Int) (D : Nat) (w : World) (hL : L ≤ 2000000000) (hM : M ≤ 2000000000) (ha : Num w va L X) (hm : Mag w vm M D) :
    Calls Try.prog 38 #[va, vm] w fun e w' => AnsNum w w' e (L + M) (X * D) := by
  obtain ⟨bo, bn, bc, rfl⟩ := hm.slice
  have ha' := ha
  obtain ⟨m, va', N, rfl, h1, _⟩ := ha
  obtain ⟨ao, an, ac, rfl⟩ := h1.slice
  exact times_core _ _ _ _ _ _ _ L M X D w hL hM ha' hm
set_option maxHeartbeats 4000000 in
theorem lowest_one (am : Bool) (ao : Option Addr) (an ac : Nat) (bo : Option Addr) (bn bc : Nat) (L : Nat) (X : Int) (D : Nat) (w : World) (hL : L ≤ 2000000000) (fa_0 : RNum w (.agg #[.bool am, .slice ao an ac]) L X) (fd_0 : RMag w (.slice bo bn bc) L D) (h1 : D = 1) :
    Calls Try.prog 36 #[.agg #[.bool am, .slice ao an ac], .slice bo bn bc] w fun e w' => AnsF w w' e L (mkRat X D) := by
  have hB_0 := Below.refl w.heap.size w
  subst h1
  obtain ⟨w1, hw1, pa_0, hb1, hs1⟩ := new_box w (w.heap.size) rfl [.bool am, .slice ao an ac] 26
  have hb1' : Below w.heap.size w w1 := hb1.mono (by omega)
  clear hb1
  have hB_1 := hB_0.trans (hb1'.mono hB_0.size)
  have fa_1 := fa_0.below hb1'
  have fd_1 := fd_0.below hb1'
  clear hb1' hB_0 fa_0 fd_0
  obtain ⟨w2, hw2, pr_0, hb2, hs2⟩ := new_box w1 (w.heap.size + 1) hs1 [.bool false, .slice none 0 0, .slice none 0 0] 28
  have hb2' : Below w1.heap.size w1 w2 := hb2.mono (by omega)
  clear hb2
  have hB_2 := hB_1.trans (hb2'.mono hB_1.size)
  have fa_2 := fa_1.below hb2'
  have fd_2 := fd_1.below hb2'
  have pa_1 := pa_0.below hb2'
  clear hb2' hB_1 fa_1 fd_1 pa_0
  go_enter Try.func36, Try.ntmps36
  obtain ⟨pae0, pae1, pae2, pae3⟩ := pa_1.open2
  go_wp2_with fail
  have cc := Len_any _ L 1 _ (by omega) fd_2.mag
  rw [show ((bl 1 : Nat) : Int) = 1 from by unfold bl; decide] at cc
  refine cc.mono ?_
  clear cc
  rintro e w3 ⟨rfl, rfl⟩
  clear pae0 pae1 pae2 pae3
  obtain ⟨pae0, pae1, pae2, pae3⟩ := pa_1.open2
  obtain ⟨sf3a, sf3b, sf3c, sf3d, sf3e, sf3f⟩ := pr_0.open3
  obtain ⟨sg3a, sg3b, sg3c, sg3d⟩ := Box.put3 pr_0 (.bool am) (.slice ao an ac)
  go_wp2
  clear pae0 pae1 pae2 pae3 sf3a sf3b sf3c sf3d sf3e sf3f sg3a sg3b sg3c sg3d
  have hB_3 := below_setAll hB_2 (g := w.heap.size + 1) (by omega) [.bool am, .slice ao an ac, .slice bo bn bc]
  have fa_3 := fa_2.setAll pr_0 (noWord3 _ _ _ _ _ _ _) [.bool am, .slice ao an ac, .slice bo bn bc] rfl
  have fd_3 := fd_2.setAll pr_0 (noWord3 _ _ _ _ _ _ _) [.bool am, .slice ao an ac, .slice bo bn bc] rfl
  have pa_2 := pa_1.farAll (g' := w.heap.size + 1) (by omega) [.bool am, .slice ao an ac, .slice bo bn bc]
  have pr_1 := pr_0.setAll [.bool am, .slice ao an ac, .slice bo bn bc] rfl
  simp only [setAll, Nat.zero_add, Nat.reduceAdd] at hB_3 fa_3 fd_3 pa_2 pr_1
  clear hB_2 fa_2 fd_2 pa_1 pr_0
  generalize (World.setCell (World.setCell (World.setCell w2 ⟨w.heap.size + 1, 0, none⟩ (.bool am)) ⟨w.heap.size + 1, 1, none⟩ (.slice ao an ac)) ⟨w.heap.size + 1, 2, none⟩ (.slice bo bn bc)) = w4 at *
  go_wp2
  obtain ⟨pre0, pre1, pre2, pre3, pre4, pre5⟩ := pr_1.open3
  exact bodyPost_ret (v := .agg #[.bool am, .slice ao an ac, .slice bo bn bc]) (by simp [results, Try.results36, go_sem, pre0, pre1, pre2]) rfl ⟨_, _, _, _, _, _, _, rfl, low_one fa_3 fd_3, hB_3⟩
set_option maxHeartbeats 4000000 in
theorem lowest_lone (am : Bool) (ao : Option Addr) (an ac : Nat) (bo : Option Addr) (bn bc : Nat) (L : Nat) (X : Int) (D : Nat) (w : World) (hL : L ≤ 2000000000) (fa_0 : RNum w (.agg #[.bool am, .slice ao an ac]) L X) (fd_0 : RMag w (.slice bo bn bc) L D) (h0 : D ≠ 0) (h1 : D ≠ 1) (hg : Nat.gcd X.natAbs D = 1) :
    Calls Try.prog 36 #[.agg #[.bool am, .slice ao an ac], .slice bo bn bc] w fun e w' => AnsF w w' e L (mkRat X D) := by
  have hB_0 := Below.refl w.heap.size w
  obtain ⟨N, fn_0, rfl, h4⟩ := fa_0.part
  rw [sgn_natAbs] at hg
  have hz : (((bl D : Nat) : Int) == 1) = false := bl_ne_one h1
  obtain ⟨w1, hw1, pa_0, hb1, hs1⟩ := new_box w (w.heap.size) rfl [.bool am, .slice ao an ac] 26
  have hb1' : Below w.heap.size w w1 := hb1.mono (by omega)
  clear hb1
  have hB_1 := hB_0.trans (hb1'.mono hB_0.size)
  have fa_1 := fa_0.below hb1'
  have fd_1 := fd_0.below hb1'
  have fn_1 := fn_0.below hb1'
  clear hb1' hB_0 fa_0 fd_0 fn_0
  obtain ⟨w2, hw2, pr_0, hb2, hs2⟩ := new_box w1 (w.heap.size + 1) hs1 [.bool false, .slice none 0 0, .slice none 0 0] 28
  have hb2' : Below w1.heap.size w1 w2 := hb2.mono (by omega)
  clear hb2
  have hB_2 := hB_1.trans (hb2'.mono hB_1.size)
  have fa_2 := fa_1.below hb2'
  have fd_2 := fd_1.below hb2'
  have fn_2 := fn_1.below hb2'
  have pa_1 := pa_0.below hb2'
  clear hb2' hB_1 fa_1 fd_1 fn_1 pa_0
  go_enter Try.func36, Try.ntmps36
  obtain ⟨pae0, pae1, pae2, pae3⟩ := pa_1.open2
  go_wp2_with fail
  have cc := Len_any _ L D _ (by omega) fd_2.mag
  refine cc.mono ?_
  clear cc
  rintro e w3 ⟨rfl, rfl⟩
  clear pae0 pae1 pae2 pae3
  obtain ⟨pae0, pae1, pae2, pae3⟩ := pa_1.open2
  go_wp2_with fail
  refine (Gcd_any _ _ L L N D _ (by omega) (by omega) fn_2.mag fd_2.mag).mono ?_
  rintro e w4 ⟨v1, rfl, f1_0, hb4⟩
  clear pae0 pae1 pae2 pae3
  have hB_3 := hB_2.trans (hb4.mono hB_2.size)
  have fa_3 := fa_2.below hb4
  have fd_3 := fd_2.below hb4
  have fn_3 := fn_2.below hb4
  have pa_2 := pa_1.below hb4
  have pr_1 := pr_0.below hb4
  clear hb4 hB_2 fa_2 fd_2 fn_2 pa_1 pr_0
  obtain ⟨o1, n1, c1, rfl⟩ := f1_0.slice
  go_wp2_with fail
  have cc := Len_any _ (max L L) (Nat.gcd N D) _ (by omega) f1_0.mag
  rw [hg] at cc
  rw [show ((bl 1 : Nat) : Int) = 1 from by unfold bl; decide] at cc
  refine cc.mono ?_
  clear cc
  rintro e w5 ⟨rfl, rfl⟩
  obtain ⟨pae0, pae1, pae2, pae3⟩ := pa_2.open2
  obtain ⟨sf5a, sf5b, sf5c, sf5d, sf5e, sf5f⟩ := pr_1.open3
  obtain ⟨sg5a, sg5b, sg5c, sg5d⟩ := Box.put3 pr_1 (.bool am) (.slice ao an ac)
  go_wp2
  clear pae0 pae1 pae2 pae3 sf5a sf5b sf5c sf5d sf5e sf5f sg5a sg5b sg5c sg5d
  have hB_4 := below_setAll hB_3 (g := w.heap.size + 1) (by omega) [.bool am, .slice ao an ac, .slice bo bn bc]
  have fa_4 := fa_3.setAll pr_1 (noWord3 _ _ _ _ _ _ _) [.bool am, .slice ao an ac, .slice bo bn bc] rfl
  have fd_4 := fd_3.setAll pr_1 (noWord3 _ _ _ _ _ _ _) [.bool am, .slice ao an ac, .slice bo bn bc] rfl
  have fn_4 := fn_3.setAll pr_1 (noWord3 _ _ _ _ _ _ _) [.bool am, .slice ao an ac, .slice bo bn bc] rfl
  have pa_3 := pa_2.farAll (g' := w.heap.size + 1) (by omega) [.bool am, .slice ao an ac, .slice bo bn bc]
  have f1_1 := f1_0.setAll pr_1 (noWord3 _ _ _ _ _ _ _) [.bool am, .slice ao an ac, .slice bo bn bc] rfl
  have pr_2 := pr_1.setAll [.bool am, .slice ao an ac, .slice bo bn bc] rfl
  simp only [setAll, Nat.zero_add, Nat.reduceAdd] at hB_4 fa_4 fd_4 fn_4 pa_3 pr_2 f1_1
  clear hB_3 fa_3 fd_3 fn_3 pa_2 f1_0 pr_1
  generalize (World.setCell (World.setCell (World.setCell w4 ⟨w.heap.size + 1, 0, none⟩ (.bool am)) ⟨w.heap.size + 1, 1, none⟩ (.slice ao an ac)) ⟨w.heap.size + 1, 2, none⟩ (.slice bo bn bc)) = w6 at *
  go_wp2
  obtain ⟨pre0, pre1, pre2, pre3, pre4, pre5⟩ := pr_2.open3
  exact bodyPost_ret (v := .agg #[.bool am, .slice ao an ac, .slice bo bn bc]) (by simp [results, Try.results36, go_sem, pre0, pre1, pre2]) rfl ⟨_, _, _, _, _, _, _, rfl, low_lone h0 (by rw [sgn_natAbs]; exact hg) fa_4 fd_4, hB_4⟩
set_option maxHeartbeats 4000000 in
theorem lowest_more (am : Bool) (ao : Option Addr) (an ac : Nat) (bo : Option Addr) (bn bc : Nat) (L : Nat) (X : Int) (D : Nat) (w : World) (hL : L ≤ 2000000000) (fa_0 : RNum w (.agg #[.bool am, .slice ao an ac]) L X) (fd_0 : RMag w (.slice bo bn bc) L D) (h0 : D ≠ 0) (h1 : D ≠ 1) (hg : Nat.gcd X.natAbs D ≠ 1) :
    Calls Try.prog 36 #[.agg #[.bool am, .slice ao an ac], .slice bo bn bc] w fun e w' => AnsF w w' e L (mkRat X D) := by
  have hB_0 := Below.refl w.heap.size w
  obtain ⟨N, fn_0, rfl, h4⟩ := fa_0.part
  rw [sgn_natAbs] at hg
  have hz : (((bl D : Nat) : Int) == 1) = false := bl_ne_one h1
  have hk : (((bl (Nat.gcd N D) : Nat) : Int) == 1) = false := bl_ne_one hg
  obtain ⟨w1, hw1, pa_0, hb1, hs1⟩ := new_box w (w.heap.size) rfl [.bool am, .slice ao an ac] 26
  have hb1' : Below w.heap.size w w1 := hb1.mono (by omega)
  clear hb1
  have hB_1 := hB_0.trans (hb1'.mono hB_0.size)
  have fa_1 := fa_0.below hb1'
  have fd_1 := fd_0.below hb1'
  have fn_1 := fn_0.below hb1'
  clear hb1' hB_0 fa_0 fd_0 fn_0
  obtain ⟨w2, hw2, pr_0, hb2, hs2⟩ := new_box w1 (w.heap.size + 1) hs1 [.bool false, .slice none 0 0, .slice none 0 0] 28
  have hb2' : Below w1.heap.size w1 w2 := hb2.mono (by omega)
  clear hb2
  have hB_2 := hB_1.trans (hb2'.mono hB_1.size)
  have fa_2 := fa_1.below hb2'
  have fd_2 := fd_1.below hb2'
  have fn_2 := fn_1.below hb2'
  have pa_1 := pa_0.below hb2'
  clear hb2' hB_1 fa_1 fd_1 fn_1 pa_0
  go_enter Try.func36, Try.ntmps36
  obtain ⟨pae0, pae1, pae2, pae3⟩ := pa_1.open2
  go_wp2_with fail
  have cc := Len_any _ L D _ (by omega) fd_2.mag
  refine cc.mono ?_
  clear cc
  rintro e w3 ⟨rfl, rfl⟩
  clear pae0 pae1 pae2 pae3
  obtain ⟨pae0, pae1, pae2, pae3⟩ := pa_1.open2
  go_wp2_with fail
  refine (Gcd_any _ _ L L N D _ (by omega) (by omega) fn_2.mag fd_2.mag).mono ?_
  rintro e w4 ⟨v1, rfl, f1_0, hb4⟩
  clear pae0 pae1 pae2 pae3
  have hB_3 := hB_2.trans (hb4.mono hB_2.size)
  have fa_3 := fa_2.below hb4
  have fd_3 := fd_2.below hb4
  have fn_3 := fn_2.below hb4
  have pa_2 := pa_1.below hb4
  have pr_1 := pr_0.below hb4
  clear hb4 hB_2 fa_2 fd_2 fn_2 pa_1 pr_0
  obtain ⟨o1, n1, c1, rfl⟩ := f1_0.slice
  go_wp2_with fail
  have cc := Len_any _ (max L L) (Nat.gcd N D) _ (by omega) f1_0.mag
  refine cc.mono ?_
  clear cc
  rintro e w5 ⟨rfl, rfl⟩
  obtain ⟨pae0, pae1, pae2, pae3⟩ := pa_2.open2
  go_wp2_with fail
  refine (Div_any _ _ L (max L L) N (Nat.gcd N D) _ (by omega) (by omega) fn_3.mag f1_0.mag).mono ?_
  rintro e w6 ⟨v2, v3, rfl, f2_0, f3_0, hb6⟩
  clear pae0 pae1 pae2 pae3
  have hB_4 := hB_3.trans (hb6.mono hB_3.size)
  have fa_4 := fa_3.below hb6
  have fd_4 := fd_3.below hb6
  have fn_4 := fn_3.below hb6
  have pa_3 := pa_2.below hb6
  have pr_2 := pr_1.below hb6
  have f1_1 := f1_0.below hb6
  clear hb6 hB_3 fa_3 fd_3 fn_3 pa_2 pr_1 f1_0
  clear f3_0
  obtain ⟨o2, n2, c2, rfl⟩ := f2_0.slice
  obtain ⟨sf6a, sf6b, sf6c, sf6d⟩ := pa_3.open2
  go_wp2_with fail
  clear sf6a sf6b sf6c sf6d
  have hB_5 := hB_4.setCell (p := ⟨w.heap.size, 1, none⟩) (by simp only []; omega) (.slice o2 n2 c2)
  have fa_5 := fa_4.setOne pa_3.c1 (NoWord.slice _ _ _) (.slice o2 n2 c2)
  have fd_5 := fd_4.setOne pa_3.c1 (NoWord.slice _ _ _) (.slice o2 n2 c2)
  have fn_5 := fn_4.setOne pa_3.c1 (NoWord.slice _ _ _) (.slice o2 n2 c2)
  have pr_3 := pr_2.far (g' := w.heap.size) (by omega) 1 (.slice o2 n2 c2)
  have f1_2 := f1_1.setOne pa_3.c1 (NoWord.slice _ _ _) (.slice o2 n2 c2)
  have f2_1 := f2_0.setOne pa_3.c1 (NoWord.slice _ _ _) (.slice o2 n2 c2)
  have pa_4 : Box (World.setCell w6 ⟨w.heap.size, 1, none⟩ (.slice o2 n2 c2)) (w.heap.size) [.bool am, .slice o2 n2 c2] := pa_3.set 1 (.slice o2 n2 c2)
  clear hB_4 fa_4 fd_4 fn_4 pr_2 f1_1 f2_0 pa_3
  generalize (World.setCell w6 ⟨w.heap.size, 1, none⟩ (.slice o2 n2 c2)) = w7 at *
  go_wp2_with fail
  refine (Div_any _ _ L (max L L) D (Nat.gcd N D) _ (by omega) (by omega) fd_5.mag f1_2.mag).mono ?_
  rintro e w8 ⟨v4, v5, rfl, f4_0, f5_0, hb8⟩
  have hB_6 := hB_5.trans (hb8.mono hB_5.size)
  have fa_6 := fa_5.below hb8
  have fd_6 := fd_5.below hb8
  have fn_6 := fn_5.below hb8
  have pa_5 := pa_4.below hb8
  have pr_4 := pr_3.below hb8
  have f1_3 := f1_2.below hb8
  have f2_2 := f2_1.below hb8
  clear hb8 hB_5 fa_5 fd_5 fn_5 pa_4 pr_3 f1_2 f2_1
  clear f5_0
  obtain ⟨o4, n4, c4, rfl⟩ := f4_0.slice
  obtain ⟨pae0, pae1, pae2, pae3⟩ := pa_5.open2
  obtain ⟨sf8a, sf8b, sf8c, sf8d, sf8e, sf8f⟩ := pr_4.open3
  obtain ⟨sg8a, sg8b, sg8c, sg8d⟩ := Box.put3 pr_4 (.bool am) (.slice o2 n2 c2)
  go_wp2
  clear pae0 pae1 pae2 pae3 sf8a sf8b sf8c sf8d sf8e sf8f sg8a sg8b sg8c sg8d
  have hB_7 := below_setAll hB_6 (g := w.heap.size + 1) (by omega) [.bool am, .slice o2 n2 c2, .slice o4 n4 c4]
  have fa_7 := fa_6.setAll pr_4 (noWord3 _ _ _ _ _ _ _) [.bool am, .slice o2 n2 c2, .slice o4 n4 c4] rfl
  have fd_7 := fd_6.setAll pr_4 (noWord3 _ _ _ _ _ _ _) [.bool am, .slice o2 n2 c2, .slice o4 n4 c4] rfl
  have fn_7 := fn_6.setAll pr_4 (noWord3 _ _ _ _ _ _ _) [.bool am, .slice o2 n2 c2, .slice o4 n4 c4] rfl
  have pa_6 := pa_5.farAll (g' := w.heap.size + 1) (by omega) [.bool am, .slice o2 n2 c2, .slice o4 n4 c4]
  have f1_4 := f1_3.setAll pr_4 (noWord3 _ _ _ _ _ _ _) [.bool am, .slice o2 n2 c2, .slice o4 n4 c4] rfl
  have f2_3 := f2_2.setAll pr_4 (noWord3 _ _ _ _ _ _ _) [.bool am, .slice o2 n2 c2, .slice o4 n4 c4] rfl
  have f4_1 := f4_0.setAll pr_4 (noWord3 _ _ _ _ _ _ _) [.bool am, .slice o2 n2 c2, .slice o4 n4 c4] rfl
  have pr_5 := pr_4.setAll [.bool am, .slice o2 n2 c2, .slice o4 n4 c4] rfl
  simp only [setAll, Nat.zero_add, Nat.reduceAdd] at hB_7 fa_7 fd_7 fn_7 pa_6 pr_5 f1_4 f2_3 f4_1
  clear hB_6 fa_6 fd_6 fn_6 pa_5 f1_3 f2_2 f4_0 pr_4
  generalize (World.setCell (World.setCell (World.setCell w8 ⟨w.heap.size + 1, 0, none⟩ (.bool am)) ⟨w.heap.size + 1, 1, none⟩ (.slice o2 n2 c2)) ⟨w.heap.size + 1, 2, none⟩ (.slice o4 n4 c4)) = w9 at *
  go_wp2
  obtain ⟨pre0, pre1, pre2, pre3, pre4, pre5⟩ := pr_5.open3
  exact bodyPost_ret (v := .agg #[.bool am, .slice o2 n2 c2, .slice o4 n4 c4]) (by simp [results, Try.results36, go_sem, pre0, pre1, pre2]) rfl ⟨_, _, _, _, _, _, _, rfl, low_any h0 f2_3 h4 f4_1, hB_7⟩
theorem lowest_any (va vd : Value) (L : Nat) (X : Int) (D : Nat) (w : World) (hL : L ≤ 2000000000) (ha : RNum w va L X) (hd : RMag w vd L D) (h0 : D ≠ 0) :
    Calls Try.prog 36 #[va, vd] w fun e w' => AnsF w w' e L (mkRat X D) := by
  obtain ⟨bo, bn, bc, rfl⟩ := hd.slice
  have ha' := ha
  obtain ⟨m, va', N, rfl, h1, _⟩ := ha
  obtain ⟨ao, an, ac, rfl⟩ := h1.slice
  by_cases h1 : D = 1
  · exact lowest_one _ _ _ _ _ _ _ L X D w hL ha' hd h1
  · by_cases hg : Nat.gcd X.natAbs D = 1
    · exact lowest_lone _ _ _ _ _ _ _ L X D w hL ha' hd h0 h1 hg
    · exact lowest_more _ _ _ _ _ _ _ L X D w hL ha' hd h0 h1 hg
end Go.Proofs.Ytdfabocecpcmcaa
/- Rational numbers, on: sums, products, quotients, order, the greatest whole number below. Over no program. -/
namespace Go.MagM
open Go.RowKit
open Go.Proofs.Ytdfabocecpcmcaa (icmp icmp_lt icmp_gt icmp_self)
theorem den1_q (D : Nat) : (0 : Rat) < ((den1 D : Nat) : Rat) := Rat.natCast_pos.2 (den1_pos D)
theorem den1_q0 (D : Nat) : ((den1 D : Nat) : Rat) ≠ 0 := by have := den1_q D; grind
theorem qv_mul_den (X : Int) (D : Nat) : qv X D * ((den1 D : Nat) : Rat) = (X : Rat) := by rw [qv_eq]; exact Rat.div_mul_cancel (den1_q0 D)
theorem qv_add (X Y : Int) (D E : Nat) : mkRat (X * den1 E + Y * den1 D) (den1 D * den1 E) = qv X D + qv Y E := (Rat.mkRat_add_mkRat X Y (den1_ne D) (den1_ne E)).symm
theorem qv_mul (X Y : Int) (D E : Nat) : mkRat (X * Y) (den1 D * den1 E) = qv X D * qv Y E := (Rat.mkRat_mul_mkRat X Y _ _).symm
theorem qv_neg (X : Int) (D : Nat) : mkRat (-X) (den1 D) = -qv X D := (Rat.neg_mkRat X _).symm
theorem qv_neg' (X : Int) (D : Nat) : qv (-X) D = -qv X D := qv_neg X D
theorem mkRat_one_int (X : Int) : mkRat X 1 = (X : Rat) := by rw [Rat.mkRat_eq_div, Rat.div_def, show ((1 : Nat) : Rat)⁻¹ = 1 from Rat.inv_eq_of_mul_eq_one (Rat.mul_one 1), Rat.mul_one]
theorem qv_one (X : Int) : qv X 1 = (X : Rat) := mkRat_one_int X
theorem qv_num_lt {X Y : Int} {D E : Nat} : qv X D < qv Y E ↔ X * den1 E < Y * den1 D := by
  have h1 := qv_mul_den X D
  have h2 := qv_mul_den Y E
  have hD := den1_q D
  have hE := den1_q E
  have e1 : ((X * (den1 E : Nat) : Int) : Rat) = qv X D * (((den1 D : Nat) : Rat) * ((den1 E : Nat) : Rat)) := by
    rw [Rat.intCast_mul, ← h1, Rat.intCast_natCast, Rat.mul_assoc]
  have e2 : ((Y * (den1 D : Nat) : Int) : Rat) = qv Y E * (((den1 D : Nat) : Rat) * ((den1 E : Nat) : Rat)) := by
    rw [Rat.intCast_mul, ← h2, Rat.intCast_natCast, Rat.mul_assoc, Rat.mul_comm ((den1 E : Nat) : Rat)]
  rw [← Rat.intCast_lt_intCast, e1, e2, Rat.mul_lt_mul_right (Rat.mul_pos hD hE)]
/-- Less, the same, more: -1, 0, 1. -/
def qcmp (p q : Rat) : Int := if p < q then -1 else if q < p then 1 else 0
theorem icmp_q (X Y : Int) (D E : Nat) : icmp (X * den1 E) (Y * den1 D) = qcmp (qv X D) (qv Y E) := by
  unfold icmp qcmp
  simp only [qv_num_lt]
theorem qcmp_lt {p q : Rat} (h : p < q) : qcmp p q = -1 := if_pos h
theorem qcmp_gt {p q : Rat} (h : q < p) : qcmp p q = 1 := by
  have : ¬ p < q := by grind
  unfold qcmp; rw [if_neg this, if_pos h]
theorem qcmp_self (p : Rat) : qcmp p p = 0 := by
  have : ¬ p < p := Rat.lt_irrefl
  unfold qcmp; rw [if_neg this, if_neg this]
theorem qcmp_zero {p q : Rat} : qcmp p q = 0 ↔ p = q := by
  constructor
  · intro h
    unfold qcmp at h
    split at h
    · omega
    · split at h
      · omega
      · grind
  · intro h; subst h; exact qcmp_self _
theorem sign_den (X : Int) (E : Nat) : (X * (den1 E : Nat)).sign = X.sign := by
  rw [Int.sign_mul, Int.sign_natCast_of_ne_zero (den1_ne E), Int.mul_one]
theorem icmp_sign {x y : Int} (h : x.sign ≠ y.sign) : icmp x.sign y.sign = icmp x y := by
  rcases Int.lt_trichotomy x 0 with a | a | a <;> rcases Int.lt_trichotomy y 0 with b | b | b
  · exact absurd ((Int.sign_eq_neg_one_of_neg a).trans (Int.sign_eq_neg_one_of_neg b).symm) h
  · subst b; rw [Int.sign_eq_neg_one_of_neg a, icmp_lt a]; rfl
  · rw [Int.sign_eq_neg_one_of_neg a, Int.sign_eq_one_of_pos b, icmp_lt (by omega : x < y)]; rfl
  · subst a; rw [Int.sign_eq_neg_one_of_neg b, icmp_gt b]; rfl
  · subst a; subst b; exact absurd rfl h
  · subst a; rw [Int.sign_eq_one_of_pos b, icmp_lt b]; rfl
  · rw [Int.sign_eq_one_of_pos a, Int.sign_eq_neg_one_of_neg b, icmp_gt (by omega : y < x)]; rfl
  · subst b; rw [Int.sign_eq_one_of_pos a, icmp_gt a]; rfl
  · exact absurd ((Int.sign_eq_one_of_pos a).trans (Int.sign_eq_one_of_pos b).symm) h
theorem icmp_sign_q (X Y : Int) (D E : Nat) (h : X.sign ≠ Y.sign) : icmp X.sign Y.sign = qcmp (qv X D) (qv Y E) := by
  rw [← icmp_q, ← sign_den X E, ← sign_den Y D]
  exact icmp_sign (by rw [sign_den, sign_den]; exact h)
theorem sgn_zero {m : Bool} {N : Nat} (h : sgn m N ≠ 0) : N ≠ 0 := by
  intro e; subst e; apply h; cases m <;> rfl
theorem sgn_ne {m : Bool} {N : Nat} (h : N ≠ 0) : sgn m N ≠ 0 := by
  cases m <;> simp only [sgn, if_true, if_false, Bool.false_eq_true] <;> omega
theorem qv_ne {X : Int} {D : Nat} (h : X ≠ 0) : qv X D ≠ 0 := (Rat.mkRat_ne_zero (den1_ne D)).2 h
theorem qv_zero (D : Nat) : qv 0 D = 0 := Rat.zero_mkRat _
/-- What a number is turned into, to divide by it. -/
theorem qv_over (m : Bool) (N E : Nat) (h : N ≠ 0) : qv (sgn m (den1 E)) N = (qv (sgn m N) E)⁻¹ := by
  symm
  apply Rat.inv_eq_of_mul_eq_one
  rw [← qv_mul, ← sgn_mul, den1_of h]
  have e : (m != m) = false := by cases m <;> rfl
  rw [e, sgn_false, Nat.mul_comm (den1 E) N, Rat.mkRat_eq_div, Rat.intCast_natCast]
  exact (Rat.div_def _ _).trans (Rat.mul_inv_cancel _ (by
    have : N * den1 E ≠ 0 := Nat.mul_ne_zero h (den1_ne E)
    intro e; exact this (Rat.natCast_eq_zero_iff.1 e)))
theorem qv_div (X : Int) (D : Nat) (m : Bool) (N E : Nat) (h : N ≠ 0) : qv X D * qv (sgn m (den1 E)) N = qv X D / qv (sgn m N) E := by
  rw [qv_over m N E h, Rat.div_def]
theorem make_eq (m k : Bool) (N M : Nat) (h : M ≠ 0) : mkRat (sgn (m != k) N) M = ((sgn m N : Int) : Rat) / ((sgn k M : Int) : Rat) := by
  have h1 := qv_div (sgn m N) 1 k M 1 h
  rw [qv_one, qv_one, show den1 1 = 1 from rfl] at h1
  rw [← h1]
  have h2 : (sgn m N) * (sgn k 1) = sgn (m != k) (N * 1) := (sgn_mul m k N 1).symm
  rw [← qv_one (sgn m N), ← qv_mul, h2, Nat.mul_one, show den1 1 = 1 from rfl, Nat.one_mul, den1_of h]
/-- The greatest whole number that isn't above. -/
theorem qv_floor (X : Int) (D : Nat) : (qv X D).floor = X.fdiv (den1 D : Nat) := by
  have hD := den1_q D
  have hp : (0 : Int) < (den1 D : Nat) := by have := den1_pos D; omega
  have key : ∀ n : Int, n ≤ (qv X D).floor ↔ n ≤ X.fdiv (den1 D : Nat) := by
    intro n
    rw [Rat.le_floor_iff, Int.fdiv_eq_ediv_of_nonneg _ (Int.natCast_nonneg _), Int.le_ediv_iff_mul_le hp, ← Rat.intCast_le_intCast]
    have e : ((n * (den1 D : Nat) : Int) : Rat) = (n : Rat) * ((den1 D : Nat) : Rat) := by rw [Rat.intCast_mul, Rat.intCast_natCast]
    have e2 := qv_mul_den X D
    generalize ((den1 D : Nat) : Rat) = d at *
    generalize qv X D = x at *
    rw [e, ← e2]
    exact ⟨fun h => Rat.mul_le_mul_of_nonneg_right h (Rat.le_of_lt hD), fun h => Rat.le_of_mul_le_mul_right h hD⟩
  exact Int.le_antisymm ((key _).1 (Int.le_refl _)) ((key _).2 (Int.le_refl _))
/-- The nearest whole number; of two the even one. -/
def rnd (q : Rat) : Int := if 2 * (q - q.floor) < 1 ∨ (2 * (q - q.floor) = 1 ∧ q.floor % 2 = 0) then q.floor else q.floor + 1
end Go.MagM
/- The statement NumDivs, walked. -/
namespace Go.Proofs.Ytdfabocecpcmcaa
open Go.RowKit Go.MagM
theorem nCmp_even (va vb : Value) (L L' : Nat) (X Y : Int) (w : World) (hL : L ≤ 4000000000) (hL' : L' ≤ 4000000000) (ha : Num w va L X) (hb : Num w vb L' Y) (h : X = Y) :
    Calls Try.prog 48 #[va, vb] w fun e w' => e = .returned (.int .i64 0) ∧ Below w.heap.size w w' := by
  have := nCmp_any va vb L L' X Y w hL hL' ha hb
  rw [h, icmp_self] at this; exact this
theorem nCmp_less (va vb : Value) (L L' : Nat) (X Y : Int) (w : World) (hL : L ≤ 4000000000) (hL' : L' ≤ 4000000000) (ha : Num w va L X) (hb : Num w vb L' Y) (h : X < Y) :
    Calls Try.prog 48 #[va, vb] w fun e w' => e = .returned (.int .i64 (-1)) ∧ Below w.heap.size w w' := by
  have := nCmp_any va vb L L' X Y w hL hL' ha hb
  rw [icmp_lt h] at this; exact this
theorem nCmp_more (va vb : Value) (L L' : Nat) (X Y : Int) (w : World) (hL : L ≤ 4000000000) (hL' : L' ≤ 4000000000) (ha : Num w va L X) (hb : Num w vb L' Y) (h : Y < X) :
    Calls Try.prog 48 #[va, vb] w fun e w' => e = .returned (.int .i64 1) ∧ Below w.heap.size w w' := by
  have := nCmp_any va vb L L' X Y w hL hL' ha hb
  rw [icmp_gt h] at this; exact this
theorem Sign_is (va : Value) (L : Nat) (X s : Int) (w : World) (hL : L ≤ 4000000000) (ha : Num w va L X) (h : X.sign = s) :
    Calls Try.prog 41 #[va] w fun e w' => e = .returned (.int .i64 s) ∧ Below w.heap.size w w' := by
  have := Sign_any va L X w hL ha
  rw [h] at this; exact this
theorem fmod_sign {X Y : Int} (h : Y ≠ 0) (h0 : X.fmod Y ≠ 0) : (X.fmod Y).sign = Y.sign := by
  rcases Int.lt_or_gt_of_ne h with hy | hy
  · have := (Int.fdiv_fmod_unique' (a := X) (r := X.fmod Y) (q := X.fdiv Y) hy).1 ⟨rfl, rfl⟩
    rw [Int.sign_eq_neg_one_of_neg hy, Int.sign_eq_neg_one_of_neg (by omega)]
  · have := (Int.fdiv_fmod_unique (a := X) (r := X.fmod Y) (q := X.fdiv Y) hy).1 ⟨rfl, rfl⟩
    rw [Int.sign_eq_one_of_pos hy, Int.sign_eq_one_of_pos (by omega)]
theorem fmod_abs {X Y : Int} (h : Y ≠ 0) : ((X.fmod Y).natAbs : Int) < (Y.natAbs : Int) := by
  rcases Int.lt_or_gt_of_ne h with hy | hy
  · have := (Int.fdiv_fmod_unique' (a := X) (r := X.fmod Y) (q := X.fdiv Y) hy).1 ⟨rfl, rfl⟩
    omega
  · have := (Int.fdiv_fmod_unique (a := X) (r := X.fmod Y) (q := X.fdiv Y) hy).1 ⟨rfl, rfl⟩
    omega
theorem sign_ne {X : Int} (h : X ≠ 0) : (X.sign == 0) = false := by
  rcases Int.lt_or_gt_of_ne h with hy | hy
  · rw [Int.sign_eq_neg_one_of_neg hy]; rfl
  · rw [Int.sign_eq_one_of_pos hy]; rfl
end Go.Proofs.Ytdfabocecpcmcaa
/- The statement NumOrders, walked. -/
namespace Go.Proofs.Ytdfabocecpcmcaa
open Go.RowKit Go.MagM
theorem icmp_sub (X Y : Int) : (X - Y).sign = icmp X Y := by
  rcases Int.lt_trichotomy X Y with h | h | h
  · rw [icmp_lt h, Int.sign_eq_neg_one_of_neg (by omega)]
  · rw [h, icmp_self, Int.sub_self, Int.sign_zero]
  · rw [icmp_gt h, Int.sign_eq_one_of_pos (by omega)]
theorem icmp_flip (X Y : Int) : icmp Y X = -icmp X Y := by
  rcases Int.lt_trichotomy X Y with h | h | h
  · rw [icmp_lt h, icmp_gt h]; rfl
  · rw [h, icmp_self]; rfl
  · rw [icmp_gt h, icmp_lt h]
theorem icmp_add (X Y Z : Int) : icmp (X + Z) (Y + Z) = icmp X Y := by
  rcases Int.lt_trichotomy X Y with h | h | h
  · rw [icmp_lt h, icmp_lt (by omega)]
  · rw [h, icmp_self, icmp_self]
  · rw [icmp_gt h, icmp_gt (by omega)]
theorem icmp_three (X Y : Int) : icmp X Y = -1 ∨ icmp X Y = 0 ∨ icmp X Y = 1 := by have := icmp_bd X Y; omega
theorem icmp_ge {X Y : Int} : icmp X Y = 0 ∨ icmp X Y = 1 → Y ≤ X := by
  intro h
  rcases Int.lt_trichotomy X Y with g | g | g
  · rw [icmp_lt g] at h; omega
  · omega
  · omega
theorem ge_icmp {X Y : Int} (h : Y ≤ X) : 0 ≤ icmp X Y := by
  rcases Int.lt_or_eq_of_le h with g | g
  · rw [icmp_gt g]; omega
  · rw [g, icmp_self]; omega
theorem nCmp_is (va vb : Value) (L L' : Nat) (X Y c : Int) (w : World) (hL : L ≤ 4000000000) (hL' : L' ≤ 4000000000) (ha : Num w va L X) (hb : Num w vb L' Y) (h : icmp X Y = c) :
    Calls Try.prog 48 #[va, vb] w fun e w' => e = .returned (.int .i64 c) ∧ Below w.heap.size w w' := by
  have := nCmp_any va vb L L' X Y w hL hL' ha hb
  rw [h] at this; exact this
theorem num_parts {w : World} {m : Bool} {vm : Value} {L : Nat} {X : Int} (h : Num w (.agg #[.bool m, vm]) L X) : ∃ N, Mag w vm L N ∧ X = sgn m N := by
  obtain ⟨m', vm', N, he, hm, hx⟩ := h
  simp at he
  obtain ⟨rfl, rfl⟩ := he
  exact ⟨N, hm, hx⟩
end Go.Proofs.Ytdfabocecpcmcaa
/- The calls of frac, on: Of, Whole, Make, Sign, Cmp, Same, Neg, Add, Sub, Mul, Div. -/
namespace Go.Proofs.Ytdfabocecpcmcaa
open Go.RowKit Go.MagM
theorem mOf_any (x : Nat) (w : World) (hx : x < B) : Calls Try.prog 51 #[.int .u64 x] w fun e w' => AnsRMag w w' e 1 x :=
  (Of_any x w hx).mono fun _ _ h => AnsRMag.of h
theorem one_any (w : World) : Calls Try.prog 51 #[.int .u64 1] w fun e w' => AnsRMag w w' e 1 1 := mOf_any 1 w (by unfold B; omega)
theorem mMul_any (va vb : Value) (L M X Y : Nat) (w : World) (hL : L ≤ 4000000000) (hM : M ≤ 4000000000) (ha : Mag w va L X) (hb : Mag w vb M Y) : Calls Try.prog 39 #[va, vb] w fun e w' => AnsRMag w w' e (L + M) (X * Y) :=
  (Mul_any va vb L M X Y w hL hM ha hb).mono fun _ _ h => AnsRMag.of h
theorem cmp_is (x y c : Int) (w : World) (h : icmp x y = c) : Calls Try.prog 47 #[.int .i64 x, .int .i64 y] w fun e w' => e = .returned (.int .i64 c) ∧ Below w.heap.size w w' :=
  (cmp_Int x y w).mono fun e w' ⟨h1, h2⟩ => ⟨by rw [h1, h], by subst h2; exact Below.refl _ _⟩
theorem RF.whole {w : World} {m : Bool} {ao bo : Option Addr} {n c k d L M : Nat} {X : Int} (h1 : RNum w (.agg #[.bool m, .slice ao n c]) L X) (h2 : RMag w (.slice bo k d) M 1) (hM : M ≤ L) :
    RF w (.agg #[.bool m, .slice ao n c, .slice bo k d]) L (X : Rat) := by
  have h := low_one h1 (h2.more hM)
  rw [mkRat_one_int] at h; exact h
set_option maxHeartbeats 4000000 in
theorem fOf_any (n : Int) (h1 : -9223372036854775808 ≤ n) (h2 : n < 9223372036854775808) (w : World) :
    Calls Try.prog 29 #[.int .i64 n] w fun e w' => AnsF w w' e 1 (n : Rat) := by
  have hB_0 := Below.refl w.heap.size w
  obtain ⟨w1, hw1, pr_0, hb1, hs1⟩ := new_box w (w.heap.size) rfl [.bool false, .slice none 0 0, .slice none 0 0] 28
  have hb1' : Below w.heap.size w w1 := hb1.mono (by omega)
  clear hb1
  have hB_1 := hB_0.trans (hb1'.mono hB_0.size)
  clear hb1' hB_0
  go_enter Try.func29, Try.ntmps29
  go_wp2_with fail
  refine (nOf_any n h1 h2 _).mono ?_
  rintro e w2 ⟨m1, o1, n1, c1, rfl, f1_0, hb2⟩
  have hB_2 := hB_1.trans (hb2.mono hB_1.size)
  have pr_1 := pr_0.below hb2
  clear hb2 hB_1 pr_0
  go_wp2_with fail
  refine (one_any _).mono ?_
  rintro e w3 ⟨o2, n2, c2, rfl, f2_0, hb3⟩
  have hB_3 := hB_2.trans (hb3.mono hB_2.size)
  have pr_2 := pr_1.below hb3
  have f1_1 := f1_0.below hb3
  clear hb3 hB_2 pr_1 f1_0
  obtain ⟨sf3a, sf3b, sf3c, sf3d, sf3e, sf3f⟩ := pr_2.open3
  obtain ⟨sg3a, sg3b, sg3c, sg3d⟩ := Box.put3 pr_2 (.bool m1) (.slice o1 n1 c1)
  go_wp2
  clear sf3a sf3b sf3c sf3d sf3e sf3f sg3a sg3b sg3c sg3d
  have hB_4 := below_setAll hB_3 (g := w.heap.size) (by omega) [.bool m1, .slice o1 n1 c1, .slice o2 n2 c2]
  have f1_2 := f1_1.setAll pr_2 (noWord3 _ _ _ _ _ _ _) [.bool m1, .slice o1 n1 c1, .slice o2 n2 c2] rfl
  have f2_1 := f2_0.setAll pr_2 (noWord3 _ _ _ _ _ _ _) [.bool m1, .slice o1 n1 c1, .slice o2 n2 c2] rfl
  have pr_3 := pr_2.setAll [.bool m1, .slice o1 n1 c1, .slice o2 n2 c2] rfl
  simp only [setAll, Nat.zero_add, Nat.reduceAdd] at hB_4 pr_3 f1_2 f2_1
  clear hB_3 f1_1 f2_0 pr_2
  generalize (World.setCell (World.setCell (World.setCell w3 ⟨w.heap.size, 0, none⟩ (.bool m1)) ⟨w.heap.size, 1, none⟩ (.slice o1 n1 c1)) ⟨w.heap.size, 2, none⟩ (.slice o2 n2 c2)) = w4 at *
  go_wp2
  obtain ⟨pre0, pre1, pre2, pre3, pre4, pre5⟩ := pr_3.open3
  exact bodyPost_ret (v := .agg #[.bool m1, .slice o1 n1 c1, .slice o2 n2 c2]) (by simp [results, Try.results29, go_sem, pre0, pre1, pre2]) rfl ⟨_, _, _, _, _, _, _, rfl, RF.whole f1_2 f2_1 (by omega), hB_4⟩
set_option maxHeartbeats 4000000 in
theorem fSign_core (am : Bool) (ao : Option Addr) (an ac : Nat) (ap : Option Addr) (ak ad : Nat) (L : Nat) (X s : Int) (D : Nat) (w : World) (hL : L ≤ 4000000000) (fa_0 : FD w (.agg #[.bool am, .slice ao an ac, .slice ap ak ad]) L X D) (h : X.sign = s) :
    Calls Try.prog 18 #[.agg #[.bool am, .slice ao an ac, .slice ap ak ad]] w fun e w' => e = .returned (.int .i64 s) ∧ Below w.heap.size w w' := by
  have hB_0 := Below.refl w.heap.size w
  obtain ⟨w1, hw1, pa_0, hb1, hs1⟩ := new_box w (w.heap.size) rfl [.bool am, .slice ao an ac, .slice ap ak ad] 28
  have hb1' : Below w.heap.size w w1 := hb1.mono (by omega)
  clear hb1
  have hB_1 := hB_0.trans (hb1'.mono hB_0.size)
  have fa_1 := fa_0.below hb1'
  clear hb1' hB_0 fa_0
  go_enter Try.func18, Try.ntmps18
  obtain ⟨pae0, pae1, pae2, pae3, pae4, pae5⟩ := pa_0.open3
  go_wp2_with fail
  refine (Sign_is _ L X s _ (by omega) fa_1.num h).mono ?_
  rintro e w2 ⟨rfl, hb2⟩
  clear pae0 pae1 pae2 pae3 pae4 pae5
  have hB_2 := hB_1.trans (hb2.mono hB_1.size)
  have fa_2 := fa_1.below hb2
  have pa_1 := pa_0.below hb2
  clear hb2 hB_1 fa_1 pa_0
  obtain ⟨pae0, pae1, pae2, pae3, pae4, pae5⟩ := pa_1.open3
  go_wp2
  go_ret
  exact ⟨rfl, hB_2⟩
theorem fSign_is (va : Value) (L : Nat) (X s : Int) (D : Nat) (w : World) (hL : L ≤ 4000000000) (ha : FD w va L X D) (h : X.sign = s) : Calls Try.prog 18 #[va] w fun e w' => e = .returned (.int .i64 s) ∧ Below w.heap.size w w' := by
  have ha' := ha
  obtain ⟨_, _, _, _, _, _, _, rfl, _, _⟩ := ha
  exact fSign_core _ _ _ _ _ _ _ L X s D w hL ha' h
set_option maxHeartbeats 4000000 in
theorem fCmp_ne (am : Bool) (ao : Option Addr) (an ac : Nat) (ap : Option Addr) (ak ad : Nat) (bm : Bool) (bo : Option Addr) (bn bc : Nat) (bp : Option Addr) (bk bd : Nat) (L M : Nat) (X Y : Int) (D E : Nat) (w : World) (hL : L ≤ 500000000) (hM : M ≤ 500000000) (fa_0 : FD w (.agg #[.bool am, .slice ao an ac, .slice ap ak ad]) L X D) (fb_0 : FD w (.agg #[.bool bm, .slice bo bn bc, .slice bp bk bd]) M Y E) (c : Int) (h : X.sign ≠ Y.sign) (hc : qcmp (qv X D) (qv Y E) = c) :
    Calls Try.prog 26 #[.agg #[.bool am, .slice ao an ac, .slice ap ak ad], .agg #[.bool bm, .slice bo bn bc, .slice bp bk bd]] w fun e w' => e = .returned (.int .i64 c) ∧ Below w.heap.size w w' := by
  have hB_0 := Below.refl w.heap.size w
  obtain ⟨s, hs⟩ : ∃ s, X.sign = s := ⟨_, rfl⟩
  obtain ⟨t, ht⟩ : ∃ t, Y.sign = t := ⟨_, rfl⟩
  have hst : (s != t) = true := by simp; omega
  obtain ⟨w1, hw1, pa_0, hb1, hs1⟩ := new_box w (w.heap.size) rfl [.bool am, .slice ao an ac, .slice ap ak ad] 28
  have hb1' : Below w.heap.size w w1 := hb1.mono (by omega)
  clear hb1
  have hB_1 := hB_0.trans (hb1'.mono hB_0.size)
  have fa_1 := fa_0.below hb1'
  have fb_1 := fb_0.below hb1'
  clear hb1' hB_0 fa_0 fb_0
  obtain ⟨w2, hw2, pb_0, hb2, hs2⟩ := new_box w1 (w.heap.size + 1) hs1 [.bool bm, .slice bo bn bc, .slice bp bk bd] 28
  have hb2' : Below w1.heap.size w1 w2 := hb2.mono (by omega)
  clear hb2
  have hB_2 := hB_1.trans (hb2'.mono hB_1.size)
  have fa_2 := fa_1.below hb2'
  have fb_2 := fb_1.below hb2'
  have pa_1 := pa_0.below hb2'
  clear hb2' hB_1 fa_1 fb_1 pa_0
  go_enter Try.func26, Try.ntmps26
  obtain ⟨pae0, pae1, pae2, pae3, pae4, pae5⟩ := pa_1.open3
  go_wp2_with fail
  refine (fSign_is _ L X s D _ (by omega) fa_2 hs).mono ?_
  rintro e w3 ⟨rfl, hb3⟩
  clear pae0 pae1 pae2 pae3 pae4 pae5
  have hB_3 := hB_2.trans (hb3.mono hB_2.size)
  have fa_3 := fa_2.below hb3
  have fb_3 := fb_2.below hb3
  have pa_2 := pa_1.below hb3
  have pb_1 := pb_0.below hb3
  clear hb3 hB_2 fa_2 fb_2 pa_1 pb_0
  obtain ⟨pae0, pae1, pae2, pae3, pae4, pae5⟩ := pa_2.open3
  clear pae0 pae1 pae2 pae3 pae4 pae5
  obtain ⟨pbe0, pbe1, pbe2, pbe3, pbe4, pbe5⟩ := pb_1.open3
  go_wp2_with fail
  refine (fSign_is _ M Y t E _ (by omega) fb_3 ht).mono ?_
  rintro e w4 ⟨rfl, hb4⟩
  clear pbe0 pbe1 pbe2 pbe3 pbe4 pbe5
  have hB_4 := hB_3.trans (hb4.mono hB_3.size)
  have fa_4 := fa_3.below hb4
  have fb_4 := fb_3.below hb4
  have pa_3 := pa_2.below hb4
  have pb_2 := pb_1.below hb4
  clear hb4 hB_3 fa_3 fb_3 pa_2 pb_1
  obtain ⟨pbe0, pbe1, pbe2, pbe3, pbe4, pbe5⟩ := pb_2.open3
  clear pbe0 pbe1 pbe2 pbe3 pbe4 pbe5
  obtain ⟨pbe0, pbe1, pbe2, pbe3, pbe4, pbe5⟩ := pb_2.open3
  go_wp2_with fail
  refine (fSign_is _ M Y t E _ (by omega) fb_4 ht).mono ?_
  rintro e w5 ⟨rfl, hb5⟩
  clear pbe0 pbe1 pbe2 pbe3 pbe4 pbe5
  have hB_5 := hB_4.trans (hb5.mono hB_4.size)
  have fa_5 := fa_4.below hb5
  have fb_5 := fb_4.below hb5
  have pa_4 := pa_3.below hb5
  have pb_3 := pb_2.below hb5
  clear hb5 hB_4 fa_4 fb_4 pa_3 pb_2
  obtain ⟨pbe0, pbe1, pbe2, pbe3, pbe4, pbe5⟩ := pb_3.open3
  go_wp2_with fail
  refine (cmp_is s t c _ (by rw [← hs, ← ht, icmp_sign_q _ _ D E h]; exact hc)).mono ?_
  rintro e w6 ⟨rfl, hb6⟩
  clear pbe0 pbe1 pbe2 pbe3 pbe4 pbe5
  have hB_6 := hB_5.trans (hb6.mono hB_5.size)
  have fa_6 := fa_5.below hb6
  have fb_6 := fb_5.below hb6
  have pa_5 := pa_4.below hb6
  have pb_4 := pb_3.below hb6
  clear hb6 hB_5 fa_5 fb_5 pa_4 pb_3
  obtain ⟨pbe0, pbe1, pbe2, pbe3, pbe4, pbe5⟩ := pb_4.open3
  go_wp2
  go_ret
  exact ⟨rfl, hB_6⟩
set_option maxHeartbeats 4000000 in
theorem fCmp_eq (am : Bool) (ao : Option Addr) (an ac : Nat) (ap : Option Addr) (ak ad : Nat) (bm : Bool) (bo : Option Addr) (bn bc : Nat) (bp : Option Addr) (bk bd : Nat) (L M : Nat) (X Y : Int) (D E : Nat) (w : World) (hL : L ≤ 500000000) (hM : M ≤ 500000000) (fa_0 : FD w (.agg #[.bool am, .slice ao an ac, .slice ap ak ad]) L X D) (fb_0 : FD w (.agg #[.bool bm, .slice bo bn bc, .slice bp bk bd]) M Y E) (c : Int) (h : X.sign = Y.sign) (hc : qcmp (qv X D) (qv Y E) = c) :
    Calls Try.prog 26 #[.agg #[.bool am, .slice ao an ac, .slice ap ak ad], .agg #[.bool bm, .slice bo bn bc, .slice bp bk bd]] w fun e w' => e = .returned (.int .i64 c) ∧ Below w.heap.size w w' := by
  have hB_0 := Below.refl w.heap.size w
  obtain ⟨s, hs⟩ : ∃ s, X.sign = s := ⟨_, rfl⟩
  obtain ⟨t, ht⟩ : ∃ t, Y.sign = t := ⟨_, rfl⟩
  have hst : (s != t) = false := by simp; omega
  obtain ⟨w1, hw1, pa_0, hb1, hs1⟩ := new_box w (w.heap.size) rfl [.bool am, .slice ao an ac, .slice ap ak ad] 28
  have hb1' : Below w.heap.size w w1 := hb1.mono (by omega)
  clear hb1
  have hB_1 := hB_0.trans (hb1'.mono hB_0.size)
  have fa_1 := fa_0.below hb1'
  have fb_1 := fb_0.below hb1'
  clear hb1' hB_0 fa_0 fb_0
  obtain ⟨w2, hw2, pb_0, hb2, hs2⟩ := new_box w1 (w.heap.size + 1) hs1 [.bool bm, .slice bo bn bc, .slice bp bk bd] 28
  have hb2' : Below w1.heap.size w1 w2 := hb2.mono (by omega)
  clear hb2
  have hB_2 := hB_1.trans (hb2'.mono hB_1.size)
  have fa_2 := fa_1.below hb2'
  have fb_2 := fb_1.below hb2'
  have pa_1 := pa_0.below hb2'
  clear hb2' hB_1 fa_1 fb_1 pa_0
  go_enter Try.func26, Try.ntmps26
  obtain ⟨pae0, pae1, pae2, pae3, pae4, pae5⟩ := pa_1.open3
  go_wp2_with fail
  refine (fSign_is _ L X s D _ (by omega) fa_2 hs).mono ?_
  rintro e w3 ⟨rfl, hb3⟩
  clear pae0 pae1 pae2 pae3 pae4 pae5
  have hB_3 := hB_2.trans (hb3.mono hB_2.size)
  have fa_3 := fa_2.below hb3
  have fb_3 := fb_2.below hb3
  have pa_2 := pa_1.below hb3
  have pb_1 := pb_0.below hb3
  clear hb3 hB_2 fa_2 fb_2 pa_1 pb_0
  obtain ⟨pae0, pae1, pae2, pae3, pae4, pae5⟩ := pa_2.open3
  clear pae0 pae1 pae2 pae3 pae4 pae5
  obtain ⟨pbe0, pbe1, pbe2, pbe3, pbe4, pbe5⟩ := pb_1.open3
  go_wp2_with fail
  refine (fSign_is _ M Y t E _ (by omega) fb_3 ht).mono ?_
  rintro e w4 ⟨rfl, hb4⟩
  clear pbe0 pbe1 pbe2 pbe3 pbe4 pbe5
  have hB_4 := hB_3.trans (hb4.mono hB_3.size)
  have fa_4 := fa_3.below hb4
  have fb_4 := fb_3.below hb4
  have pa_3 := pa_2.below hb4
  have pb_2 := pb_1.below hb4
  clear hb4 hB_3 fa_3 fb_3 pa_2 pb_1
  obtain ⟨pbe0, pbe1, pbe2, pbe3, pbe4, pbe5⟩ := pb_2.open3
  go_wp2
  clear pbe0 pbe1 pbe2 pbe3 pbe4 pbe5
  have hB_5 := hB_4.drew'
  have fa_5 := fa_4.drew
  have fb_5 := fb_4.drew
  have pa_4 := pa_3.drew
  have pb_3 := pb_2.drew
  clear hB_4 fa_4 fb_4 pa_3 pb_2
  go_region_held3 (fun w' => w'.cell? ⟨w.heap.size, 0, none⟩ = some (.bool am) ∧ w'.cell? ⟨w.heap.size, 1, none⟩ = some (.slice ao an ac) ∧ w'.cell? ⟨w.heap.size, 2, none⟩ = some (.slice ap ak ad) ∧ w'.cell? ⟨w.heap.size + 1, 0, none⟩ = some (.bool bm) ∧ w'.cell? ⟨w.heap.size + 1, 1, none⟩ = some (.slice bo bn bc) ∧ w'.cell? ⟨w.heap.size + 1, 2, none⟩ = some (.slice bp bk bd))
    (first | with_reducible exact ⟨pa_4.c0, pa_4.c1, pa_4.c2, pb_3.c0, pb_3.c1, pb_3.c2⟩ | with_reducible exact ⟨pa_5.c0, pa_5.c1, pa_5.c2, pb_4.c0, pb_4.c1, pb_4.c2⟩ | with_reducible exact ⟨pa_6.c0, pa_6.c1, pa_6.c2, pb_5.c0, pb_5.c1, pb_5.c2⟩ | with_reducible exact ⟨pa_7.c0, pa_7.c1, pa_7.c2, pb_6.c0, pb_6.c1, pb_6.c2⟩ | with_reducible exact ⟨pa_8.c0, pa_8.c1, pa_8.c2, pb_7.c0, pb_7.c1, pb_7.c2⟩ | with_reducible exact ⟨pa_9.c0, pa_9.c1, pa_9.c2, pb_8.c0, pb_8.c1, pb_8.c2⟩ | fail)
    (first
      | (go_at_call 35; (with_reducible refine (den_any _ M Y E _ (by omega) fb_5).mono ?_); rintro e w5 ⟨o1, n1, c1, rfl, f1_0, hb5⟩; have hB_6 := hB_5.trans (hb5.mono hB_5.size); have fa_6 := fa_5.below hb5; have fb_6 := fb_5.below hb5; have pa_5 := pa_4.below hb5; have pb_4 := pb_3.below hb5; clear hb5 hB_5 fa_5 fb_5 pa_4 pb_3)
      | (go_at_call 38; (with_reducible refine (times_any _ _ L (max M 1) X (den1 E) _ (by omega) (by omega) fa_6.num f1_0).mono ?_); rintro e w6 ⟨m2, o2, n2, c2, rfl, f2_0, hb6⟩; have hB_7 := hB_6.trans (hb6.mono hB_6.size); have fa_7 := fa_6.below hb6; have fb_7 := fb_6.below hb6; have pa_6 := pa_5.below hb6; have pb_5 := pb_4.below hb6; clear hb6 hB_6 fa_6 fb_6 pa_5 pb_4 f1_0)
      | (go_at_call 35; (with_reducible refine (den_any _ L X D _ (by omega) fa_7).mono ?_); rintro e w7 ⟨o3, n3, c3, rfl, f3_0, hb7⟩; have hB_8 := hB_7.trans (hb7.mono hB_7.size); have fa_8 := fa_7.below hb7; have fb_8 := fb_7.below hb7; have pa_7 := pa_6.below hb7; have pb_6 := pb_5.below hb7; have f2_1 := f2_0.below hb7; clear hb7 hB_7 fa_7 fb_7 pa_6 pb_5 f2_0)
      | (go_at_call 38; (with_reducible refine (times_any _ _ M (max L 1) Y (den1 D) _ (by omega) (by omega) fb_8.num f3_0).mono ?_); rintro e w8 ⟨m4, o4, n4, c4, rfl, f4_0, hb8⟩; have hB_9 := hB_8.trans (hb8.mono hB_8.size); have fa_9 := fa_8.below hb8; have fb_9 := fb_8.below hb8; have pa_8 := pa_7.below hb8; have pb_7 := pb_6.below hb8; have f2_2 := f2_1.below hb8; clear hb8 hB_8 fa_8 fb_8 pa_7 pb_6 f2_1 f3_0)
      | (go_at_call 48; (with_reducible refine (nCmp_is _ _ (L + max M 1) (M + max L 1) (X * den1 E) (Y * den1 D) c _ (by omega) (by omega) f2_2.num f4_0.num (by rw [icmp_q]; exact hc)).mono ?_); rintro e w9 ⟨rfl, hb9⟩; have hB_10 := hB_9.trans (hb9.mono hB_9.size); have fa_10 := fa_9.below hb9; have fb_10 := fb_9.below hb9; have pa_9 := pa_8.below hb9; have pb_8 := pb_7.below hb9; have f2_3 := f2_2.below hb9; have f4_1 := f4_0.below hb9; clear hb9 hB_9 fa_9 fb_9 pa_8 pb_7 f2_2 f4_0))
  go_wp2
  go_ret
  exact ⟨rfl, hB_10⟩
theorem fCmp_is (va vb : Value) (L M : Nat) (X Y : Int) (D E : Nat) (w : World) (hL : L ≤ 500000000) (hM : M ≤ 500000000) (ha : FD w va L X D) (hb : FD w vb M Y E) (c : Int) (hc : qcmp (qv X D) (qv Y E) = c) : Calls Try.prog 26 #[va, vb] w fun e w' => e = .returned (.int .i64 c) ∧ Below w.heap.size w w' := by
  have ha' := ha
  have hb' := hb
  obtain ⟨_, _, _, _, _, _, _, rfl, _, _⟩ := ha
  obtain ⟨_, _, _, _, _, _, _, rfl, _, _⟩ := hb
  by_cases h : X.sign = Y.sign
  · exact fCmp_eq _ _ _ _ _ _ _ _ _ _ _ _ _ _ L M X Y D E w hL hM ha' hb' c h hc
  · exact fCmp_ne _ _ _ _ _ _ _ _ _ _ _ _ _ _ L M X Y D E w hL hM ha' hb' c h hc
set_option maxHeartbeats 4000000 in
theorem fSame_yes_core (am : Bool) (ao : Option Addr) (an ac : Nat) (ap : Option Addr) (ak ad : Nat) (bm : Bool) (bo : Option Addr) (bn bc : Nat) (bp : Option Addr) (bk bd : Nat) (L M : Nat) (X Y : Int) (D E : Nat) (w : World) (hL : L ≤ 500000000) (hM : M ≤ 500000000) (fa_0 : FD w (.agg #[.bool am, .slice ao an ac, .slice ap ak ad]) L X D) (fb_0 : FD w (.agg #[.bool bm, .slice bo bn bc, .slice bp bk bd]) M Y E) (h : qv X D = qv Y E) :
    Calls Try.prog 15 #[.agg #[.bool am, .slice ao an ac, .slice ap ak ad], .agg #[.bool bm, .slice bo bn bc, .slice bp bk bd]] w fun e w' => e = .returned (.bool true) ∧ Below w.heap.size w w' := by
  have hB_0 := Below.refl w.heap.size w
  have hc : qcmp (qv X D) (qv Y E) = 0 := qcmp_zero.2 h
  obtain ⟨w1, hw1, pa_0, hb1, hs1⟩ := new_box w (w.heap.size) rfl [.bool am, .slice ao an ac, .slice ap ak ad] 28
  have hb1' : Below w.heap.size w w1 := hb1.mono (by omega)
  clear hb1
  have hB_1 := hB_0.trans (hb1'.mono hB_0.size)
  have fa_1 := fa_0.below hb1'
  have fb_1 := fb_0.below hb1'
  clear hb1' hB_0 fa_0 fb_0
  obtain ⟨w2, hw2, pb_0, hb2, hs2⟩ := new_box w1 (w.heap.size + 1) hs1 [.bool bm, .slice bo bn bc, .slice bp bk bd] 28
  have hb2' : Below w1.heap.size w1 w2 := hb2.mono (by omega)
  clear hb2
  have hB_2 := hB_1.trans (hb2'.mono hB_1.size)
  have fa_2 := fa_1.below hb2'
  have fb_2 := fb_1.below hb2'
  have pa_1 := pa_0.below hb2'
  clear hb2' hB_1 fa_1 fb_1 pa_0
  go_enter Try.func15, Try.ntmps15
  obtain ⟨pae0, pae1, pae2, pae3, pae4, pae5⟩ := pa_1.open3
  obtain ⟨pbe0, pbe1, pbe2, pbe3, pbe4, pbe5⟩ := pb_0.open3
  go_wp2_with fail
  refine (fCmp_is _ _ L M X Y D E _ (by omega) (by omega) fa_2 fb_2 0 hc).mono ?_
  rintro e w3 ⟨rfl, hb3⟩
  clear pae0 pae1 pae2 pae3 pae4 pae5 pbe0 pbe1 pbe2 pbe3 pbe4 pbe5
  have hB_3 := hB_2.trans (hb3.mono hB_2.size)
  have fa_3 := fa_2.below hb3
  have fb_3 := fb_2.below hb3
  have pa_2 := pa_1.below hb3
  have pb_1 := pb_0.below hb3
  clear hb3 hB_2 fa_2 fb_2 pa_1 pb_0
  obtain ⟨pae0, pae1, pae2, pae3, pae4, pae5⟩ := pa_2.open3
  obtain ⟨pbe0, pbe1, pbe2, pbe3, pbe4, pbe5⟩ := pb_1.open3
  go_wp2
  go_ret
  exact ⟨rfl, hB_3⟩
theorem fSame_yes (va vb : Value) (L M : Nat) (X Y : Int) (D E : Nat) (w : World) (hL : L ≤ 500000000) (hM : M ≤ 500000000) (ha : FD w va L X D) (hb : FD w vb M Y E) (h : qv X D = qv Y E) : Calls Try.prog 15 #[va, vb] w fun e w' => e = .returned (.bool true) ∧ Below w.heap.size w w' := by
  have ha' := ha
  have hb' := hb
  obtain ⟨_, _, _, _, _, _, _, rfl, _, _⟩ := ha
  obtain ⟨_, _, _, _, _, _, _, rfl, _, _⟩ := hb
  exact fSame_yes_core _ _ _ _ _ _ _ _ _ _ _ _ _ _ L M X Y D E w hL hM ha' hb' h
set_option maxHeartbeats 4000000 in
theorem fSame_no_core (am : Bool) (ao : Option Addr) (an ac : Nat) (ap : Option Addr) (ak ad : Nat) (bm : Bool) (bo : Option Addr) (bn bc : Nat) (bp : Option Addr) (bk bd : Nat) (L M : Nat) (X Y : Int) (D E : Nat) (w : World) (hL : L ≤ 500000000) (hM : M ≤ 500000000) (fa_0 : FD w (.agg #[.bool am, .slice ao an ac, .slice ap ak ad]) L X D) (fb_0 : FD w (.agg #[.bool bm, .slice bo bn bc, .slice bp bk bd]) M Y E) (h : qv X D ≠ qv Y E) :
    Calls Try.prog 15 #[.agg #[.bool am, .slice ao an ac, .slice ap ak ad], .agg #[.bool bm, .slice bo bn bc, .slice bp bk bd]] w fun e w' => e = .returned (.bool false) ∧ Below w.heap.size w w' := by
  have hB_0 := Below.refl w.heap.size w
  obtain ⟨c, hc⟩ : ∃ c, qcmp (qv X D) (qv Y E) = c := ⟨_, rfl⟩
  have hcz : (c == 0) = false := by
    simp only [beq_eq_false_iff_ne]
    intro e
    exact h (qcmp_zero.1 (hc.trans e))
  obtain ⟨w1, hw1, pa_0, hb1, hs1⟩ := new_box w (w.heap.size) rfl [.bool am, .slice ao an ac, .slice ap ak ad] 28
  have hb1' : Below w.heap.size w w1 := hb1.mono (by omega)
  clear hb1
  have hB_1 := hB_0.trans (hb1'.mono hB_0.size)
  have fa_1 := fa_0.below hb1'
  have fb_1 := fb_0.below hb1'
  clear hb1' hB_0 fa_0 fb_0
  obtain ⟨w2, hw2, pb_0, hb2, hs2⟩ := new_box w1 (w.heap.size + 1) hs1 [.bool bm, .slice bo bn bc, .slice bp bk bd] 28
  have hb2' : Below w1.heap.size w1 w2 := hb2.mono (by omega)
  clear hb2
  have hB_2 := hB_1.trans (hb2'.mono hB_1.size)
  have fa_2 := fa_1.below hb2'
  have fb_2 := fb_1.below hb2'
  have pa_1 := pa_0.below hb2'
  clear hb2' hB_1 fa_1 fb_1 pa_0
  go_enter Try.func15, Try.ntmps15
  obtain ⟨pae0, pae1, pae2, pae3, pae4, pae5⟩ := pa_1.open3
  obtain ⟨pbe0, pbe1, pbe2, pbe3, pbe4, pbe5⟩ := pb_0.open3
  go_wp2_with fail
  refine (fCmp_is _ _ L M X Y D E _ (by omega) (by omega) fa_2 fb_2 c hc).mono ?_
  rintro e w3 ⟨rfl, hb3⟩
  clear pae0 pae1 pae2 pae3 pae4 pae5 pbe0 pbe1 pbe2 pbe3 pbe4 pbe5
  have hB_3 := hB_2.trans (hb3.mono hB_2.size)
  have fa_3 := fa_2.below hb3
  have fb_3 := fb_2.below hb3
  have pa_2 := pa_1.below hb3
  have pb_1 := pb_0.below hb3
  clear hb3 hB_2 fa_2 fb_2 pa_1 pb_0
  obtain ⟨pae0, pae1, pae2, pae3, pae4, pae5⟩ := pa_2.open3
  obtain ⟨pbe0, pbe1, pbe2, pbe3, pbe4, pbe5⟩ := pb_1.open3
  go_wp2
  go_ret
  exact ⟨rfl, hB_3⟩
theorem fSame_no (va vb : Value) (L M : Nat) (X Y : Int) (D E : Nat) (w : World) (hL : L ≤ 500000000) (hM : M ≤ 500000000) (ha : FD w va L X D) (hb : FD w vb M Y E) (h : qv X D ≠ qv Y E) : Calls Try.prog 15 #[va, vb] w fun e w' => e = .returned (.bool false) ∧ Below w.heap.size w w' := by
  have ha' := ha
  have hb' := hb
  obtain ⟨_, _, _, _, _, _, _, rfl, _, _⟩ := ha
  obtain ⟨_, _, _, _, _, _, _, rfl, _, _⟩ := hb
  exact fSame_no_core _ _ _ _ _ _ _ _ _ _ _ _ _ _ L M X Y D E w hL hM ha' hb' h
end Go.Proofs.Ytdfabocecpcmcaa
/- The calls of frac, on: Neg, Add, Sub, Mul, Make, Div. -/
namespace Go.Proofs.Ytdfabocecpcmcaa
open Go.RowKit Go.MagM
/-- A call's answer is a right Frac, and a bool. -/
def AnsFt (w w' : World) (e : Ending) (b : Bool) (L : Nat) (q : Rat) : Prop := ∃ m ao n c bo k d, e = .returned (.tuple #[.agg #[.bool m, .slice ao n c, .slice bo k d], .bool b]) ∧ RF w' (.agg #[.bool m, .slice ao n c, .slice bo k d]) L q ∧ Below w.heap.size w w'
theorem AnsFt.of {w w' : World} {e : Ending} {b : Bool} {L L' : Nat} {p q : Rat} (h : AnsFt w w' e b L p) (hL : L ≤ L') (he : p = q) : AnsFt w w' e b L' q := by
  subst he; obtain ⟨m, ao, n, c, bo, k, d, h1, h2, h3⟩ := h; exact ⟨m, ao, n, c, bo, k, d, h1, h2.more hL, h3⟩
set_option maxHeartbeats 4000000 in
theorem fNeg_core (am : Bool) (ao : Option Addr) (an ac : Nat) (ap : Option Addr) (ak ad : Nat) (L : Nat) (X : Int) (D : Nat) (w : World) (hL : L ≤ 200000000) (fa_0 : FD w (.agg #[.bool am, .slice ao an ac, .slice ap ak ad]) L X D) :
    Calls Try.prog 33 #[.agg #[.bool am, .slice ao an ac, .slice ap ak ad]] w fun e w' => AnsF w w' e (max L 1) (-qv X D) := by
  have hB_0 := Below.refl w.heap.size w
  obtain ⟨w1, hw1, pa_0, hb1, hs1⟩ := new_box w (w.heap.size) rfl [.bool am, .slice ao an ac, .slice ap ak ad] 28
  have hb1' : Below w.heap.size w w1 := hb1.mono (by omega)
  clear hb1
  have hB_1 := hB_0.trans (hb1'.mono hB_0.size)
  have fa_1 := fa_0.below hb1'
  clear hb1' hB_0 fa_0
  obtain ⟨w2, hw2, pr_0, hb2, hs2⟩ := new_box w1 (w.heap.size + 1) hs1 [.bool false, .slice none 0 0, .slice none 0 0] 28
  have hb2' : Below w1.heap.size w1 w2 := hb2.mono (by omega)
  clear hb2
  have hB_2 := hB_1.trans (hb2'.mono hB_1.size)
  have fa_2 := fa_1.below hb2'
  have pa_1 := pa_0.below hb2'
  clear hb2' hB_1 fa_1 pa_0
  go_enter Try.func33, Try.ntmps33
  go_wp2
  have hB_3 := hB_2.drew'
  have fa_3 := fa_2.drew
  have pa_2 := pa_1.drew
  have pr_1 := pr_0.drew
  clear hB_2 fa_2 pa_1 pr_0
  go_region_held3 (fun w' => w'.cell? ⟨w.heap.size, 0, none⟩ = some (.bool am) ∧ w'.cell? ⟨w.heap.size, 1, none⟩ = some (.slice ao an ac) ∧ w'.cell? ⟨w.heap.size, 2, none⟩ = some (.slice ap ak ad))
    (first | with_reducible exact ⟨pa_2.c0, pa_2.c1, pa_2.c2⟩ | with_reducible exact ⟨pa_3.c0, pa_3.c1, pa_3.c2⟩ | with_reducible exact ⟨pa_4.c0, pa_4.c1, pa_4.c2⟩ | with_reducible exact ⟨pa_5.c0, pa_5.c1, pa_5.c2⟩ | with_reducible exact ⟨pa_6.c0, pa_6.c1, pa_6.c2⟩ | with_reducible exact ⟨pa_7.c0, pa_7.c1, pa_7.c2⟩ | fail)
    (first
      | (go_at_call 56; (with_reducible refine (Neg_any _ L X _ (by omega) fa_3.num).mono ?_); rintro e w3 ⟨m1, o1, n1, c1, rfl, f1_0, hb3⟩; have hB_4 := hB_3.trans (hb3.mono hB_3.size); have fa_4 := fa_3.below hb3; have pa_3 := pa_2.below hb3; have pr_2 := pr_1.below hb3; clear hb3 hB_3 fa_3 pa_2 pr_1)
      | (go_at_call 35; (with_reducible refine (den_any _ L X D _ (by omega) fa_4).mono ?_); rintro e w4 ⟨o2, n2, c2, rfl, f2_0, hb4⟩; have hB_5 := hB_4.trans (hb4.mono hB_4.size); have fa_5 := fa_4.below hb4; have pa_4 := pa_3.below hb4; have pr_3 := pr_2.below hb4; have f1_1 := f1_0.below hb4; clear hb4 hB_4 fa_4 pa_3 pr_2 f1_0)
      | (go_at_call 57; (with_reducible refine (fclone_any _ (max L 1) (den1 D) _ (by omega) f2_0).mono ?_); rintro e w5 ⟨o3, n3, c3, rfl, f3_0, hb5⟩; have hB_6 := hB_5.trans (hb5.mono hB_5.size); have fa_6 := fa_5.below hb5; have pa_5 := pa_4.below hb5; have pr_4 := pr_3.below hb5; have f1_2 := f1_1.below hb5; clear hb5 hB_5 fa_5 pa_4 pr_3 f1_1 f2_0)
      | (go_at_call 36; (with_reducible refine (lowest_any _ _ (max L 1) (-X) (den1 D) _ (by omega) (f1_2.more (by omega)) f3_0 (den1_ne D)).mono ?_); rintro e w6 ⟨m4, o4, n4, c4, p4, k4, d4, rfl, f4_0, hb6⟩; have hB_7 := hB_6.trans (hb6.mono hB_6.size); have fa_7 := fa_6.below hb6; have pa_6 := pa_5.below hb6; have pr_5 := pr_4.below hb6; clear hb6 hB_6 fa_6 pa_5 pr_4 f1_2 f3_0; obtain ⟨sf6a, sf6b, sf6c, sf6d, sf6e, sf6f⟩ := pr_5.open3; obtain ⟨sg6a, sg6b, sg6c, sg6d⟩ := Box.put3 pr_5 (.bool m4) (.slice o4 n4 c4); have hB_8 := below_setAll hB_7 (g := w.heap.size + 1) (by omega) [.bool m4, .slice o4 n4 c4, .slice p4 k4 d4]; have fa_8 := fa_7.setAll pr_5 (noWord3 _ _ _ _ _ _ _) [.bool m4, .slice o4 n4 c4, .slice p4 k4 d4] rfl; have pa_7 := pa_6.farAll (g' := w.heap.size + 1) (by omega) [.bool m4, .slice o4 n4 c4, .slice p4 k4 d4]; have f4_1 := f4_0.setAll pr_5 (noWord3 _ _ _ _ _ _ _) [.bool m4, .slice o4 n4 c4, .slice p4 k4 d4] rfl; have pr_6 := pr_5.setAll [.bool m4, .slice o4 n4 c4, .slice p4 k4 d4] rfl; simp only [setAll, Nat.zero_add, Nat.reduceAdd] at hB_8 fa_8 pa_7 pr_6 f4_1))
  clear hB_7 fa_7 pa_6 f4_0 pr_5
  clear sf6a sf6b sf6c sf6d sf6e sf6f sg6a sg6b sg6c sg6d
  generalize (World.setCell (World.setCell (World.setCell w6 ⟨w.heap.size + 1, 0, none⟩ (.bool m4)) ⟨w.heap.size + 1, 1, none⟩ (.slice o4 n4 c4)) ⟨w.heap.size + 1, 2, none⟩ (.slice p4 k4 d4)) = w7 at *
  go_wp2
  obtain ⟨pre0, pre1, pre2, pre3, pre4, pre5⟩ := pr_6.open3
  exact bodyPost_ret (v := .agg #[.bool m4, .slice o4 n4 c4, .slice p4 k4 d4]) (by simp [results, Try.results33, go_sem, pre0, pre1, pre2]) rfl ⟨_, _, _, _, _, _, _, rfl, f4_1.of (qv_neg X D), hB_8⟩
theorem fNeg_any (va : Value) (L : Nat) (X : Int) (D : Nat) (w : World) (hL : L ≤ 200000000) (ha : FD w va L X D) : Calls Try.prog 33 #[va] w fun e w' => AnsF w w' e (max L 1) (-qv X D) := by
  have ha' := ha
  obtain ⟨_, _, _, _, _, _, _, rfl, _, _⟩ := ha
  exact fNeg_core _ _ _ _ _ _ _ L X D w hL ha'
set_option maxHeartbeats 4000000 in
theorem fAdd_core (am : Bool) (ao : Option Addr) (an ac : Nat) (ap : Option Addr) (ak ad : Nat) (bm : Bool) (bo : Option Addr) (bn bc : Nat) (bp : Option Addr) (bk bd : Nat) (L M : Nat) (X Y : Int) (D E : Nat) (w : World) (hL : L ≤ 200000000) (hM : M ≤ 200000000) (fa_0 : FD w (.agg #[.bool am, .slice ao an ac, .slice ap ak ad]) L X D) (fb_0 : FD w (.agg #[.bool bm, .slice bo bn bc, .slice bp bk bd]) M Y E) :
    Calls Try.prog 16 #[.agg #[.bool am, .slice ao an ac, .slice ap ak ad], .agg #[.bool bm, .slice bo bn bc, .slice bp bk bd]] w fun e w' => AnsF w w' e (L + M + 2) (qv X D + qv Y E) := by
  have hB_0 := Below.refl w.heap.size w
  obtain ⟨w1, hw1, pa_0, hb1, hs1⟩ := new_box w (w.heap.size) rfl [.bool am, .slice ao an ac, .slice ap ak ad] 28
  have hb1' : Below w.heap.size w w1 := hb1.mono (by omega)
  clear hb1
  have hB_1 := hB_0.trans (hb1'.mono hB_0.size)
  have fa_1 := fa_0.below hb1'
  have fb_1 := fb_0.below hb1'
  clear hb1' hB_0 fa_0 fb_0
  obtain ⟨w2, hw2, pb_0, hb2, hs2⟩ := new_box w1 (w.heap.size + 1) hs1 [.bool bm, .slice bo bn bc, .slice bp bk bd] 28
  have hb2' : Below w1.heap.size w1 w2 := hb2.mono (by omega)
  clear hb2
  have hB_2 := hB_1.trans (hb2'.mono hB_1.size)
  have fa_2 := fa_1.below hb2'
  have fb_2 := fb_1.below hb2'
  have pa_1 := pa_0.below hb2'
  clear hb2' hB_1 fa_1 fb_1 pa_0
  obtain ⟨w3, hw3, pr_0, hb3, hs3⟩ := new_box w2 (w.heap.size + 1 + 1) hs2 [.bool false, .slice none 0 0, .slice none 0 0] 28
  have hb3' : Below w2.heap.size w2 w3 := hb3.mono (by omega)
  clear hb3
  have hB_3 := hB_2.trans (hb3'.mono hB_2.size)
  have fa_3 := fa_2.below hb3'
  have fb_3 := fb_2.below hb3'
  have pa_2 := pa_1.below hb3'
  have pb_1 := pb_0.below hb3'
  clear hb3' hB_2 fa_2 fb_2 pa_1 pb_0
  go_enter Try.func16, Try.ntmps16
  go_wp2
  have hB_4 := hB_3.drew'
  have fa_4 := fa_3.drew
  have fb_4 := fb_3.drew
  have pa_3 := pa_2.drew
  have pb_2 := pb_1.drew
  have pr_1 := pr_0.drew
  clear hB_3 fa_3 fb_3 pa_2 pb_1 pr_0
  go_region_held3 (fun w' => w'.cell? ⟨w.heap.size, 0, none⟩ = some (.bool am) ∧ w'.cell? ⟨w.heap.size, 1, none⟩ = some (.slice ao an ac) ∧ w'.cell? ⟨w.heap.size, 2, none⟩ = some (.slice ap ak ad) ∧ w'.cell? ⟨w.heap.size + 1, 0, none⟩ = some (.bool bm) ∧ w'.cell? ⟨w.heap.size + 1, 1, none⟩ = some (.slice bo bn bc) ∧ w'.cell? ⟨w.heap.size + 1, 2, none⟩ = some (.slice bp bk bd))
    (first | with_reducible exact ⟨pa_3.c0, pa_3.c1, pa_3.c2, pb_2.c0, pb_2.c1, pb_2.c2⟩ | with_reducible exact ⟨pa_4.c0, pa_4.c1, pa_4.c2, pb_3.c0, pb_3.c1, pb_3.c2⟩ | with_reducible exact ⟨pa_5.c0, pa_5.c1, pa_5.c2, pb_4.c0, pb_4.c1, pb_4.c2⟩ | fail)
    (first
      | (go_at_call 35; (with_reducible refine (den_any _ L X D _ (by omega) fa_4).mono ?_); rintro e w4 ⟨o1, n1, c1, rfl, f1_0, hb4⟩; have hB_5 := hB_4.trans (hb4.mono hB_4.size); have fa_5 := fa_4.below hb4; have fb_5 := fb_4.below hb4; have pa_4 := pa_3.below hb4; have pb_3 := pb_2.below hb4; have pr_2 := pr_1.below hb4; clear hb4 hB_4 fa_4 fb_4 pa_3 pb_2 pr_1)
      | (go_at_call 35; (with_reducible refine (den_any _ M Y E _ (by omega) fb_5).mono ?_); rintro e w5 ⟨o2, n2, c2, rfl, f2_0, hb5⟩; have hB_6 := hB_5.trans (hb5.mono hB_5.size); have fa_6 := fa_5.below hb5; have fb_6 := fb_5.below hb5; have pa_5 := pa_4.below hb5; have pb_4 := pb_3.below hb5; have pr_3 := pr_2.below hb5; have f1_1 := f1_0.below hb5; clear hb5 hB_5 fa_5 fb_5 pa_4 pb_3 pr_2 f1_0))
  go_wp2
  have hB_7 := hB_6.drew'
  have fa_7 := fa_6.drew
  have fb_7 := fb_6.drew
  have pa_6 := pa_5.drew
  have pb_5 := pb_4.drew
  have pr_4 := pr_3.drew
  have f1_2 := f1_1.drew
  have f2_1 := f2_0.drew
  clear hB_6 fa_6 fb_6 pa_5 pb_4 pr_3 f1_1 f2_0
  go_region_held3 (fun w' => w'.cell? ⟨w.heap.size, 0, none⟩ = some (.bool am) ∧ w'.cell? ⟨w.heap.size, 1, none⟩ = some (.slice ao an ac) ∧ w'.cell? ⟨w.heap.size, 2, none⟩ = some (.slice ap ak ad) ∧ w'.cell? ⟨w.heap.size + 1, 0, none⟩ = some (.bool bm) ∧ w'.cell? ⟨w.heap.size + 1, 1, none⟩ = some (.slice bo bn bc) ∧ w'.cell? ⟨w.heap.size + 1, 2, none⟩ = some (.slice bp bk bd))
    (first | with_reducible exact ⟨pa_6.c0, pa_6.c1, pa_6.c2, pb_5.c0, pb_5.c1, pb_5.c2⟩ | with_reducible exact ⟨pa_7.c0, pa_7.c1, pa_7.c2, pb_6.c0, pb_6.c1, pb_6.c2⟩ | with_reducible exact ⟨pa_8.c0, pa_8.c1, pa_8.c2, pb_7.c0, pb_7.c1, pb_7.c2⟩ | with_reducible exact ⟨pa_9.c0, pa_9.c1, pa_9.c2, pb_8.c0, pb_8.c1, pb_8.c2⟩ | with_reducible exact ⟨pa_10.c0, pa_10.c1, pa_10.c2, pb_9.c0, pb_9.c1, pb_9.c2⟩ | with_reducible exact ⟨pa_11.c0, pa_11.c1, pa_11.c2, pb_10.c0, pb_10.c1, pb_10.c2⟩ | with_reducible exact ⟨pa_12.c0, pa_12.c1, pa_12.c2, pb_11.c0, pb_11.c1, pb_11.c2⟩ | fail)
    (first
      | (go_at_call 38; (with_reducible refine (times_any _ _ L (max M 1) X (den1 E) _ (by omega) (by omega) fa_7.num f2_1).mono ?_); rintro e w6 ⟨m3, o3, n3, c3, rfl, f3_0, hb6⟩; have hB_8 := hB_7.trans (hb6.mono hB_7.size); have fb_8 := fb_7.below hb6; have pa_7 := pa_6.below hb6; have pb_6 := pb_5.below hb6; have pr_5 := pr_4.below hb6; have f1_3 := f1_2.below hb6; have f2_2 := f2_1.below hb6; clear hb6 hB_7 fa_7 fb_7 pa_6 pb_5 pr_4 f1_2 f2_1)
      | (go_at_call 38; (with_reducible refine (times_any _ _ M (max L 1) Y (den1 D) _ (by omega) (by omega) fb_8.num f1_3).mono ?_); rintro e w7 ⟨m4, o4, n4, c4, rfl, f4_0, hb7⟩; have hB_9 := hB_8.trans (hb7.mono hB_8.size); have pa_8 := pa_7.below hb7; have pb_7 := pb_6.below hb7; have pr_6 := pr_5.below hb7; have f1_4 := f1_3.below hb7; have f2_3 := f2_2.below hb7; have f3_1 := f3_0.below hb7; clear hb7 hB_8 fb_8 pa_7 pb_6 pr_5 f1_3 f2_2 f3_0)
      | (go_at_call 37; (with_reducible refine (nAdd_any _ _ (L + max M 1) (M + max L 1) (X * den1 E) (Y * den1 D) _ (by omega) (by omega) f3_1.num f4_0.num).mono ?_); rintro e w8 ⟨m5, o5, n5, c5, rfl, f5_0, hb8⟩; have hB_10 := hB_9.trans (hb8.mono hB_9.size); have pa_9 := pa_8.below hb8; have pb_8 := pb_7.below hb8; have pr_7 := pr_6.below hb8; have f1_5 := f1_4.below hb8; have f2_4 := f2_3.below hb8; clear hb8 hB_9 pa_8 pb_7 pr_6 f1_4 f2_3 f3_1 f4_0)
      | (go_at_call 39; (with_reducible refine (mMul_any _ _ (max L 1) (max M 1) (den1 D) (den1 E) _ (by omega) (by omega) f1_5 f2_4).mono ?_); rintro e w9 ⟨o6, n6, c6, rfl, f6_0, hb9⟩; have hB_11 := hB_10.trans (hb9.mono hB_10.size); have pa_10 := pa_9.below hb9; have pb_9 := pb_8.below hb9; have pr_8 := pr_7.below hb9; have f5_1 := f5_0.below hb9; clear hb9 hB_10 pa_9 pb_8 pr_7 f1_5 f2_4 f5_0)
      | (go_at_call 36; (with_reducible refine (lowest_any _ _ (L + M + 2) (X * den1 E + Y * den1 D) (den1 D * den1 E) _ (by omega) (f5_1.more (by omega)) (f6_0.more (by omega)) (Nat.mul_ne_zero (den1_ne D) (den1_ne E))).mono ?_); rintro e w10 ⟨m7, o7, n7, c7, p7, k7, d7, rfl, f7_0, hb10⟩; have hB_12 := hB_11.trans (hb10.mono hB_11.size); have pa_11 := pa_10.below hb10; have pb_10 := pb_9.below hb10; have pr_9 := pr_8.below hb10; clear hb10 hB_11 pa_10 pb_9 pr_8 f5_1 f6_0; obtain ⟨sf10a, sf10b, sf10c, sf10d, sf10e, sf10f⟩ := pr_9.open3; obtain ⟨sg10a, sg10b, sg10c, sg10d⟩ := Box.put3 pr_9 (.bool m7) (.slice o7 n7 c7); have hB_13 := below_setAll hB_12 (g := w.heap.size + 1 + 1) (by omega) [.bool m7, .slice o7 n7 c7, .slice p7 k7 d7]; have pa_12 := pa_11.farAll (g' := w.heap.size + 1 + 1) (by omega) [.bool m7, .slice o7 n7 c7, .slice p7 k7 d7]; have pb_11 := pb_10.farAll (g' := w.heap.size + 1 + 1) (by omega) [.bool m7, .slice o7 n7 c7, .slice p7 k7 d7]; have f7_1 := f7_0.setAll pr_9 (noWord3 _ _ _ _ _ _ _) [.bool m7, .slice o7 n7 c7, .slice p7 k7 d7] rfl; have pr_10 := pr_9.setAll [.bool m7, .slice o7 n7 c7, .slice p7 k7 d7] rfl; simp only [setAll, Nat.zero_add, Nat.reduceAdd] at hB_13 pa_12 pb_11 pr_10 f7_1))
  clear hB_12 pa_11 pb_10 f7_0 pr_9
  clear sf10a sf10b sf10c sf10d sf10e sf10f sg10a sg10b sg10c sg10d
  generalize (World.setCell (World.setCell (World.setCell w10 ⟨w.heap.size + 1 + 1, 0, none⟩ (.bool m7)) ⟨w.heap.size + 1 + 1, 1, none⟩ (.slice o7 n7 c7)) ⟨w.heap.size + 1 + 1, 2, none⟩ (.slice p7 k7 d7)) = w11 at *
  go_wp2
  obtain ⟨pre0, pre1, pre2, pre3, pre4, pre5⟩ := pr_10.open3
  exact bodyPost_ret (v := .agg #[.bool m7, .slice o7 n7 c7, .slice p7 k7 d7]) (by simp [results, Try.results16, go_sem, pre0, pre1, pre2]) rfl ⟨_, _, _, _, _, _, _, rfl, f7_1.of (qv_add X Y D E), hB_13⟩
theorem fAdd_any (va vb : Value) (L M : Nat) (X Y : Int) (D E : Nat) (w : World) (hL : L ≤ 200000000) (hM : M ≤ 200000000) (ha : FD w va L X D) (hb : FD w vb M Y E) : Calls Try.prog 16 #[va, vb] w fun e w' => AnsF w w' e (L + M + 2) (qv X D + qv Y E) := by
  have ha' := ha
  obtain ⟨_, _, _, _, _, _, _, rfl, _, _⟩ := ha
  have hb' := hb
  obtain ⟨_, _, _, _, _, _, _, rfl, _, _⟩ := hb
  exact fAdd_core _ _ _ _ _ _ _ _ _ _ _ _ _ _ L M X Y D E w hL hM ha' hb'
set_option maxHeartbeats 4000000 in
theorem fSub_core (am : Bool) (ao : Option Addr) (an ac : Nat) (ap : Option Addr) (ak ad : Nat) (bm : Bool) (bo : Option Addr) (bn bc : Nat) (bp : Option Addr) (bk bd : Nat) (L M : Nat) (X Y : Int) (D E : Nat) (w : World) (hL : L ≤ 200000000) (hM : M ≤ 200000000) (fa_0 : FD w (.agg #[.bool am, .slice ao an ac, .slice ap ak ad]) L X D) (fb_0 : FD w (.agg #[.bool bm, .slice bo bn bc, .slice bp bk bd]) M Y E) :
    Calls Try.prog 22 #[.agg #[.bool am, .slice ao an ac, .slice ap ak ad], .agg #[.bool bm, .slice bo bn bc, .slice bp bk bd]] w fun e w' => AnsF w w' e (L + M + 2) (qv X D - qv Y E) := by
  have hB_0 := Below.refl w.heap.size w
  have fn_0 : FD w (.agg #[.bool (!bm), .slice bo bn bc, .slice bp bk bd]) M (-Y) E := fb_0.neg
  obtain ⟨w1, hw1, pa_0, hb1, hs1⟩ := new_box w (w.heap.size) rfl [.bool am, .slice ao an ac, .slice ap ak ad] 28
  have hb1' : Below w.heap.size w w1 := hb1.mono (by omega)
  clear hb1
  have hB_1 := hB_0.trans (hb1'.mono hB_0.size)
  have fa_1 := fa_0.below hb1'
  have fb_1 := fb_0.below hb1'
  have fn_1 := fn_0.below hb1'
  clear hb1' hB_0 fa_0 fb_0 fn_0
  obtain ⟨w2, hw2, pb_0, hb2, hs2⟩ := new_box w1 (w.heap.size + 1) hs1 [.bool bm, .slice bo bn bc, .slice bp bk bd] 28
  have hb2' : Below w1.heap.size w1 w2 := hb2.mono (by omega)
  clear hb2
  have hB_2 := hB_1.trans (hb2'.mono hB_1.size)
  have fa_2 := fa_1.below hb2'
  have fb_2 := fb_1.below hb2'
  have fn_2 := fn_1.below hb2'
  have pa_1 := pa_0.below hb2'
  clear hb2' hB_1 fa_1 fb_1 fn_1 pa_0
  obtain ⟨w3, hw3, pr_0, hb3, hs3⟩ := new_box w2 (w.heap.size + 1 + 1) hs2 [.bool false, .slice none 0 0, .slice none 0 0] 28
  have hb3' : Below w2.heap.size w2 w3 := hb3.mono (by omega)
  clear hb3
  have hB_3 := hB_2.trans (hb3'.mono hB_2.size)
  have fa_3 := fa_2.below hb3'
  have fb_3 := fb_2.below hb3'
  have fn_3 := fn_2.below hb3'
  have pa_2 := pa_1.below hb3'
  have pb_1 := pb_0.below hb3'
  clear hb3' hB_2 fa_2 fb_2 fn_2 pa_1 pb_0
  go_enter Try.func22, Try.ntmps22
  obtain ⟨pae0, pae1, pae2, pae3, pae4, pae5⟩ := pa_2.open3
  obtain ⟨pbe0, pbe1, pbe2, pbe3, pbe4, pbe5⟩ := pb_1.open3
  obtain ⟨sf3a, sf3b, sf3c, sf3d, sf3e, sf3f⟩ := pb_1.open3
  go_wp2_with fail
  clear pae0 pae1 pae2 pae3 pae4 pae5 pbe0 pbe1 pbe2 pbe3 pbe4 pbe5 sf3a sf3b sf3c sf3d sf3e sf3f
  have hB_4 := hB_3.setCell (p := ⟨w.heap.size + 1, 0, none⟩) (by simp only []; omega) (.bool (!bm))
  have fa_4 := fa_3.setOne pb_1.c0 (NoWord.bool _) (.bool (!bm))
  have fb_4 := fb_3.setOne pb_1.c0 (NoWord.bool _) (.bool (!bm))
  have fn_4 := fn_3.setOne pb_1.c0 (NoWord.bool _) (.bool (!bm))
  have pa_3 := pa_2.far (g' := w.heap.size + 1) (by omega) 0 (.bool (!bm))
  have pr_1 := pr_0.far (g' := w.heap.size + 1) (by omega) 0 (.bool (!bm))
  have pb_2 : Box (World.setCell w3 ⟨w.heap.size + 1, 0, none⟩ (.bool (!bm))) (w.heap.size + 1) [.bool (!bm), .slice bo bn bc, .slice bp bk bd] := pb_1.set 0 (.bool (!bm))
  clear hB_3 fa_3 fb_3 fn_3 pa_2 pr_0 pb_1
  generalize (World.setCell w3 ⟨w.heap.size + 1, 0, none⟩ (.bool (!bm))) = w4 at *
  obtain ⟨pae0, pae1, pae2, pae3, pae4, pae5⟩ := pa_3.open3
  obtain ⟨pbe0, pbe1, pbe2, pbe3, pbe4, pbe5⟩ := pb_2.open3
  go_wp2_with fail
  refine (fAdd_any _ _ L M X (-Y) D E _ (by omega) (by omega) fa_4 fn_4).mono ?_
  rintro e w5 ⟨m1, o1, n1, c1, p1, k1, d1, rfl, f1_0, hb5⟩
  clear pae0 pae1 pae2 pae3 pae4 pae5 pbe0 pbe1 pbe2 pbe3 pbe4 pbe5
  have hB_5 := hB_4.trans (hb5.mono hB_4.size)
  have fa_5 := fa_4.below hb5
  have fb_5 := fb_4.below hb5
  have fn_5 := fn_4.below hb5
  have pa_4 := pa_3.below hb5
  have pb_3 := pb_2.below hb5
  have pr_2 := pr_1.below hb5
  clear hb5 hB_4 fa_4 fb_4 fn_4 pa_3 pb_2 pr_1
  obtain ⟨pae0, pae1, pae2, pae3, pae4, pae5⟩ := pa_4.open3
  obtain ⟨pbe0, pbe1, pbe2, pbe3, pbe4, pbe5⟩ := pb_3.open3
  obtain ⟨sf5a, sf5b, sf5c, sf5d, sf5e, sf5f⟩ := pr_2.open3
  obtain ⟨sg5a, sg5b, sg5c, sg5d⟩ := Box.put3 pr_2 (.bool m1) (.slice o1 n1 c1)
  go_wp2
  clear pae0 pae1 pae2 pae3 pae4 pae5 pbe0 pbe1 pbe2 pbe3 pbe4 pbe5 sf5a sf5b sf5c sf5d sf5e sf5f sg5a sg5b sg5c sg5d
  have hB_6 := below_setAll hB_5 (g := w.heap.size + 1 + 1) (by omega) [.bool m1, .slice o1 n1 c1, .slice p1 k1 d1]
  have fa_6 := fa_5.setAll pr_2 (noWord3 _ _ _ _ _ _ _) [.bool m1, .slice o1 n1 c1, .slice p1 k1 d1] rfl
  have fb_6 := fb_5.setAll pr_2 (noWord3 _ _ _ _ _ _ _) [.bool m1, .slice o1 n1 c1, .slice p1 k1 d1] rfl
  have fn_6 := fn_5.setAll pr_2 (noWord3 _ _ _ _ _ _ _) [.bool m1, .slice o1 n1 c1, .slice p1 k1 d1] rfl
  have pa_5 := pa_4.farAll (g' := w.heap.size + 1 + 1) (by omega) [.bool m1, .slice o1 n1 c1, .slice p1 k1 d1]
  have pb_4 := pb_3.farAll (g' := w.heap.size + 1 + 1) (by omega) [.bool m1, .slice o1 n1 c1, .slice p1 k1 d1]
  have f1_1 := f1_0.setAll pr_2 (noWord3 _ _ _ _ _ _ _) [.bool m1, .slice o1 n1 c1, .slice p1 k1 d1] rfl
  have pr_3 := pr_2.setAll [.bool m1, .slice o1 n1 c1, .slice p1 k1 d1] rfl
  simp only [setAll, Nat.zero_add, Nat.reduceAdd] at hB_6 fa_6 fb_6 fn_6 pa_5 pb_4 pr_3 f1_1
  clear hB_5 fa_5 fb_5 fn_5 pa_4 pb_3 f1_0 pr_2
  generalize (World.setCell (World.setCell (World.setCell w5 ⟨w.heap.size + 1 + 1, 0, none⟩ (.bool m1)) ⟨w.heap.size + 1 + 1, 1, none⟩ (.slice o1 n1 c1)) ⟨w.heap.size + 1 + 1, 2, none⟩ (.slice p1 k1 d1)) = w6 at *
  go_wp2
  obtain ⟨pre0, pre1, pre2, pre3, pre4, pre5⟩ := pr_3.open3
  exact bodyPost_ret (v := .agg #[.bool m1, .slice o1 n1 c1, .slice p1 k1 d1]) (by simp [results, Try.results22, go_sem, pre0, pre1, pre2]) rfl ⟨_, _, _, _, _, _, _, rfl, f1_1.of (by rw [qv_neg', Rat.sub_eq_add_neg]), hB_6⟩
theorem fSub_any (va vb : Value) (L M : Nat) (X Y : Int) (D E : Nat) (w : World) (hL : L ≤ 200000000) (hM : M ≤ 200000000) (ha : FD w va L X D) (hb : FD w vb M Y E) : Calls Try.prog 22 #[va, vb] w fun e w' => AnsF w w' e (L + M + 2) (qv X D - qv Y E) := by
  have ha' := ha
  obtain ⟨_, _, _, _, _, _, _, rfl, _, _⟩ := ha
  have hb' := hb
  obtain ⟨_, _, _, _, _, _, _, rfl, _, _⟩ := hb
  exact fSub_core _ _ _ _ _ _ _ _ _ _ _ _ _ _ L M X Y D E w hL hM ha' hb'
set_option maxHeartbeats 4000000 in
theorem fMul_core (am : Bool) (ao : Option Addr) (an ac : Nat) (ap : Option Addr) (ak ad : Nat) (bm : Bool) (bo : Option Addr) (bn bc : Nat) (bp : Option Addr) (bk bd : Nat) (L M : Nat) (X Y : Int) (D E : Nat) (w : World) (hL : L ≤ 200000000) (hM : M ≤ 200000000) (fa_0 : FD w (.agg #[.bool am, .slice ao an ac, .slice ap ak ad]) L X D) (fb_0 : FD w (.agg #[.bool bm, .slice bo bn bc, .slice bp bk bd]) M Y E) :
    Calls Try.prog 23 #[.agg #[.bool am, .slice ao an ac, .slice ap ak ad], .agg #[.bool bm, .slice bo bn bc, .slice bp bk bd]] w fun e w' => AnsF w w' e (L + M + 2) (qv X D * qv Y E) := by
  have hB_0 := Below.refl w.heap.size w
  obtain ⟨w1, hw1, pa_0, hb1, hs1⟩ := new_box w (w.heap.size) rfl [.bool am, .slice ao an ac, .slice ap ak ad] 28
  have hb1' : Below w.heap.size w w1 := hb1.mono (by omega)
  clear hb1
  have hB_1 := hB_0.trans (hb1'.mono hB_0.size)
  have fa_1 := fa_0.below hb1'
  have fb_1 := fb_0.below hb1'
  clear hb1' hB_0 fa_0 fb_0
  obtain ⟨w2, hw2, pb_0, hb2, hs2⟩ := new_box w1 (w.heap.size + 1) hs1 [.bool bm, .slice bo bn bc, .slice bp bk bd] 28
  have hb2' : Below w1.heap.size w1 w2 := hb2.mono (by omega)
  clear hb2
  have hB_2 := hB_1.trans (hb2'.mono hB_1.size)
  have fa_2 := fa_1.below hb2'
  have fb_2 := fb_1.below hb2'
  have pa_1 := pa_0.below hb2'
  clear hb2' hB_1 fa_1 fb_1 pa_0
  obtain ⟨w3, hw3, pr_0, hb3, hs3⟩ := new_box w2 (w.heap.size + 1 + 1) hs2 [.bool false, .slice none 0 0, .slice none 0 0] 28
  have hb3' : Below w2.heap.size w2 w3 := hb3.mono (by omega)
  clear hb3
  have hB_3 := hB_2.trans (hb3'.mono hB_2.size)
  have fa_3 := fa_2.below hb3'
  have fb_3 := fb_2.below hb3'
  have pa_2 := pa_1.below hb3'
  have pb_1 := pb_0.below hb3'
  clear hb3' hB_2 fa_2 fb_2 pa_1 pb_0
  go_enter Try.func23, Try.ntmps23
  go_wp2
  have hB_4 := hB_3.drew'
  have fa_4 := fa_3.drew
  have fb_4 := fb_3.drew
  have pa_3 := pa_2.drew
  have pb_2 := pb_1.drew
  have pr_1 := pr_0.drew
  clear hB_3 fa_3 fb_3 pa_2 pb_1 pr_0
  go_region_held3 (fun w' => w'.cell? ⟨w.heap.size, 0, none⟩ = some (.bool am) ∧ w'.cell? ⟨w.heap.size, 1, none⟩ = some (.slice ao an ac) ∧ w'.cell? ⟨w.heap.size, 2, none⟩ = some (.slice ap ak ad) ∧ w'.cell? ⟨w.heap.size + 1, 0, none⟩ = some (.bool bm) ∧ w'.cell? ⟨w.heap.size + 1, 1, none⟩ = some (.slice bo bn bc) ∧ w'.cell? ⟨w.heap.size + 1, 2, none⟩ = some (.slice bp bk bd))
    (first | with_reducible exact ⟨pa_3.c0, pa_3.c1, pa_3.c2, pb_2.c0, pb_2.c1, pb_2.c2⟩ | with_reducible exact ⟨pa_4.c0, pa_4.c1, pa_4.c2, pb_3.c0, pb_3.c1, pb_3.c2⟩ | with_reducible exact ⟨pa_5.c0, pa_5.c1, pa_5.c2, pb_4.c0, pb_4.c1, pb_4.c2⟩ | with_reducible exact ⟨pa_6.c0, pa_6.c1, pa_6.c2, pb_5.c0, pb_5.c1, pb_5.c2⟩ | with_reducible exact ⟨pa_7.c0, pa_7.c1, pa_7.c2, pb_6.c0, pb_6.c1, pb_6.c2⟩ | with_reducible exact ⟨pa_8.c0, pa_8.c1, pa_8.c2, pb_7.c0, pb_7.c1, pb_7.c2⟩ | with_reducible exact ⟨pa_9.c0, pa_9.c1, pa_9.c2, pb_8.c0, pb_8.c1, pb_8.c2⟩ | fail)
    (first
      | (go_at_call 45; (with_reducible refine (nMul_any _ _ L M X Y _ (by omega) (by omega) fa_4.num fb_4.num).mono ?_); rintro e w4 ⟨m1, o1, n1, c1, rfl, f1_0, hb4⟩; have hB_5 := hB_4.trans (hb4.mono hB_4.size); have fa_5 := fa_4.below hb4; have fb_5 := fb_4.below hb4; have pa_4 := pa_3.below hb4; have pb_3 := pb_2.below hb4; have pr_2 := pr_1.below hb4; clear hb4 hB_4 fa_4 fb_4 pa_3 pb_2 pr_1)
      | (go_at_call 35; (with_reducible refine (den_any _ L X D _ (by omega) fa_5).mono ?_); rintro e w5 ⟨o2, n2, c2, rfl, f2_0, hb5⟩; have hB_6 := hB_5.trans (hb5.mono hB_5.size); have fb_6 := fb_5.below hb5; have pa_5 := pa_4.below hb5; have pb_4 := pb_3.below hb5; have pr_3 := pr_2.below hb5; have f1_1 := f1_0.below hb5; clear hb5 hB_5 fa_5 fb_5 pa_4 pb_3 pr_2 f1_0)
      | (go_at_call 35; (with_reducible refine (den_any _ M Y E _ (by omega) fb_6).mono ?_); rintro e w6 ⟨o3, n3, c3, rfl, f3_0, hb6⟩; have hB_7 := hB_6.trans (hb6.mono hB_6.size); have pa_6 := pa_5.below hb6; have pb_5 := pb_4.below hb6; have pr_4 := pr_3.below hb6; have f1_2 := f1_1.below hb6; have f2_1 := f2_0.below hb6; clear hb6 hB_6 fb_6 pa_5 pb_4 pr_3 f1_1 f2_0)
      | (go_at_call 39; (with_reducible refine (mMul_any _ _ (max L 1) (max M 1) (den1 D) (den1 E) _ (by omega) (by omega) f2_1 f3_0).mono ?_); rintro e w7 ⟨o4, n4, c4, rfl, f4_0, hb7⟩; have hB_8 := hB_7.trans (hb7.mono hB_7.size); have pa_7 := pa_6.below hb7; have pb_6 := pb_5.below hb7; have pr_5 := pr_4.below hb7; have f1_3 := f1_2.below hb7; clear hb7 hB_7 pa_6 pb_5 pr_4 f1_2 f2_1 f3_0)
      | (go_at_call 36; (with_reducible refine (lowest_any _ _ (L + M + 2) (X * Y) (den1 D * den1 E) _ (by omega) (f1_3.more (by omega)) (f4_0.more (by omega)) (Nat.mul_ne_zero (den1_ne D) (den1_ne E))).mono ?_); rintro e w8 ⟨m5, o5, n5, c5, p5, k5, d5, rfl, f5_0, hb8⟩; have hB_9 := hB_8.trans (hb8.mono hB_8.size); have pa_8 := pa_7.below hb8; have pb_7 := pb_6.below hb8; have pr_6 := pr_5.below hb8; clear hb8 hB_8 pa_7 pb_6 pr_5 f1_3 f4_0; obtain ⟨sf8a, sf8b, sf8c, sf8d, sf8e, sf8f⟩ := pr_6.open3; obtain ⟨sg8a, sg8b, sg8c, sg8d⟩ := Box.put3 pr_6 (.bool m5) (.slice o5 n5 c5); have hB_10 := below_setAll hB_9 (g := w.heap.size + 1 + 1) (by omega) [.bool m5, .slice o5 n5 c5, .slice p5 k5 d5]; have pa_9 := pa_8.farAll (g' := w.heap.size + 1 + 1) (by omega) [.bool m5, .slice o5 n5 c5, .slice p5 k5 d5]; have pb_8 := pb_7.farAll (g' := w.heap.size + 1 + 1) (by omega) [.bool m5, .slice o5 n5 c5, .slice p5 k5 d5]; have f5_1 := f5_0.setAll pr_6 (noWord3 _ _ _ _ _ _ _) [.bool m5, .slice o5 n5 c5, .slice p5 k5 d5] rfl; have pr_7 := pr_6.setAll [.bool m5, .slice o5 n5 c5, .slice p5 k5 d5] rfl; simp only [setAll, Nat.zero_add, Nat.reduceAdd] at hB_10 pa_9 pb_8 pr_7 f5_1))
  clear hB_9 pa_8 pb_7 f5_0 pr_6
  clear sf8a sf8b sf8c sf8d sf8e sf8f sg8a sg8b sg8c sg8d
  generalize (World.setCell (World.setCell (World.setCell w8 ⟨w.heap.size + 1 + 1, 0, none⟩ (.bool m5)) ⟨w.heap.size + 1 + 1, 1, none⟩ (.slice o5 n5 c5)) ⟨w.heap.size + 1 + 1, 2, none⟩ (.slice p5 k5 d5)) = w9 at *
  go_wp2
  obtain ⟨pre0, pre1, pre2, pre3, pre4, pre5⟩ := pr_7.open3
  exact bodyPost_ret (v := .agg #[.bool m5, .slice o5 n5 c5, .slice p5 k5 d5]) (by simp [results, Try.results23, go_sem, pre0, pre1, pre2]) rfl ⟨_, _, _, _, _, _, _, rfl, f5_1.of (qv_mul X Y D E), hB_10⟩
theorem fMul_any (va vb : Value) (L M : Nat) (X Y : Int) (D E : Nat) (w : World) (hL : L ≤ 200000000) (hM : M ≤ 200000000) (ha : FD w va L X D) (hb : FD w vb M Y E) : Calls Try.prog 23 #[va, vb] w fun e w' => AnsF w w' e (L + M + 2) (qv X D * qv Y E) := by
  have ha' := ha
  obtain ⟨_, _, _, _, _, _, _, rfl, _, _⟩ := ha
  have hb' := hb
  obtain ⟨_, _, _, _, _, _, _, rfl, _, _⟩ := hb
  exact fMul_core _ _ _ _ _ _ _ _ _ _ _ _ _ _ L M X Y D E w hL hM ha' hb'
set_option maxHeartbeats 4000000 in
theorem Make_zero (am : Bool) (ao : Option Addr) (an ac : Nat) (bm : Bool) (bo : Option Addr) (bn bc : Nat) (L M : Nat) (X Y : Int) (w : World) (hL : L ≤ 200000000) (hM : M ≤ 200000000) (fa_0 : Num w (.agg #[.bool am, .slice ao an ac]) L X) (fb_0 : Num w (.agg #[.bool bm, .slice bo bn bc]) M Y) (h : Y = 0) :
    Calls Try.prog 43 #[.agg #[.bool am, .slice ao an ac], .agg #[.bool bm, .slice bo bn bc]] w fun e w' => AnsFt w w' e false 1 0 := by
  have hB_0 := Below.refl w.heap.size w
  have _ := hL
  obtain ⟨w1, hw1, pa_0, hb1, hs1⟩ := new_box w (w.heap.size) rfl [.bool am, .slice ao an ac] 26
  have hb1' : Below w.heap.size w w1 := hb1.mono (by omega)
  clear hb1
  have hB_1 := hB_0.trans (hb1'.mono hB_0.size)
  have fa_1 := fa_0.below hb1'
  have fb_1 := fb_0.below hb1'
  clear hb1' hB_0 fa_0 fb_0
  obtain ⟨w2, hw2, pb_0, hb2, hs2⟩ := new_box w1 (w.heap.size + 1) hs1 [.bool bm, .slice bo bn bc] 26
  have hb2' : Below w1.heap.size w1 w2 := hb2.mono (by omega)
  clear hb2
  have hB_2 := hB_1.trans (hb2'.mono hB_1.size)
  have fa_2 := fa_1.below hb2'
  have fb_2 := fb_1.below hb2'
  have pa_1 := pa_0.below hb2'
  clear hb2' hB_1 fa_1 fb_1 pa_0
  obtain ⟨w3, hw3, pr_0, hb3, hs3⟩ := new_box w2 (w.heap.size + 1 + 1) hs2 [.bool false, .slice none 0 0, .slice none 0 0] 28
  have hb3' : Below w2.heap.size w2 w3 := hb3.mono (by omega)
  clear hb3
  have hB_3 := hB_2.trans (hb3'.mono hB_2.size)
  have fa_3 := fa_2.below hb3'
  have fb_3 := fb_2.below hb3'
  have pa_2 := pa_1.below hb3'
  have pb_1 := pb_0.below hb3'
  clear hb3' hB_2 fa_2 fb_2 pa_1 pb_0
  go_enter Try.func43, Try.ntmps43
  obtain ⟨pbe0, pbe1, pbe2, pbe3⟩ := pb_1.open2
  go_wp2_with fail
  refine (Sign_is _ M Y 0 _ (by omega) fb_3 (by rw [h]; rfl)).mono ?_
  rintro e w4 ⟨rfl, hb4⟩
  clear pbe0 pbe1 pbe2 pbe3
  have hB_4 := hB_3.trans (hb4.mono hB_3.size)
  have fa_4 := fa_3.below hb4
  have fb_4 := fb_3.below hb4
  have pa_3 := pa_2.below hb4
  have pb_2 := pb_1.below hb4
  have pr_1 := pr_0.below hb4
  clear hb4 hB_3 fa_3 fb_3 pa_2 pb_1 pr_0
  obtain ⟨pbe0, pbe1, pbe2, pbe3⟩ := pb_2.open2
  clear pbe0 pbe1 pbe2 pbe3
  go_wp2_with fail
  refine (fOf_any 0 (by omega) (by omega) _).mono ?_
  rintro e w5 ⟨m1, o1, n1, c1, p1, k1, d1, rfl, f1_0, hb5⟩
  have hB_5 := hB_4.trans (hb5.mono hB_4.size)
  have fa_5 := fa_4.below hb5
  have fb_5 := fb_4.below hb5
  have pa_4 := pa_3.below hb5
  have pb_3 := pb_2.below hb5
  have pr_2 := pr_1.below hb5
  clear hb5 hB_4 fa_4 fb_4 pa_3 pb_2 pr_1
  obtain ⟨sf5a, sf5b, sf5c, sf5d, sf5e, sf5f⟩ := pr_2.open3
  obtain ⟨sg5a, sg5b, sg5c, sg5d⟩ := Box.put3 pr_2 (.bool m1) (.slice o1 n1 c1)
  go_wp2
  clear sf5a sf5b sf5c sf5d sf5e sf5f sg5a sg5b sg5c sg5d
  have hB_6 := below_setAll hB_5 (g := w.heap.size + 1 + 1) (by omega) [.bool m1, .slice o1 n1 c1, .slice p1 k1 d1]
  have fa_6 := fa_5.setAll pr_2 (noWord3 _ _ _ _ _ _ _) [.bool m1, .slice o1 n1 c1, .slice p1 k1 d1] rfl
  have fb_6 := fb_5.setAll pr_2 (noWord3 _ _ _ _ _ _ _) [.bool m1, .slice o1 n1 c1, .slice p1 k1 d1] rfl
  have pa_5 := pa_4.farAll (g' := w.heap.size + 1 + 1) (by omega) [.bool m1, .slice o1 n1 c1, .slice p1 k1 d1]
  have pb_4 := pb_3.farAll (g' := w.heap.size + 1 + 1) (by omega) [.bool m1, .slice o1 n1 c1, .slice p1 k1 d1]
  have f1_1 := f1_0.setAll pr_2 (noWord3 _ _ _ _ _ _ _) [.bool m1, .slice o1 n1 c1, .slice p1 k1 d1] rfl
  have pr_3 := pr_2.setAll [.bool m1, .slice o1 n1 c1, .slice p1 k1 d1] rfl
  simp only [setAll, Nat.zero_add, Nat.reduceAdd] at hB_6 fa_6 fb_6 pa_5 pb_4 pr_3 f1_1
  clear hB_5 fa_5 fb_5 pa_4 pb_3 f1_0 pr_2
  generalize (World.setCell (World.setCell (World.setCell w5 ⟨w.heap.size + 1 + 1, 0, none⟩ (.bool m1)) ⟨w.heap.size + 1 + 1, 1, none⟩ (.slice o1 n1 c1)) ⟨w.heap.size + 1 + 1, 2, none⟩ (.slice p1 k1 d1)) = w6 at *
  go_wp2
  obtain ⟨pre0, pre1, pre2, pre3, pre4, pre5⟩ := pr_3.open3
  exact bodyPost_ret (v := .tuple #[.agg #[.bool m1, .slice o1 n1 c1, .slice p1 k1 d1], .bool false]) (by simp [results, Try.results43, go_sem, pre0, pre1, pre2]) rfl ⟨_, _, _, _, _, _, _, rfl, f1_1.of rfl, hB_6⟩
set_option maxHeartbeats 4000000 in
theorem Make_some (am : Bool) (ao : Option Addr) (an ac : Nat) (bm : Bool) (bo : Option Addr) (bn bc : Nat) (L M : Nat) (X Y : Int) (w : World) (hL : L ≤ 200000000) (hM : M ≤ 200000000) (fa_0 : Num w (.agg #[.bool am, .slice ao an ac]) L X) (fb_0 : Num w (.agg #[.bool bm, .slice bo bn bc]) M Y) (h : Y ≠ 0) :
    Calls Try.prog 43 #[.agg #[.bool am, .slice ao an ac], .agg #[.bool bm, .slice bo bn bc]] w fun e w' => AnsFt w w' e true (max L M) ((X : Rat) / (Y : Rat)) := by
  have hB_0 := Below.refl w.heap.size w
  obtain ⟨N, ga_0, rfl⟩ := fa_0.part
  have fb2 := fb_0
  obtain ⟨H, gb_0, rfl⟩ := fb2.part
  obtain ⟨s, hs⟩ : ∃ s, (sgn bm H).sign = s := ⟨_, rfl⟩
  have hsz : (s == 0) = false := by
    simp only [beq_eq_false_iff_ne]
    intro e
    rw [e] at hs
    exact h (Int.sign_eq_zero_iff_zero.1 hs)
  obtain ⟨w1, hw1, pa_0, hb1, hs1⟩ := new_box w (w.heap.size) rfl [.bool am, .slice ao an ac] 26
  have hb1' : Below w.heap.size w w1 := hb1.mono (by omega)
  clear hb1
  have hB_1 := hB_0.trans (hb1'.mono hB_0.size)
  have ga_1 := ga_0.below hb1'
  have gb_1 := gb_0.below hb1'
  have fb_1 := fb_0.below hb1'
  clear hb1' hB_0 ga_0 gb_0 fb_0
  obtain ⟨w2, hw2, pb_0, hb2, hs2⟩ := new_box w1 (w.heap.size + 1) hs1 [.bool bm, .slice bo bn bc] 26
  have hb2' : Below w1.heap.size w1 w2 := hb2.mono (by omega)
  clear hb2
  have hB_2 := hB_1.trans (hb2'.mono hB_1.size)
  have ga_2 := ga_1.below hb2'
  have gb_2 := gb_1.below hb2'
  have fb_2 := fb_1.below hb2'
  have pa_1 := pa_0.below hb2'
  clear hb2' hB_1 ga_1 gb_1 fb_1 pa_0
  obtain ⟨w3, hw3, pr_0, hb3, hs3⟩ := new_box w2 (w.heap.size + 1 + 1) hs2 [.bool false, .slice none 0 0, .slice none 0 0] 28
  have hb3' : Below w2.heap.size w2 w3 := hb3.mono (by omega)
  clear hb3
  have hB_3 := hB_2.trans (hb3'.mono hB_2.size)
  have ga_3 := ga_2.below hb3'
  have gb_3 := gb_2.below hb3'
  have fb_3 := fb_2.below hb3'
  have pa_2 := pa_1.below hb3'
  have pb_1 := pb_0.below hb3'
  clear hb3' hB_2 ga_2 gb_2 fb_2 pa_1 pb_0
  go_enter Try.func43, Try.ntmps43
  obtain ⟨pbe0, pbe1, pbe2, pbe3⟩ := pb_1.open2
  go_wp2_with fail
  refine (Sign_is _ M (sgn bm H) s _ (by omega) fb_3 hs).mono ?_
  rintro e w4 ⟨rfl, hb4⟩
  clear pbe0 pbe1 pbe2 pbe3
  have hB_4 := hB_3.trans (hb4.mono hB_3.size)
  have ga_4 := ga_3.below hb4
  have gb_4 := gb_3.below hb4
  have fb_4 := fb_3.below hb4
  have pa_3 := pa_2.below hb4
  have pb_2 := pb_1.below hb4
  have pr_1 := pr_0.below hb4
  clear hb4 hB_3 ga_3 gb_3 fb_3 pa_2 pb_1 pr_0
  obtain ⟨pbe0, pbe1, pbe2, pbe3⟩ := pb_2.open2
  go_wp2
  clear pbe0 pbe1 pbe2 pbe3
  have hB_5 := hB_4.drew'
  have ga_5 := ga_4.drew
  have gb_5 := gb_4.drew
  have fb_5 := fb_4.drew
  have pa_4 := pa_3.drew
  have pb_3 := pb_2.drew
  have pr_2 := pr_1.drew
  clear hB_4 ga_4 gb_4 fb_4 pa_3 pb_2 pr_1
  go_region_held3 (fun w' => w'.cell? ⟨w.heap.size, 0, none⟩ = some (.bool am) ∧ w'.cell? ⟨w.heap.size, 1, none⟩ = some (.slice ao an ac) ∧ w'.cell? ⟨w.heap.size + 1, 0, none⟩ = some (.bool bm) ∧ w'.cell? ⟨w.heap.size + 1, 1, none⟩ = some (.slice bo bn bc))
    (first | with_reducible exact ⟨pa_4.c0, pa_4.c1, pb_3.c0, pb_3.c1⟩ | with_reducible exact ⟨pa_5.c0, pa_5.c1, pb_4.c0, pb_4.c1⟩ | with_reducible exact ⟨pa_6.c0, pa_6.c1, pb_5.c0, pb_5.c1⟩ | with_reducible exact ⟨pa_7.c0, pa_7.c1, pb_6.c0, pb_6.c1⟩ | with_reducible exact ⟨pa_8.c0, pa_8.c1, pb_7.c0, pb_7.c1⟩ | fail)
    (first
      | (go_at_call 44; (with_reducible refine (Make_any (!(am == bm)) _ L N _ (by omega) ga_5).mono ?_); rintro e w5 ⟨m1, o1, n1, c1, rfl, f1_0, hb5⟩; have hB_6 := hB_5.trans (hb5.mono hB_5.size); have gb_6 := gb_5.below hb5; have fb_6 := fb_5.below hb5; have pa_5 := pa_4.below hb5; have pb_4 := pb_3.below hb5; have pr_3 := pr_2.below hb5; clear hb5 hB_5 ga_5 gb_5 fb_5 pa_4 pb_3 pr_2)
      | (go_at_call 57; (with_reducible refine (fclone_any _ M H _ (by omega) gb_6).mono ?_); rintro e w6 ⟨o2, n2, c2, rfl, f2_0, hb6⟩; have hB_7 := hB_6.trans (hb6.mono hB_6.size); have fb_7 := fb_6.below hb6; have pa_6 := pa_5.below hb6; have pb_5 := pb_4.below hb6; have pr_4 := pr_3.below hb6; have f1_1 := f1_0.below hb6; clear hb6 hB_6 gb_6 fb_6 pa_5 pb_4 pr_3 f1_0)
      | (go_at_call 36; (with_reducible refine (lowest_any _ _ (max L M) (sgn (!(am == bm)) N) H _ (by omega) (f1_1.more (by omega)) (f2_0.more (by omega)) (sgn_zero h)).mono ?_); rintro e w7 ⟨m3, o3, n3, c3, p3, k3, d3, rfl, f3_0, hb7⟩; have hB_8 := hB_7.trans (hb7.mono hB_7.size); have fb_8 := fb_7.below hb7; have pa_7 := pa_6.below hb7; have pb_6 := pb_5.below hb7; have pr_5 := pr_4.below hb7; clear hb7 hB_7 fb_7 pa_6 pb_5 pr_4 f1_1 f2_0; obtain ⟨sf7a, sf7b, sf7c, sf7d, sf7e, sf7f⟩ := pr_5.open3; obtain ⟨sg7a, sg7b, sg7c, sg7d⟩ := Box.put3 pr_5 (.bool m3) (.slice o3 n3 c3); have hB_9 := below_setAll hB_8 (g := w.heap.size + 1 + 1) (by omega) [.bool m3, .slice o3 n3 c3, .slice p3 k3 d3]; have fb_9 := fb_8.setAll pr_5 (noWord3 _ _ _ _ _ _ _) [.bool m3, .slice o3 n3 c3, .slice p3 k3 d3] rfl; have pa_8 := pa_7.farAll (g' := w.heap.size + 1 + 1) (by omega) [.bool m3, .slice o3 n3 c3, .slice p3 k3 d3]; have pb_7 := pb_6.farAll (g' := w.heap.size + 1 + 1) (by omega) [.bool m3, .slice o3 n3 c3, .slice p3 k3 d3]; have f3_1 := f3_0.setAll pr_5 (noWord3 _ _ _ _ _ _ _) [.bool m3, .slice o3 n3 c3, .slice p3 k3 d3] rfl; have pr_6 := pr_5.setAll [.bool m3, .slice o3 n3 c3, .slice p3 k3 d3] rfl; simp only [setAll, Nat.zero_add, Nat.reduceAdd] at hB_9 fb_9 pa_8 pb_7 pr_6 f3_1))
  clear hB_8 fb_8 pa_7 pb_6 f3_0 pr_5
  clear sf7a sf7b sf7c sf7d sf7e sf7f sg7a sg7b sg7c sg7d
  generalize (World.setCell (World.setCell (World.setCell w7 ⟨w.heap.size + 1 + 1, 0, none⟩ (.bool m3)) ⟨w.heap.size + 1 + 1, 1, none⟩ (.slice o3 n3 c3)) ⟨w.heap.size + 1 + 1, 2, none⟩ (.slice p3 k3 d3)) = w8 at *
  go_wp2
  obtain ⟨pre0, pre1, pre2, pre3, pre4, pre5⟩ := pr_6.open3
  exact bodyPost_ret (v := .tuple #[.agg #[.bool m3, .slice o3 n3 c3, .slice p3 k3 d3], .bool true]) (by simp [results, Try.results43, go_sem, pre0, pre1, pre2]) rfl ⟨_, _, _, _, _, _, _, rfl, f3_1.of (make_eq am bm N H (sgn_zero h)), hB_9⟩
theorem fMake_zero (va vb : Value) (L M : Nat) (X Y : Int) (w : World) (hL : L ≤ 200000000) (hM : M ≤ 200000000) (ha : Num w va L X) (hb : Num w vb M Y) (h : Y = 0) : Calls Try.prog 43 #[va, vb] w fun e w' => AnsFt w w' e false 1 0 := by
  have ha' := ha
  have hb' := hb
  obtain ⟨m, va', N, rfl, h1, _⟩ := ha
  obtain ⟨ao, an, ac, rfl⟩ := h1.slice
  obtain ⟨k, vb', H, rfl, h2, _⟩ := hb
  obtain ⟨bo, bn, bc, rfl⟩ := h2.slice
  exact Make_zero _ _ _ _ _ _ _ _ L M X Y w hL hM ha' hb' h
theorem fMake_some (va vb : Value) (L M : Nat) (X Y : Int) (w : World) (hL : L ≤ 200000000) (hM : M ≤ 200000000) (ha : Num w va L X) (hb : Num w vb M Y) (h : Y ≠ 0) : Calls Try.prog 43 #[va, vb] w fun e w' => AnsFt w w' e true (max L M) ((X : Rat) / (Y : Rat)) := by
  have ha' := ha
  have hb' := hb
  obtain ⟨m, va', N, rfl, h1, _⟩ := ha
  obtain ⟨ao, an, ac, rfl⟩ := h1.slice
  obtain ⟨k, vb', H, rfl, h2, _⟩ := hb
  obtain ⟨bo, bn, bc, rfl⟩ := h2.slice
  exact Make_some _ _ _ _ _ _ _ _ L M X Y w hL hM ha' hb' h
set_option maxHeartbeats 4000000 in
theorem Div_none (am : Bool) (ao : Option Addr) (an ac : Nat) (ap : Option Addr) (ak ad : Nat) (bm : Bool) (bo : Option Addr) (bn bc : Nat) (bp : Option Addr) (bk bd : Nat) (L M : Nat) (X Y : Int) (D E : Nat) (w : World) (hL : L ≤ 200000000) (hM : M ≤ 200000000) (fa_0 : FD w (.agg #[.bool am, .slice ao an ac, .slice ap ak ad]) L X D) (fb_0 : FD w (.agg #[.bool bm, .slice bo bn bc, .slice bp bk bd]) M Y E) (h : Y = 0) :
    Calls Try.prog 54 #[.agg #[.bool am, .slice ao an ac, .slice ap ak ad], .agg #[.bool bm, .slice bo bn bc, .slice bp bk bd]] w fun e w' => AnsFt w w' e false 1 0 := by
  have hB_0 := Below.refl w.heap.size w
  have _ := hL
  obtain ⟨w1, hw1, pa_0, hb1, hs1⟩ := new_box w (w.heap.size) rfl [.bool am, .slice ao an ac, .slice ap ak ad] 28
  have hb1' : Below w.heap.size w w1 := hb1.mono (by omega)
  clear hb1
  have hB_1 := hB_0.trans (hb1'.mono hB_0.size)
  have fa_1 := fa_0.below hb1'
  have fb_1 := fb_0.below hb1'
  clear hb1' hB_0 fa_0 fb_0
  obtain ⟨w2, hw2, pb_0, hb2, hs2⟩ := new_box w1 (w.heap.size + 1) hs1 [.bool bm, .slice bo bn bc, .slice bp bk bd] 28
  have hb2' : Below w1.heap.size w1 w2 := hb2.mono (by omega)
  clear hb2
  have hB_2 := hB_1.trans (hb2'.mono hB_1.size)
  have fa_2 := fa_1.below hb2'
  have fb_2 := fb_1.below hb2'
  have pa_1 := pa_0.below hb2'
  clear hb2' hB_1 fa_1 fb_1 pa_0
  obtain ⟨w3, hw3, pr_0, hb3, hs3⟩ := new_box w2 (w.heap.size + 1 + 1) hs2 [.bool false, .slice none 0 0, .slice none 0 0] 28
  have hb3' : Below w2.heap.size w2 w3 := hb3.mono (by omega)
  clear hb3
  have hB_3 := hB_2.trans (hb3'.mono hB_2.size)
  have fa_3 := fa_2.below hb3'
  have fb_3 := fb_2.below hb3'
  have pa_2 := pa_1.below hb3'
  have pb_1 := pb_0.below hb3'
  clear hb3' hB_2 fa_2 fb_2 pa_1 pb_0
  go_enter Try.func54, Try.ntmps54
  obtain ⟨pbe0, pbe1, pbe2, pbe3, pbe4, pbe5⟩ := pb_1.open3
  go_wp2_with fail
  refine (fSign_is _ M Y 0 E _ (by omega) fb_3 (by rw [h]; rfl)).mono ?_
  rintro e w4 ⟨rfl, hb4⟩
  clear pbe0 pbe1 pbe2 pbe3 pbe4 pbe5
  have hB_4 := hB_3.trans (hb4.mono hB_3.size)
  have fa_4 := fa_3.below hb4
  have fb_4 := fb_3.below hb4
  have pa_3 := pa_2.below hb4
  have pb_2 := pb_1.below hb4
  have pr_1 := pr_0.below hb4
  clear hb4 hB_3 fa_3 fb_3 pa_2 pb_1 pr_0
  obtain ⟨pbe0, pbe1, pbe2, pbe3, pbe4, pbe5⟩ := pb_2.open3
  clear pbe0 pbe1 pbe2 pbe3 pbe4 pbe5
  go_wp2_with fail
  refine (fOf_any 0 (by omega) (by omega) _).mono ?_
  rintro e w5 ⟨m1, o1, n1, c1, p1, k1, d1, rfl, f1_0, hb5⟩
  have hB_5 := hB_4.trans (hb5.mono hB_4.size)
  have fa_5 := fa_4.below hb5
  have fb_5 := fb_4.below hb5
  have pa_4 := pa_3.below hb5
  have pb_3 := pb_2.below hb5
  have pr_2 := pr_1.below hb5
  clear hb5 hB_4 fa_4 fb_4 pa_3 pb_2 pr_1
  obtain ⟨sf5a, sf5b, sf5c, sf5d, sf5e, sf5f⟩ := pr_2.open3
  obtain ⟨sg5a, sg5b, sg5c, sg5d⟩ := Box.put3 pr_2 (.bool m1) (.slice o1 n1 c1)
  go_wp2
  clear sf5a sf5b sf5c sf5d sf5e sf5f sg5a sg5b sg5c sg5d
  have hB_6 := below_setAll hB_5 (g := w.heap.size + 1 + 1) (by omega) [.bool m1, .slice o1 n1 c1, .slice p1 k1 d1]
  have fa_6 := fa_5.setAll pr_2 (noWord3 _ _ _ _ _ _ _) [.bool m1, .slice o1 n1 c1, .slice p1 k1 d1] rfl
  have fb_6 := fb_5.setAll pr_2 (noWord3 _ _ _ _ _ _ _) [.bool m1, .slice o1 n1 c1, .slice p1 k1 d1] rfl
  have pa_5 := pa_4.farAll (g' := w.heap.size + 1 + 1) (by omega) [.bool m1, .slice o1 n1 c1, .slice p1 k1 d1]
  have pb_4 := pb_3.farAll (g' := w.heap.size + 1 + 1) (by omega) [.bool m1, .slice o1 n1 c1, .slice p1 k1 d1]
  have f1_1 := f1_0.setAll pr_2 (noWord3 _ _ _ _ _ _ _) [.bool m1, .slice o1 n1 c1, .slice p1 k1 d1] rfl
  have pr_3 := pr_2.setAll [.bool m1, .slice o1 n1 c1, .slice p1 k1 d1] rfl
  simp only [setAll, Nat.zero_add, Nat.reduceAdd] at hB_6 fa_6 fb_6 pa_5 pb_4 pr_3 f1_1
  clear hB_5 fa_5 fb_5 pa_4 pb_3 f1_0 pr_2
  generalize (World.setCell (World.setCell (World.setCell w5 ⟨w.heap.size + 1 + 1, 0, none⟩ (.bool m1)) ⟨w.heap.size + 1 + 1, 1, none⟩ (.slice o1 n1 c1)) ⟨w.heap.size + 1 + 1, 2, none⟩ (.slice p1 k1 d1)) = w6 at *
  go_wp2
  obtain ⟨pre0, pre1, pre2, pre3, pre4, pre5⟩ := pr_3.open3
  exact bodyPost_ret (v := .tuple #[.agg #[.bool m1, .slice o1 n1 c1, .slice p1 k1 d1], .bool false]) (by simp [results, Try.results54, go_sem, pre0, pre1, pre2]) rfl ⟨_, _, _, _, _, _, _, rfl, f1_1.of rfl, hB_6⟩
set_option maxHeartbeats 4000000 in
theorem Div_some (am : Bool) (ao : Option Addr) (an ac : Nat) (ap : Option Addr) (ak ad : Nat) (bm : Bool) (bo : Option Addr) (bn bc : Nat) (bp : Option Addr) (bk bd : Nat) (L M : Nat) (X Y : Int) (D E : Nat) (w : World) (hL : L ≤ 200000000) (hM : M ≤ 200000000) (fa_0 : FD w (.agg #[.bool am, .slice ao an ac, .slice ap ak ad]) L X D) (fb_0 : FD w (.agg #[.bool bm, .slice bo bn bc, .slice bp bk bd]) M Y E) (h : Y ≠ 0) :
    Calls Try.prog 54 #[.agg #[.bool am, .slice ao an ac, .slice ap ak ad], .agg #[.bool bm, .slice bo bn bc, .slice bp bk bd]] w fun e w' => AnsFt w w' e true (L + M + 3) (qv X D / qv Y E) := by
  have hB_0 := Below.refl w.heap.size w
  have fb2 := fb_0.num
  obtain ⟨H, gb_0, rfl⟩ := fb2.part
  obtain ⟨s, hs⟩ : ∃ s, (sgn bm H).sign = s := ⟨_, rfl⟩
  have hsz : (s == 0) = false := by
    simp only [beq_eq_false_iff_ne]
    intro e
    rw [e] at hs
    exact h (Int.sign_eq_zero_iff_zero.1 hs)
  obtain ⟨w1, hw1, pa_0, hb1, hs1⟩ := new_box w (w.heap.size) rfl [.bool am, .slice ao an ac, .slice ap ak ad] 28
  have hb1' : Below w.heap.size w w1 := hb1.mono (by omega)
  clear hb1
  have hB_1 := hB_0.trans (hb1'.mono hB_0.size)
  have fa_1 := fa_0.below hb1'
  have fb_1 := fb_0.below hb1'
  have gb_1 := gb_0.below hb1'
  clear hb1' hB_0 fa_0 fb_0 gb_0
  obtain ⟨w2, hw2, pb_0, hb2, hs2⟩ := new_box w1 (w.heap.size + 1) hs1 [.bool bm, .slice bo bn bc, .slice bp bk bd] 28
  have hb2' : Below w1.heap.size w1 w2 := hb2.mono (by omega)
  clear hb2
  have hB_2 := hB_1.trans (hb2'.mono hB_1.size)
  have fa_2 := fa_1.below hb2'
  have fb_2 := fb_1.below hb2'
  have gb_2 := gb_1.below hb2'
  have pa_1 := pa_0.below hb2'
  clear hb2' hB_1 fa_1 fb_1 gb_1 pa_0
  obtain ⟨w3, hw3, pr_0, hb3, hs3⟩ := new_box w2 (w.heap.size + 1 + 1) hs2 [.bool false, .slice none 0 0, .slice none 0 0] 28
  have hb3' : Below w2.heap.size w2 w3 := hb3.mono (by omega)
  clear hb3
  have hB_3 := hB_2.trans (hb3'.mono hB_2.size)
  have fa_3 := fa_2.below hb3'
  have fb_3 := fb_2.below hb3'
  have gb_3 := gb_2.below hb3'
  have pa_2 := pa_1.below hb3'
  have pb_1 := pb_0.below hb3'
  clear hb3' hB_2 fa_2 fb_2 gb_2 pa_1 pb_0
  go_enter Try.func54, Try.ntmps54
  obtain ⟨pbe0, pbe1, pbe2, pbe3, pbe4, pbe5⟩ := pb_1.open3
  go_wp2_with fail
  refine (fSign_is _ M (sgn bm H) s E _ (by omega) fb_3 hs).mono ?_
  rintro e w4 ⟨rfl, hb4⟩
  clear pbe0 pbe1 pbe2 pbe3 pbe4 pbe5
  have hB_4 := hB_3.trans (hb4.mono hB_3.size)
  have fa_4 := fa_3.below hb4
  have fb_4 := fb_3.below hb4
  have gb_4 := gb_3.below hb4
  have pa_3 := pa_2.below hb4
  have pb_2 := pb_1.below hb4
  have pr_1 := pr_0.below hb4
  clear hb4 hB_3 fa_3 fb_3 gb_3 pa_2 pb_1 pr_0
  obtain ⟨pbe0, pbe1, pbe2, pbe3, pbe4, pbe5⟩ := pb_2.open3
  go_wp2
  clear pbe0 pbe1 pbe2 pbe3 pbe4 pbe5
  have hWq_0 := Below.refl w4.heap.size w4
  have hsq : w.heap.size ≤ w4.heap.size := hB_4.size
  have hlqpa := pa_3.lt
  have hlqpb := pb_2.lt
  have hlqpr := pr_1.lt
  have hB_5 := hB_4.drew'
  have fa_5 := fa_4.drew
  have fb_5 := fb_4.drew
  have gb_5 := gb_4.drew
  have pa_4 := pa_3.drew
  have pb_3 := pb_2.drew
  have pr_2 := pr_1.drew
  have hWq_1 := hWq_0.drew'
  clear hB_4 fa_4 fb_4 gb_4 pa_3 pb_2 pr_1 hWq_0
  refine wp_region_noPanic ?_
  refine wp_region_held_drew (S := fun w' => w'.cell? ⟨w.heap.size + 1, 0, none⟩ = some (.bool bm) ∧ w'.cell? ⟨w.heap.size + 1, 1, none⟩ = some (.slice bo bn bc) ∧ w'.cell? ⟨w.heap.size + 1, 2, none⟩ = some (.slice bp bk bd)) (by kernel_rfl) (⟨pb_3.c0, pb_3.c1, pb_3.c2⟩) (fun hHeld => ?_)
  refine reg_take 0 ?_ ?_ ?_ (by kernel_rfl) (by kernel_rfl) (by kernel_rfl) (fun _ _ _ h => h) ?_ ?_ (by assumption) ?_
  rotate_left 2
  · simp only [List.getElem?_toArray, List.getElem?_cons_zero]; exact rfl
  · rfl
  · intro w hSw; (try dsimp only at hSw); go_simp; try with_reducible rfl
  try simp only [Act.put]
  try simp only [List.setIfInBounds_toArray, List.set_cons_zero, List.set_cons_succ]
  refine reg_take 1 ?_ ?_ ?_ (by kernel_rfl) (by kernel_rfl) (by kernel_rfl) (fun _ _ _ h => h) ?_ ?_ (by assumption) ?_
  rotate_left 2
  · simp only [List.getElem?_toArray, List.getElem?_cons_succ, List.getElem?_cons_zero]; exact rfl
  · rfl
  · intro w hSw; (try dsimp only at hSw); go_simp; try with_reducible rfl
  try simp only [Act.put]
  try simp only [List.setIfInBounds_toArray, List.set_cons_zero, List.set_cons_succ]
  refine reg_take 2 ?_ ?_ ?_ (by kernel_rfl) (by kernel_rfl) (by kernel_rfl) (fun _ _ _ h => h) ?_ ?_ (by assumption) ?_
  rotate_left 2
  · simp only [List.getElem?_toArray, List.getElem?_cons_succ, List.getElem?_cons_zero]; exact rfl
  · rfl
  · intro w hSw; (try dsimp only at hSw); go_simp; try with_reducible rfl
  try simp only [Act.put]
  try simp only [List.setIfInBounds_toArray, List.set_cons_zero, List.set_cons_succ]
  refine reg_take 3 ?_ ?_ ?_ (by kernel_rfl) (by kernel_rfl) (by kernel_rfl) (fun _ _ _ h => h) ?_ ?_ (by assumption) ?_
  rotate_left 2
  · simp only [List.getElem?_toArray, List.getElem?_cons_succ, List.getElem?_cons_zero]; exact rfl
  · rfl
  · intro w hSw; (try dsimp only at hSw); go_simp; try with_reducible rfl
  try simp only [Act.put]
  try simp only [List.setIfInBounds_toArray, List.set_cons_zero, List.set_cons_succ]
  refine reg_take 6 ?_ ?_ ?_ (by kernel_rfl) (by kernel_rfl) (by kernel_rfl) (fun _ _ _ h => h) ?_ ?_ (by assumption) ?_
  rotate_left 2
  · simp only [List.getElem?_toArray, List.getElem?_cons_succ, List.getElem?_cons_zero]; exact rfl
  · rfl
  · intro w hSw; (try dsimp only at hSw); go_simp; try with_reducible rfl
  try simp only [Act.put]
  try simp only [List.setIfInBounds_toArray, List.set_cons_zero, List.set_cons_succ]
  refine reg_take 7 ?_ ?_ ?_ (by kernel_rfl) (by kernel_rfl) (by kernel_rfl) (fun _ _ _ h => h) ?_ ?_ (by assumption) ?_
  rotate_left 2
  · simp only [List.getElem?_toArray, List.getElem?_cons_succ, List.getElem?_cons_zero]; exact rfl
  · rfl
  · intro w hSw; (try dsimp only at hSw); go_simp; try with_reducible rfl
  try simp only [Act.put]
  try simp only [List.setIfInBounds_toArray, List.set_cons_zero, List.set_cons_succ]
  refine reg_take 8 ?_ ?_ ?_ (by kernel_rfl) (by kernel_rfl) (by kernel_rfl) (fun _ _ _ h => h) ?_ ?_ (by assumption) ?_
  rotate_left 2
  · simp only [List.getElem?_toArray, List.getElem?_cons_succ, List.getElem?_cons_zero]; exact rfl
  · rfl
  · intro w hSw; (try dsimp only at hSw); go_simp; try with_reducible rfl
  try simp only [Act.put]
  try simp only [List.setIfInBounds_toArray, List.set_cons_zero, List.set_cons_succ]
  refine reg_grab (fun WWq aq hWW hAA => ?_)
  have HWq := Lib.hid hWW; have HAq := Lib.hid hAA; clear hWW hAA hHeld
  have stq_1t : ∀ (w' : World) (o1 : Option Addr) (n1 : Nat) (c1 : Nat) (gpo : Nat), Below w.heap.size w w' → FD w' (.agg #[.bool am, .slice ao an ac, .slice ap ak ad]) L X D → FD w' (.agg #[.bool bm, .slice bo bn bc, .slice bp bk bd]) M (sgn bm H) E → Mag w' (.slice bo bn bc) M H → Box w' (w.heap.size) [.bool am, .slice ao an ac, .slice ap ak ad] → Box w' (w.heap.size + 1) [.bool bm, .slice bo bn bc, .slice bp bk bd] → Box w' (w.heap.size + 1 + 1) [.bool false, .slice none 0 0, .slice none 0 0] → Below w4.heap.size w4 w' → Mag w' (.slice o1 n1 c1) (max M 1) (den1 E) → Box w' gpo [.bool false, .slice none 0 0, .slice none 0 0] → w4.heap.size ≤ gpo → WWq 1 #[true, true, true, true, true, true, true, true, true, true, true, false] ((((aq.put (some 15) (.slice o1 n1 c1)).put (some 16) (.agg #[.bool bm, .slice o1 n1 c1])).put (some 20) (.agg #[.bool bm, .slice o1 n1 c1, .slice bo bn bc])).put (some 6) (.pointer (some ⟨gpo, 0, none⟩))) w' := by
    intro w5 o1 n1 c1 gpo hB_0 fa_0 fb_0 gb_0 pa_0 pb_0 pr_0 hWq_0 f1_0 po_0 hgpo
    rw [HWq.out, HAq.out]
    try simp only [Act.put]
    try simp only [List.setIfInBounds_toArray, List.set_cons_zero, List.set_cons_succ]
    obtain ⟨sf5a, sf5b, sf5c, sf5d, sf5e, sf5f⟩ := po_0.open3
    obtain ⟨sg5a, sg5b, sg5c, sg5d⟩ := Box.put3 po_0 (.bool bm) (.slice o1 n1 c1)
    refine reg_call 11 ?_ (by kernel_rfl) ?_ (fun K hK => ?_)
    rotate_left 1
    · simp only [List.getElem?_toArray, List.getElem?_cons_succ, List.getElem?_cons_zero]; exact rfl
    go_simp
    have hB_1 := below_setAll hB_0 (g := gpo) (by omega) [.bool bm, .slice o1 n1 c1, .slice bo bn bc]
    have fa_1 := fa_0.setAll po_0 (noWord3 _ _ _ _ _ _ _) [.bool bm, .slice o1 n1 c1, .slice bo bn bc] rfl
    have fb_1 := fb_0.setAll po_0 (noWord3 _ _ _ _ _ _ _) [.bool bm, .slice o1 n1 c1, .slice bo bn bc] rfl
    have gb_1 := gb_0.setAll po_0 (noWord3 _ _ _ _ _ _ _) [.bool bm, .slice o1 n1 c1, .slice bo bn bc] rfl
    have pa_1 := pa_0.farAll (g' := gpo) (by omega) [.bool bm, .slice o1 n1 c1, .slice bo bn bc]
    have pb_1 := pb_0.farAll (g' := gpo) (by omega) [.bool bm, .slice o1 n1 c1, .slice bo bn bc]
    have pr_1 := pr_0.farAll (g' := gpo) (by omega) [.bool bm, .slice o1 n1 c1, .slice bo bn bc]
    have hWq_1 := below_setAll hWq_0 (g := gpo) (by omega) [.bool bm, .slice o1 n1 c1, .slice bo bn bc]
    have f1_1 := f1_0.setAll po_0 (noWord3 _ _ _ _ _ _ _) [.bool bm, .slice o1 n1 c1, .slice bo bn bc] rfl
    have po_1 := po_0.setAll [.bool bm, .slice o1 n1 c1, .slice bo bn bc] rfl
    simp only [setAll, Nat.zero_add, Nat.reduceAdd] at hB_1 fa_1 fb_1 gb_1 pa_1 pb_1 pr_1 hWq_1 f1_1 po_1
    clear sf5a sf5b sf5c sf5d sf5e sf5f sg5a sg5b sg5c sg5d
    clear hB_0 fa_0 fb_0 gb_0 pa_0 pb_0 pr_0 hWq_0 f1_0 po_0
    refine hK.out _ _ ⟨pb_1.c0, pb_1.c1, pb_1.c2⟩ (fun hHeld => ?_)
    clear hK K hHeld
    try simp only [Act.put]
    try simp only [List.setIfInBounds_toArray, List.set_cons_zero, List.set_cons_succ]
    generalize (World.setCell (World.setCell (World.setCell w5 ⟨gpo, 0, none⟩ (.bool bm)) ⟨gpo, 1, none⟩ (.slice o1 n1 c1)) ⟨gpo, 2, none⟩ (.slice bo bn bc)) = w6 at *
    refine wpAnyH_done (by kernel_rfl) ?_ _
    refine NoPanic.normal ?_
    clear hWq_1
    have fo_0 := FD.make bm f1_1 gb_1
    obtain ⟨pae0, pae1, pae2, pae3, pae4, pae5⟩ := pa_1.open3
    obtain ⟨poe0, poe1, poe2, poe3, poe4, poe5⟩ := po_1.open3
    go_wp2_with fail
    refine (fMul_any _ _ L (max M 1) X (sgn bm (den1 E)) D H _ (by omega) (by omega) fa_1 fo_0).mono ?_
    rintro e w7 ⟨m2, o2, n2, c2, p2, k2, d2, rfl, f2_0, hb7⟩
    clear pae0 pae1 pae2 pae3 pae4 pae5 poe0 poe1 poe2 poe3 poe4 poe5
    have hB_2 := hB_1.trans (hb7.mono hB_1.size)
    have fa_2 := fa_1.below hb7
    have fb_2 := fb_1.below hb7
    have gb_2 := gb_1.below hb7
    have pa_2 := pa_1.below hb7
    have pb_2 := pb_1.below hb7
    have pr_2 := pr_1.below hb7
    have f1_2 := f1_1.below hb7
    have po_2 := po_1.below hb7
    have fo_1 := fo_0.below hb7
    clear hb7 hB_1 fa_1 fb_1 gb_1 pa_1 pb_1 pr_1 f1_1 po_1 fo_0
    obtain ⟨pae0, pae1, pae2, pae3, pae4, pae5⟩ := pa_2.open3
    obtain ⟨poe0, poe1, poe2, poe3, poe4, poe5⟩ := po_2.open3
    obtain ⟨sf7a, sf7b, sf7c, sf7d, sf7e, sf7f⟩ := pr_2.open3
    obtain ⟨sg7a, sg7b, sg7c, sg7d⟩ := Box.put3 pr_2 (.bool m2) (.slice o2 n2 c2)
    go_wp2
    clear pae0 pae1 pae2 pae3 pae4 pae5 poe0 poe1 poe2 poe3 poe4 poe5 sf7a sf7b sf7c sf7d sf7e sf7f sg7a sg7b sg7c sg7d
    have hB_3 := below_setAll hB_2 (g := w.heap.size + 1 + 1) (by omega) [.bool m2, .slice o2 n2 c2, .slice p2 k2 d2]
    have fa_3 := fa_2.setAll pr_2 (noWord3 _ _ _ _ _ _ _) [.bool m2, .slice o2 n2 c2, .slice p2 k2 d2] rfl
    have fb_3 := fb_2.setAll pr_2 (noWord3 _ _ _ _ _ _ _) [.bool m2, .slice o2 n2 c2, .slice p2 k2 d2] rfl
    have gb_3 := gb_2.setAll pr_2 (noWord3 _ _ _ _ _ _ _) [.bool m2, .slice o2 n2 c2, .slice p2 k2 d2] rfl
    have pa_3 := pa_2.farAll (g' := w.heap.size + 1 + 1) (by omega) [.bool m2, .slice o2 n2 c2, .slice p2 k2 d2]
    have pb_3 := pb_2.farAll (g' := w.heap.size + 1 + 1) (by omega) [.bool m2, .slice o2 n2 c2, .slice p2 k2 d2]
    have f1_3 := f1_2.setAll pr_2 (noWord3 _ _ _ _ _ _ _) [.bool m2, .slice o2 n2 c2, .slice p2 k2 d2] rfl
    have po_3 := po_2.farAll (g' := w.heap.size + 1 + 1) (by omega) [.bool m2, .slice o2 n2 c2, .slice p2 k2 d2]
    have fo_2 := fo_1.setAll pr_2 (noWord3 _ _ _ _ _ _ _) [.bool m2, .slice o2 n2 c2, .slice p2 k2 d2] rfl
    have f2_1 := f2_0.setAll pr_2 (noWord3 _ _ _ _ _ _ _) [.bool m2, .slice o2 n2 c2, .slice p2 k2 d2] rfl
    have pr_3 := pr_2.setAll [.bool m2, .slice o2 n2 c2, .slice p2 k2 d2] rfl
    simp only [setAll, Nat.zero_add, Nat.reduceAdd] at hB_3 fa_3 fb_3 gb_3 pa_3 pb_3 pr_3 f1_3 po_3 fo_2 f2_1
    clear hB_2 fa_2 fb_2 gb_2 pa_2 pb_2 f1_2 po_2 fo_1 f2_0 pr_2
    generalize (World.setCell (World.setCell (World.setCell w7 ⟨w.heap.size + 1 + 1, 0, none⟩ (.bool m2)) ⟨w.heap.size + 1 + 1, 1, none⟩ (.slice o2 n2 c2)) ⟨w.heap.size + 1 + 1, 2, none⟩ (.slice p2 k2 d2)) = w8 at *
    go_wp2
    obtain ⟨pre0, pre1, pre2, pre3, pre4, pre5⟩ := pr_3.open3
    exact bodyPost_ret (v := .tuple #[.agg #[.bool m2, .slice o2 n2 c2, .slice p2 k2 d2], .bool true]) (by simp [results, Try.results54, go_sem, pre0, pre1, pre2]) rfl ⟨_, _, _, _, _, _, _, rfl, (RF.of f2_1 (qv_div X D bm H E (sgn_zero h))).more (by omega), hB_3⟩
  simp only [HAq.out, Act.put, List.setIfInBounds_toArray, List.set_cons_zero, List.set_cons_succ] at stq_1t
  have stq_1f : ∀ (w' : World) (o1 : Option Addr) (n1 : Nat) (c1 : Nat), Below w.heap.size w w' → FD w' (.agg #[.bool am, .slice ao an ac, .slice ap ak ad]) L X D → FD w' (.agg #[.bool bm, .slice bo bn bc, .slice bp bk bd]) M (sgn bm H) E → Mag w' (.slice bo bn bc) M H → Box w' (w.heap.size) [.bool am, .slice ao an ac, .slice ap ak ad] → Box w' (w.heap.size + 1) [.bool bm, .slice bo bn bc, .slice bp bk bd] → Box w' (w.heap.size + 1 + 1) [.bool false, .slice none 0 0, .slice none 0 0] → Below w4.heap.size w4 w' → Mag w' (.slice o1 n1 c1) (max M 1) (den1 E) → WWq 2 #[true, true, true, true, true, true, true, true, true, true, false, false] (((aq.put (some 15) (.slice o1 n1 c1)).put (some 16) (.agg #[.bool bm, .slice o1 n1 c1])).put (some 20) (.agg #[.bool bm, .slice o1 n1 c1, .slice bo bn bc])) w' := by
    intro w9 o1 n1 c1 hB_0 fa_0 fb_0 gb_0 pa_0 pb_0 pr_0 hWq_0 f1_0
    rw [HWq.out, HAq.out]
    try simp only [Act.put]
    try simp only [List.setIfInBounds_toArray, List.set_cons_zero, List.set_cons_succ]
    refine reg_all1 10 ?_ (by kernel_rfl) ?_ (fun K hK => ?_)
    rotate_left 1
    · simp only [List.getElem?_toArray, List.getElem?_cons_succ, List.getElem?_cons_zero]; exact rfl
    · go_simp
      have hgn : w4.heap.size ≤ w9.heap.size := hWq_0.size
      obtain ⟨w10, hww10, po_0, hb10, -⟩ := new_box w9 _ rfl [.bool false, .slice none 0 0, .slice none 0 0] 28
      rw [hww10]
      have hB_1 := hB_0.trans (hb10.mono hB_0.size)
      have fa_1 := fa_0.below hb10
      have fb_1 := fb_0.below hb10
      have gb_1 := gb_0.below hb10
      have pa_1 := pa_0.below hb10
      have pb_1 := pb_0.below hb10
      have pr_1 := pr_0.below hb10
      have hWq_1 := hWq_0.trans (hb10.mono hWq_0.size)
      have f1_1 := f1_0.below hb10
      clear hb10 hB_0 fa_0 fb_0 gb_0 pa_0 pb_0 pr_0 hWq_0 f1_0
      refine hK.out _ _ ⟨pb_1.c0, pb_1.c1, pb_1.c2⟩ (fun hHeld => ?_)
      clear hK K
      try simp only [Act.put]
      try simp only [List.setIfInBounds_toArray, List.set_cons_zero, List.set_cons_succ]
      rw [← HWq.out]
      exact stq_1t _ o1 n1 c1 w9.heap.size hB_1 fa_1 fb_1 gb_1 pa_1 pb_1 pr_1 hWq_1 f1_1 po_0 (by omega)
  try simp only [HAq.out, Act.put, List.setIfInBounds_toArray, List.set_cons_zero, List.set_cons_succ] at stq_1f
  have stq_0t : ∀ (w' : World) (gpo : Nat), Below w.heap.size w w' → FD w' (.agg #[.bool am, .slice ao an ac, .slice ap ak ad]) L X D → FD w' (.agg #[.bool bm, .slice bo bn bc, .slice bp bk bd]) M (sgn bm H) E → Mag w' (.slice bo bn bc) M H → Box w' (w.heap.size) [.bool am, .slice ao an ac, .slice ap ak ad] → Box w' (w.heap.size + 1) [.bool bm, .slice bo bn bc, .slice bp bk bd] → Box w' (w.heap.size + 1 + 1) [.bool false, .slice none 0 0, .slice none 0 0] → Below w4.heap.size w4 w' → Box w' gpo [.bool false, .slice none 0 0, .slice none 0 0] → w4.heap.size ≤ gpo → WWq 4 #[true, true, true, true, false, false, true, true, true, false, true, false] (aq.put (some 6) (.pointer (some ⟨gpo, 0, none⟩))) w' := by
    intro w11 gpo hB_0 fa_0 fb_0 gb_0 pa_0 pb_0 pr_0 hWq_0 po_0 hgpo
    rw [HWq.out, HAq.out]
    try simp only [Act.put]
    try simp only [List.setIfInBounds_toArray, List.set_cons_zero, List.set_cons_succ]
    refine reg_all1 4 ?_ (by kernel_rfl) ?_ (fun K hK => ?_)
    rotate_left 1
    · simp only [List.getElem?_toArray, List.getElem?_cons_succ, List.getElem?_cons_zero]; exact rfl
    · go_simp
      refine (den_any _ M (sgn bm H) E _ (by omega) fb_0).mono ?_
      rintro e w12 ⟨o1, n1, c1, rfl, f1_0, hb12⟩
      have hB_1 := hB_0.trans (hb12.mono hB_0.size)
      have fa_1 := fa_0.below hb12
      have fb_1 := fb_0.below hb12
      have gb_1 := gb_0.below hb12
      have pa_1 := pa_0.below hb12
      have pb_1 := pb_0.below hb12
      have pr_1 := pr_0.below hb12
      have hWq_1 := hWq_0.trans (hb12.mono hWq_0.size)
      have po_1 := po_0.below hb12
      clear hb12 hB_0 fa_0 fb_0 gb_0 pa_0 pb_0 pr_0 hWq_0 po_0
      go_wp2_with fail
      refine hK.out _ _ ⟨pb_1.c0, pb_1.c1, pb_1.c2⟩ (fun hHeld => ?_)
      clear hK K
      try simp only [Act.put]
      try simp only [List.setIfInBounds_toArray, List.set_cons_zero, List.set_cons_succ]
      refine reg_take 5 ?_ ?_ ?_ (by kernel_rfl) (by kernel_rfl) (by kernel_rfl) (fun _ _ _ h => h) ?_ ?_ (by assumption) ?_
      rotate_left 2
      · simp only [List.getElem?_toArray, List.getElem?_cons_succ, List.getElem?_cons_zero]; exact rfl
      · rfl
      · intro w hSw; (try dsimp only at hSw); go_simp; try with_reducible rfl
      try simp only [Act.put]
      try simp only [List.setIfInBounds_toArray, List.set_cons_zero, List.set_cons_succ]
      refine reg_take 9 ?_ ?_ ?_ (by kernel_rfl) (by kernel_rfl) (by kernel_rfl) (fun _ _ _ h => h) ?_ ?_ (by assumption) ?_
      rotate_left 2
      · simp only [List.getElem?_toArray, List.getElem?_cons_succ, List.getElem?_cons_zero]; exact rfl
      · rfl
      · intro w hSw; (try dsimp only at hSw); go_simp; try with_reducible rfl
      try simp only [Act.put]
      try simp only [List.setIfInBounds_toArray, List.set_cons_zero, List.set_cons_succ]
      rw [← HWq.out]
      exact stq_1t _ o1 n1 c1 gpo hB_1 fa_1 fb_1 gb_1 pa_1 pb_1 pr_1 hWq_1 f1_0 po_1 (by omega)
  try simp only [HAq.out, Act.put, List.setIfInBounds_toArray, List.set_cons_zero, List.set_cons_succ] at stq_0t
  have stq_0f : ∀ (w' : World), Below w.heap.size w w' → FD w' (.agg #[.bool am, .slice ao an ac, .slice ap ak ad]) L X D → FD w' (.agg #[.bool bm, .slice bo bn bc, .slice bp bk bd]) M (sgn bm H) E → Mag w' (.slice bo bn bc) M H → Box w' (w.heap.size) [.bool am, .slice ao an ac, .slice ap ak ad] → Box w' (w.heap.size + 1) [.bool bm, .slice bo bn bc, .slice bp bk bd] → Box w' (w.heap.size + 1 + 1) [.bool false, .slice none 0 0, .slice none 0 0] → Below w4.heap.size w4 w' → WWq 5 #[true, true, true, true, false, false, true, true, true, false, false, false] aq w' := by
    intro w13 hB_0 fa_0 fb_0 gb_0 pa_0 pb_0 pr_0 hWq_0
    rw [HWq.out, HAq.out]
    try simp only [Act.put]
    try simp only [List.setIfInBounds_toArray, List.set_cons_zero, List.set_cons_succ]
    refine reg_all2 4 10 ?_ ?_ (by kernel_rfl) ?_ ?_ (fun K hK => ?_) (fun K hK => ?_)
    rotate_left 2
    · simp only [List.getElem?_toArray, List.getElem?_cons_succ, List.getElem?_cons_zero]; exact rfl
    · simp only [List.getElem?_toArray, List.getElem?_cons_succ, List.getElem?_cons_zero]; exact rfl
    · go_simp
      refine (den_any _ M (sgn bm H) E _ (by omega) fb_0).mono ?_
      rintro e w14 ⟨o1, n1, c1, rfl, f1_0, hb14⟩
      have hB_1 := hB_0.trans (hb14.mono hB_0.size)
      have fa_1 := fa_0.below hb14
      have fb_1 := fb_0.below hb14
      have gb_1 := gb_0.below hb14
      have pa_1 := pa_0.below hb14
      have pb_1 := pb_0.below hb14
      have pr_1 := pr_0.below hb14
      have hWq_1 := hWq_0.trans (hb14.mono hWq_0.size)
      clear hb14 hB_0 fa_0 fb_0 gb_0 pa_0 pb_0 pr_0 hWq_0
      go_wp2_with fail
      refine hK.out _ _ ⟨pb_1.c0, pb_1.c1, pb_1.c2⟩ (fun hHeld => ?_)
      clear hK K
      try simp only [Act.put]
      try simp only [List.setIfInBounds_toArray, List.set_cons_zero, List.set_cons_succ]
      refine reg_take 5 ?_ ?_ ?_ (by kernel_rfl) (by kernel_rfl) (by kernel_rfl) (fun _ _ _ h => h) ?_ ?_ (by assumption) ?_
      rotate_left 2
      · simp only [List.getElem?_toArray, List.getElem?_cons_succ, List.getElem?_cons_zero]; exact rfl
      · rfl
      · intro w hSw; (try dsimp only at hSw); go_simp; try with_reducible rfl
      try simp only [Act.put]
      try simp only [List.setIfInBounds_toArray, List.set_cons_zero, List.set_cons_succ]
      refine reg_take 9 ?_ ?_ ?_ (by kernel_rfl) (by kernel_rfl) (by kernel_rfl) (fun _ _ _ h => h) ?_ ?_ (by assumption) ?_
      rotate_left 2
      · simp only [List.getElem?_toArray, List.getElem?_cons_succ, List.getElem?_cons_zero]; exact rfl
      · rfl
      · intro w hSw; (try dsimp only at hSw); go_simp; try with_reducible rfl
      try simp only [Act.put]
      try simp only [List.setIfInBounds_toArray, List.set_cons_zero, List.set_cons_succ]
      rw [← HWq.out]
      exact stq_1f _ o1 n1 c1 hB_1 fa_1 fb_1 gb_1 pa_1 pb_1 pr_1 hWq_1 f1_0
    · go_simp
      have hgn : w4.heap.size ≤ w13.heap.size := hWq_0.size
      obtain ⟨w15, hww15, po_0, hb15, -⟩ := new_box w13 _ rfl [.bool false, .slice none 0 0, .slice none 0 0] 28
      rw [hww15]
      have hB_1 := hB_0.trans (hb15.mono hB_0.size)
      have fa_1 := fa_0.below hb15
      have fb_1 := fb_0.below hb15
      have gb_1 := gb_0.below hb15
      have pa_1 := pa_0.below hb15
      have pb_1 := pb_0.below hb15
      have pr_1 := pr_0.below hb15
      have hWq_1 := hWq_0.trans (hb15.mono hWq_0.size)
      clear hb15 hB_0 fa_0 fb_0 gb_0 pa_0 pb_0 pr_0 hWq_0
      refine hK.out _ _ ⟨pb_1.c0, pb_1.c1, pb_1.c2⟩ (fun hHeld => ?_)
      clear hK K
      try simp only [Act.put]
      try simp only [List.setIfInBounds_toArray, List.set_cons_zero, List.set_cons_succ]
      rw [← HWq.out]
      exact stq_0t _ w13.heap.size hB_1 fa_1 fb_1 gb_1 pa_1 pb_1 pr_1 hWq_1 po_0 (by omega)
  exact stq_0f _ hB_5 fa_5 fb_5 gb_5 pa_4 pb_3 pr_2 hWq_1
theorem fDiv_zero (va vb : Value) (L M : Nat) (X Y : Int) (D E : Nat) (w : World) (hL : L ≤ 200000000) (hM : M ≤ 200000000) (ha : FD w va L X D) (hb : FD w vb M Y E) (h : Y = 0) : Calls Try.prog 54 #[va, vb] w fun e w' => AnsFt w w' e false 1 0 := by
  have ha' := ha
  obtain ⟨_, _, _, _, _, _, _, rfl, _, _⟩ := ha
  have hb' := hb
  obtain ⟨_, _, _, _, _, _, _, rfl, _, _⟩ := hb
  exact Div_none _ _ _ _ _ _ _ _ _ _ _ _ _ _ L M X Y D E w hL hM ha' hb' h
theorem fDiv_some (va vb : Value) (L M : Nat) (X Y : Int) (D E : Nat) (w : World) (hL : L ≤ 200000000) (hM : M ≤ 200000000) (ha : FD w va L X D) (hb : FD w vb M Y E) (h : Y ≠ 0) : Calls Try.prog 54 #[va, vb] w fun e w' => AnsFt w w' e true (L + M + 3) (qv X D / qv Y E) := by
  have ha' := ha
  obtain ⟨_, _, _, _, _, _, _, rfl, _, _⟩ := ha
  have hb' := hb
  obtain ⟨_, _, _, _, _, _, _, rfl, _, _⟩ := hb
  exact Div_some _ _ _ _ _ _ _ _ _ _ _ _ _ _ L M X Y D E w hL hM ha' hb' h
end Go.Proofs.Ytdfabocecpcmcaa
/- The calls of frac, on: parts, odd, Floor, Round. -/
namespace Go.Proofs.Ytdfabocecpcmcaa
open Go.RowKit Go.MagM
/-- A call's answer is a right Num and a right Mag. -/
def AnsNM (w w' : World) (e : Ending) (L : Nat) (X : Int) (M N : Nat) : Prop :=
  ∃ m ao n c bo k d, e = .returned (.tuple #[.agg #[.bool m, .slice ao n c], .slice bo k d]) ∧ RNum w' (.agg #[.bool m, .slice ao n c]) L X ∧ RMag w' (.slice bo k d) M N ∧ Below w.heap.size w w'
theorem mCmp_is (va vb : Value) (L M X Y : Nat) (c : Int) (w : World) (hL : L ≤ 4000000000) (hM : M ≤ 4000000000) (ha : Mag w va L X) (hb : Mag w vb M Y) (h : cmpn X Y = c) : Calls Try.prog 63 #[va, vb] w fun e w' => e = .returned (.int .i64 c) ∧ Below w.heap.size w w' :=
  (Cmp_any va vb L M X Y w hL hM ha hb).mono fun e w' ⟨q, h1, h2⟩ => ⟨by rw [h1, h], (drewN_size h2).1⟩
end Go.Proofs.Ytdfabocecpcmcaa
namespace Go.MagM
open Go.RowKit
theorem RNum.low {w : World} {m : Bool} {ao : Option Addr} {n c L : Nat} {X : Int} (h : RNum w (.agg #[.bool m, .slice ao (n + 1) c]) L X) :
    ∃ b o x, ao = some ⟨b, o, none⟩ ∧ w.cell? ⟨b, o, none⟩ = some (.int .u64 x) ∧ bits .and .u64 x 1 = X % 2 := by
  obtain ⟨N, h1, rfl, _⟩ := h.part
  obtain ⟨ao', n', c', f, e, _, _, h4, h5, _⟩ := h1
  simp at e
  obtain ⟨rfl, rfl, rfl⟩ := e
  obtain ⟨b, o, h6, h7, h8⟩ := h4 0 (by omega)
  refine ⟨b, o, _, h6, h7, ?_⟩
  have h1 := V_low f 0 n
  simp only [Nat.zero_add] at h1
  rw [h1] at h5
  have h3 := bits_and_u64_nat (f 0) 1 (by unfold B at h8; omega) (by omega)
  have h9 : f 0 &&& 1 = f 0 % 2 := Nat.and_two_pow_sub_one_eq_mod (f 0) 1
  have h10 : f 0 % 2 = N % 2 := by unfold B at h5; omega
  rw [h9, h10] at h3
  rw [show (1 : Int) = ((1 : Nat) : Int) from rfl, h3]
  cases m <;> simp only [sgn, if_true, if_false, Bool.false_eq_true] <;> omega
theorem RNum.nil {w : World} {m : Bool} {ao : Option Addr} {c L : Nat} {X : Int} (h : RNum w (.agg #[.bool m, .slice ao 0 c]) L X) : X = 0 := by
  obtain ⟨N, h1, rfl, _⟩ := h.part
  obtain ⟨ao', n', c', f, e, _, _, h4, h5, _⟩ := h1
  simp at e
  obtain ⟨rfl, rfl, rfl⟩ := e
  rw [← h5]
  cases m <;> rfl
theorem RNum.nat {w : World} {m : Bool} {ao : Option Addr} {n c L : Nat} {X : Int} {N : Nat} (h : RNum w (.agg #[.bool m, .slice ao n c]) L X) (e : X = (N : Int)) : RMag w (.slice ao n c) L N := by
  obtain ⟨M, h1, h2, h3⟩ := h.part
  have : M = N := by
    have h4 := h2.symm.trans e
    cases m
    · simp only [sgn, if_false, Bool.false_eq_true] at h4; omega
    · have := h3 rfl
      simp only [sgn, if_true] at h4; omega
  subst this; exact h1
theorem fmod_nat (X : Int) (D : Nat) : X.fmod (den1 D : Nat) = ((X.fmod (den1 D : Nat)).toNat : Int) := by
  have := Int.fmod_nonneg_of_pos X (b := (den1 D : Nat)) (by have := den1_pos D; omega)
  omega
end Go.MagM
namespace Go.Proofs.Ytdfabocecpcmcaa
open Go.RowKit Go.MagM
end Go.Proofs.Ytdfabocecpcmcaa
/- The calls of frac, on: Round, Sum. -/
namespace Go.MagM
open Go.RowKit
theorem rest_eq (X : Int) (D : Nat) : X = X.fdiv (den1 D : Nat) * (den1 D : Nat) + ((X.fmod (den1 D : Nat)).toNat : Int) := by
  have h1 := Int.mul_fdiv_add_fmod X (den1 D : Nat)
  rw [fmod_nat X D, Int.mul_comm] at h1
  exact h1.symm
theorem frac_rest (X : Int) (D : Nat) : (qv X D - ((qv X D).floor : Rat)) * ((den1 D : Nat) : Rat) = (((X.fmod (den1 D : Nat)).toNat : Nat) : Rat) := by
  have h1 := qv_mul_den X D
  have h2 := rest_eq X D
  rw [← qv_floor] at h2
  have h3 : (X : Rat) = ((qv X D).floor : Rat) * ((den1 D : Nat) : Rat) + (((X.fmod (den1 D : Nat)).toNat : Nat) : Rat) := by
    have h4 := congrArg (fun z : Int => (z : Rat)) h2
    simp only [Rat.intCast_add, Rat.intCast_mul, Rat.intCast_natCast] at h4
    exact h4
  grind
theorem rnd_cases (X : Int) (D : Nat) : (2 * (qv X D - ((qv X D).floor : Rat)) < 1 ↔ (X.fmod (den1 D : Nat)).toNat * 2 < den1 D) ∧ (2 * (qv X D - ((qv X D).floor : Rat)) = 1 ↔ (X.fmod (den1 D : Nat)).toNat * 2 = den1 D) := by
  have h1 := frac_rest X D
  have hd := den1_q D
  generalize (X.fmod (den1 D : Nat)).toNat = r at *
  generalize qv X D - ((qv X D).floor : Rat) = y at *
  have e1 : ((r * 2 : Nat) : Rat) = (2 * y) * ((den1 D : Nat) : Rat) := by
    rw [Rat.natCast_mul, ← h1]; grind
  constructor
  · rw [← Rat.natCast_lt_natCast, e1]
    constructor
    · intro h
      have := Rat.mul_lt_mul_of_pos_right h hd
      rwa [Rat.one_mul] at this
    · intro h
      refine Rat.lt_of_mul_lt_mul_right (c := ((den1 D : Nat) : Rat)) ?_ (Rat.le_of_lt hd)
      rwa [Rat.one_mul]
  · rw [← Rat.natCast_inj, e1]
    constructor
    · intro h; rw [h, Rat.one_mul]
    · intro h
      have h0 := den1_q0 D
      have : (2 * y - 1) * ((den1 D : Nat) : Rat) = 0 := by grind
      rcases Rat.mul_eq_zero.1 this with h2 | h2
      · grind
      · exact absurd h2 h0
theorem rnd_down (X : Int) (D : Nat) (h : (X.fmod (den1 D : Nat)).toNat * 2 < den1 D ∨ ((X.fmod (den1 D : Nat)).toNat * 2 = den1 D ∧ X.fdiv (den1 D : Nat) % 2 = 0)) : X.fdiv (den1 D : Nat) = rnd (qv X D) := by
  obtain ⟨h1, h2⟩ := rnd_cases X D
  unfold rnd
  rw [← qv_floor] at h ⊢
  rw [if_pos (h.imp h1.2 (fun a => ⟨h2.2 a.1, a.2⟩))]
theorem rnd_up (X : Int) (D : Nat) (h : den1 D < (X.fmod (den1 D : Nat)).toNat * 2 ∨ ((X.fmod (den1 D : Nat)).toNat * 2 = den1 D ∧ X.fdiv (den1 D : Nat) % 2 = 1)) : X.fdiv (den1 D : Nat) + 1 = rnd (qv X D) := by
  obtain ⟨h1, h2⟩ := rnd_cases X D
  unfold rnd
  rw [← qv_floor] at h ⊢
  rw [if_neg]
  intro h3
  rcases h3 with h3 | ⟨h3, h4⟩
  · have := h1.1 h3; omega
  · have := h2.1 h3; omega
/-- The slice at ao reads as Fracs. -/
def Fracs (w : World) (ao : Option Addr) (l : List (Nat × Int × Nat)) : Prop :=
  ∀ i L X D, l[i]? = some (L, X, D) → ∃ b o m so sn sc tp tn tc, ao = some ⟨b, o, none⟩ ∧ w.cell? ⟨b, o + i * 3, none⟩ = some (.bool m) ∧ w.cell? ⟨b, o + i * 3 + 1, none⟩ = some (.slice so sn sc) ∧ w.cell? ⟨b, o + i * 3 + 2, none⟩ = some (.slice tp tn tc) ∧
    FD w (.agg #[.bool m, .slice so sn sc, .slice tp tn tc]) L X D
theorem Fracs.below {w w' : World} {ao : Option Addr} {l : List (Nat × Int × Nat)} (h : Fracs w ao l) (hb : Below w.heap.size w w') : Fracs w' ao l := by
  intro i L X D hi
  obtain ⟨b, o, m, so, sn, sc, tp, tn, tc, h1, h2, h3, h4, h5⟩ := h i L X D hi
  have hlt := World.block_lt_of_cell? w _ h2
  exact ⟨b, o, m, so, sn, sc, tp, tn, tc, h1, (hb.cell (p := ⟨b, o + i * 3, none⟩) hlt).trans h2, (hb.cell (p := ⟨b, o + i * 3 + 1, none⟩) hlt).trans h3, (hb.cell (p := ⟨b, o + i * 3 + 2, none⟩) hlt).trans h4, h5.below hb⟩
theorem Fracs.drew {w : World} {ao : Option Addr} {l : List (Nat × Int × Nat)} (h : Fracs w ao l) : Fracs w.drew ao l := h
/-- How many words a sum may have, and what it is. -/
def fLen (l : List (Nat × Int × Nat)) : Nat := (l.map (fun a => a.1 + 2)).foldl (· + ·) 1
def fVal (l : List (Nat × Int × Nat)) : Rat := (l.map (fun a => qv a.2.1 a.2.2)).foldl (· + ·) 0
theorem ftake {l : List (Nat × Int × Nat)} {k : Nat} {a : Nat × Int × Nat} (h : l[k]? = some a) : l.take (k + 1) = l.take k ++ [a] := by
  have hk : k < l.length := (List.getElem?_eq_some_iff.1 h).1
  rw [List.take_succ_eq_append_getElem hk, (List.getElem?_eq_some_iff.1 h).2]
theorem fLen_succ {l : List (Nat × Int × Nat)} {k L D : Nat} {X : Int} (h : l[k]? = some (L, X, D)) : fLen (l.take (k + 1)) = fLen (l.take k) + L + 2 := by
  unfold fLen; rw [ftake h, List.map_append, List.foldl_append]; rfl
theorem fVal_succ {l : List (Nat × Int × Nat)} {k L D : Nat} {X : Int} (h : l[k]? = some (L, X, D)) : fVal (l.take (k + 1)) = fVal (l.take k) + qv X D := by
  unfold fVal; rw [ftake h, List.map_append, List.foldl_append]; rfl
theorem fLen_le {l : List (Nat × Int × Nat)} {M : Nat} (h : ∀ L X D, (L, X, D) ∈ l → L ≤ M) : ∀ k, k ≤ l.length → fLen (l.take k) ≤ 1 + k * (M + 2)
  | 0, _ => by simp [fLen]
  | k + 1, hk => by
    have hk' : k < l.length := hk
    have ih := fLen_le h k (by omega)
    have hm := h (l[k]).1 (l[k]).2.1 (l[k]).2.2 (List.getElem_mem hk')
    rw [fLen_succ (L := (l[k]).1) (X := (l[k]).2.1) (D := (l[k]).2.2) (List.getElem?_eq_getElem hk'), Nat.add_mul]
    omega
end Go.MagM
namespace Go.Proofs.Ytdfabocecpcmcaa
open Go.RowKit Go.MagM
set_option maxHeartbeats 4000000 in
theorem fSum_go (ao : Option Addr) (n c : Nat) (l : List (Nat × Int × Nat)) (w : World) (hn : l.length = n) (hn9 : n ≤ 90) (hl : ∀ L X D, (L, X, D) ∈ l → L ≤ 1000000) (fl_0 : Fracs w ao l) :
    Calls Try.prog 40 #[.slice ao n c] w fun e w' => AnsF w w' e (fLen l) (fVal l) := by
  have hB_0 := Below.refl w.heap.size w
  obtain ⟨w1, hw1, pr_0, hb1, hs1⟩ := new_box w (w.heap.size) rfl [.bool false, .slice none 0 0, .slice none 0 0] 28
  have hb1' : Below w.heap.size w w1 := hb1.mono (by omega)
  clear hb1
  have hB_1 := hB_0.trans (hb1'.mono hB_0.size)
  clear hb1' hB_0
  go_enter Try.func40, Try.ntmps40
  go_wp2_with fail
  refine (fOf_any 0 (by omega) (by omega) _).mono ?_
  rintro e w2 ⟨m1, o1, n1, c1, p1, k1, d1, rfl, f1_0, hb2⟩
  have hB_2 := hB_1.trans (hb2.mono hB_1.size)
  have pr_1 := pr_0.below hb2
  clear hb2 hB_1 pr_0
  have hl1pr := pr_1.lt
  have hl1B := hB_2.size
  obtain ⟨w3, hw3, pt_0, hb3, hs3⟩ := new_box w2 (w2.heap.size) rfl [.bool m1, .slice o1 n1 c1, .slice p1 k1 d1] 28
  have hb3' : Below w2.heap.size w2 w3 := hb3.mono (by omega)
  clear hb3
  have hB_3 := hB_2.trans (hb3'.mono hB_2.size)
  have pr_2 := pr_1.below hb3'
  have f1_1 := f1_0.below hb3'
  clear hb3' hB_2 pr_1 f1_0
  go_wp2
  try rw [hw3]
  go_loopw [9] (fun iv wr => ∃ k : Nat, k ≤ n ∧ iv = .int .i64 k ∧ Below w.heap.size w wr ∧ Box wr w.heap.size [.bool false, .slice none 0 0, .slice none 0 0] ∧ w.heap.size < w2.heap.size ∧ w2.heap.size < wr.heap.size ∧
      ∃ m tp tn tc up un uc, Box wr (w2.heap.size) [.bool m, .slice tp tn tc, .slice up un uc] ∧ RF wr (.agg #[.bool m, .slice tp tn tc, .slice up un uc]) (fLen (l.take k)) (fVal (l.take k))) (fun iv _ => n - (intOf iv).toNat)
  case atStart => exact ⟨0, Nat.zero_le _, rfl, hB_3, pr_2, hl1pr, pt_0.lt, _, _, _, _, _, _, _, pt_0, RF.of f1_1 (by simp [fVal])⟩
  case round =>
    obtain ⟨k, hk, rfl, hB_0, pr_0, hwg, hgt, m1, o1, n1, c1, p1, k1, d1, pt_0, f1_0⟩ := hrel
    by_cases hlt : k < n
    · obtain ⟨Lk, Xk, Dk, hlk⟩ : ∃ Lk Xk Dk, l[k]? = some (Lk, Xk, Dk) := ⟨_, _, _, List.getElem?_eq_getElem (by omega)⟩
      obtain ⟨b, o, m2, o2, n2, c2, p2, k2, d2, hao, h1, h2, h3, fe_0⟩ := (fl_0.below hB_0) k Lk Xk Dk hlk
      subst hao
      have hsl : fLen (l.take k) ≤ 100000000 := by
        have h5 := fLen_le hl k (by omega)
        have h6 : k * (1000000 + 2) ≤ 90 * (1000000 + 2) := Nat.mul_le_mul_right _ (by omega)
        omega
      have hLk : Lk ≤ 1000000 := hl Lk Xk Dk (List.mem_of_getElem? hlk)
      have hl1pr := pr_0.lt
      have hl1pt := pt_0.lt
      have hl1B := hB_0.size
      obtain ⟨w4, hw4, ps_0, hb4, hs4⟩ := new_box wr (wr.heap.size) rfl [.bool m2, .slice o2 n2 c2, .slice p2 k2 d2] 28
      have hb4' : Below wr.heap.size wr w4 := hb4.mono (by omega)
      clear hb4
      have hB_1 := hB_0.trans (hb4'.mono hB_0.size)
      have pr_1 := pr_0.below hb4'
      have pt_1 := pt_0.below hb4'
      have f1_1 := f1_0.below hb4'
      have fe_1 := fe_0.below hb4'
      clear hb4' hB_0 pr_0 pt_0 f1_0 fe_0
      obtain ⟨pse0, pse1, pse2, pse3, pse4, pse5⟩ := ps_0.open3
      obtain ⟨pte0, pte1, pte2, pte3, pte4, pte5⟩ := pt_1.open3
      go_wp2_with fail
      refine (fAdd_any _ _ (fLen (l.take k)) Lk _ Xk _ Dk _ (by omega) (by omega) f1_1.fd fe_1).mono ?_
      rintro e w5 ⟨m3, o3, n3, c3, p3, k3, d3, rfl, f3_0, hb5⟩
      clear pse0 pse1 pse2 pse3 pse4 pse5 pte0 pte1 pte2 pte3 pte4 pte5
      have hB_2 := hB_1.trans (hb5.mono hB_1.size)
      have pr_2 := pr_1.below hb5
      have pt_2 := pt_1.below hb5
      have f1_2 := f1_1.below hb5
      have fe_2 := fe_1.below hb5
      have ps_1 := ps_0.below hb5
      clear hb5 hB_1 pr_1 pt_1 f1_1 fe_1 ps_0
      obtain ⟨sf5a, sf5b, sf5c, sf5d, sf5e, sf5f⟩ := pt_2.open3
      obtain ⟨sg5a, sg5b, sg5c, sg5d⟩ := Box.put3 pt_2 (.bool m3) (.slice o3 n3 c3)
      go_wp2
      clear sf5a sf5b sf5c sf5d sf5e sf5f sg5a sg5b sg5c sg5d
      have hB_3 := below_setAll hB_2 (g := w2.heap.size) (by omega) [.bool m3, .slice o3 n3 c3, .slice p3 k3 d3]
      have pr_3 := pr_2.farAll (g' := w2.heap.size) (by omega) [.bool m3, .slice o3 n3 c3, .slice p3 k3 d3]
      have f1_3 := f1_2.setAll pt_2 (noWord3 _ _ _ _ _ _ _) [.bool m3, .slice o3 n3 c3, .slice p3 k3 d3] rfl
      have fe_3 := fe_2.setAll pt_2 (noWord3 _ _ _ _ _ _ _) [.bool m3, .slice o3 n3 c3, .slice p3 k3 d3] rfl
      have ps_2 := ps_1.farAll (g' := w2.heap.size) (by omega) [.bool m3, .slice o3 n3 c3, .slice p3 k3 d3]
      have f3_1 := f3_0.setAll pt_2 (noWord3 _ _ _ _ _ _ _) [.bool m3, .slice o3 n3 c3, .slice p3 k3 d3] rfl
      have pt_3 := pt_2.setAll [.bool m3, .slice o3 n3 c3, .slice p3 k3 d3] rfl
      simp only [setAll, Nat.zero_add, Nat.reduceAdd] at hB_3 pr_3 pt_3 f1_3 fe_3 ps_2 f3_1
      clear hB_2 pr_2 f1_2 fe_2 ps_1 f3_0 pt_2
      generalize (World.setCell (World.setCell (World.setCell w5 ⟨w2.heap.size, 0, none⟩ (.bool m3)) ⟨w2.heap.size, 1, none⟩ (.slice o3 n3 c3)) ⟨w2.heap.size, 2, none⟩ (.slice p3 k3 d3)) = w6 at *
      refine ⟨⟨k + 1, by omega, by go_num, hB_3, pr_3, hwg, pt_3.lt, _, _, _, _, _, _, _, pt_3, ?_⟩, by simp [intOf]; omega⟩
      rw [fLen_succ hlk, fVal_succ hlk]
      exact RF.of f3_1 (by rw [qv_self])
    · obtain ⟨pte0, pte1, pte2, pte3, pte4, pte5⟩ := pt_0.open3
      obtain ⟨sf3a, sf3b, sf3c, sf3d, sf3e, sf3f⟩ := pr_0.open3
      obtain ⟨sg3a, sg3b, sg3c, sg3d⟩ := Box.put3 pr_0 (.bool m1) (.slice o1 n1 c1)
      go_wp2
      obtain rfl : k = n := by omega
      clear pte0 pte1 pte2 pte3 pte4 pte5 sf3a sf3b sf3c sf3d sf3e sf3f sg3a sg3b sg3c sg3d
      have hB_1 := below_setAll hB_0 (g := w.heap.size) (by omega) [.bool m1, .slice o1 n1 c1, .slice p1 k1 d1]
      have pt_1 := pt_0.farAll (g' := w.heap.size) (by omega) [.bool m1, .slice o1 n1 c1, .slice p1 k1 d1]
      have f1_1 := f1_0.setAll pr_0 (noWord3 _ _ _ _ _ _ _) [.bool m1, .slice o1 n1 c1, .slice p1 k1 d1] rfl
      have pr_1 := pr_0.setAll [.bool m1, .slice o1 n1 c1, .slice p1 k1 d1] rfl
      simp only [setAll, Nat.zero_add, Nat.reduceAdd] at hB_1 pr_1 pt_1 f1_1
      clear hB_0 pt_0 f1_0 pr_0
      generalize (World.setCell (World.setCell (World.setCell wr ⟨w.heap.size, 0, none⟩ (.bool m1)) ⟨w.heap.size, 1, none⟩ (.slice o1 n1 c1)) ⟨w.heap.size, 2, none⟩ (.slice p1 k1 d1)) = w4 at *
      obtain ⟨pre0, pre1, pre2, pre3, pre4, pre5⟩ := pr_1.open3
      exact bodyPost_ret (v := .agg #[.bool m1, .slice o1 n1 c1, .slice p1 k1 d1]) (by simp [results, Try.results40, go_sem, pre0, pre1, pre2]) rfl ⟨_, _, _, _, _, _, _, rfl, by rw [← List.take_length (l := l), hn]; exact f1_1, hB_1⟩
end Go.Proofs.Ytdfabocecpcmcaa
