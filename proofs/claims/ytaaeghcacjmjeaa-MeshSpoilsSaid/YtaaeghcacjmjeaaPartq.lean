/- The statements' Grid, 2 by 1. -/
import Derived.Test.YtaaeghcacjmjeaaPartp
import Derived.Test.YtaaeghcacjmjeaaPartm
import Derived.Test.YtaaeghcacjmjeaaParto
namespace Go.Proofs.Ytaaeghcacjmjeaa
open Go.RowKit Go.MagM
set_option maxRecDepth 100000 in
set_option maxHeartbeats 16000000 in
theorem Grid21_any (w0 h0 b f : Int) (bn : Nat) (hbn : bn < 16) (e1 : bits .and .i64 w0 1 = 1) (e2 : bits .and .i64 h0 1 = 0) (hbit : ∀ k : Nat, k < 4 → bitB b k = bn.testBit k) (w : World) :
    Calls Try.prog 23 #[.int .i64 w0, .int .i64 h0, .int .u32 b, .int .u32 f] w fun e w' => ∃ (mb g c : Nat) (F : Int → Int → Bool), e = .returned (.tuple #[.pointer (some ⟨mb, 0, none⟩), .slice (some ⟨g, 0, none⟩) 4 c]) ∧ BuildEnd 26 37 F w.heap.size (gridP 2 1) (gridT 2 1 bn) mb w' ∧ TrIn w' g ((gridT 2 1 bn).map realV) ∧ w.heap.size ≤ g ∧ Below w.heap.size w w' := by
  have ok := grid_ok (w := 2) (h := 1) (by omega) (by omega) hbn
  have hm := grid_has (w := 2) (h := 1) (by omega) (by omega) hbn
  have hps : InPs (gridP 2 1) := grid_inPs (by omega) (by omega)
  have OK := Lib.hid ok; have HM := Lib.hid hm; have HPS := Lib.hid hps; have HBIT := Lib.hid hbit
  clear ok hm hps hbit
  obtain ⟨i0, hi, hz0, hz1, hz2⟩ := info_parts infoPt
  have HI := Lib.hid hi; have HZ0 := Lib.hid hz0; have HZ1 := Lib.hid hz1; have HZ2 := Lib.hid hz2
  obtain ⟨j0, hj, hy0, hy1, hy2⟩ := info_parts infoE3
  have HJ := Lib.hid hj; have HY0 := Lib.hid hy0; have HY1 := Lib.hid hy1; have HY2 := Lib.hid hy2
  clear hi hz0 hz1 hz2 hj hy0 hy1 hy2
  obtain ⟨w1, hw1, pw0, hB1, hs1⟩ := new_box w _ rfl [.int .i64 w0] 3
  have sc := pw0.c 0 _ rfl; have sf := pw0.f 0 _ rfl
  obtain ⟨w2, hw2⟩ : ∃ w2, w1.setCell ⟨w.heap.size, 0, none⟩ (.int .i64 2) = w2 := ⟨_, rfl⟩
  have pw2 : Box w2 w.heap.size [.int .i64 2] := by rw [← hw2]; exact pw0.set 0 (.int .i64 2)
  have hB2 : Below w.heap.size w w2 := by rw [← hw2]; exact hB1.setCell (p := ⟨w.heap.size, 0, none⟩) (by simp only []; omega) _
  have hz2 : w.heap.size + 1 ≤ w2.heap.size := by have := pw2.lt; omega
  have PW2 := Lib.hid pw2; have HB2 := Lib.hid hB2; have HZS := Lib.hid hz2
  clear pw0 hB1 hs1 pw2 hB2 hz2
  go_enter Try.func23, Try.ntmps23
  go_wp2
  clear sc sf hw1 hw2
  go_loopw [10, 11, 12, 35] (fun pv _ _ iv wr => ∃ (y : Nat) (vv : Value), y ≤ 2 ∧ iv = .int .i64 (y : Int) ∧ vv = pv ∧ RowN wr (w.heap.size + 1) 26 2 vv (y * 3) (ptsCells ((gridP 2 1).take (y * 3))) ∧ Box wr w.heap.size [.int .i64 2] ∧ Below w.heap.size w wr ∧ w.heap.size + 1 ≤ wr.heap.size) (fun _ _ _ iv _ => 2 - (intOf iv).toNat)
  case atStart => exact ⟨0, _, Nat.zero_le _, rfl, rfl, RowN.nil _ _ _ _, PW2.out, HB2.out, HZS.out⟩
  case round =>
    obtain ⟨y, vv, hy, rfl, rfl, hrow, hbx, hbw, hsz⟩ := hrel
    by_cases hlt : y < 2
    · have hyd : decide ((y : Int) < 2) = true := decide_eq_true (by omega)
      have cw := hbx.c 0 _ rfl
      have HROW := Lib.hid hrow; have HBX := Lib.hid hbx; have HBW := Lib.hid hbw; have HSZ := Lib.hid hsz
      clear hrow hbx hbw hsz
      go_wp2
      clear cw
      go_loopw [10, 12, 40] (fun pv _ iv wr => ∃ (x : Nat) (vv : Value), x ≤ 3 ∧ iv = .int .i64 (x : Int) ∧ vv = pv ∧ RowN wr (w.heap.size + 1) 26 2 vv (y * 3 + x) (ptsCells ((gridP 2 1).take (y * 3 + x))) ∧ Box wr w.heap.size [.int .i64 2] ∧ Below w.heap.size w wr ∧ w.heap.size + 1 ≤ wr.heap.size) (fun _ _ iv _ => 3 - (intOf iv).toNat)
      case atStart => exact ⟨0, _, Nat.zero_le _, rfl, rfl, HROW.out, HBX.out, HBW.out, HSZ.out⟩
      case round =>
        obtain ⟨x, vv, hx, rfl, rfl, hrow, hbx, hbw, hsz⟩ := hrel
        by_cases hlx : x < 3
        · have hel := gridP_at (w := 2) (h := 1) (by omega) (by omega) (x := x) (y := y) (by omega) (by omega)
          have hx2 : IntKind.i64.wrap (2 * (x : Int)) = 2 * (x : Int) := by rw [IntKind.wrap_i64]; omega
          have hy2 : IntKind.i64.wrap (2 * (y : Int)) = 2 * (y : Int) := by rw [IntKind.wrap_i64]; omega
          obtain ⟨w3, hw3, hpn, hb3, hs3⟩ := new_box wr _ rfl [.int .i64 (2 * (x : Int)), .int .i64 (2 * (y : Int))] 26
          have hrow3 := hrow.below hb3
          have hbx3 := hbx.below hb3
          have hbw3 := hbw.trans (hb3.mono hbw.size)
          obtain ⟨v1, w4, hrun, rown, hgrow, hkept⟩ := run_append_row (P := Try.prog) w3 (w.heap.size + 1) 22 22 26 i0 (.agg #[.int .i64 0, .int .i64 0]) 2 16 (by kernel_rfl) HI.out HZ0.out HZ1.out HZ2.out rfl (noWordI2 _ _) _ (y * 3 + x) _ hrow3 ⟨wr.heap.size, 0, none⟩ 1 1 [.int .i64 (2 * (x : Int)), .int .i64 (2 * (y : Int))] (by omega) rfl hpn.news (by intro u hu; simp at hu; rcases hu with rfl | rfl <;> rfl) (noWordI2 _ _) (by unfold maxLen; omega) (by omega) (by omega)
          have hne : ∀ k, vv.ownBlock = some k → w.heap.size + 1 ≤ k := fun k hk => (hrow3.lt k hk).1
          have hbx4 := hbx3.grown hgrow (fun e => by have := hne _ e; omega) hbx3.lt
          have hbw4 : Below w.heap.size w w4 := hbw3.grown hgrow (by omega) (fun k hk => by have := hne k hk; omega)
          have htk : ptsCells ((gridP 2 1).take (y * 3 + x)) ++ [.int .i64 (2 * (x : Int)), .int .i64 (2 * (y : Int))] = ptsCells ((gridP 2 1).take (y * 3 + (x + 1))) := by
            rw [← Nat.add_assoc, List.take_add_one, hel, ptsCells_app]; rfl
          rw [htk] at rown
          have FIN := Lib.hid (And.intro rown (And.intro hbx4 (And.intro hbw4 (show w.heap.size + 1 ≤ w4.heap.size by have := hgrow.size; omega))))
          clear hrow hbx hbw hsz hpn hb3 hs3 hrow3 hbx3 hbw3 rown hgrow hkept hne hbx4 hbw4 htk hel
          go_wp2_with (refine wpList_append_row rfl _ _ 22 rfl rfl rfl hrun ?_)
          have FI := FIN.out
          exact ⟨⟨x + 1, _, by omega, by go_num, rfl, FI.1, FI.2.1, FI.2.2.1, FI.2.2.2⟩, by simp [intOf]; omega⟩
        · obtain rfl : x = 3 := by omega
          have FIN := Lib.hid (And.intro hrow (And.intro hbx (And.intro hbw hsz)))
          clear hrow hbx hbw hsz
          go_wp2
          have FI := FIN.out
          have hrow := FI.1
          rw [show y * 3 + 3 = (y + 1) * 3 by omega] at hrow
          exact ⟨⟨y + 1, _, by omega, by go_num, rfl, hrow, FI.2.1, FI.2.2.1, FI.2.2.2⟩, by simp [intOf]; omega⟩
    · obtain rfl : y = 2 := by omega
      have hpt : (gridP 2 1).take (2 * 3) = gridP 2 1 := rfl
      rw [hpt] at hrow
      obtain ⟨gp, gpc, hvv⟩ : ∃ g c, vv = .slice (some ⟨g, 0, none⟩) 6 c := by
        rcases hrow.2 with ⟨h1, h2⟩ | ⟨g, cap, cur, h1, h2, h3⟩
        · omega
        · exact ⟨g, cap, h1⟩
      subst hvv
      have hpl := hrow.lt gp rfl
      obtain ⟨w5, hw5⟩ : ∃ w5, w5 = wr := ⟨_, rfl⟩
      rw [← hw5] at hrow hbx hbw hsz hpl
      rw [← hw5]
      have HROW := Lib.hid hrow; have HBX := Lib.hid hbx; have HBW := Lib.hid hbw; have HSZ := Lib.hid hsz; have HPL := Lib.hid hpl
      clear hrow hbx hbw hsz hpl hw5
      go_wp2
      go_loopw [13, 15, 16, 17, 18, 19, 20, 21, 55] (fun tv kv _ _ _ _ _ _ iv wr => ∃ (y : Nat) (vv : Value), y ≤ 1 ∧ iv = .int .i64 (y : Int) ∧ kv = .int .i64 ((y * 2 : Nat) : Int) ∧ vv = tv ∧ RowN wr w5.heap.size 23 3 vv (2 * (y * 2)) (tr3Cells ((gridT 2 1 bn).take (2 * (y * 2)))) ∧ Below w5.heap.size w5 wr) (fun _ _ _ _ _ _ _ _ iv _ => 1 - (intOf iv).toNat)
      case atStart => exact ⟨0, _, Nat.zero_le _, rfl, rfl, rfl, RowN.nil _ _ _ _, Below.refl _ _⟩
      case round =>
        obtain ⟨y, vv, hy, rfl, rfl, rfl, hrow, hbw⟩ := hrel
        by_cases hlt : y < 1
        · have hyd : decide ((y : Int) < 1) = true := decide_eq_true (by omega)
          have cw := (HBX.out.below hbw).c 0 _ rfl
          have HRW := Lib.hid hrow; have HBZ := Lib.hid hbw
          clear hrow hbw
          go_wp2
          clear cw
          go_loopw [13, 15, 17, 18, 19, 20, 21, 59] (fun tv kv _ _ _ _ _ iv wr => ∃ (x : Nat) (vv : Value), x ≤ 2 ∧ iv = .int .i64 (x : Int) ∧ kv = .int .i64 ((y * 2 + x : Nat) : Int) ∧ vv = tv ∧ RowN wr w5.heap.size 23 3 vv (2 * (y * 2 + x)) (tr3Cells ((gridT 2 1 bn).take (2 * (y * 2 + x)))) ∧ Below w5.heap.size w5 wr) (fun _ _ _ _ _ _ _ iv _ => 2 - (intOf iv).toNat)
          case atStart => exact ⟨0, _, Nat.zero_le _, rfl, by rw [Nat.add_zero], rfl, HRW.out, HBZ.out⟩
          case round =>
            obtain ⟨x, vv, hx, rfl, rfl, rfl, hrow, hbw⟩ := hrel
            by_cases hlx : x < 2
            · have cw := (HBX.out.below hbw).c 0 _ rfl
              have hev := HM.out.even y x hlt hlx
              have hod := HM.out.odd y x hlt hlx
              have hbt := HBIT.out (y * 2 + x) (by omega)
              obtain ⟨q, hq⟩ : ∃ q, bn.testBit (y * 2 + x) = q := ⟨_, rfl⟩
              rw [hq] at hev hod hbt
              have a0 := gridNo_any w.heap.size 2 x y wr (by omega) (by omega) (by omega) cw ((y : Int) * 3 + (x : Int)) (by omega)
              have a1 := gridNo_any w.heap.size 2 (x + 1) y wr (by omega) (by omega) (by omega) cw ((y : Int) * 3 + ((x : Int) + 1)) (by omega)
              have a2 := gridNo_any w.heap.size 2 (x + 1) (y + 1) wr (by omega) (by omega) (by omega) cw (((y : Int) + 1) * 3 + ((x : Int) + 1)) (by omega)
              have a3 := gridNo_any w.heap.size 2 x (y + 1) wr (by omega) (by omega) (by omega) cw (((y : Int) + 1) * 3 + (x : Int)) (by omega)
              rw [show (((x + 1 : Nat)) : Int) = (x : Int) + 1 by omega] at a1 a2
              rw [show (((y + 1 : Nat)) : Int) = (y : Int) + 1 by omega] at a2 a3
              obtain ⟨ca, hca⟩ : ∃ c : Int, (y : Int) * 3 + (x : Int) = c := ⟨_, rfl⟩
              obtain ⟨cb, hcb⟩ : ∃ c : Int, (y : Int) * 3 + ((x : Int) + 1) = c := ⟨_, rfl⟩
              obtain ⟨cc, hcc⟩ : ∃ c : Int, ((y : Int) + 1) * 3 + ((x : Int) + 1) = c := ⟨_, rfl⟩
              obtain ⟨cd, hcd⟩ : ∃ c : Int, ((y : Int) + 1) * 3 + (x : Int) = c := ⟨_, rfl⟩
              rw [hca] at a0; rw [hcb] at a1; rw [hcc] at a2; rw [hcd] at a3
              have C0 := Lib.hid a0; have C1 := Lib.hid a1; have C2 := Lib.hid a2; have C3 := Lib.hid a3
              have HEV := Lib.hid hev; have HOD := Lib.hid hod; have HBT := Lib.hid hbt; have HRW2 := Lib.hid hrow; have HBZ2 := Lib.hid hbw
              have HCA := Lib.hid hca; have HCB := Lib.hid hcb; have HCC := Lib.hid hcc; have HCD := Lib.hid hcd
              obtain ⟨kk, hkk⟩ : ∃ kk : Nat, y * 2 + x = kk := ⟨_, rfl⟩
              have hkk4 : kk < 4 := by omega
              rw [hkk] at hbt
              unfold bitB at hbt
              have na : (((y * 3 + x : Nat)) : Int) = ca := by omega
              have nb : (((y * 3 + (x + 1) : Nat)) : Int) = cb := by omega
              have nc : ((((y + 1) * 3 + (x + 1) : Nat)) : Int) = cc := by omega
              have nd : ((((y + 1) * 3 + x : Nat)) : Int) = cd := by omega
              have HKK := Lib.hid hkk
              rw [hkk]
              have HNA := Lib.hid (And.intro na (And.intro nb (And.intro nc nd)))
              clear a0 a1 a2 a3 hev hod hrow hbw hca hcb hcc hcd cw hkk na nb nc nd hq
              cases q
              · have hev' : (gridT 2 1 bn)[2 * (y * 2 + x)]? = some (y * 3 + (x + 1), (y + 1) * 3 + x, y * 3 + x) := HEV.out
                have hod' : (gridT 2 1 bn)[2 * (y * 2 + x) + 1]? = some ((y + 1) * 3 + x, y * 3 + (x + 1), (y + 1) * 3 + (x + 1)) := HOD.out
                have HEV' := Lib.hid hev'; have HOD' := Lib.hid hod'
                clear hev' hod'
                go_wp2_with fail
                refine C0.out.mono ?_
                rintro e w6 ⟨rfl, rfl⟩
                go_wp2_with fail
                refine C1.out.mono ?_
                rintro e w6 ⟨rfl, rfl⟩
                go_wp2_with fail
                refine C2.out.mono ?_
                rintro e w6 ⟨rfl, rfl⟩
                go_wp2_with fail
                refine C3.out.mono ?_
                rintro e w6 ⟨rfl, rfl⟩
                obtain ⟨w6, hw6, hpn, hb6, hs6⟩ := new_box wr _ rfl [.int .i64 cb, .int .i64 cd, .int .i64 ca, .int .i64 cd, .int .i64 cb, .int .i64 cc] 23
                have hrow6 := HRW2.out.below hb6
                have hbw6 := HBZ2.out.trans (hb6.mono HBZ2.out.size)
                obtain ⟨v1, w7, hrun, rown, hgrow, hkept⟩ := run_append_row (P := Try.prog) w6 w5.heap.size 50 50 23 j0 (.agg #[.int .i64 0, .int .i64 0, .int .i64 0]) 3 24 (by kernel_rfl) HJ.out HY0.out HY1.out HY2.out rfl (noWordI3 _ _ _) _ (2 * (y * 2 + x)) _ hrow6 ⟨wr.heap.size, 0, none⟩ 2 2 [.int .i64 cb, .int .i64 cd, .int .i64 ca, .int .i64 cd, .int .i64 cb, .int .i64 cc] (by omega) rfl hpn.news (by intro u hu; simp at hu; rcases hu with rfl | rfl | rfl | rfl | rfl | rfl <;> rfl) (noWordI6 _ _ _ _ _ _) (by unfold maxLen; omega) (by omega) (by have := hbw6.size; omega)
                have hbw7 : Below w5.heap.size w5 w7 := hbw6.grown hgrow (by have := hbw6.size; omega) (fun k hk => (hrow6.lt k hk).1)
                have htk : tr3Cells ((gridT 2 1 bn).take (2 * (y * 2 + x))) ++ [.int .i64 cb, .int .i64 cd, .int .i64 ca, .int .i64 cd, .int .i64 cb, .int .i64 cc] = tr3Cells ((gridT 2 1 bn).take (2 * (y * 2 + (x + 1)))) := by
                  obtain ⟨na, nb, nc, nd⟩ := HNA.out
                  rw [show 2 * (y * 2 + (x + 1)) = 2 * (y * 2 + x) + 1 + 1 by omega, List.take_add_one, List.take_add_one, HEV'.out, HOD'.out, tr3_app, tr3_app, List.append_assoc]
                  simp only [Option.toList_some, tr3Cells, na, nb, nc, nd, List.cons_append, List.nil_append]
                rw [htk, show 2 * (y * 2 + x) + 2 = 2 * (y * 2 + (x + 1)) by omega] at rown
                have FIN := Lib.hid (And.intro rown hbw7)
                clear hpn hb6 hs6 hrow6 hbw6 rown hgrow hkept hbw7 htk
                go_wp2_with (refine wpList_append_row rfl _ _ 50 rfl rfl rfl hrun ?_)
                have hkk := HKK.out
                refine ⟨⟨_, _, _, _, _, _, _, _, _, _, _, _, _, _, _, _, _, _, _, _, _, _, _, _, _, _, _, _, _, _, _, _, _, _, _, _, _, _, _, _, _, _, _, _, _, _, _, _, _, _, _, _, _, _, _, _, _, _, _, _, ?_, rfl⟩, by simp [intOf]; omega⟩
                exact ⟨x + 1, _, by omega, by go_num, congrArg (Value.int .i64) (by omega), rfl, FIN.out.1, FIN.out.2⟩
              · have hev' : (gridT 2 1 bn)[2 * (y * 2 + x)]? = some (y * 3 + x, y * 3 + (x + 1), (y + 1) * 3 + (x + 1)) := HEV.out
                have hod' : (gridT 2 1 bn)[2 * (y * 2 + x) + 1]? = some ((y + 1) * 3 + (x + 1), (y + 1) * 3 + x, y * 3 + x) := HOD.out
                have HEV' := Lib.hid hev'; have HOD' := Lib.hid hod'
                clear hev' hod'
                go_wp2_with fail
                refine C0.out.mono ?_
                rintro e w6 ⟨rfl, rfl⟩
                go_wp2_with fail
                refine C1.out.mono ?_
                rintro e w6 ⟨rfl, rfl⟩
                go_wp2_with fail
                refine C2.out.mono ?_
                rintro e w6 ⟨rfl, rfl⟩
                go_wp2_with fail
                refine C3.out.mono ?_
                rintro e w6 ⟨rfl, rfl⟩
                obtain ⟨w6, hw6, hpn, hb6, hs6⟩ := new_box wr _ rfl [.int .i64 ca, .int .i64 cb, .int .i64 cc, .int .i64 cc, .int .i64 cd, .int .i64 ca] 23
                have hrow6 := HRW2.out.below hb6
                have hbw6 := HBZ2.out.trans (hb6.mono HBZ2.out.size)
                obtain ⟨v1, w7, hrun, rown, hgrow, hkept⟩ := run_append_row (P := Try.prog) w6 w5.heap.size 50 50 23 j0 (.agg #[.int .i64 0, .int .i64 0, .int .i64 0]) 3 24 (by kernel_rfl) HJ.out HY0.out HY1.out HY2.out rfl (noWordI3 _ _ _) _ (2 * (y * 2 + x)) _ hrow6 ⟨wr.heap.size, 0, none⟩ 2 2 [.int .i64 ca, .int .i64 cb, .int .i64 cc, .int .i64 cc, .int .i64 cd, .int .i64 ca] (by omega) rfl hpn.news (by intro u hu; simp at hu; rcases hu with rfl | rfl | rfl | rfl | rfl | rfl <;> rfl) (noWordI6 _ _ _ _ _ _) (by unfold maxLen; omega) (by omega) (by have := hbw6.size; omega)
                have hbw7 : Below w5.heap.size w5 w7 := hbw6.grown hgrow (by have := hbw6.size; omega) (fun k hk => (hrow6.lt k hk).1)
                have htk : tr3Cells ((gridT 2 1 bn).take (2 * (y * 2 + x))) ++ [.int .i64 ca, .int .i64 cb, .int .i64 cc, .int .i64 cc, .int .i64 cd, .int .i64 ca] = tr3Cells ((gridT 2 1 bn).take (2 * (y * 2 + (x + 1)))) := by
                  obtain ⟨na, nb, nc, nd⟩ := HNA.out
                  rw [show 2 * (y * 2 + (x + 1)) = 2 * (y * 2 + x) + 1 + 1 by omega, List.take_add_one, List.take_add_one, HEV'.out, HOD'.out, tr3_app, tr3_app, List.append_assoc]
                  simp only [Option.toList_some, tr3Cells, na, nb, nc, nd, List.cons_append, List.nil_append]
                rw [htk, show 2 * (y * 2 + x) + 2 = 2 * (y * 2 + (x + 1)) by omega] at rown
                have FIN := Lib.hid (And.intro rown hbw7)
                clear hpn hb6 hs6 hrow6 hbw6 rown hgrow hkept hbw7 htk
                go_wp2_with (refine wpList_append_row rfl _ _ 50 rfl rfl rfl hrun ?_)
                have hkk := HKK.out
                refine ⟨⟨_, _, _, _, _, _, _, _, _, _, _, _, _, _, _, _, _, _, _, _, _, _, _, _, _, _, _, _, _, _, _, _, _, _, _, _, _, _, _, _, _, _, _, _, _, _, _, _, _, _, _, _, _, _, _, _, _, _, _, _, ?_, rfl⟩, by simp [intOf]; omega⟩
                exact ⟨x + 1, _, by omega, by go_num, congrArg (Value.int .i64) (by omega), rfl, FIN.out.1, FIN.out.2⟩
            · obtain rfl : x = 2 := by omega
              have FIN := Lib.hid (And.intro hrow hbw)
              clear hrow hbw
              go_wp2
              have hrow := FIN.out.1
              rw [show y * 2 + 2 = (y + 1) * 2 by omega] at hrow
              exact ⟨⟨y + 1, _, by omega, by go_num, congrArg (Value.int .i64) (by omega), rfl, hrow, FIN.out.2⟩, by simp [intOf]; omega⟩
        · obtain rfl : y = 1 := by omega
          have hgl := HM.out.len
          have htt : (gridT 2 1 bn).take (2 * (1 * 2)) = gridT 2 1 bn := List.take_of_length_le (by rw [hgl]; omega)
          rw [htt] at hrow
          obtain ⟨gt, gtc, hvv⟩ : ∃ g c, vv = .slice (some ⟨g, 0, none⟩) 4 c := by
            rcases hrow.2 with ⟨h1, h2⟩ | ⟨g, cap, cur, h1, h2, h3⟩
            · omega
            · exact ⟨g, cap, h1⟩
          subst hvv
          have hgtl := hrow.lt gt rfl
          obtain ⟨w7, hw7⟩ : ∃ w7, w7 = wr := ⟨_, rfl⟩
          rw [← hw7] at hrow hbw hgtl
          rw [← hw7]
          clear hw7
          obtain ⟨fb, hfb⟩ : ∃ fb, w7.heap.size = fb := ⟨_, rfl⟩
          obtain ⟨hmk, hmp⟩ := run_new_map (P := Try.prog) w7 99 48
          obtain ⟨w8, hw8⟩ : ∃ w8, w7.alloc (.map #[] 0) = w8 := ⟨_, rfl⟩
          rw [hw8, hfb] at hmk hmp
          have hb8 : Below fb w7 w8 := by rw [← hw8, ← hfb]; exact (Below.refl _ _).alloc (Nat.le_refl _) _
          have htr := hrow.trIn
          have HRWT := Lib.hid hrow; have HBT := Lib.hid hbw; have HTR := Lib.hid htr; have HGTL := Lib.hid hgtl; have HFB := Lib.hid hfb; have HMP := Lib.hid (fault_new hmp); have HB8 := Lib.hid hb8
          clear hrow hbw htr hgtl hfb hmp hb8 hw8
          go_wp2
          clear hmk
          go_loopw [23, 25, 26, 116] (fun nv _ _ iv wr => ∃ j : Nat, j ≤ 4 ∧ iv = .int .i64 (j : Int) ∧ nv = .int .i64 ((3 * j : Nat) : Int) ∧ (∃ F, FaultMap Try.prog 48 wr fb F) ∧ Below fb w7 wr) (fun _ _ _ iv _ => 4 - (intOf iv).toNat)
          case atStart => exact ⟨0, Nat.zero_le _, rfl, rfl, ⟨_, HMP.out⟩, HB8.out⟩
          case round =>
            obtain ⟨j, hj, rfl, rfl, ⟨F, hF⟩, hbw⟩ := hrel
            by_cases hlt : j < 4
            · have hyd : decide ((j : Int) < 4) = true := decide_eq_true (by omega)
              obtain ⟨⟨x, y, z⟩, hv⟩ : ∃ v, (gridT 2 1 bn)[j]? = some v := ⟨_, List.getElem?_eq_getElem (by have := HM.out.len; omega)⟩
              obtain ⟨px, py, pz⟩ := OK.out.pts _ (List.mem_of_getElem? hv)
              have hpl6 := OK.out.many
              simp only [] at px py pz
              have htk := HTR.out j (x : Int) (y : Int) (z : Int) (by rw [List.getElem?_map, hv]; rfl)
              have hfb := HFB.out
              have l1 := World.block_lt_of_cell? w7 _ htk.1
              simp only [] at l1
              have ka := (hbw.cell (p := ⟨gt, j * 3, none⟩) (by show gt < fb; omega)).trans htk.1
              have kb := (hbw.cell (p := ⟨gt, j * 3 + 1, none⟩) (by show gt < fb; omega)).trans htk.2.1
              have kc := (hbw.cell (p := ⟨gt, j * 3 + 2, none⟩) (by show gt < fb; omega)).trans htk.2.2
              obtain ⟨w9, hw9, hpv, hb9, hs9⟩ := new_box wr _ rfl [.int .i64 (x : Int), .int .i64 (y : Int), .int .i64 (z : Int)] 23
              have hF9 := hF.same (hb9.block fb hF.lt)
              have hfl := hF.lt
              have hbw9 : Below fb w7 w9 := hbw.trans (hb9.mono (by omega))
              obtain ⟨tb, htb⟩ : ∃ tb, wr.heap.size = tb := ⟨_, rfl⟩
              have htf : fb < tb := by omega
              rw [htb] at hpv
              have HF9 := Lib.hid hF9; have HBW9 := Lib.hid hbw9; have HPV := Lib.hid hpv
              have hxyz : x < 10 ∧ y < 10 ∧ z < 10 := by
                have : (gridP 2 1).length = 6 := rfl
                omega
              clear hv px py pz htk hfb l1 hb9 hs9 hF9 hbw9 hpv hF hbw hfl hpl6
              go_wp2
              clear ka kb kc hw9 htb
              go_loopw [23, 26, 120] (fun nv _ iv wr => ∃ i : Nat, i ≤ 3 ∧ iv = .int .i64 (i : Int) ∧ nv = .int .i64 ((3 * j + i : Nat) : Int) ∧ (∃ F, FaultMap Try.prog 48 wr fb F) ∧ Box wr tb [.int .i64 (x : Int), .int .i64 (y : Int), .int .i64 (z : Int)] ∧ Below fb w7 wr) (fun _ _ iv _ => 3 - (intOf iv).toNat)
              case atStart => exact ⟨0, Nat.zero_le _, rfl, rfl, ⟨_, HF9.out⟩, HPV.out, HBW9.out⟩
              case round =>
                obtain ⟨i, hi, rfl, rfl, ⟨F2, hF2⟩, hbx, hbw⟩ := hrel
                by_cases hli : i < 3
                · obtain ⟨nn, hnn⟩ : ∃ nn : Nat, 3 * j + i = nn := ⟨_, rfl⟩
                  have hnn24 : nn < 24 := by omega
                  have HNN := Lib.hid hnn
                  rw [hnn]
                  clear hnn
                  have HF2 := Lib.hid hF2; have HBX2 := Lib.hid hbx; have HBW2 := Lib.hid hbw
                  clear hF2 hbx hbw
                  obtain ⟨q, hq⟩ : ∃ q : Bool, (bits .and .u32 (f / 2 ^ (nn % 32)) 1 == 1) = q := ⟨_, rfl⟩
                  have hfb2 := HF2.out.lt
                  have hd3 := (HF2.out.same (w' := wr.drew) rfl)
                  have hx3 := HBX2.out.drew
                  have hw3 := HBW2.out.drew'
                  have HF3 := Lib.hid hd3; have HBX3 := Lib.hid hx3; have HBW3 := Lib.hid hw3
                  clear hd3 hx3 hw3
                  cases q
                  · go_wp2
                    have hnn := HNN.out
                    exact ⟨⟨i + 1, by omega, by go_num, congrArg (Value.int .i64) (by omega), ⟨_, HF2.out⟩, HBX2.out, HBW2.out⟩, by simp [intOf]; omega⟩
                  · obtain rfl | rfl | rfl : i = 0 ∨ i = 1 ∨ i = 2 := by omega
                    · obtain ⟨mn, hmn⟩ : ∃ mn : Int, (if (y : Int) < (x : Int) then (y : Int) else (x : Int)) = mn := ⟨_, rfl⟩
                      obtain ⟨mx, hmx⟩ : ∃ mx : Int, (if (y : Int) > (x : Int) then (y : Int) else (x : Int)) = mx := ⟨_, rfl⟩
                      have bmn : -1000000 ≤ mn ∧ mn ≤ 1000000 := by rw [← hmn]; split <;> omega
                      have bmx : -1000000 ≤ mx ∧ mx ≤ 1000000 := by rw [← hmx]; split <;> omega
                      have hmin : ∀ w : World, Sem.run Try.prog (Builtin.min_ #[3, 3] 3 #[.int .i64 (x : Int), .int .i64 (y : Int)]) w = Result.ok (Value.int .i64 mn) w := fun w => by rw [run_min_int2, hmn]
                      have hmax : ∀ w : World, Sem.run Try.prog (Builtin.max_ #[3, 3] 3 #[.int .i64 (x : Int), .int .i64 (y : Int)]) w = Result.ok (Value.int .i64 mx) w := fun w => by rw [run_max_int2, hmx]
                      have hwk : (IntKind.i64.wrap 1).tmod 3 = 1 := by decide
                      obtain ⟨wm, F4, hup, hT4, hF4⟩ := fault_store HF3.out bmn bmx
                      have hx0 := HBX3.out.c 0 _ rfl; have hx1 := HBX3.out.c 1 _ rfl
                      have hbx4 := HBX3.out.turned hT4 (by omega)
                      have hbw4 : Below fb w7 wm := Below.turned HBW3.out hT4 (Nat.le_refl _)
                      have hy0 := hbx4.c 0 _ rfl; have hy1 := hbx4.c 1 _ rfl
                      have FIN := Lib.hid (And.intro hF4 (And.intro hbx4 hbw4))
                      clear hmn hmx bmn bmx hT4 hF4 hbx4 hbw4
                      go_wp2_with fail
                      obtain ⟨SSs, hSSs⟩ : ∃ S : Array Bool → World → Prop, ∀ l w', S l w' ↔ ((w'.cell? ⟨tb, 0, none⟩ = some (.int .i64 (x : Int))) ∧ (w'.cell? ⟨tb, 1, none⟩ = some (.int .i64 (y : Int)))) := ⟨_, fun _ _ => Iff.rfl⟩
                      refine wp_region_noPanic ?_
                      refine wp_region_G SSs 21 #[false, false, false, false, false, false, false, false, false, false, false, false, false, false, false, false, false, false, false, false, false] (by kernel_rfl) (by kernel_rfl) (by kernel_rfl) ((hSSs _ _).2 ⟨hx0, hx1⟩) (fun hCl hHeld => ?_)
                      generalize wr.drew = wd at *
                      refine reg_takeG 0 ?_ ?_ ?_ (by kernel_rfl) (by kernel_rfl) (by kernel_rfl) (fun _ _ _ h => h) ?_ ?_ ?_ hCl hHeld ?_
                      rotate_left 2
                      · simp only [List.getElem?_toArray, List.getElem?_cons_zero]; exact rfl
                      · intro l w'; rw [hSSs, hSSs]
                      · rfl
                      · intro w' hA; clear hA; go_simp; try with_reducible rfl
                      clear hCl hHeld
                      intro hCl hHeld
                      simp only [List.setIfInBounds_toArray, List.set_cons_zero] at hCl hHeld
                      try simp only [Act.put]
                      try simp only [List.setIfInBounds_toArray, List.set_cons_zero, List.set_cons_succ]
                      refine reg_takeG 1 ?_ ?_ ?_ (by kernel_rfl) (by kernel_rfl) (by kernel_rfl) (fun _ _ _ h => h) ?_ ?_ ?_ hCl hHeld ?_
                      rotate_left 2
                      · simp only [List.getElem?_toArray, List.getElem?_cons_succ, List.getElem?_cons_zero]; exact rfl
                      · intro l w'; rw [hSSs, hSSs]
                      · rfl
                      · intro w' hA; clear hA; go_simp; try with_reducible rfl
                      clear hCl hHeld
                      intro hCl hHeld
                      simp only [List.setIfInBounds_toArray, List.set_cons_zero, List.set_cons_succ] at hCl hHeld
                      try simp only [Act.put]
                      try simp only [List.setIfInBounds_toArray, List.set_cons_zero, List.set_cons_succ]
                      refine reg_takeG 2 ?_ ?_ ?_ (by kernel_rfl) (by kernel_rfl) (by kernel_rfl) (fun _ _ _ h => h) ?_ ?_ ?_ hCl hHeld ?_
                      rotate_left 2
                      · simp only [List.getElem?_toArray, List.getElem?_cons_succ, List.getElem?_cons_zero]; exact rfl
                      · intro l w'; rw [hSSs, hSSs]
                      · rfl
                      · intro w' hA; clear hA; go_simp; try with_reducible rfl
                      clear hCl hHeld
                      intro hCl hHeld
                      simp only [List.setIfInBounds_toArray, List.set_cons_zero, List.set_cons_succ] at hCl hHeld
                      try simp only [Act.put]
                      try simp only [List.setIfInBounds_toArray, List.set_cons_zero, List.set_cons_succ]
                      refine reg_takeG 3 ?_ ?_ ?_ (by kernel_rfl) (by kernel_rfl) (by kernel_rfl) (fun _ _ _ h => h) ?_ ?_ ?_ hCl hHeld ?_
                      rotate_left 2
                      · simp only [List.getElem?_toArray, List.getElem?_cons_succ, List.getElem?_cons_zero]; exact rfl
                      · intro l w'; rw [hSSs, hSSs]
                      · rfl
                      · intro w' hA; obtain ⟨l, hl, hi, hSl⟩ := hA; have hSl := (hSSs _ _).1 hSl; obtain ⟨hz0, hz1⟩ := hSl; go_simp; try with_reducible rfl
                      clear hCl hHeld
                      intro hCl hHeld
                      simp only [List.setIfInBounds_toArray, List.set_cons_zero, List.set_cons_succ] at hCl hHeld
                      try simp only [Act.put]
                      try simp only [List.setIfInBounds_toArray, List.set_cons_zero, List.set_cons_succ]
                      refine reg_takeG 4 ?_ ?_ ?_ (by kernel_rfl) (by kernel_rfl) (by kernel_rfl) (fun _ _ _ h => h) ?_ ?_ ?_ hCl hHeld ?_
                      rotate_left 2
                      · simp only [List.getElem?_toArray, List.getElem?_cons_succ, List.getElem?_cons_zero]; exact rfl
                      · intro l w'; rw [hSSs, hSSs]
                      · rfl
                      · intro w' hA; clear hA; go_simp; try with_reducible rfl
                      clear hCl hHeld
                      intro hCl hHeld
                      simp only [List.setIfInBounds_toArray, List.set_cons_zero, List.set_cons_succ] at hCl hHeld
                      try simp only [Act.put]
                      try simp only [List.setIfInBounds_toArray, List.set_cons_zero, List.set_cons_succ]
                      refine reg_takeG 5 ?_ ?_ ?_ (by kernel_rfl) (by kernel_rfl) (by kernel_rfl) (fun _ _ _ h => h) ?_ ?_ ?_ hCl hHeld ?_
                      rotate_left 2
                      · simp only [List.getElem?_toArray, List.getElem?_cons_succ, List.getElem?_cons_zero]; exact rfl
                      · intro l w'; rw [hSSs, hSSs]
                      · rfl
                      · intro w' hA; clear hA; go_simp; try with_reducible rfl
                      clear hCl hHeld
                      intro hCl hHeld
                      simp only [List.setIfInBounds_toArray, List.set_cons_zero, List.set_cons_succ] at hCl hHeld
                      try simp only [Act.put]
                      try simp only [List.setIfInBounds_toArray, List.set_cons_zero, List.set_cons_succ]
                      refine reg_takeG 6 ?_ ?_ ?_ (by kernel_rfl) (by kernel_rfl) (by kernel_rfl) (fun _ _ _ h => h) ?_ ?_ ?_ hCl hHeld ?_
                      rotate_left 2
                      · simp only [List.getElem?_toArray, List.getElem?_cons_succ, List.getElem?_cons_zero]; exact rfl
                      · intro l w'; rw [hSSs, hSSs]
                      · rfl
                      · intro w' hA; clear hA; go_simp; try with_reducible rfl
                      clear hCl hHeld
                      intro hCl hHeld
                      simp only [List.setIfInBounds_toArray, List.set_cons_zero, List.set_cons_succ] at hCl hHeld
                      try simp only [Act.put]
                      try simp only [List.setIfInBounds_toArray, List.set_cons_zero, List.set_cons_succ]
                      refine reg_takeG 7 ?_ ?_ ?_ (by kernel_rfl) (by kernel_rfl) (by kernel_rfl) (fun _ _ _ h => h) ?_ ?_ ?_ hCl hHeld ?_
                      rotate_left 2
                      · simp only [List.getElem?_toArray, List.getElem?_cons_succ, List.getElem?_cons_zero]; exact rfl
                      · intro l w'; rw [hSSs, hSSs]
                      · rfl
                      · intro w' hA; clear hA; go_simp; try with_reducible rfl
                      clear hCl hHeld
                      intro hCl hHeld
                      simp only [List.setIfInBounds_toArray, List.set_cons_zero, List.set_cons_succ] at hCl hHeld
                      try simp only [Act.put]
                      try simp only [List.setIfInBounds_toArray, List.set_cons_zero, List.set_cons_succ]
                      refine reg_takeG 8 ?_ ?_ ?_ (by kernel_rfl) (by kernel_rfl) (by kernel_rfl) (fun _ _ _ h => h) ?_ ?_ ?_ hCl hHeld ?_
                      rotate_left 2
                      · simp only [List.getElem?_toArray, List.getElem?_cons_succ, List.getElem?_cons_zero]; exact rfl
                      · intro l w'; rw [hSSs, hSSs]
                      · rfl
                      · intro w' hA; obtain ⟨l, hl, hi, hSl⟩ := hA; have hSl := (hSSs _ _).1 hSl; obtain ⟨hz0, hz1⟩ := hSl; go_simp; try with_reducible rfl
                      clear hCl hHeld
                      intro hCl hHeld
                      simp only [List.setIfInBounds_toArray, List.set_cons_zero, List.set_cons_succ] at hCl hHeld
                      try simp only [Act.put]
                      try simp only [List.setIfInBounds_toArray, List.set_cons_zero, List.set_cons_succ]
                      refine reg_takeG 9 ?_ ?_ ?_ (by kernel_rfl) (by kernel_rfl) (by kernel_rfl) (fun _ _ _ h => h) ?_ ?_ ?_ hCl hHeld ?_
                      rotate_left 2
                      · simp only [List.getElem?_toArray, List.getElem?_cons_succ, List.getElem?_cons_zero]; exact rfl
                      · intro l w'; rw [hSSs, hSSs]
                      · rfl
                      · intro w' hA; clear hA; go_simp; try with_reducible rfl
                      clear hCl hHeld
                      intro hCl hHeld
                      simp only [List.setIfInBounds_toArray, List.set_cons_zero, List.set_cons_succ] at hCl hHeld
                      try simp only [Act.put]
                      try simp only [List.setIfInBounds_toArray, List.set_cons_zero, List.set_cons_succ]
                      refine reg_takeG 10 ?_ ?_ ?_ (by kernel_rfl) (by kernel_rfl) (by kernel_rfl) (fun _ _ _ h => h) ?_ ?_ ?_ hCl hHeld ?_
                      rotate_left 2
                      · simp only [List.getElem?_toArray, List.getElem?_cons_succ, List.getElem?_cons_zero]; exact rfl
                      · intro l w'; rw [hSSs, hSSs]
                      · rfl
                      · intro w' hA; clear hA; go_simp; try with_reducible rfl
                      clear hCl hHeld
                      intro hCl hHeld
                      simp only [List.setIfInBounds_toArray, List.set_cons_zero, List.set_cons_succ] at hCl hHeld
                      try simp only [Act.put]
                      try simp only [List.setIfInBounds_toArray, List.set_cons_zero, List.set_cons_succ]
                      refine reg_takeG 11 ?_ ?_ ?_ (by kernel_rfl) (by kernel_rfl) (by kernel_rfl) (fun _ _ _ h => h) ?_ ?_ ?_ hCl hHeld ?_
                      rotate_left 2
                      · simp only [List.getElem?_toArray, List.getElem?_cons_succ, List.getElem?_cons_zero]; exact rfl
                      · intro l w'; rw [hSSs, hSSs]
                      · rfl
                      · intro w' hA; clear hA; go_simp; try with_reducible rfl
                      clear hCl hHeld
                      intro hCl hHeld
                      simp only [List.setIfInBounds_toArray, List.set_cons_zero, List.set_cons_succ] at hCl hHeld
                      try simp only [Act.put]
                      try simp only [List.setIfInBounds_toArray, List.set_cons_zero, List.set_cons_succ]
                      refine reg_takeG 12 ?_ ?_ ?_ (by kernel_rfl) (by kernel_rfl) (by kernel_rfl) (fun _ _ _ h => h) ?_ ?_ ?_ hCl hHeld ?_
                      rotate_left 2
                      · simp only [List.getElem?_toArray, List.getElem?_cons_succ, List.getElem?_cons_zero]; exact rfl
                      · intro l w'; rw [hSSs, hSSs]
                      · rfl
                      · intro w' hA; obtain ⟨l, hl, hi, hSl⟩ := hA; have hSl := (hSSs _ _).1 hSl; obtain ⟨hz0, hz1⟩ := hSl; go_simp; try with_reducible rfl
                      clear hCl hHeld
                      intro hCl hHeld
                      simp only [List.setIfInBounds_toArray, List.set_cons_zero, List.set_cons_succ] at hCl hHeld
                      try simp only [Act.put]
                      try simp only [List.setIfInBounds_toArray, List.set_cons_zero, List.set_cons_succ]
                      refine reg_takeG 13 ?_ ?_ ?_ (by kernel_rfl) (by kernel_rfl) (by kernel_rfl) (fun _ _ _ h => h) ?_ ?_ ?_ hCl hHeld ?_
                      rotate_left 2
                      · simp only [List.getElem?_toArray, List.getElem?_cons_succ, List.getElem?_cons_zero]; exact rfl
                      · intro l w'; rw [hSSs, hSSs]
                      · rfl
                      · intro w' hA; clear hA; go_simp; try with_reducible rfl
                      clear hCl hHeld
                      intro hCl hHeld
                      simp only [List.setIfInBounds_toArray, List.set_cons_zero, List.set_cons_succ] at hCl hHeld
                      try simp only [Act.put]
                      try simp only [List.setIfInBounds_toArray, List.set_cons_zero, List.set_cons_succ]
                      refine reg_takeG 14 ?_ ?_ ?_ (by kernel_rfl) (by kernel_rfl) (by kernel_rfl) (fun _ _ _ h => h) ?_ ?_ ?_ hCl hHeld ?_
                      rotate_left 2
                      · simp only [List.getElem?_toArray, List.getElem?_cons_succ, List.getElem?_cons_zero]; exact rfl
                      · intro l w'; rw [hSSs, hSSs]
                      · rfl
                      · intro w' hA; clear hA; go_simp; try with_reducible rfl
                      clear hCl hHeld
                      intro hCl hHeld
                      simp only [List.setIfInBounds_toArray, List.set_cons_zero, List.set_cons_succ] at hCl hHeld
                      try simp only [Act.put]
                      try simp only [List.setIfInBounds_toArray, List.set_cons_zero, List.set_cons_succ]
                      refine reg_takeG 15 ?_ ?_ ?_ (by kernel_rfl) (by kernel_rfl) (by kernel_rfl) (fun _ _ _ h => h) ?_ ?_ ?_ hCl hHeld ?_
                      rotate_left 2
                      · simp only [List.getElem?_toArray, List.getElem?_cons_succ, List.getElem?_cons_zero]; exact rfl
                      · intro l w'; rw [hSSs, hSSs]
                      · rfl
                      · intro w' hA; clear hA; go_simp; try with_reducible rfl
                      clear hCl hHeld
                      intro hCl hHeld
                      simp only [List.setIfInBounds_toArray, List.set_cons_zero, List.set_cons_succ] at hCl hHeld
                      try simp only [Act.put]
                      try simp only [List.setIfInBounds_toArray, List.set_cons_zero, List.set_cons_succ]
                      refine reg_takeG 16 ?_ ?_ ?_ (by kernel_rfl) (by kernel_rfl) (by kernel_rfl) (fun _ _ _ h => h) ?_ ?_ ?_ hCl hHeld ?_
                      rotate_left 2
                      · simp only [List.getElem?_toArray, List.getElem?_cons_succ, List.getElem?_cons_zero]; exact rfl
                      · intro l w'; rw [hSSs, hSSs]
                      · rfl
                      · intro w' hA; clear hA; go_simp; try with_reducible rfl
                      clear hCl hHeld
                      intro hCl hHeld
                      simp only [List.setIfInBounds_toArray, List.set_cons_zero, List.set_cons_succ] at hCl hHeld
                      try simp only [Act.put]
                      try simp only [List.setIfInBounds_toArray, List.set_cons_zero, List.set_cons_succ]
                      refine reg_takeG 17 ?_ ?_ ?_ (by kernel_rfl) (by kernel_rfl) (by kernel_rfl) (fun _ _ _ h => h) ?_ ?_ ?_ hCl hHeld ?_
                      rotate_left 2
                      · simp only [List.getElem?_toArray, List.getElem?_cons_succ, List.getElem?_cons_zero]; exact rfl
                      · intro l w'; rw [hSSs, hSSs]
                      · rfl
                      · intro w' hA; obtain ⟨l, hl, hi, hSl⟩ := hA; have hSl := (hSSs _ _).1 hSl; obtain ⟨hz0, hz1⟩ := hSl; go_simp; try with_reducible rfl
                      clear hCl hHeld
                      intro hCl hHeld
                      simp only [List.setIfInBounds_toArray, List.set_cons_zero, List.set_cons_succ] at hCl hHeld
                      try simp only [Act.put]
                      try simp only [List.setIfInBounds_toArray, List.set_cons_zero, List.set_cons_succ]
                      refine reg_takeG 18 ?_ ?_ ?_ (by kernel_rfl) (by kernel_rfl) (by kernel_rfl) (fun _ _ _ h => h) ?_ ?_ ?_ hCl hHeld ?_
                      rotate_left 2
                      · simp only [List.getElem?_toArray, List.getElem?_cons_succ, List.getElem?_cons_zero]; exact rfl
                      · intro l w'; rw [hSSs, hSSs]
                      · rfl
                      · intro w' hA; clear hA; go_simp; try with_reducible rfl
                      clear hCl hHeld
                      intro hCl hHeld
                      simp only [List.setIfInBounds_toArray, List.set_cons_zero, List.set_cons_succ] at hCl hHeld
                      try simp only [Act.put]
                      try simp only [List.setIfInBounds_toArray, List.set_cons_zero, List.set_cons_succ]
                      refine reg_takeG 19 ?_ ?_ ?_ (by kernel_rfl) (by kernel_rfl) (by kernel_rfl) (fun _ _ _ h => h) ?_ ?_ ?_ hCl hHeld ?_
                      rotate_left 2
                      · simp only [List.getElem?_toArray, List.getElem?_cons_succ, List.getElem?_cons_zero]; exact rfl
                      · intro l w'; rw [hSSs, hSSs]
                      · rfl
                      · intro w' hA; clear hA; go_simp; try with_reducible rfl
                      clear hCl hHeld
                      intro hCl hHeld
                      simp only [List.setIfInBounds_toArray, List.set_cons_zero, List.set_cons_succ] at hCl hHeld
                      try simp only [Act.put]
                      try simp only [List.setIfInBounds_toArray, List.set_cons_zero, List.set_cons_succ]
                      clear hCl hHeld
                      refine reg_callG 20 ?_ (by kernel_rfl) ?_ (fun K hK => ?_)
                      rotate_left 1
                      · simp only [List.getElem?_toArray, List.getElem?_cons_succ, List.getElem?_cons_zero]; exact rfl
                      go_simp
                      clear hx0 hx1 hup
                      refine hK.out _ _ ((hSSs _ _).2 ⟨hy0, hy1⟩) ?_
                      clear hK K
                      try simp only [Act.put]
                      try simp only [List.setIfInBounds_toArray, List.set_cons_zero, List.set_cons_succ]
                      refine wpAnyG_done (by kernel_rfl) ?_ _
                      refine NoPanic.normal ?_
                      clear hSSs SSs
                      go_wp2
                      have hnn := HNN.out
                      refine ⟨⟨_, _, _, _, _, _, _, _, _, _, _, _, _, _, _, _, _, _, _, _, _, _, _, _, _, _, _, _, _, _, _, _, _, _, ?_, rfl⟩, by simp [intOf]⟩
                      exact ⟨0 + 1, by omega, by go_num, congrArg (Value.int .i64) (by omega), ⟨_, FIN.out.1⟩, FIN.out.2.1, FIN.out.2.2⟩
                    · obtain ⟨mn, hmn⟩ : ∃ mn : Int, (if (z : Int) < (y : Int) then (z : Int) else (y : Int)) = mn := ⟨_, rfl⟩
                      obtain ⟨mx, hmx⟩ : ∃ mx : Int, (if (z : Int) > (y : Int) then (z : Int) else (y : Int)) = mx := ⟨_, rfl⟩
                      have bmn : -1000000 ≤ mn ∧ mn ≤ 1000000 := by rw [← hmn]; split <;> omega
                      have bmx : -1000000 ≤ mx ∧ mx ≤ 1000000 := by rw [← hmx]; split <;> omega
                      have hmin : ∀ w : World, Sem.run Try.prog (Builtin.min_ #[3, 3] 3 #[.int .i64 (y : Int), .int .i64 (z : Int)]) w = Result.ok (Value.int .i64 mn) w := fun w => by rw [run_min_int2, hmn]
                      have hmax : ∀ w : World, Sem.run Try.prog (Builtin.max_ #[3, 3] 3 #[.int .i64 (y : Int), .int .i64 (z : Int)]) w = Result.ok (Value.int .i64 mx) w := fun w => by rw [run_max_int2, hmx]
                      have hwk : (IntKind.i64.wrap 2).tmod 3 = 2 := by decide
                      obtain ⟨wm, F4, hup, hT4, hF4⟩ := fault_store HF3.out bmn bmx
                      have hx0 := HBX3.out.c 1 _ rfl; have hx1 := HBX3.out.c 2 _ rfl
                      have hbx4 := HBX3.out.turned hT4 (by omega)
                      have hbw4 : Below fb w7 wm := Below.turned HBW3.out hT4 (Nat.le_refl _)
                      have hy0 := hbx4.c 1 _ rfl; have hy1 := hbx4.c 2 _ rfl
                      have FIN := Lib.hid (And.intro hF4 (And.intro hbx4 hbw4))
                      clear hmn hmx bmn bmx hT4 hF4 hbx4 hbw4
                      go_wp2_with fail
                      obtain ⟨SSs, hSSs⟩ : ∃ S : Array Bool → World → Prop, ∀ l w', S l w' ↔ ((w'.cell? ⟨tb, 1, none⟩ = some (.int .i64 (y : Int))) ∧ (w'.cell? ⟨tb, 2, none⟩ = some (.int .i64 (z : Int)))) := ⟨_, fun _ _ => Iff.rfl⟩
                      refine wp_region_noPanic ?_
                      refine wp_region_G SSs 21 #[false, false, false, false, false, false, false, false, false, false, false, false, false, false, false, false, false, false, false, false, false] (by kernel_rfl) (by kernel_rfl) (by kernel_rfl) ((hSSs _ _).2 ⟨hx0, hx1⟩) (fun hCl hHeld => ?_)
                      generalize wr.drew = wd at *
                      refine reg_takeG 0 ?_ ?_ ?_ (by kernel_rfl) (by kernel_rfl) (by kernel_rfl) (fun _ _ _ h => h) ?_ ?_ ?_ hCl hHeld ?_
                      rotate_left 2
                      · simp only [List.getElem?_toArray, List.getElem?_cons_zero]; exact rfl
                      · intro l w'; rw [hSSs, hSSs]
                      · rfl
                      · intro w' hA; clear hA; go_simp; try with_reducible rfl
                      clear hCl hHeld
                      intro hCl hHeld
                      simp only [List.setIfInBounds_toArray, List.set_cons_zero] at hCl hHeld
                      try simp only [Act.put]
                      try simp only [List.setIfInBounds_toArray, List.set_cons_zero, List.set_cons_succ]
                      refine reg_takeG 1 ?_ ?_ ?_ (by kernel_rfl) (by kernel_rfl) (by kernel_rfl) (fun _ _ _ h => h) ?_ ?_ ?_ hCl hHeld ?_
                      rotate_left 2
                      · simp only [List.getElem?_toArray, List.getElem?_cons_succ, List.getElem?_cons_zero]; exact rfl
                      · intro l w'; rw [hSSs, hSSs]
                      · rfl
                      · intro w' hA; clear hA; go_simp; try with_reducible rfl
                      clear hCl hHeld
                      intro hCl hHeld
                      simp only [List.setIfInBounds_toArray, List.set_cons_zero, List.set_cons_succ] at hCl hHeld
                      try simp only [Act.put]
                      try simp only [List.setIfInBounds_toArray, List.set_cons_zero, List.set_cons_succ]
                      refine reg_takeG 2 ?_ ?_ ?_ (by kernel_rfl) (by kernel_rfl) (by kernel_rfl) (fun _ _ _ h => h) ?_ ?_ ?_ hCl hHeld ?_
                      rotate_left 2
                      · simp only [List.getElem?_toArray, List.getElem?_cons_succ, List.getElem?_cons_zero]; exact rfl
                      · intro l w'; rw [hSSs, hSSs]
                      · rfl
                      · intro w' hA; clear hA; go_simp; try with_reducible rfl
                      clear hCl hHeld
                      intro hCl hHeld
                      simp only [List.setIfInBounds_toArray, List.set_cons_zero, List.set_cons_succ] at hCl hHeld
                      try simp only [Act.put]
                      try simp only [List.setIfInBounds_toArray, List.set_cons_zero, List.set_cons_succ]
                      refine reg_takeG 3 ?_ ?_ ?_ (by kernel_rfl) (by kernel_rfl) (by kernel_rfl) (fun _ _ _ h => h) ?_ ?_ ?_ hCl hHeld ?_
                      rotate_left 2
                      · simp only [List.getElem?_toArray, List.getElem?_cons_succ, List.getElem?_cons_zero]; exact rfl
                      · intro l w'; rw [hSSs, hSSs]
                      · rfl
                      · intro w' hA; obtain ⟨l, hl, hi, hSl⟩ := hA; have hSl := (hSSs _ _).1 hSl; obtain ⟨hz0, hz1⟩ := hSl; go_simp; try with_reducible rfl
                      clear hCl hHeld
                      intro hCl hHeld
                      simp only [List.setIfInBounds_toArray, List.set_cons_zero, List.set_cons_succ] at hCl hHeld
                      try simp only [Act.put]
                      try simp only [List.setIfInBounds_toArray, List.set_cons_zero, List.set_cons_succ]
                      refine reg_takeG 4 ?_ ?_ ?_ (by kernel_rfl) (by kernel_rfl) (by kernel_rfl) (fun _ _ _ h => h) ?_ ?_ ?_ hCl hHeld ?_
                      rotate_left 2
                      · simp only [List.getElem?_toArray, List.getElem?_cons_succ, List.getElem?_cons_zero]; exact rfl
                      · intro l w'; rw [hSSs, hSSs]
                      · rfl
                      · intro w' hA; clear hA; go_simp; try with_reducible rfl
                      clear hCl hHeld
                      intro hCl hHeld
                      simp only [List.setIfInBounds_toArray, List.set_cons_zero, List.set_cons_succ] at hCl hHeld
                      try simp only [Act.put]
                      try simp only [List.setIfInBounds_toArray, List.set_cons_zero, List.set_cons_succ]
                      refine reg_takeG 5 ?_ ?_ ?_ (by kernel_rfl) (by kernel_rfl) (by kernel_rfl) (fun _ _ _ h => h) ?_ ?_ ?_ hCl hHeld ?_
                      rotate_left 2
                      · simp only [List.getElem?_toArray, List.getElem?_cons_succ, List.getElem?_cons_zero]; exact rfl
                      · intro l w'; rw [hSSs, hSSs]
                      · rfl
                      · intro w' hA; clear hA; go_simp; try with_reducible rfl
                      clear hCl hHeld
                      intro hCl hHeld
                      simp only [List.setIfInBounds_toArray, List.set_cons_zero, List.set_cons_succ] at hCl hHeld
                      try simp only [Act.put]
                      try simp only [List.setIfInBounds_toArray, List.set_cons_zero, List.set_cons_succ]
                      refine reg_takeG 6 ?_ ?_ ?_ (by kernel_rfl) (by kernel_rfl) (by kernel_rfl) (fun _ _ _ h => h) ?_ ?_ ?_ hCl hHeld ?_
                      rotate_left 2
                      · simp only [List.getElem?_toArray, List.getElem?_cons_succ, List.getElem?_cons_zero]; exact rfl
                      · intro l w'; rw [hSSs, hSSs]
                      · rfl
                      · intro w' hA; clear hA; go_simp; try with_reducible rfl
                      clear hCl hHeld
                      intro hCl hHeld
                      simp only [List.setIfInBounds_toArray, List.set_cons_zero, List.set_cons_succ] at hCl hHeld
                      try simp only [Act.put]
                      try simp only [List.setIfInBounds_toArray, List.set_cons_zero, List.set_cons_succ]
                      refine reg_takeG 7 ?_ ?_ ?_ (by kernel_rfl) (by kernel_rfl) (by kernel_rfl) (fun _ _ _ h => h) ?_ ?_ ?_ hCl hHeld ?_
                      rotate_left 2
                      · simp only [List.getElem?_toArray, List.getElem?_cons_succ, List.getElem?_cons_zero]; exact rfl
                      · intro l w'; rw [hSSs, hSSs]
                      · rfl
                      · intro w' hA; clear hA; go_simp; try with_reducible rfl
                      clear hCl hHeld
                      intro hCl hHeld
                      simp only [List.setIfInBounds_toArray, List.set_cons_zero, List.set_cons_succ] at hCl hHeld
                      try simp only [Act.put]
                      try simp only [List.setIfInBounds_toArray, List.set_cons_zero, List.set_cons_succ]
                      refine reg_takeG 8 ?_ ?_ ?_ (by kernel_rfl) (by kernel_rfl) (by kernel_rfl) (fun _ _ _ h => h) ?_ ?_ ?_ hCl hHeld ?_
                      rotate_left 2
                      · simp only [List.getElem?_toArray, List.getElem?_cons_succ, List.getElem?_cons_zero]; exact rfl
                      · intro l w'; rw [hSSs, hSSs]
                      · rfl
                      · intro w' hA; obtain ⟨l, hl, hi, hSl⟩ := hA; have hSl := (hSSs _ _).1 hSl; obtain ⟨hz0, hz1⟩ := hSl; go_simp; try with_reducible rfl
                      clear hCl hHeld
                      intro hCl hHeld
                      simp only [List.setIfInBounds_toArray, List.set_cons_zero, List.set_cons_succ] at hCl hHeld
                      try simp only [Act.put]
                      try simp only [List.setIfInBounds_toArray, List.set_cons_zero, List.set_cons_succ]
                      refine reg_takeG 9 ?_ ?_ ?_ (by kernel_rfl) (by kernel_rfl) (by kernel_rfl) (fun _ _ _ h => h) ?_ ?_ ?_ hCl hHeld ?_
                      rotate_left 2
                      · simp only [List.getElem?_toArray, List.getElem?_cons_succ, List.getElem?_cons_zero]; exact rfl
                      · intro l w'; rw [hSSs, hSSs]
                      · rfl
                      · intro w' hA; clear hA; go_simp; try with_reducible rfl
                      clear hCl hHeld
                      intro hCl hHeld
                      simp only [List.setIfInBounds_toArray, List.set_cons_zero, List.set_cons_succ] at hCl hHeld
                      try simp only [Act.put]
                      try simp only [List.setIfInBounds_toArray, List.set_cons_zero, List.set_cons_succ]
                      refine reg_takeG 10 ?_ ?_ ?_ (by kernel_rfl) (by kernel_rfl) (by kernel_rfl) (fun _ _ _ h => h) ?_ ?_ ?_ hCl hHeld ?_
                      rotate_left 2
                      · simp only [List.getElem?_toArray, List.getElem?_cons_succ, List.getElem?_cons_zero]; exact rfl
                      · intro l w'; rw [hSSs, hSSs]
                      · rfl
                      · intro w' hA; clear hA; go_simp; try with_reducible rfl
                      clear hCl hHeld
                      intro hCl hHeld
                      simp only [List.setIfInBounds_toArray, List.set_cons_zero, List.set_cons_succ] at hCl hHeld
                      try simp only [Act.put]
                      try simp only [List.setIfInBounds_toArray, List.set_cons_zero, List.set_cons_succ]
                      refine reg_takeG 11 ?_ ?_ ?_ (by kernel_rfl) (by kernel_rfl) (by kernel_rfl) (fun _ _ _ h => h) ?_ ?_ ?_ hCl hHeld ?_
                      rotate_left 2
                      · simp only [List.getElem?_toArray, List.getElem?_cons_succ, List.getElem?_cons_zero]; exact rfl
                      · intro l w'; rw [hSSs, hSSs]
                      · rfl
                      · intro w' hA; clear hA; go_simp; try with_reducible rfl
                      clear hCl hHeld
                      intro hCl hHeld
                      simp only [List.setIfInBounds_toArray, List.set_cons_zero, List.set_cons_succ] at hCl hHeld
                      try simp only [Act.put]
                      try simp only [List.setIfInBounds_toArray, List.set_cons_zero, List.set_cons_succ]
                      refine reg_takeG 12 ?_ ?_ ?_ (by kernel_rfl) (by kernel_rfl) (by kernel_rfl) (fun _ _ _ h => h) ?_ ?_ ?_ hCl hHeld ?_
                      rotate_left 2
                      · simp only [List.getElem?_toArray, List.getElem?_cons_succ, List.getElem?_cons_zero]; exact rfl
                      · intro l w'; rw [hSSs, hSSs]
                      · rfl
                      · intro w' hA; obtain ⟨l, hl, hi, hSl⟩ := hA; have hSl := (hSSs _ _).1 hSl; obtain ⟨hz0, hz1⟩ := hSl; go_simp; try with_reducible rfl
                      clear hCl hHeld
                      intro hCl hHeld
                      simp only [List.setIfInBounds_toArray, List.set_cons_zero, List.set_cons_succ] at hCl hHeld
                      try simp only [Act.put]
                      try simp only [List.setIfInBounds_toArray, List.set_cons_zero, List.set_cons_succ]
                      refine reg_takeG 13 ?_ ?_ ?_ (by kernel_rfl) (by kernel_rfl) (by kernel_rfl) (fun _ _ _ h => h) ?_ ?_ ?_ hCl hHeld ?_
                      rotate_left 2
                      · simp only [List.getElem?_toArray, List.getElem?_cons_succ, List.getElem?_cons_zero]; exact rfl
                      · intro l w'; rw [hSSs, hSSs]
                      · rfl
                      · intro w' hA; clear hA; go_simp; try with_reducible rfl
                      clear hCl hHeld
                      intro hCl hHeld
                      simp only [List.setIfInBounds_toArray, List.set_cons_zero, List.set_cons_succ] at hCl hHeld
                      try simp only [Act.put]
                      try simp only [List.setIfInBounds_toArray, List.set_cons_zero, List.set_cons_succ]
                      refine reg_takeG 14 ?_ ?_ ?_ (by kernel_rfl) (by kernel_rfl) (by kernel_rfl) (fun _ _ _ h => h) ?_ ?_ ?_ hCl hHeld ?_
                      rotate_left 2
                      · simp only [List.getElem?_toArray, List.getElem?_cons_succ, List.getElem?_cons_zero]; exact rfl
                      · intro l w'; rw [hSSs, hSSs]
                      · rfl
                      · intro w' hA; clear hA; go_simp; try with_reducible rfl
                      clear hCl hHeld
                      intro hCl hHeld
                      simp only [List.setIfInBounds_toArray, List.set_cons_zero, List.set_cons_succ] at hCl hHeld
                      try simp only [Act.put]
                      try simp only [List.setIfInBounds_toArray, List.set_cons_zero, List.set_cons_succ]
                      refine reg_takeG 15 ?_ ?_ ?_ (by kernel_rfl) (by kernel_rfl) (by kernel_rfl) (fun _ _ _ h => h) ?_ ?_ ?_ hCl hHeld ?_
                      rotate_left 2
                      · simp only [List.getElem?_toArray, List.getElem?_cons_succ, List.getElem?_cons_zero]; exact rfl
                      · intro l w'; rw [hSSs, hSSs]
                      · rfl
                      · intro w' hA; clear hA; go_simp; try with_reducible rfl
                      clear hCl hHeld
                      intro hCl hHeld
                      simp only [List.setIfInBounds_toArray, List.set_cons_zero, List.set_cons_succ] at hCl hHeld
                      try simp only [Act.put]
                      try simp only [List.setIfInBounds_toArray, List.set_cons_zero, List.set_cons_succ]
                      refine reg_takeG 16 ?_ ?_ ?_ (by kernel_rfl) (by kernel_rfl) (by kernel_rfl) (fun _ _ _ h => h) ?_ ?_ ?_ hCl hHeld ?_
                      rotate_left 2
                      · simp only [List.getElem?_toArray, List.getElem?_cons_succ, List.getElem?_cons_zero]; exact rfl
                      · intro l w'; rw [hSSs, hSSs]
                      · rfl
                      · intro w' hA; clear hA; go_simp; try with_reducible rfl
                      clear hCl hHeld
                      intro hCl hHeld
                      simp only [List.setIfInBounds_toArray, List.set_cons_zero, List.set_cons_succ] at hCl hHeld
                      try simp only [Act.put]
                      try simp only [List.setIfInBounds_toArray, List.set_cons_zero, List.set_cons_succ]
                      refine reg_takeG 17 ?_ ?_ ?_ (by kernel_rfl) (by kernel_rfl) (by kernel_rfl) (fun _ _ _ h => h) ?_ ?_ ?_ hCl hHeld ?_
                      rotate_left 2
                      · simp only [List.getElem?_toArray, List.getElem?_cons_succ, List.getElem?_cons_zero]; exact rfl
                      · intro l w'; rw [hSSs, hSSs]
                      · rfl
                      · intro w' hA; obtain ⟨l, hl, hi, hSl⟩ := hA; have hSl := (hSSs _ _).1 hSl; obtain ⟨hz0, hz1⟩ := hSl; go_simp; try with_reducible rfl
                      clear hCl hHeld
                      intro hCl hHeld
                      simp only [List.setIfInBounds_toArray, List.set_cons_zero, List.set_cons_succ] at hCl hHeld
                      try simp only [Act.put]
                      try simp only [List.setIfInBounds_toArray, List.set_cons_zero, List.set_cons_succ]
                      refine reg_takeG 18 ?_ ?_ ?_ (by kernel_rfl) (by kernel_rfl) (by kernel_rfl) (fun _ _ _ h => h) ?_ ?_ ?_ hCl hHeld ?_
                      rotate_left 2
                      · simp only [List.getElem?_toArray, List.getElem?_cons_succ, List.getElem?_cons_zero]; exact rfl
                      · intro l w'; rw [hSSs, hSSs]
                      · rfl
                      · intro w' hA; clear hA; go_simp; try with_reducible rfl
                      clear hCl hHeld
                      intro hCl hHeld
                      simp only [List.setIfInBounds_toArray, List.set_cons_zero, List.set_cons_succ] at hCl hHeld
                      try simp only [Act.put]
                      try simp only [List.setIfInBounds_toArray, List.set_cons_zero, List.set_cons_succ]
                      refine reg_takeG 19 ?_ ?_ ?_ (by kernel_rfl) (by kernel_rfl) (by kernel_rfl) (fun _ _ _ h => h) ?_ ?_ ?_ hCl hHeld ?_
                      rotate_left 2
                      · simp only [List.getElem?_toArray, List.getElem?_cons_succ, List.getElem?_cons_zero]; exact rfl
                      · intro l w'; rw [hSSs, hSSs]
                      · rfl
                      · intro w' hA; clear hA; go_simp; try with_reducible rfl
                      clear hCl hHeld
                      intro hCl hHeld
                      simp only [List.setIfInBounds_toArray, List.set_cons_zero, List.set_cons_succ] at hCl hHeld
                      try simp only [Act.put]
                      try simp only [List.setIfInBounds_toArray, List.set_cons_zero, List.set_cons_succ]
                      clear hCl hHeld
                      refine reg_callG 20 ?_ (by kernel_rfl) ?_ (fun K hK => ?_)
                      rotate_left 1
                      · simp only [List.getElem?_toArray, List.getElem?_cons_succ, List.getElem?_cons_zero]; exact rfl
                      go_simp
                      clear hx0 hx1 hup
                      refine hK.out _ _ ((hSSs _ _).2 ⟨hy0, hy1⟩) ?_
                      clear hK K
                      try simp only [Act.put]
                      try simp only [List.setIfInBounds_toArray, List.set_cons_zero, List.set_cons_succ]
                      refine wpAnyG_done (by kernel_rfl) ?_ _
                      refine NoPanic.normal ?_
                      clear hSSs SSs
                      go_wp2
                      have hnn := HNN.out
                      refine ⟨⟨_, _, _, _, _, _, _, _, _, _, _, _, _, _, _, _, _, _, _, _, _, _, _, _, _, _, _, _, _, _, _, _, _, _, ?_, rfl⟩, by simp [intOf]⟩
                      exact ⟨1 + 1, by omega, by go_num, congrArg (Value.int .i64) (by omega), ⟨_, FIN.out.1⟩, FIN.out.2.1, FIN.out.2.2⟩
                    · obtain ⟨mn, hmn⟩ : ∃ mn : Int, (if (x : Int) < (z : Int) then (x : Int) else (z : Int)) = mn := ⟨_, rfl⟩
                      obtain ⟨mx, hmx⟩ : ∃ mx : Int, (if (x : Int) > (z : Int) then (x : Int) else (z : Int)) = mx := ⟨_, rfl⟩
                      have bmn : -1000000 ≤ mn ∧ mn ≤ 1000000 := by rw [← hmn]; split <;> omega
                      have bmx : -1000000 ≤ mx ∧ mx ≤ 1000000 := by rw [← hmx]; split <;> omega
                      have hmin : ∀ w : World, Sem.run Try.prog (Builtin.min_ #[3, 3] 3 #[.int .i64 (z : Int), .int .i64 (x : Int)]) w = Result.ok (Value.int .i64 mn) w := fun w => by rw [run_min_int2, hmn]
                      have hmax : ∀ w : World, Sem.run Try.prog (Builtin.max_ #[3, 3] 3 #[.int .i64 (z : Int), .int .i64 (x : Int)]) w = Result.ok (Value.int .i64 mx) w := fun w => by rw [run_max_int2, hmx]
                      have hwk : (IntKind.i64.wrap 3).tmod 3 = 0 := by decide
                      obtain ⟨wm, F4, hup, hT4, hF4⟩ := fault_store HF3.out bmn bmx
                      have hx0 := HBX3.out.c 2 _ rfl; have hx1 := HBX3.out.c 0 _ rfl
                      have hbx4 := HBX3.out.turned hT4 (by omega)
                      have hbw4 : Below fb w7 wm := Below.turned HBW3.out hT4 (Nat.le_refl _)
                      have hy0 := hbx4.c 2 _ rfl; have hy1 := hbx4.c 0 _ rfl
                      have FIN := Lib.hid (And.intro hF4 (And.intro hbx4 hbw4))
                      clear hmn hmx bmn bmx hT4 hF4 hbx4 hbw4
                      go_wp2_with fail
                      obtain ⟨SSs, hSSs⟩ : ∃ S : Array Bool → World → Prop, ∀ l w', S l w' ↔ ((w'.cell? ⟨tb, 2, none⟩ = some (.int .i64 (z : Int))) ∧ (w'.cell? ⟨tb, 0, none⟩ = some (.int .i64 (x : Int)))) := ⟨_, fun _ _ => Iff.rfl⟩
                      refine wp_region_noPanic ?_
                      refine wp_region_G SSs 21 #[false, false, false, false, false, false, false, false, false, false, false, false, false, false, false, false, false, false, false, false, false] (by kernel_rfl) (by kernel_rfl) (by kernel_rfl) ((hSSs _ _).2 ⟨hx0, hx1⟩) (fun hCl hHeld => ?_)
                      generalize wr.drew = wd at *
                      refine reg_takeG 0 ?_ ?_ ?_ (by kernel_rfl) (by kernel_rfl) (by kernel_rfl) (fun _ _ _ h => h) ?_ ?_ ?_ hCl hHeld ?_
                      rotate_left 2
                      · simp only [List.getElem?_toArray, List.getElem?_cons_zero]; exact rfl
                      · intro l w'; rw [hSSs, hSSs]
                      · rfl
                      · intro w' hA; clear hA; go_simp; try with_reducible rfl
                      clear hCl hHeld
                      intro hCl hHeld
                      simp only [List.setIfInBounds_toArray, List.set_cons_zero] at hCl hHeld
                      try simp only [Act.put]
                      try simp only [List.setIfInBounds_toArray, List.set_cons_zero, List.set_cons_succ]
                      refine reg_takeG 1 ?_ ?_ ?_ (by kernel_rfl) (by kernel_rfl) (by kernel_rfl) (fun _ _ _ h => h) ?_ ?_ ?_ hCl hHeld ?_
                      rotate_left 2
                      · simp only [List.getElem?_toArray, List.getElem?_cons_succ, List.getElem?_cons_zero]; exact rfl
                      · intro l w'; rw [hSSs, hSSs]
                      · rfl
                      · intro w' hA; clear hA; go_simp; try with_reducible rfl
                      clear hCl hHeld
                      intro hCl hHeld
                      simp only [List.setIfInBounds_toArray, List.set_cons_zero, List.set_cons_succ] at hCl hHeld
                      try simp only [Act.put]
                      try simp only [List.setIfInBounds_toArray, List.set_cons_zero, List.set_cons_succ]
                      refine reg_takeG 2 ?_ ?_ ?_ (by kernel_rfl) (by kernel_rfl) (by kernel_rfl) (fun _ _ _ h => h) ?_ ?_ ?_ hCl hHeld ?_
                      rotate_left 2
                      · simp only [List.getElem?_toArray, List.getElem?_cons_succ, List.getElem?_cons_zero]; exact rfl
                      · intro l w'; rw [hSSs, hSSs]
                      · rfl
                      · intro w' hA; clear hA; go_simp; try with_reducible rfl
                      clear hCl hHeld
                      intro hCl hHeld
                      simp only [List.setIfInBounds_toArray, List.set_cons_zero, List.set_cons_succ] at hCl hHeld
                      try simp only [Act.put]
                      try simp only [List.setIfInBounds_toArray, List.set_cons_zero, List.set_cons_succ]
                      refine reg_takeG 3 ?_ ?_ ?_ (by kernel_rfl) (by kernel_rfl) (by kernel_rfl) (fun _ _ _ h => h) ?_ ?_ ?_ hCl hHeld ?_
                      rotate_left 2
                      · simp only [List.getElem?_toArray, List.getElem?_cons_succ, List.getElem?_cons_zero]; exact rfl
                      · intro l w'; rw [hSSs, hSSs]
                      · rfl
                      · intro w' hA; obtain ⟨l, hl, hi, hSl⟩ := hA; have hSl := (hSSs _ _).1 hSl; obtain ⟨hz0, hz1⟩ := hSl; go_simp; try with_reducible rfl
                      clear hCl hHeld
                      intro hCl hHeld
                      simp only [List.setIfInBounds_toArray, List.set_cons_zero, List.set_cons_succ] at hCl hHeld
                      try simp only [Act.put]
                      try simp only [List.setIfInBounds_toArray, List.set_cons_zero, List.set_cons_succ]
                      refine reg_takeG 4 ?_ ?_ ?_ (by kernel_rfl) (by kernel_rfl) (by kernel_rfl) (fun _ _ _ h => h) ?_ ?_ ?_ hCl hHeld ?_
                      rotate_left 2
                      · simp only [List.getElem?_toArray, List.getElem?_cons_succ, List.getElem?_cons_zero]; exact rfl
                      · intro l w'; rw [hSSs, hSSs]
                      · rfl
                      · intro w' hA; clear hA; go_simp; try with_reducible rfl
                      clear hCl hHeld
                      intro hCl hHeld
                      simp only [List.setIfInBounds_toArray, List.set_cons_zero, List.set_cons_succ] at hCl hHeld
                      try simp only [Act.put]
                      try simp only [List.setIfInBounds_toArray, List.set_cons_zero, List.set_cons_succ]
                      refine reg_takeG 5 ?_ ?_ ?_ (by kernel_rfl) (by kernel_rfl) (by kernel_rfl) (fun _ _ _ h => h) ?_ ?_ ?_ hCl hHeld ?_
                      rotate_left 2
                      · simp only [List.getElem?_toArray, List.getElem?_cons_succ, List.getElem?_cons_zero]; exact rfl
                      · intro l w'; rw [hSSs, hSSs]
                      · rfl
                      · intro w' hA; clear hA; go_simp; try with_reducible rfl
                      clear hCl hHeld
                      intro hCl hHeld
                      simp only [List.setIfInBounds_toArray, List.set_cons_zero, List.set_cons_succ] at hCl hHeld
                      try simp only [Act.put]
                      try simp only [List.setIfInBounds_toArray, List.set_cons_zero, List.set_cons_succ]
                      refine reg_takeG 6 ?_ ?_ ?_ (by kernel_rfl) (by kernel_rfl) (by kernel_rfl) (fun _ _ _ h => h) ?_ ?_ ?_ hCl hHeld ?_
                      rotate_left 2
                      · simp only [List.getElem?_toArray, List.getElem?_cons_succ, List.getElem?_cons_zero]; exact rfl
                      · intro l w'; rw [hSSs, hSSs]
                      · rfl
                      · intro w' hA; clear hA; go_simp; try with_reducible rfl
                      clear hCl hHeld
                      intro hCl hHeld
                      simp only [List.setIfInBounds_toArray, List.set_cons_zero, List.set_cons_succ] at hCl hHeld
                      try simp only [Act.put]
                      try simp only [List.setIfInBounds_toArray, List.set_cons_zero, List.set_cons_succ]
                      refine reg_takeG 7 ?_ ?_ ?_ (by kernel_rfl) (by kernel_rfl) (by kernel_rfl) (fun _ _ _ h => h) ?_ ?_ ?_ hCl hHeld ?_
                      rotate_left 2
                      · simp only [List.getElem?_toArray, List.getElem?_cons_succ, List.getElem?_cons_zero]; exact rfl
                      · intro l w'; rw [hSSs, hSSs]
                      · rfl
                      · intro w' hA; clear hA; go_simp; try with_reducible rfl
                      clear hCl hHeld
                      intro hCl hHeld
                      simp only [List.setIfInBounds_toArray, List.set_cons_zero, List.set_cons_succ] at hCl hHeld
                      try simp only [Act.put]
                      try simp only [List.setIfInBounds_toArray, List.set_cons_zero, List.set_cons_succ]
                      refine reg_takeG 8 ?_ ?_ ?_ (by kernel_rfl) (by kernel_rfl) (by kernel_rfl) (fun _ _ _ h => h) ?_ ?_ ?_ hCl hHeld ?_
                      rotate_left 2
                      · simp only [List.getElem?_toArray, List.getElem?_cons_succ, List.getElem?_cons_zero]; exact rfl
                      · intro l w'; rw [hSSs, hSSs]
                      · rfl
                      · intro w' hA; obtain ⟨l, hl, hi, hSl⟩ := hA; have hSl := (hSSs _ _).1 hSl; obtain ⟨hz0, hz1⟩ := hSl; go_simp; try with_reducible rfl
                      clear hCl hHeld
                      intro hCl hHeld
                      simp only [List.setIfInBounds_toArray, List.set_cons_zero, List.set_cons_succ] at hCl hHeld
                      try simp only [Act.put]
                      try simp only [List.setIfInBounds_toArray, List.set_cons_zero, List.set_cons_succ]
                      refine reg_takeG 9 ?_ ?_ ?_ (by kernel_rfl) (by kernel_rfl) (by kernel_rfl) (fun _ _ _ h => h) ?_ ?_ ?_ hCl hHeld ?_
                      rotate_left 2
                      · simp only [List.getElem?_toArray, List.getElem?_cons_succ, List.getElem?_cons_zero]; exact rfl
                      · intro l w'; rw [hSSs, hSSs]
                      · rfl
                      · intro w' hA; clear hA; go_simp; try with_reducible rfl
                      clear hCl hHeld
                      intro hCl hHeld
                      simp only [List.setIfInBounds_toArray, List.set_cons_zero, List.set_cons_succ] at hCl hHeld
                      try simp only [Act.put]
                      try simp only [List.setIfInBounds_toArray, List.set_cons_zero, List.set_cons_succ]
                      refine reg_takeG 10 ?_ ?_ ?_ (by kernel_rfl) (by kernel_rfl) (by kernel_rfl) (fun _ _ _ h => h) ?_ ?_ ?_ hCl hHeld ?_
                      rotate_left 2
                      · simp only [List.getElem?_toArray, List.getElem?_cons_succ, List.getElem?_cons_zero]; exact rfl
                      · intro l w'; rw [hSSs, hSSs]
                      · rfl
                      · intro w' hA; clear hA; go_simp; try with_reducible rfl
                      clear hCl hHeld
                      intro hCl hHeld
                      simp only [List.setIfInBounds_toArray, List.set_cons_zero, List.set_cons_succ] at hCl hHeld
                      try simp only [Act.put]
                      try simp only [List.setIfInBounds_toArray, List.set_cons_zero, List.set_cons_succ]
                      refine reg_takeG 11 ?_ ?_ ?_ (by kernel_rfl) (by kernel_rfl) (by kernel_rfl) (fun _ _ _ h => h) ?_ ?_ ?_ hCl hHeld ?_
                      rotate_left 2
                      · simp only [List.getElem?_toArray, List.getElem?_cons_succ, List.getElem?_cons_zero]; exact rfl
                      · intro l w'; rw [hSSs, hSSs]
                      · rfl
                      · intro w' hA; clear hA; go_simp; try with_reducible rfl
                      clear hCl hHeld
                      intro hCl hHeld
                      simp only [List.setIfInBounds_toArray, List.set_cons_zero, List.set_cons_succ] at hCl hHeld
                      try simp only [Act.put]
                      try simp only [List.setIfInBounds_toArray, List.set_cons_zero, List.set_cons_succ]
                      refine reg_takeG 12 ?_ ?_ ?_ (by kernel_rfl) (by kernel_rfl) (by kernel_rfl) (fun _ _ _ h => h) ?_ ?_ ?_ hCl hHeld ?_
                      rotate_left 2
                      · simp only [List.getElem?_toArray, List.getElem?_cons_succ, List.getElem?_cons_zero]; exact rfl
                      · intro l w'; rw [hSSs, hSSs]
                      · rfl
                      · intro w' hA; obtain ⟨l, hl, hi, hSl⟩ := hA; have hSl := (hSSs _ _).1 hSl; obtain ⟨hz0, hz1⟩ := hSl; go_simp; try with_reducible rfl
                      clear hCl hHeld
                      intro hCl hHeld
                      simp only [List.setIfInBounds_toArray, List.set_cons_zero, List.set_cons_succ] at hCl hHeld
                      try simp only [Act.put]
                      try simp only [List.setIfInBounds_toArray, List.set_cons_zero, List.set_cons_succ]
                      refine reg_takeG 13 ?_ ?_ ?_ (by kernel_rfl) (by kernel_rfl) (by kernel_rfl) (fun _ _ _ h => h) ?_ ?_ ?_ hCl hHeld ?_
                      rotate_left 2
                      · simp only [List.getElem?_toArray, List.getElem?_cons_succ, List.getElem?_cons_zero]; exact rfl
                      · intro l w'; rw [hSSs, hSSs]
                      · rfl
                      · intro w' hA; clear hA; go_simp; try with_reducible rfl
                      clear hCl hHeld
                      intro hCl hHeld
                      simp only [List.setIfInBounds_toArray, List.set_cons_zero, List.set_cons_succ] at hCl hHeld
                      try simp only [Act.put]
                      try simp only [List.setIfInBounds_toArray, List.set_cons_zero, List.set_cons_succ]
                      refine reg_takeG 14 ?_ ?_ ?_ (by kernel_rfl) (by kernel_rfl) (by kernel_rfl) (fun _ _ _ h => h) ?_ ?_ ?_ hCl hHeld ?_
                      rotate_left 2
                      · simp only [List.getElem?_toArray, List.getElem?_cons_succ, List.getElem?_cons_zero]; exact rfl
                      · intro l w'; rw [hSSs, hSSs]
                      · rfl
                      · intro w' hA; clear hA; go_simp; try with_reducible rfl
                      clear hCl hHeld
                      intro hCl hHeld
                      simp only [List.setIfInBounds_toArray, List.set_cons_zero, List.set_cons_succ] at hCl hHeld
                      try simp only [Act.put]
                      try simp only [List.setIfInBounds_toArray, List.set_cons_zero, List.set_cons_succ]
                      refine reg_takeG 15 ?_ ?_ ?_ (by kernel_rfl) (by kernel_rfl) (by kernel_rfl) (fun _ _ _ h => h) ?_ ?_ ?_ hCl hHeld ?_
                      rotate_left 2
                      · simp only [List.getElem?_toArray, List.getElem?_cons_succ, List.getElem?_cons_zero]; exact rfl
                      · intro l w'; rw [hSSs, hSSs]
                      · rfl
                      · intro w' hA; clear hA; go_simp; try with_reducible rfl
                      clear hCl hHeld
                      intro hCl hHeld
                      simp only [List.setIfInBounds_toArray, List.set_cons_zero, List.set_cons_succ] at hCl hHeld
                      try simp only [Act.put]
                      try simp only [List.setIfInBounds_toArray, List.set_cons_zero, List.set_cons_succ]
                      refine reg_takeG 16 ?_ ?_ ?_ (by kernel_rfl) (by kernel_rfl) (by kernel_rfl) (fun _ _ _ h => h) ?_ ?_ ?_ hCl hHeld ?_
                      rotate_left 2
                      · simp only [List.getElem?_toArray, List.getElem?_cons_succ, List.getElem?_cons_zero]; exact rfl
                      · intro l w'; rw [hSSs, hSSs]
                      · rfl
                      · intro w' hA; clear hA; go_simp; try with_reducible rfl
                      clear hCl hHeld
                      intro hCl hHeld
                      simp only [List.setIfInBounds_toArray, List.set_cons_zero, List.set_cons_succ] at hCl hHeld
                      try simp only [Act.put]
                      try simp only [List.setIfInBounds_toArray, List.set_cons_zero, List.set_cons_succ]
                      refine reg_takeG 17 ?_ ?_ ?_ (by kernel_rfl) (by kernel_rfl) (by kernel_rfl) (fun _ _ _ h => h) ?_ ?_ ?_ hCl hHeld ?_
                      rotate_left 2
                      · simp only [List.getElem?_toArray, List.getElem?_cons_succ, List.getElem?_cons_zero]; exact rfl
                      · intro l w'; rw [hSSs, hSSs]
                      · rfl
                      · intro w' hA; obtain ⟨l, hl, hi, hSl⟩ := hA; have hSl := (hSSs _ _).1 hSl; obtain ⟨hz0, hz1⟩ := hSl; go_simp; try with_reducible rfl
                      clear hCl hHeld
                      intro hCl hHeld
                      simp only [List.setIfInBounds_toArray, List.set_cons_zero, List.set_cons_succ] at hCl hHeld
                      try simp only [Act.put]
                      try simp only [List.setIfInBounds_toArray, List.set_cons_zero, List.set_cons_succ]
                      refine reg_takeG 18 ?_ ?_ ?_ (by kernel_rfl) (by kernel_rfl) (by kernel_rfl) (fun _ _ _ h => h) ?_ ?_ ?_ hCl hHeld ?_
                      rotate_left 2
                      · simp only [List.getElem?_toArray, List.getElem?_cons_succ, List.getElem?_cons_zero]; exact rfl
                      · intro l w'; rw [hSSs, hSSs]
                      · rfl
                      · intro w' hA; clear hA; go_simp; try with_reducible rfl
                      clear hCl hHeld
                      intro hCl hHeld
                      simp only [List.setIfInBounds_toArray, List.set_cons_zero, List.set_cons_succ] at hCl hHeld
                      try simp only [Act.put]
                      try simp only [List.setIfInBounds_toArray, List.set_cons_zero, List.set_cons_succ]
                      refine reg_takeG 19 ?_ ?_ ?_ (by kernel_rfl) (by kernel_rfl) (by kernel_rfl) (fun _ _ _ h => h) ?_ ?_ ?_ hCl hHeld ?_
                      rotate_left 2
                      · simp only [List.getElem?_toArray, List.getElem?_cons_succ, List.getElem?_cons_zero]; exact rfl
                      · intro l w'; rw [hSSs, hSSs]
                      · rfl
                      · intro w' hA; clear hA; go_simp; try with_reducible rfl
                      clear hCl hHeld
                      intro hCl hHeld
                      simp only [List.setIfInBounds_toArray, List.set_cons_zero, List.set_cons_succ] at hCl hHeld
                      try simp only [Act.put]
                      try simp only [List.setIfInBounds_toArray, List.set_cons_zero, List.set_cons_succ]
                      clear hCl hHeld
                      refine reg_callG 20 ?_ (by kernel_rfl) ?_ (fun K hK => ?_)
                      rotate_left 1
                      · simp only [List.getElem?_toArray, List.getElem?_cons_succ, List.getElem?_cons_zero]; exact rfl
                      go_simp
                      clear hx0 hx1 hup
                      refine hK.out _ _ ((hSSs _ _).2 ⟨hy0, hy1⟩) ?_
                      clear hK K
                      try simp only [Act.put]
                      try simp only [List.setIfInBounds_toArray, List.set_cons_zero, List.set_cons_succ]
                      refine wpAnyG_done (by kernel_rfl) ?_ _
                      refine NoPanic.normal ?_
                      clear hSSs SSs
                      go_wp2
                      have hnn := HNN.out
                      refine ⟨⟨_, _, _, _, _, _, _, _, _, _, _, _, _, _, _, _, _, _, _, _, _, _, _, _, _, _, _, _, _, _, _, _, _, _, ?_, rfl⟩, by simp [intOf]⟩
                      exact ⟨2 + 1, by omega, by go_num, congrArg (Value.int .i64) (by omega), ⟨_, FIN.out.1⟩, FIN.out.2.1, FIN.out.2.2⟩
                · obtain rfl : i = 3 := by omega
                  have FIN := Lib.hid (And.intro hF2 hbw)
                  clear hF2 hbw hbx
                  go_wp2
                  exact ⟨⟨j + 1, by omega, by go_num, congrArg (Value.int .i64) (by omega), ⟨_, FIN.out.1⟩, FIN.out.2⟩, by simp [intOf]; omega⟩
            · obtain rfl : j = 4 := by omega
              have hgl := HM.out.len
              obtain ⟨⟨ta, tb, tc⟩, h0⟩ : ∃ v, (gridT 2 1 bn)[0]? = some v := ⟨_, List.getElem?_eq_getElem (by omega)⟩
              have hz := HM.out.one _ (List.mem_of_getElem? h0)
              simp only [] at hz
              have hb7 : Below w7.heap.size w7 wr := by rw [HFB.out]; exact hbw
              have hpr : RowN wr (w.heap.size + 1) 26 2 (.slice (some ⟨gp, 0, none⟩) 6 gpc) 6 (ptsCells (gridP 2 1)) := (HROW.out.below HBT.out).below hb7
              have htr := HTR.out.below hb7
              have hbu := Build_any F (gridT 2 1 bn) ta tb tc fb gt 4 gtc gp 6 gpc (gridP 2 1) wr OK.out.good h0 hz (by omega) (by omega) OK.out.pts htr hF rfl (by omega) (by omega) HPS.out hpr.ptsC HM.out.some_ (by have := HM.out.few; omega) HM.out.ends
              have HBU := Lib.hid hbu; have HTRR := Lib.hid htr
              have HBWR := Lib.hid (HBW.out.trans ((HBT.out.trans (hb7.mono HBT.out.size)).mono HBW.out.size))
              have hgt := HGTL.out.1; have hsz5 := HBW.out.size
              clear hbu htr hpr hb7 hF hbw hz h0 hgl
              go_wp2_with fail
              refine HBU.out.mono ?_
              rintro e w9 ⟨mb, rfl, hbe, hb9⟩
              have hbs := HBWR.out.size
              have FIN := Lib.hid (And.intro (hbe.low hbs) (And.intro (HTRR.out.below hb9) (HBWR.out.trans (hb9.mono hbs))))
              clear hbe hb9
              go_wp2
              go_ret2
              exact ⟨mb, gt, gtc, F, rfl, FIN.out.1, FIN.out.2.1, by omega, FIN.out.2.2⟩
end Go.Proofs.Ytaaeghcacjmjeaa
/- The statements' Grid, 2 by 2. -/
namespace Go.Proofs.Ytaaeghcacjmjeaa
open Go.RowKit Go.MagM
set_option maxRecDepth 100000 in
set_option maxHeartbeats 16000000 in
theorem Grid22_any (w0 h0 b f : Int) (bn : Nat) (hbn : bn < 16) (e1 : bits .and .i64 w0 1 = 1) (e2 : bits .and .i64 h0 1 = 1) (hbit : ∀ k : Nat, k < 4 → bitB b k = bn.testBit k) (w : World) :
    Calls Try.prog 23 #[.int .i64 w0, .int .i64 h0, .int .u32 b, .int .u32 f] w fun e w' => ∃ (mb g c : Nat) (F : Int → Int → Bool), e = .returned (.tuple #[.pointer (some ⟨mb, 0, none⟩), .slice (some ⟨g, 0, none⟩) 8 c]) ∧ BuildEnd 26 37 F w.heap.size (gridP 2 2) (gridT 2 2 bn) mb w' ∧ TrIn w' g ((gridT 2 2 bn).map realV) ∧ w.heap.size ≤ g ∧ Below w.heap.size w w' := by
  have ok := grid_ok (w := 2) (h := 2) (by omega) (by omega) hbn
  have hm := grid_has (w := 2) (h := 2) (by omega) (by omega) hbn
  have hps : InPs (gridP 2 2) := grid_inPs (by omega) (by omega)
  have OK := Lib.hid ok; have HM := Lib.hid hm; have HPS := Lib.hid hps; have HBIT := Lib.hid hbit
  clear ok hm hps hbit
  obtain ⟨i0, hi, hz0, hz1, hz2⟩ := info_parts infoPt
  have HI := Lib.hid hi; have HZ0 := Lib.hid hz0; have HZ1 := Lib.hid hz1; have HZ2 := Lib.hid hz2
  obtain ⟨j0, hj, hy0, hy1, hy2⟩ := info_parts infoE3
  have HJ := Lib.hid hj; have HY0 := Lib.hid hy0; have HY1 := Lib.hid hy1; have HY2 := Lib.hid hy2
  clear hi hz0 hz1 hz2 hj hy0 hy1 hy2
  obtain ⟨w1, hw1, pw0, hB1, hs1⟩ := new_box w _ rfl [.int .i64 w0] 3
  have sc := pw0.c 0 _ rfl; have sf := pw0.f 0 _ rfl
  obtain ⟨w2, hw2⟩ : ∃ w2, w1.setCell ⟨w.heap.size, 0, none⟩ (.int .i64 2) = w2 := ⟨_, rfl⟩
  have pw2 : Box w2 w.heap.size [.int .i64 2] := by rw [← hw2]; exact pw0.set 0 (.int .i64 2)
  have hB2 : Below w.heap.size w w2 := by rw [← hw2]; exact hB1.setCell (p := ⟨w.heap.size, 0, none⟩) (by simp only []; omega) _
  have hz2 : w.heap.size + 1 ≤ w2.heap.size := by have := pw2.lt; omega
  have PW2 := Lib.hid pw2; have HB2 := Lib.hid hB2; have HZS := Lib.hid hz2
  clear pw0 hB1 hs1 pw2 hB2 hz2
  go_enter Try.func23, Try.ntmps23
  go_wp2
  clear sc sf hw1 hw2
  go_loopw [10, 11, 12, 35] (fun pv _ _ iv wr => ∃ (y : Nat) (vv : Value), y ≤ 3 ∧ iv = .int .i64 (y : Int) ∧ vv = pv ∧ RowN wr (w.heap.size + 1) 26 2 vv (y * 3) (ptsCells ((gridP 2 2).take (y * 3))) ∧ Box wr w.heap.size [.int .i64 2] ∧ Below w.heap.size w wr ∧ w.heap.size + 1 ≤ wr.heap.size) (fun _ _ _ iv _ => 3 - (intOf iv).toNat)
  case atStart => exact ⟨0, _, Nat.zero_le _, rfl, rfl, RowN.nil _ _ _ _, PW2.out, HB2.out, HZS.out⟩
  case round =>
    obtain ⟨y, vv, hy, rfl, rfl, hrow, hbx, hbw, hsz⟩ := hrel
    by_cases hlt : y < 3
    · have hyd : decide ((y : Int) < 3) = true := decide_eq_true (by omega)
      have cw := hbx.c 0 _ rfl
      have HROW := Lib.hid hrow; have HBX := Lib.hid hbx; have HBW := Lib.hid hbw; have HSZ := Lib.hid hsz
      clear hrow hbx hbw hsz
      go_wp2
      clear cw
      go_loopw [10, 12, 40] (fun pv _ iv wr => ∃ (x : Nat) (vv : Value), x ≤ 3 ∧ iv = .int .i64 (x : Int) ∧ vv = pv ∧ RowN wr (w.heap.size + 1) 26 2 vv (y * 3 + x) (ptsCells ((gridP 2 2).take (y * 3 + x))) ∧ Box wr w.heap.size [.int .i64 2] ∧ Below w.heap.size w wr ∧ w.heap.size + 1 ≤ wr.heap.size) (fun _ _ iv _ => 3 - (intOf iv).toNat)
      case atStart => exact ⟨0, _, Nat.zero_le _, rfl, rfl, HROW.out, HBX.out, HBW.out, HSZ.out⟩
      case round =>
        obtain ⟨x, vv, hx, rfl, rfl, hrow, hbx, hbw, hsz⟩ := hrel
        by_cases hlx : x < 3
        · have hel := gridP_at (w := 2) (h := 2) (by omega) (by omega) (x := x) (y := y) (by omega) (by omega)
          have hx2 : IntKind.i64.wrap (2 * (x : Int)) = 2 * (x : Int) := by rw [IntKind.wrap_i64]; omega
          have hy2 : IntKind.i64.wrap (2 * (y : Int)) = 2 * (y : Int) := by rw [IntKind.wrap_i64]; omega
          obtain ⟨w3, hw3, hpn, hb3, hs3⟩ := new_box wr _ rfl [.int .i64 (2 * (x : Int)), .int .i64 (2 * (y : Int))] 26
          have hrow3 := hrow.below hb3
          have hbx3 := hbx.below hb3
          have hbw3 := hbw.trans (hb3.mono hbw.size)
          obtain ⟨v1, w4, hrun, rown, hgrow, hkept⟩ := run_append_row (P := Try.prog) w3 (w.heap.size + 1) 22 22 26 i0 (.agg #[.int .i64 0, .int .i64 0]) 2 16 (by kernel_rfl) HI.out HZ0.out HZ1.out HZ2.out rfl (noWordI2 _ _) _ (y * 3 + x) _ hrow3 ⟨wr.heap.size, 0, none⟩ 1 1 [.int .i64 (2 * (x : Int)), .int .i64 (2 * (y : Int))] (by omega) rfl hpn.news (by intro u hu; simp at hu; rcases hu with rfl | rfl <;> rfl) (noWordI2 _ _) (by unfold maxLen; omega) (by omega) (by omega)
          have hne : ∀ k, vv.ownBlock = some k → w.heap.size + 1 ≤ k := fun k hk => (hrow3.lt k hk).1
          have hbx4 := hbx3.grown hgrow (fun e => by have := hne _ e; omega) hbx3.lt
          have hbw4 : Below w.heap.size w w4 := hbw3.grown hgrow (by omega) (fun k hk => by have := hne k hk; omega)
          have htk : ptsCells ((gridP 2 2).take (y * 3 + x)) ++ [.int .i64 (2 * (x : Int)), .int .i64 (2 * (y : Int))] = ptsCells ((gridP 2 2).take (y * 3 + (x + 1))) := by
            rw [← Nat.add_assoc, List.take_add_one, hel, ptsCells_app]; rfl
          rw [htk] at rown
          have FIN := Lib.hid (And.intro rown (And.intro hbx4 (And.intro hbw4 (show w.heap.size + 1 ≤ w4.heap.size by have := hgrow.size; omega))))
          clear hrow hbx hbw hsz hpn hb3 hs3 hrow3 hbx3 hbw3 rown hgrow hkept hne hbx4 hbw4 htk hel
          go_wp2_with (refine wpList_append_row rfl _ _ 22 rfl rfl rfl hrun ?_)
          have FI := FIN.out
          exact ⟨⟨x + 1, _, by omega, by go_num, rfl, FI.1, FI.2.1, FI.2.2.1, FI.2.2.2⟩, by simp [intOf]; omega⟩
        · obtain rfl : x = 3 := by omega
          have FIN := Lib.hid (And.intro hrow (And.intro hbx (And.intro hbw hsz)))
          clear hrow hbx hbw hsz
          go_wp2
          have FI := FIN.out
          have hrow := FI.1
          rw [show y * 3 + 3 = (y + 1) * 3 by omega] at hrow
          exact ⟨⟨y + 1, _, by omega, by go_num, rfl, hrow, FI.2.1, FI.2.2.1, FI.2.2.2⟩, by simp [intOf]; omega⟩
    · obtain rfl : y = 3 := by omega
      have hpt : (gridP 2 2).take (3 * 3) = gridP 2 2 := rfl
      rw [hpt] at hrow
      obtain ⟨gp, gpc, hvv⟩ : ∃ g c, vv = .slice (some ⟨g, 0, none⟩) 9 c := by
        rcases hrow.2 with ⟨h1, h2⟩ | ⟨g, cap, cur, h1, h2, h3⟩
        · omega
        · exact ⟨g, cap, h1⟩
      subst hvv
      have hpl := hrow.lt gp rfl
      obtain ⟨w5, hw5⟩ : ∃ w5, w5 = wr := ⟨_, rfl⟩
      rw [← hw5] at hrow hbx hbw hsz hpl
      rw [← hw5]
      have HROW := Lib.hid hrow; have HBX := Lib.hid hbx; have HBW := Lib.hid hbw; have HSZ := Lib.hid hsz; have HPL := Lib.hid hpl
      clear hrow hbx hbw hsz hpl hw5
      go_wp2
      go_loopw [13, 15, 16, 17, 18, 19, 20, 21, 55] (fun tv kv _ _ _ _ _ _ iv wr => ∃ (y : Nat) (vv : Value), y ≤ 2 ∧ iv = .int .i64 (y : Int) ∧ kv = .int .i64 ((y * 2 : Nat) : Int) ∧ vv = tv ∧ RowN wr w5.heap.size 23 3 vv (2 * (y * 2)) (tr3Cells ((gridT 2 2 bn).take (2 * (y * 2)))) ∧ Below w5.heap.size w5 wr) (fun _ _ _ _ _ _ _ _ iv _ => 2 - (intOf iv).toNat)
      case atStart => exact ⟨0, _, Nat.zero_le _, rfl, rfl, rfl, RowN.nil _ _ _ _, Below.refl _ _⟩
      case round =>
        obtain ⟨y, vv, hy, rfl, rfl, rfl, hrow, hbw⟩ := hrel
        by_cases hlt : y < 2
        · have hyd : decide ((y : Int) < 2) = true := decide_eq_true (by omega)
          have cw := (HBX.out.below hbw).c 0 _ rfl
          have HRW := Lib.hid hrow; have HBZ := Lib.hid hbw
          clear hrow hbw
          go_wp2
          clear cw
          go_loopw [13, 15, 17, 18, 19, 20, 21, 59] (fun tv kv _ _ _ _ _ iv wr => ∃ (x : Nat) (vv : Value), x ≤ 2 ∧ iv = .int .i64 (x : Int) ∧ kv = .int .i64 ((y * 2 + x : Nat) : Int) ∧ vv = tv ∧ RowN wr w5.heap.size 23 3 vv (2 * (y * 2 + x)) (tr3Cells ((gridT 2 2 bn).take (2 * (y * 2 + x)))) ∧ Below w5.heap.size w5 wr) (fun _ _ _ _ _ _ _ iv _ => 2 - (intOf iv).toNat)
          case atStart => exact ⟨0, _, Nat.zero_le _, rfl, by rw [Nat.add_zero], rfl, HRW.out, HBZ.out⟩
          case round =>
            obtain ⟨x, vv, hx, rfl, rfl, rfl, hrow, hbw⟩ := hrel
            by_cases hlx : x < 2
            · have cw := (HBX.out.below hbw).c 0 _ rfl
              have hev := HM.out.even y x hlt hlx
              have hod := HM.out.odd y x hlt hlx
              have hbt := HBIT.out (y * 2 + x) (by omega)
              obtain ⟨q, hq⟩ : ∃ q, bn.testBit (y * 2 + x) = q := ⟨_, rfl⟩
              rw [hq] at hev hod hbt
              have a0 := gridNo_any w.heap.size 2 x y wr (by omega) (by omega) (by omega) cw ((y : Int) * 3 + (x : Int)) (by omega)
              have a1 := gridNo_any w.heap.size 2 (x + 1) y wr (by omega) (by omega) (by omega) cw ((y : Int) * 3 + ((x : Int) + 1)) (by omega)
              have a2 := gridNo_any w.heap.size 2 (x + 1) (y + 1) wr (by omega) (by omega) (by omega) cw (((y : Int) + 1) * 3 + ((x : Int) + 1)) (by omega)
              have a3 := gridNo_any w.heap.size 2 x (y + 1) wr (by omega) (by omega) (by omega) cw (((y : Int) + 1) * 3 + (x : Int)) (by omega)
              rw [show (((x + 1 : Nat)) : Int) = (x : Int) + 1 by omega] at a1 a2
              rw [show (((y + 1 : Nat)) : Int) = (y : Int) + 1 by omega] at a2 a3
              obtain ⟨ca, hca⟩ : ∃ c : Int, (y : Int) * 3 + (x : Int) = c := ⟨_, rfl⟩
              obtain ⟨cb, hcb⟩ : ∃ c : Int, (y : Int) * 3 + ((x : Int) + 1) = c := ⟨_, rfl⟩
              obtain ⟨cc, hcc⟩ : ∃ c : Int, ((y : Int) + 1) * 3 + ((x : Int) + 1) = c := ⟨_, rfl⟩
              obtain ⟨cd, hcd⟩ : ∃ c : Int, ((y : Int) + 1) * 3 + (x : Int) = c := ⟨_, rfl⟩
              rw [hca] at a0; rw [hcb] at a1; rw [hcc] at a2; rw [hcd] at a3
              have C0 := Lib.hid a0; have C1 := Lib.hid a1; have C2 := Lib.hid a2; have C3 := Lib.hid a3
              have HEV := Lib.hid hev; have HOD := Lib.hid hod; have HBT := Lib.hid hbt; have HRW2 := Lib.hid hrow; have HBZ2 := Lib.hid hbw
              have HCA := Lib.hid hca; have HCB := Lib.hid hcb; have HCC := Lib.hid hcc; have HCD := Lib.hid hcd
              obtain ⟨kk, hkk⟩ : ∃ kk : Nat, y * 2 + x = kk := ⟨_, rfl⟩
              have hkk4 : kk < 4 := by omega
              rw [hkk] at hbt
              unfold bitB at hbt
              have na : (((y * 3 + x : Nat)) : Int) = ca := by omega
              have nb : (((y * 3 + (x + 1) : Nat)) : Int) = cb := by omega
              have nc : ((((y + 1) * 3 + (x + 1) : Nat)) : Int) = cc := by omega
              have nd : ((((y + 1) * 3 + x : Nat)) : Int) = cd := by omega
              have HKK := Lib.hid hkk
              rw [hkk]
              have HNA := Lib.hid (And.intro na (And.intro nb (And.intro nc nd)))
              clear a0 a1 a2 a3 hev hod hrow hbw hca hcb hcc hcd cw hkk na nb nc nd hq
              cases q
              · have hev' : (gridT 2 2 bn)[2 * (y * 2 + x)]? = some (y * 3 + (x + 1), (y + 1) * 3 + x, y * 3 + x) := HEV.out
                have hod' : (gridT 2 2 bn)[2 * (y * 2 + x) + 1]? = some ((y + 1) * 3 + x, y * 3 + (x + 1), (y + 1) * 3 + (x + 1)) := HOD.out
                have HEV' := Lib.hid hev'; have HOD' := Lib.hid hod'
                clear hev' hod'
                go_wp2_with fail
                refine C0.out.mono ?_
                rintro e w6 ⟨rfl, rfl⟩
                go_wp2_with fail
                refine C1.out.mono ?_
                rintro e w6 ⟨rfl, rfl⟩
                go_wp2_with fail
                refine C2.out.mono ?_
                rintro e w6 ⟨rfl, rfl⟩
                go_wp2_with fail
                refine C3.out.mono ?_
                rintro e w6 ⟨rfl, rfl⟩
                obtain ⟨w6, hw6, hpn, hb6, hs6⟩ := new_box wr _ rfl [.int .i64 cb, .int .i64 cd, .int .i64 ca, .int .i64 cd, .int .i64 cb, .int .i64 cc] 23
                have hrow6 := HRW2.out.below hb6
                have hbw6 := HBZ2.out.trans (hb6.mono HBZ2.out.size)
                obtain ⟨v1, w7, hrun, rown, hgrow, hkept⟩ := run_append_row (P := Try.prog) w6 w5.heap.size 50 50 23 j0 (.agg #[.int .i64 0, .int .i64 0, .int .i64 0]) 3 24 (by kernel_rfl) HJ.out HY0.out HY1.out HY2.out rfl (noWordI3 _ _ _) _ (2 * (y * 2 + x)) _ hrow6 ⟨wr.heap.size, 0, none⟩ 2 2 [.int .i64 cb, .int .i64 cd, .int .i64 ca, .int .i64 cd, .int .i64 cb, .int .i64 cc] (by omega) rfl hpn.news (by intro u hu; simp at hu; rcases hu with rfl | rfl | rfl | rfl | rfl | rfl <;> rfl) (noWordI6 _ _ _ _ _ _) (by unfold maxLen; omega) (by omega) (by have := hbw6.size; omega)
                have hbw7 : Below w5.heap.size w5 w7 := hbw6.grown hgrow (by have := hbw6.size; omega) (fun k hk => (hrow6.lt k hk).1)
                have htk : tr3Cells ((gridT 2 2 bn).take (2 * (y * 2 + x))) ++ [.int .i64 cb, .int .i64 cd, .int .i64 ca, .int .i64 cd, .int .i64 cb, .int .i64 cc] = tr3Cells ((gridT 2 2 bn).take (2 * (y * 2 + (x + 1)))) := by
                  obtain ⟨na, nb, nc, nd⟩ := HNA.out
                  rw [show 2 * (y * 2 + (x + 1)) = 2 * (y * 2 + x) + 1 + 1 by omega, List.take_add_one, List.take_add_one, HEV'.out, HOD'.out, tr3_app, tr3_app, List.append_assoc]
                  simp only [Option.toList_some, tr3Cells, na, nb, nc, nd, List.cons_append, List.nil_append]
                rw [htk, show 2 * (y * 2 + x) + 2 = 2 * (y * 2 + (x + 1)) by omega] at rown
                have FIN := Lib.hid (And.intro rown hbw7)
                clear hpn hb6 hs6 hrow6 hbw6 rown hgrow hkept hbw7 htk
                go_wp2_with (refine wpList_append_row rfl _ _ 50 rfl rfl rfl hrun ?_)
                have hkk := HKK.out
                refine ⟨⟨_, _, _, _, _, _, _, _, _, _, _, _, _, _, _, _, _, _, _, _, _, _, _, _, _, _, _, _, _, _, _, _, _, _, _, _, _, _, _, _, _, _, _, _, _, _, _, _, _, _, _, _, _, _, _, _, _, _, _, _, ?_, rfl⟩, by simp [intOf]; omega⟩
                exact ⟨x + 1, _, by omega, by go_num, congrArg (Value.int .i64) (by omega), rfl, FIN.out.1, FIN.out.2⟩
              · have hev' : (gridT 2 2 bn)[2 * (y * 2 + x)]? = some (y * 3 + x, y * 3 + (x + 1), (y + 1) * 3 + (x + 1)) := HEV.out
                have hod' : (gridT 2 2 bn)[2 * (y * 2 + x) + 1]? = some ((y + 1) * 3 + (x + 1), (y + 1) * 3 + x, y * 3 + x) := HOD.out
                have HEV' := Lib.hid hev'; have HOD' := Lib.hid hod'
                clear hev' hod'
                go_wp2_with fail
                refine C0.out.mono ?_
                rintro e w6 ⟨rfl, rfl⟩
                go_wp2_with fail
                refine C1.out.mono ?_
                rintro e w6 ⟨rfl, rfl⟩
                go_wp2_with fail
                refine C2.out.mono ?_
                rintro e w6 ⟨rfl, rfl⟩
                go_wp2_with fail
                refine C3.out.mono ?_
                rintro e w6 ⟨rfl, rfl⟩
                obtain ⟨w6, hw6, hpn, hb6, hs6⟩ := new_box wr _ rfl [.int .i64 ca, .int .i64 cb, .int .i64 cc, .int .i64 cc, .int .i64 cd, .int .i64 ca] 23
                have hrow6 := HRW2.out.below hb6
                have hbw6 := HBZ2.out.trans (hb6.mono HBZ2.out.size)
                obtain ⟨v1, w7, hrun, rown, hgrow, hkept⟩ := run_append_row (P := Try.prog) w6 w5.heap.size 50 50 23 j0 (.agg #[.int .i64 0, .int .i64 0, .int .i64 0]) 3 24 (by kernel_rfl) HJ.out HY0.out HY1.out HY2.out rfl (noWordI3 _ _ _) _ (2 * (y * 2 + x)) _ hrow6 ⟨wr.heap.size, 0, none⟩ 2 2 [.int .i64 ca, .int .i64 cb, .int .i64 cc, .int .i64 cc, .int .i64 cd, .int .i64 ca] (by omega) rfl hpn.news (by intro u hu; simp at hu; rcases hu with rfl | rfl | rfl | rfl | rfl | rfl <;> rfl) (noWordI6 _ _ _ _ _ _) (by unfold maxLen; omega) (by omega) (by have := hbw6.size; omega)
                have hbw7 : Below w5.heap.size w5 w7 := hbw6.grown hgrow (by have := hbw6.size; omega) (fun k hk => (hrow6.lt k hk).1)
                have htk : tr3Cells ((gridT 2 2 bn).take (2 * (y * 2 + x))) ++ [.int .i64 ca, .int .i64 cb, .int .i64 cc, .int .i64 cc, .int .i64 cd, .int .i64 ca] = tr3Cells ((gridT 2 2 bn).take (2 * (y * 2 + (x + 1)))) := by
                  obtain ⟨na, nb, nc, nd⟩ := HNA.out
                  rw [show 2 * (y * 2 + (x + 1)) = 2 * (y * 2 + x) + 1 + 1 by omega, List.take_add_one, List.take_add_one, HEV'.out, HOD'.out, tr3_app, tr3_app, List.append_assoc]
                  simp only [Option.toList_some, tr3Cells, na, nb, nc, nd, List.cons_append, List.nil_append]
                rw [htk, show 2 * (y * 2 + x) + 2 = 2 * (y * 2 + (x + 1)) by omega] at rown
                have FIN := Lib.hid (And.intro rown hbw7)
                clear hpn hb6 hs6 hrow6 hbw6 rown hgrow hkept hbw7 htk
                go_wp2_with (refine wpList_append_row rfl _ _ 50 rfl rfl rfl hrun ?_)
                have hkk := HKK.out
                refine ⟨⟨_, _, _, _, _, _, _, _, _, _, _, _, _, _, _, _, _, _, _, _, _, _, _, _, _, _, _, _, _, _, _, _, _, _, _, _, _, _, _, _, _, _, _, _, _, _, _, _, _, _, _, _, _, _, _, _, _, _, _, _, ?_, rfl⟩, by simp [intOf]; omega⟩
                exact ⟨x + 1, _, by omega, by go_num, congrArg (Value.int .i64) (by omega), rfl, FIN.out.1, FIN.out.2⟩
            · obtain rfl : x = 2 := by omega
              have FIN := Lib.hid (And.intro hrow hbw)
              clear hrow hbw
              go_wp2
              have hrow := FIN.out.1
              rw [show y * 2 + 2 = (y + 1) * 2 by omega] at hrow
              exact ⟨⟨y + 1, _, by omega, by go_num, congrArg (Value.int .i64) (by omega), rfl, hrow, FIN.out.2⟩, by simp [intOf]; omega⟩
        · obtain rfl : y = 2 := by omega
          have hgl := HM.out.len
          have htt : (gridT 2 2 bn).take (2 * (2 * 2)) = gridT 2 2 bn := List.take_of_length_le (by rw [hgl]; omega)
          rw [htt] at hrow
          obtain ⟨gt, gtc, hvv⟩ : ∃ g c, vv = .slice (some ⟨g, 0, none⟩) 8 c := by
            rcases hrow.2 with ⟨h1, h2⟩ | ⟨g, cap, cur, h1, h2, h3⟩
            · omega
            · exact ⟨g, cap, h1⟩
          subst hvv
          have hgtl := hrow.lt gt rfl
          obtain ⟨w7, hw7⟩ : ∃ w7, w7 = wr := ⟨_, rfl⟩
          rw [← hw7] at hrow hbw hgtl
          rw [← hw7]
          clear hw7
          obtain ⟨fb, hfb⟩ : ∃ fb, w7.heap.size = fb := ⟨_, rfl⟩
          obtain ⟨hmk, hmp⟩ := run_new_map (P := Try.prog) w7 99 48
          obtain ⟨w8, hw8⟩ : ∃ w8, w7.alloc (.map #[] 0) = w8 := ⟨_, rfl⟩
          rw [hw8, hfb] at hmk hmp
          have hb8 : Below fb w7 w8 := by rw [← hw8, ← hfb]; exact (Below.refl _ _).alloc (Nat.le_refl _) _
          have htr := hrow.trIn
          have HRWT := Lib.hid hrow; have HBT := Lib.hid hbw; have HTR := Lib.hid htr; have HGTL := Lib.hid hgtl; have HFB := Lib.hid hfb; have HMP := Lib.hid (fault_new hmp); have HB8 := Lib.hid hb8
          clear hrow hbw htr hgtl hfb hmp hb8 hw8
          go_wp2
          clear hmk
          go_loopw [23, 25, 26, 116] (fun nv _ _ iv wr => ∃ j : Nat, j ≤ 8 ∧ iv = .int .i64 (j : Int) ∧ nv = .int .i64 ((3 * j : Nat) : Int) ∧ (∃ F, FaultMap Try.prog 48 wr fb F) ∧ Below fb w7 wr) (fun _ _ _ iv _ => 8 - (intOf iv).toNat)
          case atStart => exact ⟨0, Nat.zero_le _, rfl, rfl, ⟨_, HMP.out⟩, HB8.out⟩
          case round =>
            obtain ⟨j, hj, rfl, rfl, ⟨F, hF⟩, hbw⟩ := hrel
            by_cases hlt : j < 8
            · have hyd : decide ((j : Int) < 8) = true := decide_eq_true (by omega)
              obtain ⟨⟨x, y, z⟩, hv⟩ : ∃ v, (gridT 2 2 bn)[j]? = some v := ⟨_, List.getElem?_eq_getElem (by have := HM.out.len; omega)⟩
              obtain ⟨px, py, pz⟩ := OK.out.pts _ (List.mem_of_getElem? hv)
              have hpl6 := OK.out.many
              simp only [] at px py pz
              have htk := HTR.out j (x : Int) (y : Int) (z : Int) (by rw [List.getElem?_map, hv]; rfl)
              have hfb := HFB.out
              have l1 := World.block_lt_of_cell? w7 _ htk.1
              simp only [] at l1
              have ka := (hbw.cell (p := ⟨gt, j * 3, none⟩) (by show gt < fb; omega)).trans htk.1
              have kb := (hbw.cell (p := ⟨gt, j * 3 + 1, none⟩) (by show gt < fb; omega)).trans htk.2.1
              have kc := (hbw.cell (p := ⟨gt, j * 3 + 2, none⟩) (by show gt < fb; omega)).trans htk.2.2
              obtain ⟨w9, hw9, hpv, hb9, hs9⟩ := new_box wr _ rfl [.int .i64 (x : Int), .int .i64 (y : Int), .int .i64 (z : Int)] 23
              have hF9 := hF.same (hb9.block fb hF.lt)
              have hfl := hF.lt
              have hbw9 : Below fb w7 w9 := hbw.trans (hb9.mono (by omega))
              obtain ⟨tb, htb⟩ : ∃ tb, wr.heap.size = tb := ⟨_, rfl⟩
              have htf : fb < tb := by omega
              rw [htb] at hpv
              have HF9 := Lib.hid hF9; have HBW9 := Lib.hid hbw9; have HPV := Lib.hid hpv
              have hxyz : x < 10 ∧ y < 10 ∧ z < 10 := by
                have : (gridP 2 2).length = 9 := rfl
                omega
              clear hv px py pz htk hfb l1 hb9 hs9 hF9 hbw9 hpv hF hbw hfl hpl6
              go_wp2
              clear ka kb kc hw9 htb
              go_loopw [23, 26, 120] (fun nv _ iv wr => ∃ i : Nat, i ≤ 3 ∧ iv = .int .i64 (i : Int) ∧ nv = .int .i64 ((3 * j + i : Nat) : Int) ∧ (∃ F, FaultMap Try.prog 48 wr fb F) ∧ Box wr tb [.int .i64 (x : Int), .int .i64 (y : Int), .int .i64 (z : Int)] ∧ Below fb w7 wr) (fun _ _ iv _ => 3 - (intOf iv).toNat)
              case atStart => exact ⟨0, Nat.zero_le _, rfl, rfl, ⟨_, HF9.out⟩, HPV.out, HBW9.out⟩
              case round =>
                obtain ⟨i, hi, rfl, rfl, ⟨F2, hF2⟩, hbx, hbw⟩ := hrel
                by_cases hli : i < 3
                · obtain ⟨nn, hnn⟩ : ∃ nn : Nat, 3 * j + i = nn := ⟨_, rfl⟩
                  have hnn24 : nn < 24 := by omega
                  have HNN := Lib.hid hnn
                  rw [hnn]
                  clear hnn
                  have HF2 := Lib.hid hF2; have HBX2 := Lib.hid hbx; have HBW2 := Lib.hid hbw
                  clear hF2 hbx hbw
                  obtain ⟨q, hq⟩ : ∃ q : Bool, (bits .and .u32 (f / 2 ^ (nn % 32)) 1 == 1) = q := ⟨_, rfl⟩
                  have hfb2 := HF2.out.lt
                  have hd3 := (HF2.out.same (w' := wr.drew) rfl)
                  have hx3 := HBX2.out.drew
                  have hw3 := HBW2.out.drew'
                  have HF3 := Lib.hid hd3; have HBX3 := Lib.hid hx3; have HBW3 := Lib.hid hw3
                  clear hd3 hx3 hw3
                  cases q
                  · go_wp2
                    have hnn := HNN.out
                    exact ⟨⟨i + 1, by omega, by go_num, congrArg (Value.int .i64) (by omega), ⟨_, HF2.out⟩, HBX2.out, HBW2.out⟩, by simp [intOf]; omega⟩
                  · obtain rfl | rfl | rfl : i = 0 ∨ i = 1 ∨ i = 2 := by omega
                    · obtain ⟨mn, hmn⟩ : ∃ mn : Int, (if (y : Int) < (x : Int) then (y : Int) else (x : Int)) = mn := ⟨_, rfl⟩
                      obtain ⟨mx, hmx⟩ : ∃ mx : Int, (if (y : Int) > (x : Int) then (y : Int) else (x : Int)) = mx := ⟨_, rfl⟩
                      have bmn : -1000000 ≤ mn ∧ mn ≤ 1000000 := by rw [← hmn]; split <;> omega
                      have bmx : -1000000 ≤ mx ∧ mx ≤ 1000000 := by rw [← hmx]; split <;> omega
                      have hmin : ∀ w : World, Sem.run Try.prog (Builtin.min_ #[3, 3] 3 #[.int .i64 (x : Int), .int .i64 (y : Int)]) w = Result.ok (Value.int .i64 mn) w := fun w => by rw [run_min_int2, hmn]
                      have hmax : ∀ w : World, Sem.run Try.prog (Builtin.max_ #[3, 3] 3 #[.int .i64 (x : Int), .int .i64 (y : Int)]) w = Result.ok (Value.int .i64 mx) w := fun w => by rw [run_max_int2, hmx]
                      have hwk : (IntKind.i64.wrap 1).tmod 3 = 1 := by decide
                      obtain ⟨wm, F4, hup, hT4, hF4⟩ := fault_store HF3.out bmn bmx
                      have hx0 := HBX3.out.c 0 _ rfl; have hx1 := HBX3.out.c 1 _ rfl
                      have hbx4 := HBX3.out.turned hT4 (by omega)
                      have hbw4 : Below fb w7 wm := Below.turned HBW3.out hT4 (Nat.le_refl _)
                      have hy0 := hbx4.c 0 _ rfl; have hy1 := hbx4.c 1 _ rfl
                      have FIN := Lib.hid (And.intro hF4 (And.intro hbx4 hbw4))
                      clear hmn hmx bmn bmx hT4 hF4 hbx4 hbw4
                      go_wp2_with fail
                      obtain ⟨SSs, hSSs⟩ : ∃ S : Array Bool → World → Prop, ∀ l w', S l w' ↔ ((w'.cell? ⟨tb, 0, none⟩ = some (.int .i64 (x : Int))) ∧ (w'.cell? ⟨tb, 1, none⟩ = some (.int .i64 (y : Int)))) := ⟨_, fun _ _ => Iff.rfl⟩
                      refine wp_region_noPanic ?_
                      refine wp_region_G SSs 21 #[false, false, false, false, false, false, false, false, false, false, false, false, false, false, false, false, false, false, false, false, false] (by kernel_rfl) (by kernel_rfl) (by kernel_rfl) ((hSSs _ _).2 ⟨hx0, hx1⟩) (fun hCl hHeld => ?_)
                      generalize wr.drew = wd at *
                      refine reg_takeG 0 ?_ ?_ ?_ (by kernel_rfl) (by kernel_rfl) (by kernel_rfl) (fun _ _ _ h => h) ?_ ?_ ?_ hCl hHeld ?_
                      rotate_left 2
                      · simp only [List.getElem?_toArray, List.getElem?_cons_zero]; exact rfl
                      · intro l w'; rw [hSSs, hSSs]
                      · rfl
                      · intro w' hA; clear hA; go_simp; try with_reducible rfl
                      clear hCl hHeld
                      intro hCl hHeld
                      simp only [List.setIfInBounds_toArray, List.set_cons_zero] at hCl hHeld
                      try simp only [Act.put]
                      try simp only [List.setIfInBounds_toArray, List.set_cons_zero, List.set_cons_succ]
                      refine reg_takeG 1 ?_ ?_ ?_ (by kernel_rfl) (by kernel_rfl) (by kernel_rfl) (fun _ _ _ h => h) ?_ ?_ ?_ hCl hHeld ?_
                      rotate_left 2
                      · simp only [List.getElem?_toArray, List.getElem?_cons_succ, List.getElem?_cons_zero]; exact rfl
                      · intro l w'; rw [hSSs, hSSs]
                      · rfl
                      · intro w' hA; clear hA; go_simp; try with_reducible rfl
                      clear hCl hHeld
                      intro hCl hHeld
                      simp only [List.setIfInBounds_toArray, List.set_cons_zero, List.set_cons_succ] at hCl hHeld
                      try simp only [Act.put]
                      try simp only [List.setIfInBounds_toArray, List.set_cons_zero, List.set_cons_succ]
                      refine reg_takeG 2 ?_ ?_ ?_ (by kernel_rfl) (by kernel_rfl) (by kernel_rfl) (fun _ _ _ h => h) ?_ ?_ ?_ hCl hHeld ?_
                      rotate_left 2
                      · simp only [List.getElem?_toArray, List.getElem?_cons_succ, List.getElem?_cons_zero]; exact rfl
                      · intro l w'; rw [hSSs, hSSs]
                      · rfl
                      · intro w' hA; clear hA; go_simp; try with_reducible rfl
                      clear hCl hHeld
                      intro hCl hHeld
                      simp only [List.setIfInBounds_toArray, List.set_cons_zero, List.set_cons_succ] at hCl hHeld
                      try simp only [Act.put]
                      try simp only [List.setIfInBounds_toArray, List.set_cons_zero, List.set_cons_succ]
                      refine reg_takeG 3 ?_ ?_ ?_ (by kernel_rfl) (by kernel_rfl) (by kernel_rfl) (fun _ _ _ h => h) ?_ ?_ ?_ hCl hHeld ?_
                      rotate_left 2
                      · simp only [List.getElem?_toArray, List.getElem?_cons_succ, List.getElem?_cons_zero]; exact rfl
                      · intro l w'; rw [hSSs, hSSs]
                      · rfl
                      · intro w' hA; obtain ⟨l, hl, hi, hSl⟩ := hA; have hSl := (hSSs _ _).1 hSl; obtain ⟨hz0, hz1⟩ := hSl; go_simp; try with_reducible rfl
                      clear hCl hHeld
                      intro hCl hHeld
                      simp only [List.setIfInBounds_toArray, List.set_cons_zero, List.set_cons_succ] at hCl hHeld
                      try simp only [Act.put]
                      try simp only [List.setIfInBounds_toArray, List.set_cons_zero, List.set_cons_succ]
                      refine reg_takeG 4 ?_ ?_ ?_ (by kernel_rfl) (by kernel_rfl) (by kernel_rfl) (fun _ _ _ h => h) ?_ ?_ ?_ hCl hHeld ?_
                      rotate_left 2
                      · simp only [List.getElem?_toArray, List.getElem?_cons_succ, List.getElem?_cons_zero]; exact rfl
                      · intro l w'; rw [hSSs, hSSs]
                      · rfl
                      · intro w' hA; clear hA; go_simp; try with_reducible rfl
                      clear hCl hHeld
                      intro hCl hHeld
                      simp only [List.setIfInBounds_toArray, List.set_cons_zero, List.set_cons_succ] at hCl hHeld
                      try simp only [Act.put]
                      try simp only [List.setIfInBounds_toArray, List.set_cons_zero, List.set_cons_succ]
                      refine reg_takeG 5 ?_ ?_ ?_ (by kernel_rfl) (by kernel_rfl) (by kernel_rfl) (fun _ _ _ h => h) ?_ ?_ ?_ hCl hHeld ?_
                      rotate_left 2
                      · simp only [List.getElem?_toArray, List.getElem?_cons_succ, List.getElem?_cons_zero]; exact rfl
                      · intro l w'; rw [hSSs, hSSs]
                      · rfl
                      · intro w' hA; clear hA; go_simp; try with_reducible rfl
                      clear hCl hHeld
                      intro hCl hHeld
                      simp only [List.setIfInBounds_toArray, List.set_cons_zero, List.set_cons_succ] at hCl hHeld
                      try simp only [Act.put]
                      try simp only [List.setIfInBounds_toArray, List.set_cons_zero, List.set_cons_succ]
                      refine reg_takeG 6 ?_ ?_ ?_ (by kernel_rfl) (by kernel_rfl) (by kernel_rfl) (fun _ _ _ h => h) ?_ ?_ ?_ hCl hHeld ?_
                      rotate_left 2
                      · simp only [List.getElem?_toArray, List.getElem?_cons_succ, List.getElem?_cons_zero]; exact rfl
                      · intro l w'; rw [hSSs, hSSs]
                      · rfl
                      · intro w' hA; clear hA; go_simp; try with_reducible rfl
                      clear hCl hHeld
                      intro hCl hHeld
                      simp only [List.setIfInBounds_toArray, List.set_cons_zero, List.set_cons_succ] at hCl hHeld
                      try simp only [Act.put]
                      try simp only [List.setIfInBounds_toArray, List.set_cons_zero, List.set_cons_succ]
                      refine reg_takeG 7 ?_ ?_ ?_ (by kernel_rfl) (by kernel_rfl) (by kernel_rfl) (fun _ _ _ h => h) ?_ ?_ ?_ hCl hHeld ?_
                      rotate_left 2
                      · simp only [List.getElem?_toArray, List.getElem?_cons_succ, List.getElem?_cons_zero]; exact rfl
                      · intro l w'; rw [hSSs, hSSs]
                      · rfl
                      · intro w' hA; clear hA; go_simp; try with_reducible rfl
                      clear hCl hHeld
                      intro hCl hHeld
                      simp only [List.setIfInBounds_toArray, List.set_cons_zero, List.set_cons_succ] at hCl hHeld
                      try simp only [Act.put]
                      try simp only [List.setIfInBounds_toArray, List.set_cons_zero, List.set_cons_succ]
                      refine reg_takeG 8 ?_ ?_ ?_ (by kernel_rfl) (by kernel_rfl) (by kernel_rfl) (fun _ _ _ h => h) ?_ ?_ ?_ hCl hHeld ?_
                      rotate_left 2
                      · simp only [List.getElem?_toArray, List.getElem?_cons_succ, List.getElem?_cons_zero]; exact rfl
                      · intro l w'; rw [hSSs, hSSs]
                      · rfl
                      · intro w' hA; obtain ⟨l, hl, hi, hSl⟩ := hA; have hSl := (hSSs _ _).1 hSl; obtain ⟨hz0, hz1⟩ := hSl; go_simp; try with_reducible rfl
                      clear hCl hHeld
                      intro hCl hHeld
                      simp only [List.setIfInBounds_toArray, List.set_cons_zero, List.set_cons_succ] at hCl hHeld
                      try simp only [Act.put]
                      try simp only [List.setIfInBounds_toArray, List.set_cons_zero, List.set_cons_succ]
                      refine reg_takeG 9 ?_ ?_ ?_ (by kernel_rfl) (by kernel_rfl) (by kernel_rfl) (fun _ _ _ h => h) ?_ ?_ ?_ hCl hHeld ?_
                      rotate_left 2
                      · simp only [List.getElem?_toArray, List.getElem?_cons_succ, List.getElem?_cons_zero]; exact rfl
                      · intro l w'; rw [hSSs, hSSs]
                      · rfl
                      · intro w' hA; clear hA; go_simp; try with_reducible rfl
                      clear hCl hHeld
                      intro hCl hHeld
                      simp only [List.setIfInBounds_toArray, List.set_cons_zero, List.set_cons_succ] at hCl hHeld
                      try simp only [Act.put]
                      try simp only [List.setIfInBounds_toArray, List.set_cons_zero, List.set_cons_succ]
                      refine reg_takeG 10 ?_ ?_ ?_ (by kernel_rfl) (by kernel_rfl) (by kernel_rfl) (fun _ _ _ h => h) ?_ ?_ ?_ hCl hHeld ?_
                      rotate_left 2
                      · simp only [List.getElem?_toArray, List.getElem?_cons_succ, List.getElem?_cons_zero]; exact rfl
                      · intro l w'; rw [hSSs, hSSs]
                      · rfl
                      · intro w' hA; clear hA; go_simp; try with_reducible rfl
                      clear hCl hHeld
                      intro hCl hHeld
                      simp only [List.setIfInBounds_toArray, List.set_cons_zero, List.set_cons_succ] at hCl hHeld
                      try simp only [Act.put]
                      try simp only [List.setIfInBounds_toArray, List.set_cons_zero, List.set_cons_succ]
                      refine reg_takeG 11 ?_ ?_ ?_ (by kernel_rfl) (by kernel_rfl) (by kernel_rfl) (fun _ _ _ h => h) ?_ ?_ ?_ hCl hHeld ?_
                      rotate_left 2
                      · simp only [List.getElem?_toArray, List.getElem?_cons_succ, List.getElem?_cons_zero]; exact rfl
                      · intro l w'; rw [hSSs, hSSs]
                      · rfl
                      · intro w' hA; clear hA; go_simp; try with_reducible rfl
                      clear hCl hHeld
                      intro hCl hHeld
                      simp only [List.setIfInBounds_toArray, List.set_cons_zero, List.set_cons_succ] at hCl hHeld
                      try simp only [Act.put]
                      try simp only [List.setIfInBounds_toArray, List.set_cons_zero, List.set_cons_succ]
                      refine reg_takeG 12 ?_ ?_ ?_ (by kernel_rfl) (by kernel_rfl) (by kernel_rfl) (fun _ _ _ h => h) ?_ ?_ ?_ hCl hHeld ?_
                      rotate_left 2
                      · simp only [List.getElem?_toArray, List.getElem?_cons_succ, List.getElem?_cons_zero]; exact rfl
                      · intro l w'; rw [hSSs, hSSs]
                      · rfl
                      · intro w' hA; obtain ⟨l, hl, hi, hSl⟩ := hA; have hSl := (hSSs _ _).1 hSl; obtain ⟨hz0, hz1⟩ := hSl; go_simp; try with_reducible rfl
                      clear hCl hHeld
                      intro hCl hHeld
                      simp only [List.setIfInBounds_toArray, List.set_cons_zero, List.set_cons_succ] at hCl hHeld
                      try simp only [Act.put]
                      try simp only [List.setIfInBounds_toArray, List.set_cons_zero, List.set_cons_succ]
                      refine reg_takeG 13 ?_ ?_ ?_ (by kernel_rfl) (by kernel_rfl) (by kernel_rfl) (fun _ _ _ h => h) ?_ ?_ ?_ hCl hHeld ?_
                      rotate_left 2
                      · simp only [List.getElem?_toArray, List.getElem?_cons_succ, List.getElem?_cons_zero]; exact rfl
                      · intro l w'; rw [hSSs, hSSs]
                      · rfl
                      · intro w' hA; clear hA; go_simp; try with_reducible rfl
                      clear hCl hHeld
                      intro hCl hHeld
                      simp only [List.setIfInBounds_toArray, List.set_cons_zero, List.set_cons_succ] at hCl hHeld
                      try simp only [Act.put]
                      try simp only [List.setIfInBounds_toArray, List.set_cons_zero, List.set_cons_succ]
                      refine reg_takeG 14 ?_ ?_ ?_ (by kernel_rfl) (by kernel_rfl) (by kernel_rfl) (fun _ _ _ h => h) ?_ ?_ ?_ hCl hHeld ?_
                      rotate_left 2
                      · simp only [List.getElem?_toArray, List.getElem?_cons_succ, List.getElem?_cons_zero]; exact rfl
                      · intro l w'; rw [hSSs, hSSs]
                      · rfl
                      · intro w' hA; clear hA; go_simp; try with_reducible rfl
                      clear hCl hHeld
                      intro hCl hHeld
                      simp only [List.setIfInBounds_toArray, List.set_cons_zero, List.set_cons_succ] at hCl hHeld
                      try simp only [Act.put]
                      try simp only [List.setIfInBounds_toArray, List.set_cons_zero, List.set_cons_succ]
                      refine reg_takeG 15 ?_ ?_ ?_ (by kernel_rfl) (by kernel_rfl) (by kernel_rfl) (fun _ _ _ h => h) ?_ ?_ ?_ hCl hHeld ?_
                      rotate_left 2
                      · simp only [List.getElem?_toArray, List.getElem?_cons_succ, List.getElem?_cons_zero]; exact rfl
                      · intro l w'; rw [hSSs, hSSs]
                      · rfl
                      · intro w' hA; clear hA; go_simp; try with_reducible rfl
                      clear hCl hHeld
                      intro hCl hHeld
                      simp only [List.setIfInBounds_toArray, List.set_cons_zero, List.set_cons_succ] at hCl hHeld
                      try simp only [Act.put]
                      try simp only [List.setIfInBounds_toArray, List.set_cons_zero, List.set_cons_succ]
                      refine reg_takeG 16 ?_ ?_ ?_ (by kernel_rfl) (by kernel_rfl) (by kernel_rfl) (fun _ _ _ h => h) ?_ ?_ ?_ hCl hHeld ?_
                      rotate_left 2
                      · simp only [List.getElem?_toArray, List.getElem?_cons_succ, List.getElem?_cons_zero]; exact rfl
                      · intro l w'; rw [hSSs, hSSs]
                      · rfl
                      · intro w' hA; clear hA; go_simp; try with_reducible rfl
                      clear hCl hHeld
                      intro hCl hHeld
                      simp only [List.setIfInBounds_toArray, List.set_cons_zero, List.set_cons_succ] at hCl hHeld
                      try simp only [Act.put]
                      try simp only [List.setIfInBounds_toArray, List.set_cons_zero, List.set_cons_succ]
                      refine reg_takeG 17 ?_ ?_ ?_ (by kernel_rfl) (by kernel_rfl) (by kernel_rfl) (fun _ _ _ h => h) ?_ ?_ ?_ hCl hHeld ?_
                      rotate_left 2
                      · simp only [List.getElem?_toArray, List.getElem?_cons_succ, List.getElem?_cons_zero]; exact rfl
                      · intro l w'; rw [hSSs, hSSs]
                      · rfl
                      · intro w' hA; obtain ⟨l, hl, hi, hSl⟩ := hA; have hSl := (hSSs _ _).1 hSl; obtain ⟨hz0, hz1⟩ := hSl; go_simp; try with_reducible rfl
                      clear hCl hHeld
                      intro hCl hHeld
                      simp only [List.setIfInBounds_toArray, List.set_cons_zero, List.set_cons_succ] at hCl hHeld
                      try simp only [Act.put]
                      try simp only [List.setIfInBounds_toArray, List.set_cons_zero, List.set_cons_succ]
                      refine reg_takeG 18 ?_ ?_ ?_ (by kernel_rfl) (by kernel_rfl) (by kernel_rfl) (fun _ _ _ h => h) ?_ ?_ ?_ hCl hHeld ?_
                      rotate_left 2
                      · simp only [List.getElem?_toArray, List.getElem?_cons_succ, List.getElem?_cons_zero]; exact rfl
                      · intro l w'; rw [hSSs, hSSs]
                      · rfl
                      · intro w' hA; clear hA; go_simp; try with_reducible rfl
                      clear hCl hHeld
                      intro hCl hHeld
                      simp only [List.setIfInBounds_toArray, List.set_cons_zero, List.set_cons_succ] at hCl hHeld
                      try simp only [Act.put]
                      try simp only [List.setIfInBounds_toArray, List.set_cons_zero, List.set_cons_succ]
                      refine reg_takeG 19 ?_ ?_ ?_ (by kernel_rfl) (by kernel_rfl) (by kernel_rfl) (fun _ _ _ h => h) ?_ ?_ ?_ hCl hHeld ?_
                      rotate_left 2
                      · simp only [List.getElem?_toArray, List.getElem?_cons_succ, List.getElem?_cons_zero]; exact rfl
                      · intro l w'; rw [hSSs, hSSs]
                      · rfl
                      · intro w' hA; clear hA; go_simp; try with_reducible rfl
                      clear hCl hHeld
                      intro hCl hHeld
                      simp only [List.setIfInBounds_toArray, List.set_cons_zero, List.set_cons_succ] at hCl hHeld
                      try simp only [Act.put]
                      try simp only [List.setIfInBounds_toArray, List.set_cons_zero, List.set_cons_succ]
                      clear hCl hHeld
                      refine reg_callG 20 ?_ (by kernel_rfl) ?_ (fun K hK => ?_)
                      rotate_left 1
                      · simp only [List.getElem?_toArray, List.getElem?_cons_succ, List.getElem?_cons_zero]; exact rfl
                      go_simp
                      clear hx0 hx1 hup
                      refine hK.out _ _ ((hSSs _ _).2 ⟨hy0, hy1⟩) ?_
                      clear hK K
                      try simp only [Act.put]
                      try simp only [List.setIfInBounds_toArray, List.set_cons_zero, List.set_cons_succ]
                      refine wpAnyG_done (by kernel_rfl) ?_ _
                      refine NoPanic.normal ?_
                      clear hSSs SSs
                      go_wp2
                      have hnn := HNN.out
                      refine ⟨⟨_, _, _, _, _, _, _, _, _, _, _, _, _, _, _, _, _, _, _, _, _, _, _, _, _, _, _, _, _, _, _, _, _, _, ?_, rfl⟩, by simp [intOf]⟩
                      exact ⟨0 + 1, by omega, by go_num, congrArg (Value.int .i64) (by omega), ⟨_, FIN.out.1⟩, FIN.out.2.1, FIN.out.2.2⟩
                    · obtain ⟨mn, hmn⟩ : ∃ mn : Int, (if (z : Int) < (y : Int) then (z : Int) else (y : Int)) = mn := ⟨_, rfl⟩
                      obtain ⟨mx, hmx⟩ : ∃ mx : Int, (if (z : Int) > (y : Int) then (z : Int) else (y : Int)) = mx := ⟨_, rfl⟩
                      have bmn : -1000000 ≤ mn ∧ mn ≤ 1000000 := by rw [← hmn]; split <;> omega
                      have bmx : -1000000 ≤ mx ∧ mx ≤ 1000000 := by rw [← hmx]; split <;> omega
                      have hmin : ∀ w : World, Sem.run Try.prog (Builtin.min_ #[3, 3] 3 #[.int .i64 (y : Int), .int .i64 (z : Int)]) w = Result.ok (Value.int .i64 mn) w := fun w => by rw [run_min_int2, hmn]
                      have hmax : ∀ w : World, Sem.run Try.prog (Builtin.max_ #[3, 3] 3 #[.int .i64 (y : Int), .int .i64 (z : Int)]) w = Result.ok (Value.int .i64 mx) w := fun w => by rw [run_max_int2, hmx]
                      have hwk : (IntKind.i64.wrap 2).tmod 3 = 2 := by decide
                      obtain ⟨wm, F4, hup, hT4, hF4⟩ := fault_store HF3.out bmn bmx
                      have hx0 := HBX3.out.c 1 _ rfl; have hx1 := HBX3.out.c 2 _ rfl
                      have hbx4 := HBX3.out.turned hT4 (by omega)
                      have hbw4 : Below fb w7 wm := Below.turned HBW3.out hT4 (Nat.le_refl _)
                      have hy0 := hbx4.c 1 _ rfl; have hy1 := hbx4.c 2 _ rfl
                      have FIN := Lib.hid (And.intro hF4 (And.intro hbx4 hbw4))
                      clear hmn hmx bmn bmx hT4 hF4 hbx4 hbw4
                      go_wp2_with fail
                      obtain ⟨SSs, hSSs⟩ : ∃ S : Array Bool → World → Prop, ∀ l w', S l w' ↔ ((w'.cell? ⟨tb, 1, none⟩ = some (.int .i64 (y : Int))) ∧ (w'.cell? ⟨tb, 2, none⟩ = some (.int .i64 (z : Int)))) := ⟨_, fun _ _ => Iff.rfl⟩
                      refine wp_region_noPanic ?_
                      refine wp_region_G SSs 21 #[false, false, false, false, false, false, false, false, false, false, false, false, false, false, false, false, false, false, false, false, false] (by kernel_rfl) (by kernel_rfl) (by kernel_rfl) ((hSSs _ _).2 ⟨hx0, hx1⟩) (fun hCl hHeld => ?_)
                      generalize wr.drew = wd at *
                      refine reg_takeG 0 ?_ ?_ ?_ (by kernel_rfl) (by kernel_rfl) (by kernel_rfl) (fun _ _ _ h => h) ?_ ?_ ?_ hCl hHeld ?_
                      rotate_left 2
                      · simp only [List.getElem?_toArray, List.getElem?_cons_zero]; exact rfl
                      · intro l w'; rw [hSSs, hSSs]
                      · rfl
                      · intro w' hA; clear hA; go_simp; try with_reducible rfl
                      clear hCl hHeld
                      intro hCl hHeld
                      simp only [List.setIfInBounds_toArray, List.set_cons_zero] at hCl hHeld
                      try simp only [Act.put]
                      try simp only [List.setIfInBounds_toArray, List.set_cons_zero, List.set_cons_succ]
                      refine reg_takeG 1 ?_ ?_ ?_ (by kernel_rfl) (by kernel_rfl) (by kernel_rfl) (fun _ _ _ h => h) ?_ ?_ ?_ hCl hHeld ?_
                      rotate_left 2
                      · simp only [List.getElem?_toArray, List.getElem?_cons_succ, List.getElem?_cons_zero]; exact rfl
                      · intro l w'; rw [hSSs, hSSs]
                      · rfl
                      · intro w' hA; clear hA; go_simp; try with_reducible rfl
                      clear hCl hHeld
                      intro hCl hHeld
                      simp only [List.setIfInBounds_toArray, List.set_cons_zero, List.set_cons_succ] at hCl hHeld
                      try simp only [Act.put]
                      try simp only [List.setIfInBounds_toArray, List.set_cons_zero, List.set_cons_succ]
                      refine reg_takeG 2 ?_ ?_ ?_ (by kernel_rfl) (by kernel_rfl) (by kernel_rfl) (fun _ _ _ h => h) ?_ ?_ ?_ hCl hHeld ?_
                      rotate_left 2
                      · simp only [List.getElem?_toArray, List.getElem?_cons_succ, List.getElem?_cons_zero]; exact rfl
                      · intro l w'; rw [hSSs, hSSs]
                      · rfl
                      · intro w' hA; clear hA; go_simp; try with_reducible rfl
                      clear hCl hHeld
                      intro hCl hHeld
                      simp only [List.setIfInBounds_toArray, List.set_cons_zero, List.set_cons_succ] at hCl hHeld
                      try simp only [Act.put]
                      try simp only [List.setIfInBounds_toArray, List.set_cons_zero, List.set_cons_succ]
                      refine reg_takeG 3 ?_ ?_ ?_ (by kernel_rfl) (by kernel_rfl) (by kernel_rfl) (fun _ _ _ h => h) ?_ ?_ ?_ hCl hHeld ?_
                      rotate_left 2
                      · simp only [List.getElem?_toArray, List.getElem?_cons_succ, List.getElem?_cons_zero]; exact rfl
                      · intro l w'; rw [hSSs, hSSs]
                      · rfl
                      · intro w' hA; obtain ⟨l, hl, hi, hSl⟩ := hA; have hSl := (hSSs _ _).1 hSl; obtain ⟨hz0, hz1⟩ := hSl; go_simp; try with_reducible rfl
                      clear hCl hHeld
                      intro hCl hHeld
                      simp only [List.setIfInBounds_toArray, List.set_cons_zero, List.set_cons_succ] at hCl hHeld
                      try simp only [Act.put]
                      try simp only [List.setIfInBounds_toArray, List.set_cons_zero, List.set_cons_succ]
                      refine reg_takeG 4 ?_ ?_ ?_ (by kernel_rfl) (by kernel_rfl) (by kernel_rfl) (fun _ _ _ h => h) ?_ ?_ ?_ hCl hHeld ?_
                      rotate_left 2
                      · simp only [List.getElem?_toArray, List.getElem?_cons_succ, List.getElem?_cons_zero]; exact rfl
                      · intro l w'; rw [hSSs, hSSs]
                      · rfl
                      · intro w' hA; clear hA; go_simp; try with_reducible rfl
                      clear hCl hHeld
                      intro hCl hHeld
                      simp only [List.setIfInBounds_toArray, List.set_cons_zero, List.set_cons_succ] at hCl hHeld
                      try simp only [Act.put]
                      try simp only [List.setIfInBounds_toArray, List.set_cons_zero, List.set_cons_succ]
                      refine reg_takeG 5 ?_ ?_ ?_ (by kernel_rfl) (by kernel_rfl) (by kernel_rfl) (fun _ _ _ h => h) ?_ ?_ ?_ hCl hHeld ?_
                      rotate_left 2
                      · simp only [List.getElem?_toArray, List.getElem?_cons_succ, List.getElem?_cons_zero]; exact rfl
                      · intro l w'; rw [hSSs, hSSs]
                      · rfl
                      · intro w' hA; clear hA; go_simp; try with_reducible rfl
                      clear hCl hHeld
                      intro hCl hHeld
                      simp only [List.setIfInBounds_toArray, List.set_cons_zero, List.set_cons_succ] at hCl hHeld
                      try simp only [Act.put]
                      try simp only [List.setIfInBounds_toArray, List.set_cons_zero, List.set_cons_succ]
                      refine reg_takeG 6 ?_ ?_ ?_ (by kernel_rfl) (by kernel_rfl) (by kernel_rfl) (fun _ _ _ h => h) ?_ ?_ ?_ hCl hHeld ?_
                      rotate_left 2
                      · simp only [List.getElem?_toArray, List.getElem?_cons_succ, List.getElem?_cons_zero]; exact rfl
                      · intro l w'; rw [hSSs, hSSs]
                      · rfl
                      · intro w' hA; clear hA; go_simp; try with_reducible rfl
                      clear hCl hHeld
                      intro hCl hHeld
                      simp only [List.setIfInBounds_toArray, List.set_cons_zero, List.set_cons_succ] at hCl hHeld
                      try simp only [Act.put]
                      try simp only [List.setIfInBounds_toArray, List.set_cons_zero, List.set_cons_succ]
                      refine reg_takeG 7 ?_ ?_ ?_ (by kernel_rfl) (by kernel_rfl) (by kernel_rfl) (fun _ _ _ h => h) ?_ ?_ ?_ hCl hHeld ?_
                      rotate_left 2
                      · simp only [List.getElem?_toArray, List.getElem?_cons_succ, List.getElem?_cons_zero]; exact rfl
                      · intro l w'; rw [hSSs, hSSs]
                      · rfl
                      · intro w' hA; clear hA; go_simp; try with_reducible rfl
                      clear hCl hHeld
                      intro hCl hHeld
                      simp only [List.setIfInBounds_toArray, List.set_cons_zero, List.set_cons_succ] at hCl hHeld
                      try simp only [Act.put]
                      try simp only [List.setIfInBounds_toArray, List.set_cons_zero, List.set_cons_succ]
                      refine reg_takeG 8 ?_ ?_ ?_ (by kernel_rfl) (by kernel_rfl) (by kernel_rfl) (fun _ _ _ h => h) ?_ ?_ ?_ hCl hHeld ?_
                      rotate_left 2
                      · simp only [List.getElem?_toArray, List.getElem?_cons_succ, List.getElem?_cons_zero]; exact rfl
                      · intro l w'; rw [hSSs, hSSs]
                      · rfl
                      · intro w' hA; obtain ⟨l, hl, hi, hSl⟩ := hA; have hSl := (hSSs _ _).1 hSl; obtain ⟨hz0, hz1⟩ := hSl; go_simp; try with_reducible rfl
                      clear hCl hHeld
                      intro hCl hHeld
                      simp only [List.setIfInBounds_toArray, List.set_cons_zero, List.set_cons_succ] at hCl hHeld
                      try simp only [Act.put]
                      try simp only [List.setIfInBounds_toArray, List.set_cons_zero, List.set_cons_succ]
                      refine reg_takeG 9 ?_ ?_ ?_ (by kernel_rfl) (by kernel_rfl) (by kernel_rfl) (fun _ _ _ h => h) ?_ ?_ ?_ hCl hHeld ?_
                      rotate_left 2
                      · simp only [List.getElem?_toArray, List.getElem?_cons_succ, List.getElem?_cons_zero]; exact rfl
                      · intro l w'; rw [hSSs, hSSs]
                      · rfl
                      · intro w' hA; clear hA; go_simp; try with_reducible rfl
                      clear hCl hHeld
                      intro hCl hHeld
                      simp only [List.setIfInBounds_toArray, List.set_cons_zero, List.set_cons_succ] at hCl hHeld
                      try simp only [Act.put]
                      try simp only [List.setIfInBounds_toArray, List.set_cons_zero, List.set_cons_succ]
                      refine reg_takeG 10 ?_ ?_ ?_ (by kernel_rfl) (by kernel_rfl) (by kernel_rfl) (fun _ _ _ h => h) ?_ ?_ ?_ hCl hHeld ?_
                      rotate_left 2
                      · simp only [List.getElem?_toArray, List.getElem?_cons_succ, List.getElem?_cons_zero]; exact rfl
                      · intro l w'; rw [hSSs, hSSs]
                      · rfl
                      · intro w' hA; clear hA; go_simp; try with_reducible rfl
                      clear hCl hHeld
                      intro hCl hHeld
                      simp only [List.setIfInBounds_toArray, List.set_cons_zero, List.set_cons_succ] at hCl hHeld
                      try simp only [Act.put]
                      try simp only [List.setIfInBounds_toArray, List.set_cons_zero, List.set_cons_succ]
                      refine reg_takeG 11 ?_ ?_ ?_ (by kernel_rfl) (by kernel_rfl) (by kernel_rfl) (fun _ _ _ h => h) ?_ ?_ ?_ hCl hHeld ?_
                      rotate_left 2
                      · simp only [List.getElem?_toArray, List.getElem?_cons_succ, List.getElem?_cons_zero]; exact rfl
                      · intro l w'; rw [hSSs, hSSs]
                      · rfl
                      · intro w' hA; clear hA; go_simp; try with_reducible rfl
                      clear hCl hHeld
                      intro hCl hHeld
                      simp only [List.setIfInBounds_toArray, List.set_cons_zero, List.set_cons_succ] at hCl hHeld
                      try simp only [Act.put]
                      try simp only [List.setIfInBounds_toArray, List.set_cons_zero, List.set_cons_succ]
                      refine reg_takeG 12 ?_ ?_ ?_ (by kernel_rfl) (by kernel_rfl) (by kernel_rfl) (fun _ _ _ h => h) ?_ ?_ ?_ hCl hHeld ?_
                      rotate_left 2
                      · simp only [List.getElem?_toArray, List.getElem?_cons_succ, List.getElem?_cons_zero]; exact rfl
                      · intro l w'; rw [hSSs, hSSs]
                      · rfl
                      · intro w' hA; obtain ⟨l, hl, hi, hSl⟩ := hA; have hSl := (hSSs _ _).1 hSl; obtain ⟨hz0, hz1⟩ := hSl; go_simp; try with_reducible rfl
                      clear hCl hHeld
                      intro hCl hHeld
                      simp only [List.setIfInBounds_toArray, List.set_cons_zero, List.set_cons_succ] at hCl hHeld
                      try simp only [Act.put]
                      try simp only [List.setIfInBounds_toArray, List.set_cons_zero, List.set_cons_succ]
                      refine reg_takeG 13 ?_ ?_ ?_ (by kernel_rfl) (by kernel_rfl) (by kernel_rfl) (fun _ _ _ h => h) ?_ ?_ ?_ hCl hHeld ?_
                      rotate_left 2
                      · simp only [List.getElem?_toArray, List.getElem?_cons_succ, List.getElem?_cons_zero]; exact rfl
                      · intro l w'; rw [hSSs, hSSs]
                      · rfl
                      · intro w' hA; clear hA; go_simp; try with_reducible rfl
                      clear hCl hHeld
                      intro hCl hHeld
                      simp only [List.setIfInBounds_toArray, List.set_cons_zero, List.set_cons_succ] at hCl hHeld
                      try simp only [Act.put]
                      try simp only [List.setIfInBounds_toArray, List.set_cons_zero, List.set_cons_succ]
                      refine reg_takeG 14 ?_ ?_ ?_ (by kernel_rfl) (by kernel_rfl) (by kernel_rfl) (fun _ _ _ h => h) ?_ ?_ ?_ hCl hHeld ?_
                      rotate_left 2
                      · simp only [List.getElem?_toArray, List.getElem?_cons_succ, List.getElem?_cons_zero]; exact rfl
                      · intro l w'; rw [hSSs, hSSs]
                      · rfl
                      · intro w' hA; clear hA; go_simp; try with_reducible rfl
                      clear hCl hHeld
                      intro hCl hHeld
                      simp only [List.setIfInBounds_toArray, List.set_cons_zero, List.set_cons_succ] at hCl hHeld
                      try simp only [Act.put]
                      try simp only [List.setIfInBounds_toArray, List.set_cons_zero, List.set_cons_succ]
                      refine reg_takeG 15 ?_ ?_ ?_ (by kernel_rfl) (by kernel_rfl) (by kernel_rfl) (fun _ _ _ h => h) ?_ ?_ ?_ hCl hHeld ?_
                      rotate_left 2
                      · simp only [List.getElem?_toArray, List.getElem?_cons_succ, List.getElem?_cons_zero]; exact rfl
                      · intro l w'; rw [hSSs, hSSs]
                      · rfl
                      · intro w' hA; clear hA; go_simp; try with_reducible rfl
                      clear hCl hHeld
                      intro hCl hHeld
                      simp only [List.setIfInBounds_toArray, List.set_cons_zero, List.set_cons_succ] at hCl hHeld
                      try simp only [Act.put]
                      try simp only [List.setIfInBounds_toArray, List.set_cons_zero, List.set_cons_succ]
                      refine reg_takeG 16 ?_ ?_ ?_ (by kernel_rfl) (by kernel_rfl) (by kernel_rfl) (fun _ _ _ h => h) ?_ ?_ ?_ hCl hHeld ?_
                      rotate_left 2
                      · simp only [List.getElem?_toArray, List.getElem?_cons_succ, List.getElem?_cons_zero]; exact rfl
                      · intro l w'; rw [hSSs, hSSs]
                      · rfl
                      · intro w' hA; clear hA; go_simp; try with_reducible rfl
                      clear hCl hHeld
                      intro hCl hHeld
                      simp only [List.setIfInBounds_toArray, List.set_cons_zero, List.set_cons_succ] at hCl hHeld
                      try simp only [Act.put]
                      try simp only [List.setIfInBounds_toArray, List.set_cons_zero, List.set_cons_succ]
                      refine reg_takeG 17 ?_ ?_ ?_ (by kernel_rfl) (by kernel_rfl) (by kernel_rfl) (fun _ _ _ h => h) ?_ ?_ ?_ hCl hHeld ?_
                      rotate_left 2
                      · simp only [List.getElem?_toArray, List.getElem?_cons_succ, List.getElem?_cons_zero]; exact rfl
                      · intro l w'; rw [hSSs, hSSs]
                      · rfl
                      · intro w' hA; obtain ⟨l, hl, hi, hSl⟩ := hA; have hSl := (hSSs _ _).1 hSl; obtain ⟨hz0, hz1⟩ := hSl; go_simp; try with_reducible rfl
                      clear hCl hHeld
                      intro hCl hHeld
                      simp only [List.setIfInBounds_toArray, List.set_cons_zero, List.set_cons_succ] at hCl hHeld
                      try simp only [Act.put]
                      try simp only [List.setIfInBounds_toArray, List.set_cons_zero, List.set_cons_succ]
                      refine reg_takeG 18 ?_ ?_ ?_ (by kernel_rfl) (by kernel_rfl) (by kernel_rfl) (fun _ _ _ h => h) ?_ ?_ ?_ hCl hHeld ?_
                      rotate_left 2
                      · simp only [List.getElem?_toArray, List.getElem?_cons_succ, List.getElem?_cons_zero]; exact rfl
                      · intro l w'; rw [hSSs, hSSs]
                      · rfl
                      · intro w' hA; clear hA; go_simp; try with_reducible rfl
                      clear hCl hHeld
                      intro hCl hHeld
                      simp only [List.setIfInBounds_toArray, List.set_cons_zero, List.set_cons_succ] at hCl hHeld
                      try simp only [Act.put]
                      try simp only [List.setIfInBounds_toArray, List.set_cons_zero, List.set_cons_succ]
                      refine reg_takeG 19 ?_ ?_ ?_ (by kernel_rfl) (by kernel_rfl) (by kernel_rfl) (fun _ _ _ h => h) ?_ ?_ ?_ hCl hHeld ?_
                      rotate_left 2
                      · simp only [List.getElem?_toArray, List.getElem?_cons_succ, List.getElem?_cons_zero]; exact rfl
                      · intro l w'; rw [hSSs, hSSs]
                      · rfl
                      · intro w' hA; clear hA; go_simp; try with_reducible rfl
                      clear hCl hHeld
                      intro hCl hHeld
                      simp only [List.setIfInBounds_toArray, List.set_cons_zero, List.set_cons_succ] at hCl hHeld
                      try simp only [Act.put]
                      try simp only [List.setIfInBounds_toArray, List.set_cons_zero, List.set_cons_succ]
                      clear hCl hHeld
                      refine reg_callG 20 ?_ (by kernel_rfl) ?_ (fun K hK => ?_)
                      rotate_left 1
                      · simp only [List.getElem?_toArray, List.getElem?_cons_succ, List.getElem?_cons_zero]; exact rfl
                      go_simp
                      clear hx0 hx1 hup
                      refine hK.out _ _ ((hSSs _ _).2 ⟨hy0, hy1⟩) ?_
                      clear hK K
                      try simp only [Act.put]
                      try simp only [List.setIfInBounds_toArray, List.set_cons_zero, List.set_cons_succ]
                      refine wpAnyG_done (by kernel_rfl) ?_ _
                      refine NoPanic.normal ?_
                      clear hSSs SSs
                      go_wp2
                      have hnn := HNN.out
                      refine ⟨⟨_, _, _, _, _, _, _, _, _, _, _, _, _, _, _, _, _, _, _, _, _, _, _, _, _, _, _, _, _, _, _, _, _, _, ?_, rfl⟩, by simp [intOf]⟩
                      exact ⟨1 + 1, by omega, by go_num, congrArg (Value.int .i64) (by omega), ⟨_, FIN.out.1⟩, FIN.out.2.1, FIN.out.2.2⟩
                    · obtain ⟨mn, hmn⟩ : ∃ mn : Int, (if (x : Int) < (z : Int) then (x : Int) else (z : Int)) = mn := ⟨_, rfl⟩
                      obtain ⟨mx, hmx⟩ : ∃ mx : Int, (if (x : Int) > (z : Int) then (x : Int) else (z : Int)) = mx := ⟨_, rfl⟩
                      have bmn : -1000000 ≤ mn ∧ mn ≤ 1000000 := by rw [← hmn]; split <;> omega
                      have bmx : -1000000 ≤ mx ∧ mx ≤ 1000000 := by rw [← hmx]; split <;> omega
                      have hmin : ∀ w : World, Sem.run Try.prog (Builtin.min_ #[3, 3] 3 #[.int .i64 (z : Int), .int .i64 (x : Int)]) w = Result.ok (Value.int .i64 mn) w := fun w => by rw [run_min_int2, hmn]
                      have hmax : ∀ w : World, Sem.run Try.prog (Builtin.max_ #[3, 3] 3 #[.int .i64 (z : Int), .int .i64 (x : Int)]) w = Result.ok (Value.int .i64 mx) w := fun w => by rw [run_max_int2, hmx]
                      have hwk : (IntKind.i64.wrap 3).tmod 3 = 0 := by decide
                      obtain ⟨wm, F4, hup, hT4, hF4⟩ := fault_store HF3.out bmn bmx
                      have hx0 := HBX3.out.c 2 _ rfl; have hx1 := HBX3.out.c 0 _ rfl
                      have hbx4 := HBX3.out.turned hT4 (by omega)
                      have hbw4 : Below fb w7 wm := Below.turned HBW3.out hT4 (Nat.le_refl _)
                      have hy0 := hbx4.c 2 _ rfl; have hy1 := hbx4.c 0 _ rfl
                      have FIN := Lib.hid (And.intro hF4 (And.intro hbx4 hbw4))
                      clear hmn hmx bmn bmx hT4 hF4 hbx4 hbw4
                      go_wp2_with fail
                      obtain ⟨SSs, hSSs⟩ : ∃ S : Array Bool → World → Prop, ∀ l w', S l w' ↔ ((w'.cell? ⟨tb, 2, none⟩ = some (.int .i64 (z : Int))) ∧ (w'.cell? ⟨tb, 0, none⟩ = some (.int .i64 (x : Int)))) := ⟨_, fun _ _ => Iff.rfl⟩
                      refine wp_region_noPanic ?_
                      refine wp_region_G SSs 21 #[false, false, false, false, false, false, false, false, false, false, false, false, false, false, false, false, false, false, false, false, false] (by kernel_rfl) (by kernel_rfl) (by kernel_rfl) ((hSSs _ _).2 ⟨hx0, hx1⟩) (fun hCl hHeld => ?_)
                      generalize wr.drew = wd at *
                      refine reg_takeG 0 ?_ ?_ ?_ (by kernel_rfl) (by kernel_rfl) (by kernel_rfl) (fun _ _ _ h => h) ?_ ?_ ?_ hCl hHeld ?_
                      rotate_left 2
                      · simp only [List.getElem?_toArray, List.getElem?_cons_zero]; exact rfl
                      · intro l w'; rw [hSSs, hSSs]
                      · rfl
                      · intro w' hA; clear hA; go_simp; try with_reducible rfl
                      clear hCl hHeld
                      intro hCl hHeld
                      simp only [List.setIfInBounds_toArray, List.set_cons_zero] at hCl hHeld
                      try simp only [Act.put]
                      try simp only [List.setIfInBounds_toArray, List.set_cons_zero, List.set_cons_succ]
                      refine reg_takeG 1 ?_ ?_ ?_ (by kernel_rfl) (by kernel_rfl) (by kernel_rfl) (fun _ _ _ h => h) ?_ ?_ ?_ hCl hHeld ?_
                      rotate_left 2
                      · simp only [List.getElem?_toArray, List.getElem?_cons_succ, List.getElem?_cons_zero]; exact rfl
                      · intro l w'; rw [hSSs, hSSs]
                      · rfl
                      · intro w' hA; clear hA; go_simp; try with_reducible rfl
                      clear hCl hHeld
                      intro hCl hHeld
                      simp only [List.setIfInBounds_toArray, List.set_cons_zero, List.set_cons_succ] at hCl hHeld
                      try simp only [Act.put]
                      try simp only [List.setIfInBounds_toArray, List.set_cons_zero, List.set_cons_succ]
                      refine reg_takeG 2 ?_ ?_ ?_ (by kernel_rfl) (by kernel_rfl) (by kernel_rfl) (fun _ _ _ h => h) ?_ ?_ ?_ hCl hHeld ?_
                      rotate_left 2
                      · simp only [List.getElem?_toArray, List.getElem?_cons_succ, List.getElem?_cons_zero]; exact rfl
                      · intro l w'; rw [hSSs, hSSs]
                      · rfl
                      · intro w' hA; clear hA; go_simp; try with_reducible rfl
                      clear hCl hHeld
                      intro hCl hHeld
                      simp only [List.setIfInBounds_toArray, List.set_cons_zero, List.set_cons_succ] at hCl hHeld
                      try simp only [Act.put]
                      try simp only [List.setIfInBounds_toArray, List.set_cons_zero, List.set_cons_succ]
                      refine reg_takeG 3 ?_ ?_ ?_ (by kernel_rfl) (by kernel_rfl) (by kernel_rfl) (fun _ _ _ h => h) ?_ ?_ ?_ hCl hHeld ?_
                      rotate_left 2
                      · simp only [List.getElem?_toArray, List.getElem?_cons_succ, List.getElem?_cons_zero]; exact rfl
                      · intro l w'; rw [hSSs, hSSs]
                      · rfl
                      · intro w' hA; obtain ⟨l, hl, hi, hSl⟩ := hA; have hSl := (hSSs _ _).1 hSl; obtain ⟨hz0, hz1⟩ := hSl; go_simp; try with_reducible rfl
                      clear hCl hHeld
                      intro hCl hHeld
                      simp only [List.setIfInBounds_toArray, List.set_cons_zero, List.set_cons_succ] at hCl hHeld
                      try simp only [Act.put]
                      try simp only [List.setIfInBounds_toArray, List.set_cons_zero, List.set_cons_succ]
                      refine reg_takeG 4 ?_ ?_ ?_ (by kernel_rfl) (by kernel_rfl) (by kernel_rfl) (fun _ _ _ h => h) ?_ ?_ ?_ hCl hHeld ?_
                      rotate_left 2
                      · simp only [List.getElem?_toArray, List.getElem?_cons_succ, List.getElem?_cons_zero]; exact rfl
                      · intro l w'; rw [hSSs, hSSs]
                      · rfl
                      · intro w' hA; clear hA; go_simp; try with_reducible rfl
                      clear hCl hHeld
                      intro hCl hHeld
                      simp only [List.setIfInBounds_toArray, List.set_cons_zero, List.set_cons_succ] at hCl hHeld
                      try simp only [Act.put]
                      try simp only [List.setIfInBounds_toArray, List.set_cons_zero, List.set_cons_succ]
                      refine reg_takeG 5 ?_ ?_ ?_ (by kernel_rfl) (by kernel_rfl) (by kernel_rfl) (fun _ _ _ h => h) ?_ ?_ ?_ hCl hHeld ?_
                      rotate_left 2
                      · simp only [List.getElem?_toArray, List.getElem?_cons_succ, List.getElem?_cons_zero]; exact rfl
                      · intro l w'; rw [hSSs, hSSs]
                      · rfl
                      · intro w' hA; clear hA; go_simp; try with_reducible rfl
                      clear hCl hHeld
                      intro hCl hHeld
                      simp only [List.setIfInBounds_toArray, List.set_cons_zero, List.set_cons_succ] at hCl hHeld
                      try simp only [Act.put]
                      try simp only [List.setIfInBounds_toArray, List.set_cons_zero, List.set_cons_succ]
                      refine reg_takeG 6 ?_ ?_ ?_ (by kernel_rfl) (by kernel_rfl) (by kernel_rfl) (fun _ _ _ h => h) ?_ ?_ ?_ hCl hHeld ?_
                      rotate_left 2
                      · simp only [List.getElem?_toArray, List.getElem?_cons_succ, List.getElem?_cons_zero]; exact rfl
                      · intro l w'; rw [hSSs, hSSs]
                      · rfl
                      · intro w' hA; clear hA; go_simp; try with_reducible rfl
                      clear hCl hHeld
                      intro hCl hHeld
                      simp only [List.setIfInBounds_toArray, List.set_cons_zero, List.set_cons_succ] at hCl hHeld
                      try simp only [Act.put]
                      try simp only [List.setIfInBounds_toArray, List.set_cons_zero, List.set_cons_succ]
                      refine reg_takeG 7 ?_ ?_ ?_ (by kernel_rfl) (by kernel_rfl) (by kernel_rfl) (fun _ _ _ h => h) ?_ ?_ ?_ hCl hHeld ?_
                      rotate_left 2
                      · simp only [List.getElem?_toArray, List.getElem?_cons_succ, List.getElem?_cons_zero]; exact rfl
                      · intro l w'; rw [hSSs, hSSs]
                      · rfl
                      · intro w' hA; clear hA; go_simp; try with_reducible rfl
                      clear hCl hHeld
                      intro hCl hHeld
                      simp only [List.setIfInBounds_toArray, List.set_cons_zero, List.set_cons_succ] at hCl hHeld
                      try simp only [Act.put]
                      try simp only [List.setIfInBounds_toArray, List.set_cons_zero, List.set_cons_succ]
                      refine reg_takeG 8 ?_ ?_ ?_ (by kernel_rfl) (by kernel_rfl) (by kernel_rfl) (fun _ _ _ h => h) ?_ ?_ ?_ hCl hHeld ?_
                      rotate_left 2
                      · simp only [List.getElem?_toArray, List.getElem?_cons_succ, List.getElem?_cons_zero]; exact rfl
                      · intro l w'; rw [hSSs, hSSs]
                      · rfl
                      · intro w' hA; obtain ⟨l, hl, hi, hSl⟩ := hA; have hSl := (hSSs _ _).1 hSl; obtain ⟨hz0, hz1⟩ := hSl; go_simp; try with_reducible rfl
                      clear hCl hHeld
                      intro hCl hHeld
                      simp only [List.setIfInBounds_toArray, List.set_cons_zero, List.set_cons_succ] at hCl hHeld
                      try simp only [Act.put]
                      try simp only [List.setIfInBounds_toArray, List.set_cons_zero, List.set_cons_succ]
                      refine reg_takeG 9 ?_ ?_ ?_ (by kernel_rfl) (by kernel_rfl) (by kernel_rfl) (fun _ _ _ h => h) ?_ ?_ ?_ hCl hHeld ?_
                      rotate_left 2
                      · simp only [List.getElem?_toArray, List.getElem?_cons_succ, List.getElem?_cons_zero]; exact rfl
                      · intro l w'; rw [hSSs, hSSs]
                      · rfl
                      · intro w' hA; clear hA; go_simp; try with_reducible rfl
                      clear hCl hHeld
                      intro hCl hHeld
                      simp only [List.setIfInBounds_toArray, List.set_cons_zero, List.set_cons_succ] at hCl hHeld
                      try simp only [Act.put]
                      try simp only [List.setIfInBounds_toArray, List.set_cons_zero, List.set_cons_succ]
                      refine reg_takeG 10 ?_ ?_ ?_ (by kernel_rfl) (by kernel_rfl) (by kernel_rfl) (fun _ _ _ h => h) ?_ ?_ ?_ hCl hHeld ?_
                      rotate_left 2
                      · simp only [List.getElem?_toArray, List.getElem?_cons_succ, List.getElem?_cons_zero]; exact rfl
                      · intro l w'; rw [hSSs, hSSs]
                      · rfl
                      · intro w' hA; clear hA; go_simp; try with_reducible rfl
                      clear hCl hHeld
                      intro hCl hHeld
                      simp only [List.setIfInBounds_toArray, List.set_cons_zero, List.set_cons_succ] at hCl hHeld
                      try simp only [Act.put]
                      try simp only [List.setIfInBounds_toArray, List.set_cons_zero, List.set_cons_succ]
                      refine reg_takeG 11 ?_ ?_ ?_ (by kernel_rfl) (by kernel_rfl) (by kernel_rfl) (fun _ _ _ h => h) ?_ ?_ ?_ hCl hHeld ?_
                      rotate_left 2
                      · simp only [List.getElem?_toArray, List.getElem?_cons_succ, List.getElem?_cons_zero]; exact rfl
                      · intro l w'; rw [hSSs, hSSs]
                      · rfl
                      · intro w' hA; clear hA; go_simp; try with_reducible rfl
                      clear hCl hHeld
                      intro hCl hHeld
                      simp only [List.setIfInBounds_toArray, List.set_cons_zero, List.set_cons_succ] at hCl hHeld
                      try simp only [Act.put]
                      try simp only [List.setIfInBounds_toArray, List.set_cons_zero, List.set_cons_succ]
                      refine reg_takeG 12 ?_ ?_ ?_ (by kernel_rfl) (by kernel_rfl) (by kernel_rfl) (fun _ _ _ h => h) ?_ ?_ ?_ hCl hHeld ?_
                      rotate_left 2
                      · simp only [List.getElem?_toArray, List.getElem?_cons_succ, List.getElem?_cons_zero]; exact rfl
                      · intro l w'; rw [hSSs, hSSs]
                      · rfl
                      · intro w' hA; obtain ⟨l, hl, hi, hSl⟩ := hA; have hSl := (hSSs _ _).1 hSl; obtain ⟨hz0, hz1⟩ := hSl; go_simp; try with_reducible rfl
                      clear hCl hHeld
                      intro hCl hHeld
                      simp only [List.setIfInBounds_toArray, List.set_cons_zero, List.set_cons_succ] at hCl hHeld
                      try simp only [Act.put]
                      try simp only [List.setIfInBounds_toArray, List.set_cons_zero, List.set_cons_succ]
                      refine reg_takeG 13 ?_ ?_ ?_ (by kernel_rfl) (by kernel_rfl) (by kernel_rfl) (fun _ _ _ h => h) ?_ ?_ ?_ hCl hHeld ?_
                      rotate_left 2
                      · simp only [List.getElem?_toArray, List.getElem?_cons_succ, List.getElem?_cons_zero]; exact rfl
                      · intro l w'; rw [hSSs, hSSs]
                      · rfl
                      · intro w' hA; clear hA; go_simp; try with_reducible rfl
                      clear hCl hHeld
                      intro hCl hHeld
                      simp only [List.setIfInBounds_toArray, List.set_cons_zero, List.set_cons_succ] at hCl hHeld
                      try simp only [Act.put]
                      try simp only [List.setIfInBounds_toArray, List.set_cons_zero, List.set_cons_succ]
                      refine reg_takeG 14 ?_ ?_ ?_ (by kernel_rfl) (by kernel_rfl) (by kernel_rfl) (fun _ _ _ h => h) ?_ ?_ ?_ hCl hHeld ?_
                      rotate_left 2
                      · simp only [List.getElem?_toArray, List.getElem?_cons_succ, List.getElem?_cons_zero]; exact rfl
                      · intro l w'; rw [hSSs, hSSs]
                      · rfl
                      · intro w' hA; clear hA; go_simp; try with_reducible rfl
                      clear hCl hHeld
                      intro hCl hHeld
                      simp only [List.setIfInBounds_toArray, List.set_cons_zero, List.set_cons_succ] at hCl hHeld
                      try simp only [Act.put]
                      try simp only [List.setIfInBounds_toArray, List.set_cons_zero, List.set_cons_succ]
                      refine reg_takeG 15 ?_ ?_ ?_ (by kernel_rfl) (by kernel_rfl) (by kernel_rfl) (fun _ _ _ h => h) ?_ ?_ ?_ hCl hHeld ?_
                      rotate_left 2
                      · simp only [List.getElem?_toArray, List.getElem?_cons_succ, List.getElem?_cons_zero]; exact rfl
                      · intro l w'; rw [hSSs, hSSs]
                      · rfl
                      · intro w' hA; clear hA; go_simp; try with_reducible rfl
                      clear hCl hHeld
                      intro hCl hHeld
                      simp only [List.setIfInBounds_toArray, List.set_cons_zero, List.set_cons_succ] at hCl hHeld
                      try simp only [Act.put]
                      try simp only [List.setIfInBounds_toArray, List.set_cons_zero, List.set_cons_succ]
                      refine reg_takeG 16 ?_ ?_ ?_ (by kernel_rfl) (by kernel_rfl) (by kernel_rfl) (fun _ _ _ h => h) ?_ ?_ ?_ hCl hHeld ?_
                      rotate_left 2
                      · simp only [List.getElem?_toArray, List.getElem?_cons_succ, List.getElem?_cons_zero]; exact rfl
                      · intro l w'; rw [hSSs, hSSs]
                      · rfl
                      · intro w' hA; clear hA; go_simp; try with_reducible rfl
                      clear hCl hHeld
                      intro hCl hHeld
                      simp only [List.setIfInBounds_toArray, List.set_cons_zero, List.set_cons_succ] at hCl hHeld
                      try simp only [Act.put]
                      try simp only [List.setIfInBounds_toArray, List.set_cons_zero, List.set_cons_succ]
                      refine reg_takeG 17 ?_ ?_ ?_ (by kernel_rfl) (by kernel_rfl) (by kernel_rfl) (fun _ _ _ h => h) ?_ ?_ ?_ hCl hHeld ?_
                      rotate_left 2
                      · simp only [List.getElem?_toArray, List.getElem?_cons_succ, List.getElem?_cons_zero]; exact rfl
                      · intro l w'; rw [hSSs, hSSs]
                      · rfl
                      · intro w' hA; obtain ⟨l, hl, hi, hSl⟩ := hA; have hSl := (hSSs _ _).1 hSl; obtain ⟨hz0, hz1⟩ := hSl; go_simp; try with_reducible rfl
                      clear hCl hHeld
                      intro hCl hHeld
                      simp only [List.setIfInBounds_toArray, List.set_cons_zero, List.set_cons_succ] at hCl hHeld
                      try simp only [Act.put]
                      try simp only [List.setIfInBounds_toArray, List.set_cons_zero, List.set_cons_succ]
                      refine reg_takeG 18 ?_ ?_ ?_ (by kernel_rfl) (by kernel_rfl) (by kernel_rfl) (fun _ _ _ h => h) ?_ ?_ ?_ hCl hHeld ?_
                      rotate_left 2
                      · simp only [List.getElem?_toArray, List.getElem?_cons_succ, List.getElem?_cons_zero]; exact rfl
                      · intro l w'; rw [hSSs, hSSs]
                      · rfl
                      · intro w' hA; clear hA; go_simp; try with_reducible rfl
                      clear hCl hHeld
                      intro hCl hHeld
                      simp only [List.setIfInBounds_toArray, List.set_cons_zero, List.set_cons_succ] at hCl hHeld
                      try simp only [Act.put]
                      try simp only [List.setIfInBounds_toArray, List.set_cons_zero, List.set_cons_succ]
                      refine reg_takeG 19 ?_ ?_ ?_ (by kernel_rfl) (by kernel_rfl) (by kernel_rfl) (fun _ _ _ h => h) ?_ ?_ ?_ hCl hHeld ?_
                      rotate_left 2
                      · simp only [List.getElem?_toArray, List.getElem?_cons_succ, List.getElem?_cons_zero]; exact rfl
                      · intro l w'; rw [hSSs, hSSs]
                      · rfl
                      · intro w' hA; clear hA; go_simp; try with_reducible rfl
                      clear hCl hHeld
                      intro hCl hHeld
                      simp only [List.setIfInBounds_toArray, List.set_cons_zero, List.set_cons_succ] at hCl hHeld
                      try simp only [Act.put]
                      try simp only [List.setIfInBounds_toArray, List.set_cons_zero, List.set_cons_succ]
                      clear hCl hHeld
                      refine reg_callG 20 ?_ (by kernel_rfl) ?_ (fun K hK => ?_)
                      rotate_left 1
                      · simp only [List.getElem?_toArray, List.getElem?_cons_succ, List.getElem?_cons_zero]; exact rfl
                      go_simp
                      clear hx0 hx1 hup
                      refine hK.out _ _ ((hSSs _ _).2 ⟨hy0, hy1⟩) ?_
                      clear hK K
                      try simp only [Act.put]
                      try simp only [List.setIfInBounds_toArray, List.set_cons_zero, List.set_cons_succ]
                      refine wpAnyG_done (by kernel_rfl) ?_ _
                      refine NoPanic.normal ?_
                      clear hSSs SSs
                      go_wp2
                      have hnn := HNN.out
                      refine ⟨⟨_, _, _, _, _, _, _, _, _, _, _, _, _, _, _, _, _, _, _, _, _, _, _, _, _, _, _, _, _, _, _, _, _, _, ?_, rfl⟩, by simp [intOf]⟩
                      exact ⟨2 + 1, by omega, by go_num, congrArg (Value.int .i64) (by omega), ⟨_, FIN.out.1⟩, FIN.out.2.1, FIN.out.2.2⟩
                · obtain rfl : i = 3 := by omega
                  have FIN := Lib.hid (And.intro hF2 hbw)
                  clear hF2 hbw hbx
                  go_wp2
                  exact ⟨⟨j + 1, by omega, by go_num, congrArg (Value.int .i64) (by omega), ⟨_, FIN.out.1⟩, FIN.out.2⟩, by simp [intOf]; omega⟩
            · obtain rfl : j = 8 := by omega
              have hgl := HM.out.len
              obtain ⟨⟨ta, tb, tc⟩, h0⟩ : ∃ v, (gridT 2 2 bn)[0]? = some v := ⟨_, List.getElem?_eq_getElem (by omega)⟩
              have hz := HM.out.one _ (List.mem_of_getElem? h0)
              simp only [] at hz
              have hb7 : Below w7.heap.size w7 wr := by rw [HFB.out]; exact hbw
              have hpr : RowN wr (w.heap.size + 1) 26 2 (.slice (some ⟨gp, 0, none⟩) 9 gpc) 9 (ptsCells (gridP 2 2)) := (HROW.out.below HBT.out).below hb7
              have htr := HTR.out.below hb7
              have hbu := Build_any F (gridT 2 2 bn) ta tb tc fb gt 8 gtc gp 9 gpc (gridP 2 2) wr OK.out.good h0 hz (by omega) (by omega) OK.out.pts htr hF rfl (by omega) (by omega) HPS.out hpr.ptsC HM.out.some_ (by have := HM.out.few; omega) HM.out.ends
              have HBU := Lib.hid hbu; have HTRR := Lib.hid htr
              have HBWR := Lib.hid (HBW.out.trans ((HBT.out.trans (hb7.mono HBT.out.size)).mono HBW.out.size))
              have hgt := HGTL.out.1; have hsz5 := HBW.out.size
              clear hbu htr hpr hb7 hF hbw hz h0 hgl
              go_wp2_with fail
              refine HBU.out.mono ?_
              rintro e w9 ⟨mb, rfl, hbe, hb9⟩
              have hbs := HBWR.out.size
              have FIN := Lib.hid (And.intro (hbe.low hbs) (And.intro (HTRR.out.below hb9) (HBWR.out.trans (hb9.mono hbs))))
              clear hbe hb9
              go_wp2
              go_ret2
              exact ⟨mb, gt, gtc, F, rfl, FIN.out.1, FIN.out.2.1, by omega, FIN.out.2.2⟩
end Go.Proofs.Ytaaeghcacjmjeaa
/- The statements' Grid, whatever it is asked: what comes. -/
namespace Go.Proofs.Ytaaeghcacjmjeaa
open Go.RowKit Go.MagM
/-- What Grid leaves. -/
structure GridIs (w : World) (B mb pb pc tb tc g W H bn : Nat) (F : Int → Int → Bool) (Bd : List (Nat × Nat)) (S : List TriM) : Prop where
  mesh : MeshO 26 37 w B mb pb pc (.slice (some ⟨tb, 0, none⟩) S.length tc) (gridP W H) S
  pts : B ≤ pb
  built : Built (faF F) (gridT W H bn) Bd S
  tr : TrIn w g ((gridT W H bn).map realV)
  row : B ≤ g
  hW : W = 1 ∨ W = 2
  hH : H = 1 ∨ H = 2
  hb : bn < 16
theorem GridIs.below {w w' : World} {B mb pb pc tb tc g W H bn : Nat} {F : Int → Int → Bool} {Bd : List (Nat × Nat)} {S : List TriM} (h : GridIs w B mb pb pc tb tc g W H bn F Bd S) (hb : Below w.heap.size w w') : GridIs w' B mb pb pc tb tc g W H bn F Bd S :=
  ⟨h.mesh.below hb, h.pts, h.built, h.tr.below hb, h.row, h.hW, h.hH, h.hb⟩
theorem GridIs.drew {w : World} {B mb pb pc tb tc g W H bn : Nat} {F : Int → Int → Bool} {Bd : List (Nat × Nat)} {S : List TriM} (h : GridIs w B mb pb pc tb tc g W H bn F Bd S) : GridIs w.drew B mb pb pc tb tc g W H bn F Bd S := h.below (Below.refl _ _).drew'
theorem GridIs.read {w : World} {B mb pb pc tb tc g W H bn : Nat} {F : Int → Int → Bool} {Bd : List (Nat × Nat)} {S : List TriM} (h : GridIs w B mb pb pc tb tc g W H bn F Bd S) : MeshR w mb pb pc (some ⟨tb, 0, none⟩) tc (gridP W H) S := by
  obtain ⟨ta, tc', e, hr⟩ := h.mesh.read
  simp only [Value.slice.injEq] at e
  obtain ⟨rfl, -, rfl⟩ := e
  exact hr
theorem GridIs.sound {w : World} {B mb pb pc tb tc g W H bn : Nat} {F : Int → Int → Bool} {Bd : List (Nat × Nat)} {S : List TriM} (h : GridIs w B mb pb pc tb tc g W H bn F Bd S) : SoundIs (gridP W H) S true := by
  have ok := grid_ok h.hW h.hH h.hb
  exact built_sound h.built ok.turn ok.some_ ok.rim
theorem GridIs.inP {w : World} {B mb pb pc tb tc g W H bn : Nat} {F : Int → Int → Bool} {Bd : List (Nat × Nat)} {S : List TriM} (h : GridIs w B mb pb pc tb tc g W H bn F Bd S) : InPs (gridP W H) := grid_inPs h.hW h.hH
theorem GridIs.sizes {w : World} {B mb pb pc tb tc g W H bn : Nat} {F : Int → Int → Bool} {Bd : List (Nat × Nat)} {S : List TriM} (h : GridIs w B mb pb pc tb tc g W H bn F Bd S) : 4 ≤ (gridP W H).length ∧ (gridP W H).length ≤ 9 ∧ 4 ≤ S.length ∧ S.length ≤ 16 := by
  have ok := grid_ok h.hW h.hH h.hb
  have hm := grid_has h.hW h.hH h.hb
  have h1 := ok.many; have h2 := ok.few; have h3 := hm.few; have h4 := ok.four; have h5 := h.built.len; have h6 := h.built.perm.length_eq
  have h7 : 4 ≤ (W + 1) * (H + 1) ∧ (W + 1) * (H + 1) ≤ 9 := by
    rcases h.hW with e | e <;> rcases h.hH with e' | e' <;> rw [e, e'] <;> decide
  omega
theorem and_one (x : Int) : bits .and .i64 x 1 = 0 ∨ bits .and .i64 x 1 = 1 := by
  have h1 : (BitVec.ofInt 64 (1 : Int)).toNat = 1 := by decide
  have h2 : (BitVec.ofInt 64 x).toNat &&& 1 ≤ 1 := Nat.and_le_right
  have h3 : bits .and .i64 x 1 = (((BitVec.ofInt 64 x).toNat &&& 1 : Nat) : Int) := by
    show IntKind.i64.wrap ((BitVec.ofInt 64 x &&& BitVec.ofInt 64 (1 : Int)).toNat : Int) = _
    rw [BitVec.toNat_and, h1, IntKind.wrap_i64]
    omega
  rw [h3]; omega
theorem Grid_any (w0 h0 b f : Int) (w : World) :
    Calls Try.prog 23 #[.int .i64 w0, .int .i64 h0, .int .u32 b, .int .u32 f] w fun e w' => ∃ (mb pb pc tb tc g gn gc W H bn : Nat) (F : Int → Int → Bool) (Bd : List (Nat × Nat)) (S : List TriM), e = .returned (.tuple #[.pointer (some ⟨mb, 0, none⟩), .slice (some ⟨g, 0, none⟩) gn gc]) ∧ gn = (gridT W H bn).length ∧ GridIs w' w.heap.size mb pb pc tb tc g W H bn F Bd S ∧ Below w.heap.size w w' := by
  obtain ⟨bn, hbn, hbit⟩ := bits_of b
  have fin : ∀ {W H : Nat} (hW : W = 1 ∨ W = 2) (hH : H = 1 ∨ H = 2) {NT : Nat}, NT = 2 * (W * H) → (Calls Try.prog 23 #[.int .i64 w0, .int .i64 h0, .int .u32 b, .int .u32 f] w fun e w' => ∃ (mb g c : Nat) (F : Int → Int → Bool), e = .returned (.tuple #[.pointer (some ⟨mb, 0, none⟩), .slice (some ⟨g, 0, none⟩) NT c]) ∧ BuildEnd 26 37 F w.heap.size (gridP W H) (gridT W H bn) mb w' ∧ TrIn w' g ((gridT W H bn).map realV) ∧ w.heap.size ≤ g ∧ Below w.heap.size w w') →
      Calls Try.prog 23 #[.int .i64 w0, .int .i64 h0, .int .u32 b, .int .u32 f] w fun e w' => ∃ (mb pb pc tb tc g gn gc W H bn : Nat) (F : Int → Int → Bool) (Bd : List (Nat × Nat)) (S : List TriM), e = .returned (.tuple #[.pointer (some ⟨mb, 0, none⟩), .slice (some ⟨g, 0, none⟩) gn gc]) ∧ gn = (gridT W H bn).length ∧ GridIs w' w.heap.size mb pb pc tb tc g W H bn F Bd S ∧ Below w.heap.size w w' := by
    intro W H hW hH NT hNT hc
    refine hc.mono ?_
    rintro e w' ⟨mb, g, c, F, rfl, ⟨pb, pc, tv, S, Bd, hm, hpb, hp, hbs, hj⟩, htr, hg, hb⟩
    have ok := grid_ok hW hH hbn
    have hmo := grid_has hW hH hbn
    have hbu := Built.of ok.good ok.four hp hbs hj
    have h0 : 0 < S.length := by have := hbu.len; have := ok.four; have := hp.length_eq; omega
    obtain ⟨t, ht⟩ : ∃ t, S[0]? = some t := ⟨_, List.getElem?_eq_getElem h0⟩
    obtain ⟨tb, tc, rfl⟩ := hm.slot ht
    exact ⟨mb, pb, pc, tb, tc, g, _, c, W, H, bn, F, Bd, S, rfl, by rw [hmo.len]; exact hNT, ⟨hm, hpb, hbu, htr, hg, hW, hH, hbn⟩, hb⟩
  rcases and_one w0 with e1 | e1 <;> rcases and_one h0 with e2 | e2
  · exact fin (W := 1) (H := 1) (by omega) (by omega) rfl (Grid11_any w0 h0 b f bn hbn e1 e2 hbit w)
  · exact fin (W := 1) (H := 2) (by omega) (by omega) rfl (Grid12_any w0 h0 b f bn hbn e1 e2 hbit w)
  · exact fin (W := 2) (H := 1) (by omega) (by omega) rfl (Grid21_any w0 h0 b f bn hbn e1 e2 hbit w)
  · exact fin (W := 2) (H := 2) (by omega) (by omega) rfl (Grid22_any w0 h0 b f bn hbn e1 e2 hbit w)
end Go.Proofs.Ytaaeghcacjmjeaa
/- A mesh of which one thing is spoilt isn't sound. Pure but for the writes. -/
namespace Go.MagM
open Go.RowKit
section
variable {fa : Int → Int → Bool} {V : List (Int × Int × Int)} {S : List TriM}
theorem Surf.not_self (h : Surf fa V S) {t i j : Nat} {T : TriM} (hT : S[t]? = some T) (hi : i < 3) (hj : j < 3) : edgeV T j ≠ ((edgeV T i).2, (edgeV T i).1) := by
  have a0 : T.v1 ≠ T.v2 := h.apart hT (i := 0) (by omega)
  have a1 : T.v2 ≠ T.v0 := h.apart hT (i := 1) (by omega)
  have a2 : T.v0 ≠ T.v1 := h.apart hT (i := 2) (by omega)
  intro e
  obtain rfl | rfl | rfl : i = 0 ∨ i = 1 ∨ i = 2 := by omega
  all_goals (obtain rfl | rfl | rfl : j = 0 ∨ j = 1 ∨ j = 2 := by omega) <;> simp only [edgeV, Prod.mk.injEq] at e <;> omega
theorem Surf.other_ne (h : Surf fa V S) {t i u j : Nat} {T U : TriM} (hT : S[t]? = some T) (hi : i < 3) (hU : S[u]? = some U) (hj : j < 3) (he : edgeV U j = ((edgeV T i).2, (edgeV T i).1)) : u ≠ t := by
  rintro rfl
  rw [hT] at hU; cases hU
  exact h.not_self hT hi hj he
theorem set_other {S : List TriM} {t u : Nat} {X U : TriM} (hU : S[u]? = some U) (hne : u ≠ t) : (S.set t X)[u]? = some U := by
  rw [List.getElem?_set, if_neg (fun e => hne e.symm)]; exact hU
theorem set_self {S : List TriM} {t : Nat} {T X : TriM} (hT : S[t]? = some T) : (S.set t X)[t]? = some X := by
  rw [List.getElem?_set, if_pos rfl, if_pos (List.getElem?_eq_some_iff.1 hT).1]
theorem Surf.no_edge (h : Surf fa V S) {t i u : Nat} {T U : TriM} (hT : S[t]? = some T) (hi : i < 3) (hU : S[u]? = some U) (hne : u ≠ t) : edgeT U (edgeV T i).1 (edgeV T i).2 = -1 :=
  edgeT_miss fun _ hj e => hne (h.once hU hT hj hi e).1
end
end Go.MagM
namespace Go.Proofs.Ytaaeghcacjmjeaa
open Go.RowKit Go.MagM
section
variable {fa : Int → Int → Bool} {V : List (Int × Int × Int)} {S : List TriM} {P : List (Int × Int)}
theorem ok_false {P : List (Int × Int)} {S : List TriM} {t i : Nat} {T : TriM} (hT : S[t]? = some T) (hg : goneB T = false) (hi : i < 3) (hl : linkI S t T i = false) : SoundIs P S false :=
  .inl ⟨rfl, t, T, hT, by unfold okT; rw [hg, linkedT_no hi hl]; simp⟩
/-- One is gone. -/
theorem spoil_gone (h : Surf fa V S) {t : Nat} {T : TriM} (hT : S[t]? = some T) : SoundIs P (S.set t goneTri) false := by
  obtain ⟨u, j, U, hU, hj, he, -, -, hn, -⟩ := h.other hT (i := 0) (by omega)
  have hne := h.other_ne hT (by omega) hU hj he
  refine ok_false (set_other hU hne) (h.alive hU).2 hj ?_
  unfold linkI
  rw [hn, getT_nat, set_self hT]
  simp [goneTri, goneB]
/-- One goes the other way round. -/
theorem spoil_turn (h : Surf fa V S) {t : Nat} {T : TriM} (hT : S[t]? = some T) : SoundIs P (S.set t ((T.setV 0 T.v1).setV 1 T.v0)) false := by
  obtain ⟨u, j, U, hU, hj, he, hn, -⟩ := h.other hT (i := 2) (by omega)
  have hne := h.other_ne hT (by omega) hU hj he
  have hal := (h.alive hT).1
  refine ok_false (set_self hT) (i := 2) (by unfold goneB; exact decide_eq_false (by show ¬ (T.v1 = -2 ∧ T.v0 = -2 ∧ T.v2 = -2); omega)) (by omega) ?_
  unfold linkI
  have hn' : ((T.setV 0 T.v1).setV 1 T.v0).n 2 = (u : Int) := hn
  rw [hn', getT_nat, set_other hU hne]
  simp only []
  have : edgeT U (edgeV ((T.setV 0 T.v1).setV 1 T.v0) 2).2 (edgeV ((T.setV 0 T.v1).setV 1 T.v0) 2).1 = -1 := h.no_edge hT (i := 2) (by omega) hU hne
  rw [this]; simp
/-- Across an edge lies it itself. -/
theorem spoil_self (h : Surf fa V S) {t i : Nat} {T : TriM} (hT : S[t]? = some T) (hi : i < 3) : SoundIs P (S.set t (T.setN i (t : Int))) false := by
  have hal := (h.alive hT).1
  have hv : ∀ k, edgeV (T.setN i (t : Int)) k = edgeV T k := by
    intro k
    obtain rfl | rfl | rfl : i = 0 ∨ i = 1 ∨ i = 2 := by omega
    all_goals (match k with | 0 => rfl | 1 => rfl | _ + 2 => rfl)
  have hg : goneB (T.setN i (t : Int)) = false := by
    unfold goneB
    obtain rfl | rfl | rfl : i = 0 ∨ i = 1 ∨ i = 2 := by omega
    all_goals exact decide_eq_false (by show ¬ (T.v0 = -2 ∧ T.v1 = -2 ∧ T.v2 = -2); omega)
  have hn : (T.setN i (t : Int)).n i = (t : Int) := by
    obtain rfl | rfl | rfl : i = 0 ∨ i = 1 ∨ i = 2 := by omega
    all_goals rfl
  refine ok_false (set_self hT) hg hi ?_
  unfold linkI
  rw [hn, getT_nat, set_self hT]
  simp only []
  have : edgeT (T.setN i (t : Int)) (edgeV (T.setN i (t : Int)) i).2 (edgeV (T.setN i (t : Int)) i).1 = -1 :=
    edgeT_miss fun j hj e => by rw [hv, hv] at e; exact h.not_self hT hi hj e
  rw [this]; simp
/-- A fault to one side alone. -/
theorem spoil_fault (h : Surf fa V S) (hfa : ∀ a b, fa a b = fa b a) {t i : Nat} {T : TriM} (hT : S[t]? = some T) (hi : i < 3) : SoundIs P (S.set t (T.setF i (!T.f i))) false := by
  obtain ⟨u, j, U, hU, hj, he, hn, hf, hn2, hf2⟩ := h.other hT hi
  have hne := h.other_ne hT hi hU hj he
  have hal := (h.alive hT).1
  have hv : ∀ k, edgeV (T.setF i (!T.f i)) k = edgeV T k := by
    intro k
    obtain rfl | rfl | rfl : i = 0 ∨ i = 1 ∨ i = 2 := by omega
    all_goals (match k with | 0 => rfl | 1 => rfl | _ + 2 => rfl)
  have hg : goneB (T.setF i (!T.f i)) = false := by
    unfold goneB
    obtain rfl | rfl | rfl : i = 0 ∨ i = 1 ∨ i = 2 := by omega
    all_goals exact decide_eq_false (by show ¬ (T.v0 = -2 ∧ T.v1 = -2 ∧ T.v2 = -2); omega)
  have hn' : (T.setF i (!T.f i)).n i = (u : Int) := by
    rw [← hn]
    obtain rfl | rfl | rfl : i = 0 ∨ i = 1 ∨ i = 2 := by omega
    all_goals rfl
  have hf' : (T.setF i (!T.f i)).f i = !T.f i := by
    obtain rfl | rfl | rfl : i = 0 ∨ i = 1 ∨ i = 2 := by omega
    all_goals rfl
  refine ok_false (set_self hT) hg hi ?_
  unfold linkI
  rw [hn', getT_nat, set_other hU hne]
  simp only []
  have ha := h.edge_at hU hj
  rw [he] at ha
  simp only [] at ha
  rw [hv, ha, hf', show ((j : Int)).toNat = j from rfl, hf2, hf, hfa]
  simp
end
end Go.Proofs.Ytaaeghcacjmjeaa
namespace Go.MagM
open Go.RowKit
section
variable {p e : TypeId} {w : World} {lo mb pb pc g c n : Nat} {P : List (Int × Int)} {S : List TriM}
theorem MeshO.put (h : MeshO p e w lo mb pb pc (.slice (some ⟨g, 0, none⟩) n c) P S) (hn : S.length = n) {S' : List TriM} (o : Nat) (x y : Value) (hx : (triCells S)[o]? = some x) (hl : S'.length = S.length) (hs : (triCells S).set o y = triCells S') :
    w.cell? ⟨g, o, none⟩ = some x ∧ w.frozen? ⟨g, o, none⟩ = false ∧ MeshO p e (w.setCell ⟨g, o, none⟩ y) lo mb pb pc (.slice (some ⟨g, 0, none⟩) n c) P S' ∧ Mut w (w.setCell ⟨g, o, none⟩ y) mb (.slice (some ⟨g, 0, none⟩) n c) (.slice (some ⟨g, 0, none⟩) n c) := by
  subst hn
  have hb := owns_box h.row
  obtain ⟨h1, h2⟩ := h.setT (S' := S') o [y] hl hs
  exact ⟨hb.c _ _ hx, hb.f _ _ hx, h1, h2⟩
theorem MeshO.putV (h : MeshO p e w lo mb pb pc (.slice (some ⟨g, 0, none⟩) n c) P S) (hn : S.length = n) {t : Nat} {T : TriM} (hT : S[t]? = some T) (j o : Nat) (hj : j < 3) (ho : o = t * 9 + j) (x : Int) :
    w.cell? ⟨g, o, none⟩ = some (.int .i64 (T.v j)) ∧ w.frozen? ⟨g, o, none⟩ = false ∧ MeshO p e (w.setCell ⟨g, o, none⟩ (.int .i64 x)) lo mb pb pc (.slice (some ⟨g, 0, none⟩) n c) P (S.set t (T.setV j x)) ∧ Mut w (w.setCell ⟨g, o, none⟩ (.int .i64 x)) mb (.slice (some ⟨g, 0, none⟩) n c) (.slice (some ⟨g, 0, none⟩) n c) := by
  subst ho
  refine h.put hn _ _ _ ?_ (by simp) (triCells_setV hT j hj x)
  rw [tri_at hT j (by omega)]
  obtain rfl | rfl | rfl : j = 0 ∨ j = 1 ∨ j = 2 := by omega
  all_goals rfl
theorem MeshO.putN (h : MeshO p e w lo mb pb pc (.slice (some ⟨g, 0, none⟩) n c) P S) (hn : S.length = n) {t : Nat} {T : TriM} (hT : S[t]? = some T) (j o : Nat) (hj : j < 3) (ho : o = t * 9 + 3 + j) (x : Int) :
    w.cell? ⟨g, o, none⟩ = some (.int .i64 (T.n j)) ∧ w.frozen? ⟨g, o, none⟩ = false ∧ MeshO p e (w.setCell ⟨g, o, none⟩ (.int .i64 x)) lo mb pb pc (.slice (some ⟨g, 0, none⟩) n c) P (S.set t (T.setN j x)) ∧ Mut w (w.setCell ⟨g, o, none⟩ (.int .i64 x)) mb (.slice (some ⟨g, 0, none⟩) n c) (.slice (some ⟨g, 0, none⟩) n c) := by
  subst ho
  exact h.put hn _ _ _ (tri_n hT hj) (by simp) (by rw [Nat.add_assoc]; exact triCells_setN hT j hj x)
theorem MeshO.putF (h : MeshO p e w lo mb pb pc (.slice (some ⟨g, 0, none⟩) n c) P S) (hn : S.length = n) {t : Nat} {T : TriM} (hT : S[t]? = some T) (j o : Nat) (hj : j < 3) (ho : o = t * 9 + 6 + j) (x : Bool) :
    w.cell? ⟨g, o, none⟩ = some (.bool (T.f j)) ∧ w.frozen? ⟨g, o, none⟩ = false ∧ MeshO p e (w.setCell ⟨g, o, none⟩ (.bool x)) lo mb pb pc (.slice (some ⟨g, 0, none⟩) n c) P (S.set t (T.setF j x)) ∧ Mut w (w.setCell ⟨g, o, none⟩ (.bool x)) mb (.slice (some ⟨g, 0, none⟩) n c) (.slice (some ⟨g, 0, none⟩) n c) := by
  subst ho
  exact h.put hn _ _ _ (tri_f hT hj) (by simp) (by rw [Nat.add_assoc]; exact triCells_setF hT j hj x)
end
end Go.MagM
/- The statements' fit (layer 9). -/
namespace Go.Proofs.Ytaaeghcacjmjeaa
open Go.RowKit Go.MagM
theorem MeshO.sl {p e : TypeId} {w : World} {lo mb pb pc : Nat} {tv : Value} {P : List (Int × Int)} {S : List TriM} (h : MeshO p e w lo mb pb pc tv P S) (h0 : 0 < S.length) : ∃ tb tc, tv = .slice (some ⟨tb, 0, none⟩) S.length tc ∧ MeshR w mb pb pc (some ⟨tb, 0, none⟩) tc P S := by
  obtain ⟨t, ht⟩ : ∃ t, S[0]? = some t := ⟨_, List.getElem?_eq_getElem h0⟩
  obtain ⟨tb, tc, rfl⟩ := h.slot ht
  obtain ⟨ta, tc', e, hr⟩ := h.read
  simp only [Value.slice.injEq] at e
  obtain ⟨rfl, -, rfl⟩ := e
  exact ⟨tb, tc, rfl, hr⟩
set_option maxRecDepth 100000 in
set_option maxHeartbeats 16000000 in
theorem fit9_any (w : World) : Calls Try.prog 12 #[] w fun e w' => e = .returned (.bool true) ∧ Below w.heap.size w w' := by
  obtain ⟨w1, hw1, pp, hb1, hs1⟩ := new_box w _ rfl [.int .i64 0, .int .i64 0, .int .i64 1, .int .i64 0, .int .i64 0, .int .i64 1] 26
  have hP : InPs [(0, 0), (1, 0), (0, 1)] := by
    intro p hp
    simp at hp
    rcases hp with rfl | rfl | rfl <;> (unfold InP; omega)
  have hnew := New_yes (some ⟨w.heap.size, 0, none⟩) w.heap.size 3 3 [(0, 0), (1, 0), (0, 1)] w1 rfl (by omega) (by omega) hP rfl (fun j u hj => by rw [Nat.zero_add]; exact pp.c j u hj) 0 1 2 (by rfl)
  have hnew' : Calls Try.prog 14 #[.slice (some ⟨w.heap.size, 0, none⟩) 3 3, .int .i64 0, .int .i64 1, .int .i64 2] w1 fun e w' => ∃ mb pb pc tv, e = .returned (.tuple #[.pointer (some ⟨mb, 0, none⟩), .bool true]) ∧ MeshO 26 37 w' w1.heap.size mb pb pc tv [(0, 0), (1, 0), (0, 1)] (newM ((0 : Nat) : Int) ((1 : Nat) : Int) ((2 : Nat) : Int)) ∧ w1.heap.size ≤ pb ∧ Below w1.heap.size w1 w' := hnew
  have HN := Lib.hid hnew'; have HP := Lib.hid hP
  have hB1 : Below w.heap.size w w1 := hb1
  have HB1 := Lib.hid hB1
  clear pp hb1 hs1 hnew hnew' hP hB1
  go_enter Try.func12, Try.ntmps12
  go_wp2_with fail
  refine HN.out.mono ?_
  rintro e w2 ⟨mb, pb, pc, tv, rfl, hm, hpb, hb2⟩
  obtain ⟨tb, tc, rfl, hr⟩ := MeshO.sl hm (by show 0 < 4; omega)
  have hB2 := HB1.out.trans (hb2.mono HB1.out.size)
  have hso := Sound_any true w2 hr HP.out (by simp) (newM_sound (a := 0) (b := 1) (c := 2) (P := [(0, 0), (1, 0), (0, 1)]) (by decide) (by decide) (by decide) (by decide))
  have c1 := hr.box.c 1 _ rfl
  have HR := Lib.hid hr; have HB2 := Lib.hid hB2; have HSO := Lib.hid hso
  clear hm hpb hb2 hr hB2 hso
  obtain ⟨S, hS⟩ : ∃ S, newM ((0 : Nat) : Int) ((1 : Nat) : Int) ((2 : Nat) : Int) = S := ⟨_, rfl⟩
  have hr0 : realM S ((0 : Nat) : Int) = true := by rw [← hS]; decide
  have hr1 : ∀ k : Nat, 1 ≤ k → k < 4 → realM S (k : Int) = false := by
    intro k h1 h4
    rw [← hS]
    obtain rfl | rfl | rfl : k = 1 ∨ k = 2 ∨ k = 3 := by omega
    all_goals decide
  have hl : S.length = 4 := by rw [← hS]; rfl
  rw [hS] at HR c1
  rw [hl] at c1
  go_wp2_with fail
  refine HSO.out.mono ?_
  rintro e w3 ⟨rfl, hb3⟩
  have hB3 := HB2.out.trans (hb3.mono HB2.out.size)
  have hr3 := HR.out.below hb3
  have HR3 := Lib.hid hr3; have HB3 := Lib.hid hB3; have HR0 := Lib.hid hr0; have HR1 := Lib.hid hr1
  have c2 := hr3.box.c 1 _ rfl
  rw [hl] at c2
  clear hr3 hB3 hb3 c1 hr0 hr1
  go_wp2
  clear c2
  go_loopw [3, 4, 37] (fun nv _ iv wr => ∃ k : Nat, k ≤ 4 ∧ iv = .int .i64 (k : Int) ∧ nv = .int .i64 ((if k = 0 then 0 else 1 : Nat) : Int) ∧ Below w3.heap.size w3 wr) (fun _ _ iv _ => 4 - (intOf iv).toNat)
  case atStart => exact ⟨0, by omega, rfl, rfl, Below.refl _ _⟩
  case round =>
    obtain ⟨k, hk, rfl, rfl, hbw⟩ := hrel
    by_cases hlt : k < 4
    · have hre := Real_any (k : Int) wr (HR3.out.below hbw)
      have HBW := Lib.hid hbw
      by_cases h0 : k = 0
      · subst h0
        rw [HR0.out] at hre
        have HRE := Lib.hid hre
        clear hre hbw
        go_wp2_with fail
        refine HRE.out.mono ?_
        rintro e w4 ⟨rfl, hd4⟩
        have FIN := Lib.hid (HBW.out.trans (hd4.below.mono HBW.out.size))
        clear hd4
        go_wp2
        exact ⟨⟨1, by omega, by go_num, rfl, FIN.out⟩, by simp [intOf]⟩
      · rw [HR1.out k (by omega) hlt] at hre
        have HRE := Lib.hid hre
        have hn1 : (if k = 0 then 0 else 1 : Nat) = 1 := if_neg h0
        rw [hn1]
        have H0 := Lib.hid h0
        clear hre hbw h0 hn1
        go_wp2_with fail
        refine HRE.out.mono ?_
        rintro e w4 ⟨rfl, hd4⟩
        have FIN := Lib.hid (HBW.out.trans (hd4.below.mono HBW.out.size))
        clear hd4
        go_wp2
        exact ⟨⟨k + 1, by omega, by go_num, by rw [if_neg (by omega)]; rfl, FIN.out⟩, by simp [intOf]; omega⟩
    · obtain rfl : k = 4 := by omega
      have FIN := Lib.hid (HB3.out.trans (hbw.mono HB3.out.size))
      clear hbw
      go_wp2
      go_ret
      exact ⟨rfl, FIN.out⟩
end Go.Proofs.Ytaaeghcacjmjeaa
/- Maps from ints to 1 (sets of numbers); bytes in a row; slots of which some are gone. -/
namespace Go.MagM
open Go.RowKit Go.Maps
/-- Bytes that come in. -/
def BytesAt (w : World) (ao : Option Addr) (l : List Int) : Prop :=
  ∀ i x, l[i]? = some x → ∃ b o, ao = some ⟨b, o, none⟩ ∧ w.cell? ⟨b, o + i, none⟩ = some (.int .u8 x) ∧ 0 ≤ x ∧ x < 256
theorem BytesAt.below {w w' : World} {ao : Option Addr} {l : List Int} (h : BytesAt w ao l) (hb : Below w.heap.size w w') : BytesAt w' ao l := by
  intro i x hi
  obtain ⟨b, o, h0, h1, h2⟩ := h i x hi
  have hlt := World.block_lt_of_cell? w _ h1
  exact ⟨b, o, h0, (hb.cell (p := ⟨b, o + i, none⟩) hlt).trans h1, h2⟩
/-- Of n slots those of D are gone. -/
structure SlotsD (n : Nat) (S : List TriM) (D : List Nat) : Prop where
  len : S.length = n
  gone : ∀ (t : Nat) (T : TriM), S[t]? = some T → (goneB T = true ↔ t ∈ D)
  lt : ∀ t, t ∈ D → t < n
theorem goneTri_gone : goneB goneTri = true := by decide
theorem SlotsD.drop {n : Nat} {S : List TriM} {D : List Nat} (h : SlotsD n S D) {t : Nat} (ht : t < n) : SlotsD n (S.set t goneTri) (D ++ [t]) := by
  refine ⟨by rw [List.length_set]; exact h.len, fun u T hu => ?_, fun u hu => ?_⟩
  · rw [List.getElem?_set] at hu
    split at hu
    · rename_i e; subst e
      split at hu
      · cases hu; rw [goneTri_gone]; simp
      · cases hu
    · rename_i e
      rw [h.gone u T hu, List.mem_append, List.mem_singleton]
      exact ⟨.inl, fun hx => hx.elim id fun hx => absurd hx.symm e⟩
  · rcases List.mem_append.1 hu with h1 | h1
    · exact h.lt u h1
    · simp at h1; omega
theorem SlotsD.alive {n : Nat} {S : List TriM} {D : List Nat} (h : SlotsD n S D) {t : Nat} {T : TriM} (hT : S[t]? = some T) (ht : t ∉ D) : goneB T = false := by
  cases hg : goneB T with
  | false => rfl
  | true => exact absurd ((h.gone t T hT).1 hg) ht
theorem SlotsD.free_none {n : Nat} {S : List TriM} (h : SlotsD n S []) : freeK S = none := by
  unfold freeK
  rw [List.findIdx?_eq_none_iff]
  intro T hT
  obtain ⟨j, hj⟩ := List.mem_iff_getElem?.1 hT
  exact h.alive hj (by simp)
theorem newT_alive : goneB (newT 0 1 2) = false := by decide
theorem SlotsD.make {n : Nat} {S : List TriM} {D D' : List Nat} (h : SlotsD n S D) {k : Nat} (hD : ∀ x, x ∈ D' ↔ x ∈ D ∧ x ≠ k) : SlotsD n (S.set k (newT 0 1 2)) D' := by
  refine ⟨by rw [List.length_set]; exact h.len, fun u T hu => ?_, fun u hu => h.lt u ((hD u).1 hu).1⟩
  rw [List.getElem?_set] at hu
  split at hu
  · rename_i e; subst e
    split at hu
    · cases hu; rw [newT_alive, hD]; simp
    · cases hu
  · rename_i e
    rw [h.gone u T hu, hD]
    simp only [ne_eq, iff_self_and]
    intro _ e'; exact e e'.symm
end Go.MagM
namespace Go.Proofs.Ytaaeghcacjmjeaa
open Go.RowKit Go.MagM Go.Maps
end Go.Proofs.Ytaaeghcacjmjeaa
/- MeshSpoils: a mesh of which one thing is spoilt isn't sound. -/
namespace Go.Proofs.Ytaaeghcacjmjeaa
open Go.RowKit Go.MagM
theorem infoIn : (Try.prog.info? 3).map (fun i => (i.zero, i.size, i.bytes)) = some (some (.int .i64 0), 1, 8) := by kernel_rfl
def natCells (n : Nat) : List Value := (List.range n).map fun k : Nat => .int .i64 (k : Int)
theorem natCells_succ (n : Nat) : natCells (n + 1) = natCells n ++ [.int .i64 (n : Int)] := by unfold natCells; rw [List.range_succ, List.map_append]; rfl
theorem natCells_at {n k : Nat} (h : k < n) : (natCells n)[k]? = some (.int .i64 (k : Int)) := by unfold natCells; rw [List.getElem?_map, List.getElem?_range h]; rfl
theorem and_some (x : Int) (k : Nat) (hk : k < 9223372036854775808) : ∃ y : Int, 0 ≤ y ∧ y ≤ (k : Int) ∧ bits .and .i64 x (k : Int) = y := by
  have h1 : (BitVec.ofInt 64 (k : Int)).toNat = k := by
    rw [BitVec.ofInt_natCast, BitVec.toNat_ofNat]; exact Nat.mod_eq_of_lt (by omega)
  have h2 : (BitVec.ofInt 64 x).toNat &&& k ≤ k := Nat.and_le_right
  refine ⟨(((BitVec.ofInt 64 x).toNat &&& k : Nat) : Int), by omega, by omega, ?_⟩
  show IntKind.i64.wrap ((BitVec.ofInt 64 x &&& BitVec.ofInt 64 (k : Int)).toNat : Int) = _
  rw [BitVec.toNat_and, h1, IntKind.wrap_i64]
  omega
set_option maxRecDepth 100000 in
set_option maxHeartbeats 16000000 in
theorem MeshSpoils_walk (w0 h0 b0 a0 a1 : Int) (w : World) :
    Calls Try.prog 7 #[.agg #[.int .i64 w0, .int .i64 h0], .int .u32 b0, .agg #[.int .i64 a0, .int .i64 a1]] w fun e w' => e = .returned (.bool true) ∧ Below w.heap.size w w' := by
  obtain ⟨m1, m1a, m1b, hm1⟩ := and_some a0 4095 (by omega)
  obtain ⟨i, hi2, hib⟩ : ∃ i : Nat, i < 2 ∧ bits .and .i64 (a0 / 4096) 1 = (i : Int) := by
    rcases and_one (a0 / 4096) with h | h
    · exact ⟨0, by omega, h⟩
    · exact ⟨1, by omega, h⟩
  obtain ⟨s, s0, s3, hs⟩ := and_some a1 3 (by omega)
  have hm1' : bits .and .i64 a0 4095 = m1 := hm1
  have hs' : bits .and .i64 a1 3 = s := hs
  clear hm1 hs
  obtain ⟨i0, hi, hz0, hz1, hz2⟩ := info_parts infoIn
  have HI := Lib.hid hi; have HZ0 := Lib.hid hz0; have HZ1 := Lib.hid hz1; have HZ2 := Lib.hid hz2
  clear hi hz0 hz1 hz2
  obtain ⟨w1, hw1, pz, hb1, hs1⟩ := new_box w _ rfl [.int .i64 w0, .int .i64 h0] 48
  obtain ⟨ab, hab⟩ : ∃ ab, w1.heap.size = ab := ⟨_, rfl⟩
  obtain ⟨w2, hw2, pa, hb2, hs2⟩ := new_box w1 _ rfl [.int .i64 a0, .int .i64 a1] 48
  rw [hab] at pa
  have hf := fit9_any w2
  have HF := Lib.hid hf; have PZ := Lib.hid (pz.below hb2); have PA := Lib.hid pa; have HB2 := Lib.hid (hb1.trans (hb2.mono hb1.size))
  clear hf pz hb1 hs1 pa hb2 hs2
  go_enter Try.func7, Try.ntmps7
  go_wp2_with fail
  refine HF.out.mono ?_
  rintro e w3 ⟨rfl, hb3⟩
  clear hab
  have hz3 := PZ.out.below hb3
  have z0 := hz3.c 0 _ rfl; have z1 := hz3.c 1 _ rfl
  have PA3 := Lib.hid (PA.out.below hb3)
  have HB3 := Lib.hid (HB2.out.trans (hb3.mono HB2.out.size))
  have HG := Lib.hid (Grid_any w0 h0 b0 0 w3)
  clear hz3 hb3
  go_wp2_with fail
  refine HG.out.mono ?_
  rintro e w4 ⟨mb, pb, pc, tb, tc, g, gn, gc, W, H, bn, F, Bd, S, rfl, -, hgi, hb4⟩
  have HB4 := Lib.hid (HB3.out.trans (hb4.mono HB3.out.size))
  have PA4 := Lib.hid (PA3.out.below hb4)
  obtain ⟨hN4, hN9, hS4, hS16⟩ := hgi.sizes
  obtain ⟨SL, hSL⟩ : ∃ SL, S.length = SL := ⟨_, rfl⟩
  rw [hSL] at hS4 hS16
  have HGI := Lib.hid hgi; have HSL := Lib.hid hSL
  have bx : ∀ wr : World, Below w4.heap.size w4 wr → wr.cell? ⟨mb, 1, none⟩ = some (.slice (some ⟨tb, 0, none⟩) SL tc) := by
    intro wr h
    have e1 := (HGI.out.below h).read.box.c 1 _ rfl
    rw [HSL.out] at e1; exact e1
  have b1_ := bx w4 (Below.refl _ _)
  have BX := Lib.hid bx
  clear hgi hb4 z0 z1 bx hSL
  go_wp2
  clear b1_
  go_loopw [9, 10, 11, 34] (fun lv _ _ iv wr => ∃ (k : Nat) (vv : Value), k ≤ SL ∧ iv = .int .i64 (k : Int) ∧ vv = lv ∧ RowN wr w4.heap.size 3 1 vv k (natCells k) ∧ Below w4.heap.size w4 wr) (fun _ _ _ iv _ => SL - (intOf iv).toNat)
  case atStart => exact ⟨0, _, Nat.zero_le _, rfl, rfl, RowN.nil _ _ _ _, Below.refl _ _⟩
  case round =>
    obtain ⟨k, vv, hk, rfl, rfl, hrow, hbw⟩ := hrel
    by_cases hlt : k < SL
    · obtain ⟨X, hX⟩ : ∃ X, S[k]? = some X := ⟨_, List.getElem?_eq_getElem (by rw [HSL.out]; exact hlt)⟩
      have hal := (HGI.out.built.surf.alive hX).1
      obtain ⟨tb', htb, -, h9⟩ := (HGI.out.below hbw).read.tris.get hX
      simp only [Option.some.injEq, Addr.mk.injEq, and_true] at htb
      subst htb
      obtain ⟨v0, v1, v2, n0, n1, n2, f0, f1, f2⟩ := X
      obtain ⟨c0, c1, c2, c3, c4, c5, c6, c7, c8⟩ := h9
      simp only [] at c0 c1 c2 c3 c4 c5 c6 c7 c8 hal
      have hv0 : (v0 != -2) = true := by simp; omega
      obtain ⟨w5, hw5, hp5, hb5, hs5⟩ := new_box wr _ rfl [.int .i64 v0, .int .i64 v1, .int .i64 v2, .int .i64 n0, .int .i64 n1, .int .i64 n2, .bool f0, .bool f1, .bool f2] 37
      have d0 := hp5.c 0 _ rfl
      obtain ⟨w6, hw6, hpn, hb6, hs6⟩ := new_box w5 _ rfl [.int .i64 (k : Int)] 3
      have hrow6 := (hrow.below hb5).below hb6
      have hbw6 : Below w4.heap.size w4 w6 := (hbw.trans (hb5.mono hbw.size)).trans (hb6.mono (by have := hbw.size; have := hb5.size; omega))
      obtain ⟨v1', w7, hrun, rown, hgrow, hkept⟩ := run_append_row (P := Try.prog) w6 w4.heap.size 45 45 3 i0 (.int .i64 0) 1 8 (by kernel_rfl) HI.out HZ0.out HZ1.out HZ2.out rfl (by intro u hu; simp [Value.cells] at hu; subst hu; exact NoWord.int _) _ k _ hrow6 ⟨w5.heap.size, 0, none⟩ 1 1 [.int .i64 (k : Int)] (by omega) rfl hpn.news (by intro u hu; simp at hu; subst hu; rfl) (by intro u hu; simp at hu; subst hu; exact NoWord.int _) (by unfold maxLen; omega) (by omega) hbw6.size
      have hbw7 : Below w4.heap.size w4 w7 := hbw6.grown hgrow hbw6.size (fun q hq => (hrow6.lt q hq).1)
      rw [← natCells_succ] at rown
      have FIN := Lib.hid (And.intro rown hbw7)
      clear hrow hbw hp5 hb5 hs5 hpn hb6 hs6 hrow6 hbw6 rown hgrow hkept hbw7 hX hal
      go_wp2_with (refine wpList_append_row rfl _ _ 45 rfl rfl rfl hrun ?_)
      exact ⟨⟨k + 1, _, by omega, by go_num, rfl, FIN.out.1, FIN.out.2⟩, by simp [intOf]; omega⟩
    · obtain rfl : SL = k := by omega
      obtain ⟨lb, lc, hvv⟩ : ∃ g c, vv = .slice (some ⟨g, 0, none⟩) SL c := by
        rcases hrow.2 with ⟨h1, h2⟩ | ⟨g, cap, cur, h1, h2, h3⟩
        · omega
        · exact ⟨g, cap, h1⟩
      subst hvv
      obtain ⟨w5, hw5⟩ : ∃ w5, w5 = wr := ⟨_, rfl⟩
      rw [← hw5] at hrow hbw
      rw [← hw5]
      clear hw5
      have hcp := mCopy_any w5 (HGI.out.below hbw).mesh (by omega) (by have := HSL.out; omega)
      have HCP := Lib.hid hcp; have HROW := Lib.hid hrow; have HBW := Lib.hid hbw
      clear hcp hrow hbw
      go_wp2_with fail
      refine HCP.out.mono ?_
      rintro e w6 ⟨mb2, pb2, pc2, tv2, rfl, hm2, -, hb6⟩
      obtain ⟨tb2, tc2, rfl, -⟩ := MeshO.sl hm2 (by have := HSL.out; omega)
      rw [HSL.out] at hm2
      have hbw6 : Below w4.heap.size w4 w6 := HBW.out.trans (hb6.mono HBW.out.size)
      obtain ⟨t, ht⟩ : ∃ t : Nat, m1.tmod (SL : Int) = (t : Int) := ⟨(m1.tmod (SL : Int)).toNat, by rw [Int.toNat_of_nonneg (Int.tmod_nonneg _ m1a)]⟩
      have htk : t < SL := by have := Int.tmod_lt_of_pos m1 (show (0 : Int) < (SL : Int) by omega); omega
      have hlc := (HROW.out.below hb6).cells (g := lb) rfl t _ (natCells_at htk)
      have p0 := (PA4.out.below hbw6).c 0 _ rfl
      have p1 := (PA4.out.below hbw6).c 1 _ rfl
      have q1 := hm2.box.c 1 _ rfl
      have hko : ((SL : Int) == 0) = false := by simp; omega
      obtain ⟨X, hX⟩ : ∃ X, S[t]? = some X := ⟨_, List.getElem?_eq_getElem (by rw [HSL.out]; exact htk)⟩
      obtain ⟨P, hP⟩ : ∃ P, gridP W H = P := ⟨_, rfl⟩
      rw [hP] at hm2 hN4
      have HPE := Lib.hid hP
      have HM2 := Lib.hid hm2; have HBW6 := Lib.hid hbw6; have HX := Lib.hid hX
      have fin : ∀ (wn : World) (S' : List TriM), MeshO 26 37 wn w5.heap.size mb2 pb2 pc2 (.slice (some ⟨tb2, 0, none⟩) SL tc2) P S' → S'.length = SL → Mut w6 wn mb2 (.slice (some ⟨tb2, 0, none⟩) SL tc2) (.slice (some ⟨tb2, 0, none⟩) SL tc2) → SoundIs P S' false →
          (Calls Try.prog 21 #[.pointer (some ⟨mb, 0, none⟩)] wn fun e w' => e = .returned (.bool true) ∧ Below wn.heap.size wn w') ∧ (∀ w', Below wn.heap.size wn w' → Calls Try.prog 21 #[.pointer (some ⟨mb2, 0, none⟩)] w' fun e w'' => e = .returned (.bool false) ∧ Below w'.heap.size w' w'') ∧ Below w.heap.size w wn := by
        intro wn S' hm hl mu hs
        have hbn : Below w4.heap.size w4 wn := HBW6.out.trans (mu.below HBW6.out.size (by have := HM2.out.low.1; have := HBW.out.size; omega) (fun q hq => by have := (HM2.out.row.lt q hq).1; have := HBW.out.size; omega))
        have hne : P ≠ [] := by intro e; rw [e] at hN4; simp at hN4
        refine ⟨Sound_any true wn (HGI.out.below hbn).read HGI.out.inP (by rw [HPE.out]; exact hne) HGI.out.sound, fun w' hb => ?_, HB4.out.trans (hbn.mono HB4.out.size)⟩
        obtain ⟨tb', tc', e1, hr⟩ := MeshO.sl (hm.below hb) (by omega)
        exact Sound_any false w' hr (by rw [← HPE.out]; exact HGI.out.inP) hne hs
      have FIN := Lib.hid fin
      clear hm2 hb6 hbw6 hX fin hP
      have hc4 : s = 0 ∨ s = 1 ∨ s = 2 ∨ s = 3 := by omega
      obtain ⟨v0, v1, v2, n0, n1, n2, f0, f1, f2⟩ := X
      rcases hc4 with rfl | rfl | rfl | rfl
      · have hdr := Drop_any t _ w6 HM2.out HX.out (HGI.out.built.surf.alive HX.out).2
        have HDR := Lib.hid hdr
        clear hdr
        go_wp2_with fail
        refine HDR.out.mono ?_
        rintro e w7 ⟨rfl, hm7, mu7⟩
        have HMN := Lib.hid hm7; have HMU := Lib.hid mu7
        clear hm7 mu7 p0 p1 q1 hlc
        obtain ⟨hA, hB, hC⟩ := FIN.out _ _ HMN.out (by rw [List.length_set]; exact HSL.out) HMU.out (spoil_gone HGI.out.built.surf HX.out)
        have HA := Lib.hid hA; have HBB := Lib.hid hB; have HC := Lib.hid hC
        clear hA hB hC
        go_wp2_with fail
        refine HA.out.mono ?_
        rintro e w8 ⟨rfl, hb8⟩
        have hB := HBB.out _ hb8
        have HB8 := Lib.hid hB; have HB9 := Lib.hid (HC.out.trans (hb8.mono HC.out.size))
        clear hB hb8
        go_wp2_with fail
        refine HB8.out.mono ?_
        rintro e w9 ⟨rfl, hb9⟩
        have FF := Lib.hid (HB9.out.trans (hb9.mono HB9.out.size))
        clear hb9
        go_wp2
        go_ret
        exact ⟨rfl, FF.out⟩
      · have hd := HM2.out.drew
        obtain ⟨c0, f0_, hma, mua⟩ := MeshO.putV hd HSL.out HX.out 0 (t * 9) (by omega) rfl v1
        obtain ⟨wa, hwa⟩ : ∃ wa, w6.drew.setCell ⟨tb2, t * 9, none⟩ (.int .i64 v1) = wa := ⟨_, rfl⟩
        rw [hwa] at hma mua
        obtain ⟨c1, -, -, -⟩ := MeshO.putV hd HSL.out HX.out 1 (t * 9 + 1) (by omega) rfl v1
        obtain ⟨ca1, fa1, hmb, mub⟩ := MeshO.putV hma (by rw [List.length_set]; exact HSL.out) (set_self HX.out) 1 (t * 9 + 1) (by omega) rfl v0
        obtain ⟨wb, hwb⟩ : ∃ wb, wa.setCell ⟨tb2, t * 9 + 1, none⟩ (.int .i64 v0) = wb := ⟨_, rfl⟩
        rw [hwb, List.set_set] at hmb
        rw [hwb] at mub
        have mu0 : Mut w6 w6.drew mb2 (.slice (some ⟨tb2, 0, none⟩) SL tc2) (.slice (some ⟨tb2, 0, none⟩) SL tc2) := (Mut.refl _ _ _).drew
        have mub' := (mu0.trans mua).trans mub
        have HMN := Lib.hid hmb; have HMU := Lib.hid mub'
        simp only [TriM.v, TriM.setV] at c0 c1 ca1
        clear hd hma mua hmb mub mu0 mub'
        go_wp2_with fail
        clear p0 p1 q1 hlc
        obtain ⟨SSs, hSSs⟩ : ∃ S : Array Bool → World → Prop, ∀ l w', S l w' ↔ ((l.getD 15 true = false → w'.cell? ⟨tb2, t * 9, none⟩ = some (.int .i64 v0)) ∧ (l.getD 19 true = false → w'.cell? ⟨tb2, t * 9 + 1, none⟩ = some (.int .i64 v1))) := ⟨_, fun _ _ => Iff.rfl⟩
        refine wp_region_noPanic ?_
        refine wp_region_G SSs 20 #[false, false, false, false, false, false, false, false, false, false, false, false, false, false, false, false, false, false, false, false] (by kernel_rfl) (by kernel_rfl) (by kernel_rfl) ((hSSs _ _).2 ⟨(fun _ => c0), (fun _ => c1)⟩) (fun hCl hHeld => ?_)
        generalize w6.drew = wd at *
        refine reg_takeG 0 ?_ ?_ ?_ (by kernel_rfl) (by kernel_rfl) (by kernel_rfl) (fun _ _ _ h => h) ?_ ?_ ?_ hCl hHeld ?_
        rotate_left 2
        · simp only [List.getElem?_toArray, List.getElem?_cons_zero]; exact rfl
        · intro l w'; rw [hSSs, hSSs]; rw [getD_set_ne (i := 0) (j := 15) true (by decide)]; rw [getD_set_ne (i := 0) (j := 19) true (by decide)]
        · rfl
        · intro w' hA; clear hA; go_simp; try with_reducible rfl
        clear hCl hHeld
        intro hCl hHeld
        simp only [List.setIfInBounds_toArray, List.set_cons_zero] at hCl hHeld
        try simp only [Act.put]
        try simp only [List.setIfInBounds_toArray, List.set_cons_zero, List.set_cons_succ]
        refine reg_takeG 1 ?_ ?_ ?_ (by kernel_rfl) (by kernel_rfl) (by kernel_rfl) (fun _ _ _ h => h) ?_ ?_ ?_ hCl hHeld ?_
        rotate_left 2
        · simp only [List.getElem?_toArray, List.getElem?_cons_succ, List.getElem?_cons_zero]; exact rfl
        · intro l w'; rw [hSSs, hSSs]; rw [getD_set_ne (i := 1) (j := 15) true (by decide)]; rw [getD_set_ne (i := 1) (j := 19) true (by decide)]
        · rfl
        · intro w' hA; clear hA; go_simp; try with_reducible rfl
        clear hCl hHeld
        intro hCl hHeld
        simp only [List.setIfInBounds_toArray, List.set_cons_zero, List.set_cons_succ] at hCl hHeld
        try simp only [Act.put]
        try simp only [List.setIfInBounds_toArray, List.set_cons_zero, List.set_cons_succ]
        refine reg_takeG 2 ?_ ?_ ?_ (by kernel_rfl) (by kernel_rfl) (by kernel_rfl) (fun _ _ _ h => h) ?_ ?_ ?_ hCl hHeld ?_
        rotate_left 2
        · simp only [List.getElem?_toArray, List.getElem?_cons_succ, List.getElem?_cons_zero]; exact rfl
        · intro l w'; rw [hSSs, hSSs]; rw [getD_set_ne (i := 2) (j := 15) true (by decide)]; rw [getD_set_ne (i := 2) (j := 19) true (by decide)]
        · rfl
        · intro w' hA; clear hA; go_simp; try with_reducible rfl
        clear hCl hHeld
        intro hCl hHeld
        simp only [List.setIfInBounds_toArray, List.set_cons_zero, List.set_cons_succ] at hCl hHeld
        try simp only [Act.put]
        try simp only [List.setIfInBounds_toArray, List.set_cons_zero, List.set_cons_succ]
        refine reg_takeG 3 ?_ ?_ ?_ (by kernel_rfl) (by kernel_rfl) (by kernel_rfl) (fun _ _ _ h => h) ?_ ?_ ?_ hCl hHeld ?_
        rotate_left 2
        · simp only [List.getElem?_toArray, List.getElem?_cons_succ, List.getElem?_cons_zero]; exact rfl
        · intro l w'; rw [hSSs, hSSs]; rw [getD_set_ne (i := 3) (j := 15) true (by decide)]; rw [getD_set_ne (i := 3) (j := 19) true (by decide)]
        · rfl
        · intro w' hA; clear hA; go_simp; try with_reducible rfl
        clear hCl hHeld
        intro hCl hHeld
        simp only [List.setIfInBounds_toArray, List.set_cons_zero, List.set_cons_succ] at hCl hHeld
        try simp only [Act.put]
        try simp only [List.setIfInBounds_toArray, List.set_cons_zero, List.set_cons_succ]
        refine reg_takeG 4 ?_ ?_ ?_ (by kernel_rfl) (by kernel_rfl) (by kernel_rfl) (fun _ _ _ h => h) ?_ ?_ ?_ hCl hHeld ?_
        rotate_left 2
        · simp only [List.getElem?_toArray, List.getElem?_cons_succ, List.getElem?_cons_zero]; exact rfl
        · intro l w'; rw [hSSs, hSSs]; rw [getD_set_ne (i := 4) (j := 15) true (by decide)]; rw [getD_set_ne (i := 4) (j := 19) true (by decide)]
        · rfl
        · intro w' hA; clear hA; go_simp; try with_reducible rfl
        clear hCl hHeld
        intro hCl hHeld
        simp only [List.setIfInBounds_toArray, List.set_cons_zero, List.set_cons_succ] at hCl hHeld
        try simp only [Act.put]
        try simp only [List.setIfInBounds_toArray, List.set_cons_zero, List.set_cons_succ]
        refine reg_takeG 5 ?_ ?_ ?_ (by kernel_rfl) (by kernel_rfl) (by kernel_rfl) (fun _ _ _ h => h) ?_ ?_ ?_ hCl hHeld ?_
        rotate_left 2
        · simp only [List.getElem?_toArray, List.getElem?_cons_succ, List.getElem?_cons_zero]; exact rfl
        · intro l w'; rw [hSSs, hSSs]; rw [getD_set_ne (i := 5) (j := 15) true (by decide)]; rw [getD_set_ne (i := 5) (j := 19) true (by decide)]
        · rfl
        · intro w' hA; clear hA; go_simp; try with_reducible rfl
        clear hCl hHeld
        intro hCl hHeld
        simp only [List.setIfInBounds_toArray, List.set_cons_zero, List.set_cons_succ] at hCl hHeld
        try simp only [Act.put]
        try simp only [List.setIfInBounds_toArray, List.set_cons_zero, List.set_cons_succ]
        refine reg_takeG 6 ?_ ?_ ?_ (by kernel_rfl) (by kernel_rfl) (by kernel_rfl) (fun _ _ _ h => h) ?_ ?_ ?_ hCl hHeld ?_
        rotate_left 2
        · simp only [List.getElem?_toArray, List.getElem?_cons_succ, List.getElem?_cons_zero]; exact rfl
        · intro l w'; rw [hSSs, hSSs]; rw [getD_set_ne (i := 6) (j := 15) true (by decide)]; rw [getD_set_ne (i := 6) (j := 19) true (by decide)]
        · rfl
        · intro w' hA; obtain ⟨l, hl, hi, hSl⟩ := hA; have hSl := (hSSs _ _).1 hSl; obtain ⟨hy0, hy1⟩ := hSl; have hz0 := hy0 (hl.not (t := 15) (by kernel_rfl) hi); have hz1 := hy1 (hl.not (t := 19) (by kernel_rfl) hi); go_simp; try with_reducible rfl
        clear hCl hHeld
        intro hCl hHeld
        simp only [List.setIfInBounds_toArray, List.set_cons_zero, List.set_cons_succ] at hCl hHeld
        try simp only [Act.put]
        try simp only [List.setIfInBounds_toArray, List.set_cons_zero, List.set_cons_succ]
        refine reg_takeG 7 ?_ ?_ ?_ (by kernel_rfl) (by kernel_rfl) (by kernel_rfl) (fun _ _ _ h => h) ?_ ?_ ?_ hCl hHeld ?_
        rotate_left 2
        · simp only [List.getElem?_toArray, List.getElem?_cons_succ, List.getElem?_cons_zero]; exact rfl
        · intro l w'; rw [hSSs, hSSs]; rw [getD_set_ne (i := 7) (j := 15) true (by decide)]; rw [getD_set_ne (i := 7) (j := 19) true (by decide)]
        · rfl
        · intro w' hA; clear hA; go_simp; try with_reducible rfl
        clear hCl hHeld
        intro hCl hHeld
        simp only [List.setIfInBounds_toArray, List.set_cons_zero, List.set_cons_succ] at hCl hHeld
        try simp only [Act.put]
        try simp only [List.setIfInBounds_toArray, List.set_cons_zero, List.set_cons_succ]
        refine reg_takeG 8 ?_ ?_ ?_ (by kernel_rfl) (by kernel_rfl) (by kernel_rfl) (fun _ _ _ h => h) ?_ ?_ ?_ hCl hHeld ?_
        rotate_left 2
        · simp only [List.getElem?_toArray, List.getElem?_cons_succ, List.getElem?_cons_zero]; exact rfl
        · intro l w'; rw [hSSs, hSSs]; rw [getD_set_ne (i := 8) (j := 15) true (by decide)]; rw [getD_set_ne (i := 8) (j := 19) true (by decide)]
        · rfl
        · intro w' hA; clear hA; go_simp; try with_reducible rfl
        clear hCl hHeld
        intro hCl hHeld
        simp only [List.setIfInBounds_toArray, List.set_cons_zero, List.set_cons_succ] at hCl hHeld
        try simp only [Act.put]
        try simp only [List.setIfInBounds_toArray, List.set_cons_zero, List.set_cons_succ]
        refine reg_takeG 9 ?_ ?_ ?_ (by kernel_rfl) (by kernel_rfl) (by kernel_rfl) (fun _ _ _ h => h) ?_ ?_ ?_ hCl hHeld ?_
        rotate_left 2
        · simp only [List.getElem?_toArray, List.getElem?_cons_succ, List.getElem?_cons_zero]; exact rfl
        · intro l w'; rw [hSSs, hSSs]; rw [getD_set_ne (i := 9) (j := 15) true (by decide)]; rw [getD_set_ne (i := 9) (j := 19) true (by decide)]
        · rfl
        · intro w' hA; clear hA; go_simp; try with_reducible rfl
        clear hCl hHeld
        intro hCl hHeld
        simp only [List.setIfInBounds_toArray, List.set_cons_zero, List.set_cons_succ] at hCl hHeld
        try simp only [Act.put]
        try simp only [List.setIfInBounds_toArray, List.set_cons_zero, List.set_cons_succ]
        refine reg_takeG 10 ?_ ?_ ?_ (by kernel_rfl) (by kernel_rfl) (by kernel_rfl) (fun _ _ _ h => h) ?_ ?_ ?_ hCl hHeld ?_
        rotate_left 2
        · simp only [List.getElem?_toArray, List.getElem?_cons_succ, List.getElem?_cons_zero]; exact rfl
        · intro l w'; rw [hSSs, hSSs]; rw [getD_set_ne (i := 10) (j := 15) true (by decide)]; rw [getD_set_ne (i := 10) (j := 19) true (by decide)]
        · rfl
        · intro w' hA; clear hA; go_simp; try with_reducible rfl
        clear hCl hHeld
        intro hCl hHeld
        simp only [List.setIfInBounds_toArray, List.set_cons_zero, List.set_cons_succ] at hCl hHeld
        try simp only [Act.put]
        try simp only [List.setIfInBounds_toArray, List.set_cons_zero, List.set_cons_succ]
        refine reg_takeG 11 ?_ ?_ ?_ (by kernel_rfl) (by kernel_rfl) (by kernel_rfl) (fun _ _ _ h => h) ?_ ?_ ?_ hCl hHeld ?_
        rotate_left 2
        · simp only [List.getElem?_toArray, List.getElem?_cons_succ, List.getElem?_cons_zero]; exact rfl
        · intro l w'; rw [hSSs, hSSs]; rw [getD_set_ne (i := 11) (j := 15) true (by decide)]; rw [getD_set_ne (i := 11) (j := 19) true (by decide)]
        · rfl
        · intro w' hA; obtain ⟨l, hl, hi, hSl⟩ := hA; have hSl := (hSSs _ _).1 hSl; obtain ⟨hy0, hy1⟩ := hSl; have hz0 := hy0 (hl.not (t := 15) (by kernel_rfl) hi); have hz1 := hy1 (hl.not (t := 19) (by kernel_rfl) hi); go_simp; try with_reducible rfl
        clear hCl hHeld
        intro hCl hHeld
        simp only [List.setIfInBounds_toArray, List.set_cons_zero, List.set_cons_succ] at hCl hHeld
        try simp only [Act.put]
        try simp only [List.setIfInBounds_toArray, List.set_cons_zero, List.set_cons_succ]
        refine reg_takeG 12 ?_ ?_ ?_ (by kernel_rfl) (by kernel_rfl) (by kernel_rfl) (fun _ _ _ h => h) ?_ ?_ ?_ hCl hHeld ?_
        rotate_left 2
        · simp only [List.getElem?_toArray, List.getElem?_cons_succ, List.getElem?_cons_zero]; exact rfl
        · intro l w'; rw [hSSs, hSSs]; rw [getD_set_ne (i := 12) (j := 15) true (by decide)]; rw [getD_set_ne (i := 12) (j := 19) true (by decide)]
        · rfl
        · intro w' hA; clear hA; go_simp; try with_reducible rfl
        clear hCl hHeld
        intro hCl hHeld
        simp only [List.setIfInBounds_toArray, List.set_cons_zero, List.set_cons_succ] at hCl hHeld
        try simp only [Act.put]
        try simp only [List.setIfInBounds_toArray, List.set_cons_zero, List.set_cons_succ]
        refine reg_takeG 13 ?_ ?_ ?_ (by kernel_rfl) (by kernel_rfl) (by kernel_rfl) (fun _ _ _ h => h) ?_ ?_ ?_ hCl hHeld ?_
        rotate_left 2
        · simp only [List.getElem?_toArray, List.getElem?_cons_succ, List.getElem?_cons_zero]; exact rfl
        · intro l w'; rw [hSSs, hSSs]; rw [getD_set_ne (i := 13) (j := 15) true (by decide)]; rw [getD_set_ne (i := 13) (j := 19) true (by decide)]
        · rfl
        · intro w' hA; clear hA; go_simp; try with_reducible rfl
        clear hCl hHeld
        intro hCl hHeld
        simp only [List.setIfInBounds_toArray, List.set_cons_zero, List.set_cons_succ] at hCl hHeld
        try simp only [Act.put]
        try simp only [List.setIfInBounds_toArray, List.set_cons_zero, List.set_cons_succ]
        refine reg_takeG 14 ?_ ?_ ?_ (by kernel_rfl) (by kernel_rfl) (by kernel_rfl) (fun _ _ _ h => h) ?_ ?_ ?_ hCl hHeld ?_
        rotate_left 2
        · simp only [List.getElem?_toArray, List.getElem?_cons_succ, List.getElem?_cons_zero]; exact rfl
        · intro l w'; rw [hSSs, hSSs]; rw [getD_set_ne (i := 14) (j := 15) true (by decide)]; rw [getD_set_ne (i := 14) (j := 19) true (by decide)]
        · rfl
        · intro w' hA; clear hA; go_simp; try with_reducible rfl
        clear hCl hHeld
        intro hCl hHeld
        simp only [List.setIfInBounds_toArray, List.set_cons_zero, List.set_cons_succ] at hCl hHeld
        try simp only [Act.put]
        try simp only [List.setIfInBounds_toArray, List.set_cons_zero, List.set_cons_succ]
        refine reg_takeG 16 ?_ ?_ ?_ (by kernel_rfl) (by kernel_rfl) (by kernel_rfl) (fun _ _ _ h => h) ?_ ?_ ?_ hCl hHeld ?_
        rotate_left 2
        · simp only [List.getElem?_toArray, List.getElem?_cons_succ, List.getElem?_cons_zero]; exact rfl
        · intro l w'; rw [hSSs, hSSs]; rw [getD_set_ne (i := 16) (j := 15) true (by decide)]; rw [getD_set_ne (i := 16) (j := 19) true (by decide)]
        · rfl
        · intro w' hA; clear hA; go_simp; try with_reducible rfl
        clear hCl hHeld
        intro hCl hHeld
        simp only [List.setIfInBounds_toArray, List.set_cons_zero, List.set_cons_succ] at hCl hHeld
        try simp only [Act.put]
        try simp only [List.setIfInBounds_toArray, List.set_cons_zero, List.set_cons_succ]
        refine reg_takeG 17 ?_ ?_ ?_ (by kernel_rfl) (by kernel_rfl) (by kernel_rfl) (fun _ _ _ h => h) ?_ ?_ ?_ hCl hHeld ?_
        rotate_left 2
        · simp only [List.getElem?_toArray, List.getElem?_cons_succ, List.getElem?_cons_zero]; exact rfl
        · intro l w'; rw [hSSs, hSSs]; rw [getD_set_ne (i := 17) (j := 15) true (by decide)]; rw [getD_set_ne (i := 17) (j := 19) true (by decide)]
        · rfl
        · intro w' hA; clear hA; go_simp; try with_reducible rfl
        clear hCl hHeld
        intro hCl hHeld
        simp only [List.setIfInBounds_toArray, List.set_cons_zero, List.set_cons_succ] at hCl hHeld
        try simp only [Act.put]
        try simp only [List.setIfInBounds_toArray, List.set_cons_zero, List.set_cons_succ]
        clear hCl hHeld
        refine reg_callG 15 ?_ (by kernel_rfl) ?_ (fun K hK => ?_)
        rotate_left 1
        · simp only [List.getElem?_toArray, List.getElem?_cons_succ, List.getElem?_cons_zero]; exact rfl
        go_simp
        try rw [hwa]
        refine hK.out _ _ ((hSSs _ _).2 ⟨(fun h => absurd h (by decide)), (fun _ => ca1)⟩) ?_
        clear hK K
        try simp only [Act.put]
        try simp only [List.setIfInBounds_toArray, List.set_cons_zero, List.set_cons_succ]
        refine reg_callG 18 ?_ (by kernel_rfl) ?_ (fun K hK => ?_)
        rotate_left 1
        · simp only [List.getElem?_toArray, List.getElem?_cons_succ, List.getElem?_cons_zero]; exact rfl
        go_simp
        refine hK.out _ _ ((hSSs _ _).2 ⟨(fun h => absurd h (by decide)), (fun _ => ca1)⟩) ?_
        clear hK K
        try simp only [Act.put]
        try simp only [List.setIfInBounds_toArray, List.set_cons_zero, List.set_cons_succ]
        refine reg_callG 19 ?_ (by kernel_rfl) ?_ (fun K hK => ?_)
        rotate_left 1
        · simp only [List.getElem?_toArray, List.getElem?_cons_succ, List.getElem?_cons_zero]; exact rfl
        go_simp
        try rw [hwb]
        refine hK.out _ _ ((hSSs _ _).2 ⟨(fun h => absurd h (by decide)), (fun h => absurd h (by decide))⟩) ?_
        clear hK K
        try simp only [Act.put]
        try simp only [List.setIfInBounds_toArray, List.set_cons_zero, List.set_cons_succ]
        refine wpAnyG_done (by kernel_rfl) ?_ _
        refine NoPanic.normal ?_
        clear hSSs SSs
        obtain ⟨hA, hB, hC⟩ := FIN.out _ _ HMN.out (by rw [List.length_set]; exact HSL.out) HMU.out (spoil_turn HGI.out.built.surf HX.out)
        have HA := Lib.hid hA; have HBB := Lib.hid hB; have HC := Lib.hid hC
        clear hA hB hC
        go_wp2_with fail
        refine HA.out.mono ?_
        rintro e w8 ⟨rfl, hb8⟩
        have hB := HBB.out _ hb8
        have HB8 := Lib.hid hB; have HB9 := Lib.hid (HC.out.trans (hb8.mono HC.out.size))
        clear hB hb8
        go_wp2_with fail
        refine HB8.out.mono ?_
        rintro e w9 ⟨rfl, hb9⟩
        have FF := Lib.hid (HB9.out.trans (hb9.mono HB9.out.size))
        clear hb9
        go_wp2
        go_ret
        exact ⟨rfl, FF.out⟩
      · obtain rfl | rfl : i = 0 ∨ i = 1 := by omega
        · obtain ⟨c3, f3, hma, mua⟩ := MeshO.putN HM2.out HSL.out HX.out 0 (t * 9 + 3) (by omega) rfl (t : Int)
          obtain ⟨wa, hwa⟩ : ∃ wa, w6.setCell ⟨tb2, t * 9 + 3, none⟩ (.int .i64 (t : Int)) = wa := ⟨_, rfl⟩
          rw [hwa] at hma mua
          have HMN := Lib.hid hma; have HMU := Lib.hid mua
          simp only [TriM.n] at c3
          have b1_ := BX.out wa (HBW6.out.trans (mua.below HBW6.out.size (by have := HM2.out.low.1; have := HBW.out.size; omega) (fun q hq => by have := (HM2.out.row.lt q hq).1; have := HBW.out.size; omega)))
          clear hma mua
          obtain ⟨hA, hB, hC⟩ := FIN.out _ _ HMN.out (by rw [List.length_set]; exact HSL.out) HMU.out (spoil_self HGI.out.built.surf HX.out (i := 0) (by omega))
          have HA := Lib.hid hA; have HBB := Lib.hid hB; have HC := Lib.hid hC
          clear hA hB hC
          go_wp2_with fail
          refine HA.out.mono ?_
          rintro e w8 ⟨rfl, hb8⟩
          have hB := HBB.out _ hb8
          have HB8 := Lib.hid hB; have HB9 := Lib.hid (HC.out.trans (hb8.mono HC.out.size))
          clear hB hb8
          go_wp2_with fail
          refine HB8.out.mono ?_
          rintro e w9 ⟨rfl, hb9⟩
          have FF := Lib.hid (HB9.out.trans (hb9.mono HB9.out.size))
          clear hb9
          go_wp2
          go_ret
          exact ⟨rfl, FF.out⟩
        · obtain ⟨c3, f3, hma, mua⟩ := MeshO.putN HM2.out HSL.out HX.out 1 (t * 9 + 3 + 1) (by omega) rfl (t : Int)
          obtain ⟨wa, hwa⟩ : ∃ wa, w6.setCell ⟨tb2, t * 9 + 3 + 1, none⟩ (.int .i64 (t : Int)) = wa := ⟨_, rfl⟩
          rw [hwa] at hma mua
          have HMN := Lib.hid hma; have HMU := Lib.hid mua
          simp only [TriM.n] at c3
          have b1_ := BX.out wa (HBW6.out.trans (mua.below HBW6.out.size (by have := HM2.out.low.1; have := HBW.out.size; omega) (fun q hq => by have := (HM2.out.row.lt q hq).1; have := HBW.out.size; omega)))
          clear hma mua
          obtain ⟨hA, hB, hC⟩ := FIN.out _ _ HMN.out (by rw [List.length_set]; exact HSL.out) HMU.out (spoil_self HGI.out.built.surf HX.out (i := 1) (by omega))
          have HA := Lib.hid hA; have HBB := Lib.hid hB; have HC := Lib.hid hC
          clear hA hB hC
          go_wp2_with fail
          refine HA.out.mono ?_
          rintro e w8 ⟨rfl, hb8⟩
          have hB := HBB.out _ hb8
          have HB8 := Lib.hid hB; have HB9 := Lib.hid (HC.out.trans (hb8.mono HC.out.size))
          clear hB hb8
          go_wp2_with fail
          refine HB8.out.mono ?_
          rintro e w9 ⟨rfl, hb9⟩
          have FF := Lib.hid (HB9.out.trans (hb9.mono HB9.out.size))
          clear hb9
          go_wp2
          go_ret
          exact ⟨rfl, FF.out⟩
      · obtain rfl | rfl : i = 0 ∨ i = 1 := by omega
        · have hd := HM2.out.drew
          obtain ⟨c6, f6, hma, mua⟩ := MeshO.putF hd HSL.out HX.out 0 (t * 9 + 6) (by omega) rfl (!f0)
          obtain ⟨wa, hwa⟩ : ∃ wa, w6.drew.setCell ⟨tb2, t * 9 + 6, none⟩ (.bool (!f0)) = wa := ⟨_, rfl⟩
          rw [hwa] at hma mua
          have mu0 : Mut w6 w6.drew mb2 (.slice (some ⟨tb2, 0, none⟩) SL tc2) (.slice (some ⟨tb2, 0, none⟩) SL tc2) := (Mut.refl _ _ _).drew
          have mub' := mu0.trans mua
          have HMN := Lib.hid hma; have HMU := Lib.hid mub'
          simp only [TriM.f] at c6
          clear hd hma mua mu0 mub'
          go_wp2_with fail
          clear p0 p1 q1 hlc
          obtain ⟨SSs, hSSs⟩ : ∃ S : Array Bool → World → Prop, ∀ l w', S l w' ↔ ((l.getD 12 true = false → w'.cell? ⟨tb2, t * 9 + 6, none⟩ = some (.bool f0))) := ⟨_, fun _ _ => Iff.rfl⟩
          refine wp_region_noPanic ?_
          refine wp_region_G SSs 13 #[false, false, false, false, false, false, false, false, false, false, false, false, false] (by kernel_rfl) (by kernel_rfl) (by kernel_rfl) ((hSSs _ _).2 (fun _ => c6)) (fun hCl hHeld => ?_)
          generalize w6.drew = wd at *
          refine reg_takeG 0 ?_ ?_ ?_ (by kernel_rfl) (by kernel_rfl) (by kernel_rfl) (fun _ _ _ h => h) ?_ ?_ ?_ hCl hHeld ?_
          rotate_left 2
          · simp only [List.getElem?_toArray, List.getElem?_cons_zero]; exact rfl
          · intro l w'; rw [hSSs, hSSs]; rw [getD_set_ne (i := 0) (j := 12) true (by decide)]
          · rfl
          · intro w' hA; clear hA; go_simp; try with_reducible rfl
          clear hCl hHeld
          intro hCl hHeld
          simp only [List.setIfInBounds_toArray, List.set_cons_zero] at hCl hHeld
          try simp only [Act.put]
          try simp only [List.setIfInBounds_toArray, List.set_cons_zero, List.set_cons_succ]
          refine reg_takeG 1 ?_ ?_ ?_ (by kernel_rfl) (by kernel_rfl) (by kernel_rfl) (fun _ _ _ h => h) ?_ ?_ ?_ hCl hHeld ?_
          rotate_left 2
          · simp only [List.getElem?_toArray, List.getElem?_cons_succ, List.getElem?_cons_zero]; exact rfl
          · intro l w'; rw [hSSs, hSSs]; rw [getD_set_ne (i := 1) (j := 12) true (by decide)]
          · rfl
          · intro w' hA; clear hA; go_simp; try with_reducible rfl
          clear hCl hHeld
          intro hCl hHeld
          simp only [List.setIfInBounds_toArray, List.set_cons_zero, List.set_cons_succ] at hCl hHeld
          try simp only [Act.put]
          try simp only [List.setIfInBounds_toArray, List.set_cons_zero, List.set_cons_succ]
          refine reg_takeG 2 ?_ ?_ ?_ (by kernel_rfl) (by kernel_rfl) (by kernel_rfl) (fun _ _ _ h => h) ?_ ?_ ?_ hCl hHeld ?_
          rotate_left 2
          · simp only [List.getElem?_toArray, List.getElem?_cons_succ, List.getElem?_cons_zero]; exact rfl
          · intro l w'; rw [hSSs, hSSs]; rw [getD_set_ne (i := 2) (j := 12) true (by decide)]
          · rfl
          · intro w' hA; clear hA; go_simp; try with_reducible rfl
          clear hCl hHeld
          intro hCl hHeld
          simp only [List.setIfInBounds_toArray, List.set_cons_zero, List.set_cons_succ] at hCl hHeld
          try simp only [Act.put]
          try simp only [List.setIfInBounds_toArray, List.set_cons_zero, List.set_cons_succ]
          refine reg_takeG 3 ?_ ?_ ?_ (by kernel_rfl) (by kernel_rfl) (by kernel_rfl) (fun _ _ _ h => h) ?_ ?_ ?_ hCl hHeld ?_
          rotate_left 2
          · simp only [List.getElem?_toArray, List.getElem?_cons_succ, List.getElem?_cons_zero]; exact rfl
          · intro l w'; rw [hSSs, hSSs]; rw [getD_set_ne (i := 3) (j := 12) true (by decide)]
          · rfl
          · intro w' hA; clear hA; go_simp; try with_reducible rfl
          clear hCl hHeld
          intro hCl hHeld
          simp only [List.setIfInBounds_toArray, List.set_cons_zero, List.set_cons_succ] at hCl hHeld
          try simp only [Act.put]
          try simp only [List.setIfInBounds_toArray, List.set_cons_zero, List.set_cons_succ]
          refine reg_takeG 4 ?_ ?_ ?_ (by kernel_rfl) (by kernel_rfl) (by kernel_rfl) (fun _ _ _ h => h) ?_ ?_ ?_ hCl hHeld ?_
          rotate_left 2
          · simp only [List.getElem?_toArray, List.getElem?_cons_succ, List.getElem?_cons_zero]; exact rfl
          · intro l w'; rw [hSSs, hSSs]; rw [getD_set_ne (i := 4) (j := 12) true (by decide)]
          · rfl
          · intro w' hA; clear hA; go_simp; try with_reducible rfl
          clear hCl hHeld
          intro hCl hHeld
          simp only [List.setIfInBounds_toArray, List.set_cons_zero, List.set_cons_succ] at hCl hHeld
          try simp only [Act.put]
          try simp only [List.setIfInBounds_toArray, List.set_cons_zero, List.set_cons_succ]
          refine reg_takeG 5 ?_ ?_ ?_ (by kernel_rfl) (by kernel_rfl) (by kernel_rfl) (fun _ _ _ h => h) ?_ ?_ ?_ hCl hHeld ?_
          rotate_left 2
          · simp only [List.getElem?_toArray, List.getElem?_cons_succ, List.getElem?_cons_zero]; exact rfl
          · intro l w'; rw [hSSs, hSSs]; rw [getD_set_ne (i := 5) (j := 12) true (by decide)]
          · rfl
          · intro w' hA; clear hA; go_simp; try with_reducible rfl
          clear hCl hHeld
          intro hCl hHeld
          simp only [List.setIfInBounds_toArray, List.set_cons_zero, List.set_cons_succ] at hCl hHeld
          try simp only [Act.put]
          try simp only [List.setIfInBounds_toArray, List.set_cons_zero, List.set_cons_succ]
          refine reg_takeG 6 ?_ ?_ ?_ (by kernel_rfl) (by kernel_rfl) (by kernel_rfl) (fun _ _ _ h => h) ?_ ?_ ?_ hCl hHeld ?_
          rotate_left 2
          · simp only [List.getElem?_toArray, List.getElem?_cons_succ, List.getElem?_cons_zero]; exact rfl
          · intro l w'; rw [hSSs, hSSs]; rw [getD_set_ne (i := 6) (j := 12) true (by decide)]
          · rfl
          · intro w' hA; clear hA; go_simp; try with_reducible rfl
          clear hCl hHeld
          intro hCl hHeld
          simp only [List.setIfInBounds_toArray, List.set_cons_zero, List.set_cons_succ] at hCl hHeld
          try simp only [Act.put]
          try simp only [List.setIfInBounds_toArray, List.set_cons_zero, List.set_cons_succ]
          refine reg_takeG 7 ?_ ?_ ?_ (by kernel_rfl) (by kernel_rfl) (by kernel_rfl) (fun _ _ _ h => h) ?_ ?_ ?_ hCl hHeld ?_
          rotate_left 2
          · simp only [List.getElem?_toArray, List.getElem?_cons_succ, List.getElem?_cons_zero]; exact rfl
          · intro l w'; rw [hSSs, hSSs]; rw [getD_set_ne (i := 7) (j := 12) true (by decide)]
          · rfl
          · intro w' hA; obtain ⟨l, hl, hi, hSl⟩ := hA; have hSl := (hSSs _ _).1 hSl; have hy0 := hSl; have hz0 := hy0 (hl.not (t := 12) (by kernel_rfl) hi); go_simp; try with_reducible rfl
          clear hCl hHeld
          intro hCl hHeld
          simp only [List.setIfInBounds_toArray, List.set_cons_zero, List.set_cons_succ] at hCl hHeld
          try simp only [Act.put]
          try simp only [List.setIfInBounds_toArray, List.set_cons_zero, List.set_cons_succ]
          refine reg_takeG 8 ?_ ?_ ?_ (by kernel_rfl) (by kernel_rfl) (by kernel_rfl) (fun _ _ _ h => h) ?_ ?_ ?_ hCl hHeld ?_
          rotate_left 2
          · simp only [List.getElem?_toArray, List.getElem?_cons_succ, List.getElem?_cons_zero]; exact rfl
          · intro l w'; rw [hSSs, hSSs]; rw [getD_set_ne (i := 8) (j := 12) true (by decide)]
          · rfl
          · intro w' hA; clear hA; go_simp; try with_reducible rfl
          clear hCl hHeld
          intro hCl hHeld
          simp only [List.setIfInBounds_toArray, List.set_cons_zero, List.set_cons_succ] at hCl hHeld
          try simp only [Act.put]
          try simp only [List.setIfInBounds_toArray, List.set_cons_zero, List.set_cons_succ]
          refine reg_takeG 9 ?_ ?_ ?_ (by kernel_rfl) (by kernel_rfl) (by kernel_rfl) (fun _ _ _ h => h) ?_ ?_ ?_ hCl hHeld ?_
          rotate_left 2
          · simp only [List.getElem?_toArray, List.getElem?_cons_succ, List.getElem?_cons_zero]; exact rfl
          · intro l w'; rw [hSSs, hSSs]; rw [getD_set_ne (i := 9) (j := 12) true (by decide)]
          · rfl
          · intro w' hA; clear hA; go_simp; try with_reducible rfl
          clear hCl hHeld
          intro hCl hHeld
          simp only [List.setIfInBounds_toArray, List.set_cons_zero, List.set_cons_succ] at hCl hHeld
          try simp only [Act.put]
          try simp only [List.setIfInBounds_toArray, List.set_cons_zero, List.set_cons_succ]
          refine reg_takeG 10 ?_ ?_ ?_ (by kernel_rfl) (by kernel_rfl) (by kernel_rfl) (fun _ _ _ h => h) ?_ ?_ ?_ hCl hHeld ?_
          rotate_left 2
          · simp only [List.getElem?_toArray, List.getElem?_cons_succ, List.getElem?_cons_zero]; exact rfl
          · intro l w'; rw [hSSs, hSSs]; rw [getD_set_ne (i := 10) (j := 12) true (by decide)]
          · rfl
          · intro w' hA; clear hA; go_simp; try with_reducible rfl
          clear hCl hHeld
          intro hCl hHeld
          simp only [List.setIfInBounds_toArray, List.set_cons_zero, List.set_cons_succ] at hCl hHeld
          try simp only [Act.put]
          try simp only [List.setIfInBounds_toArray, List.set_cons_zero, List.set_cons_succ]
          refine reg_takeG 11 ?_ ?_ ?_ (by kernel_rfl) (by kernel_rfl) (by kernel_rfl) (fun _ _ _ h => h) ?_ ?_ ?_ hCl hHeld ?_
          rotate_left 2
          · simp only [List.getElem?_toArray, List.getElem?_cons_succ, List.getElem?_cons_zero]; exact rfl
          · intro l w'; rw [hSSs, hSSs]; rw [getD_set_ne (i := 11) (j := 12) true (by decide)]
          · rfl
          · intro w' hA; clear hA; go_simp; try with_reducible rfl
          clear hCl hHeld
          intro hCl hHeld
          simp only [List.setIfInBounds_toArray, List.set_cons_zero, List.set_cons_succ] at hCl hHeld
          try simp only [Act.put]
          try simp only [List.setIfInBounds_toArray, List.set_cons_zero, List.set_cons_succ]
          clear hCl hHeld
          refine reg_callG 12 ?_ (by kernel_rfl) ?_ (fun K hK => ?_)
          rotate_left 1
          · simp only [List.getElem?_toArray, List.getElem?_cons_succ, List.getElem?_cons_zero]; exact rfl
          go_simp
          try rw [hwa]
          refine hK.out _ _ ((hSSs _ _).2 (fun h => absurd h (by decide))) ?_
          clear hK K
          try simp only [Act.put]
          try simp only [List.setIfInBounds_toArray, List.set_cons_zero, List.set_cons_succ]
          refine wpAnyG_done (by kernel_rfl) ?_ _
          refine NoPanic.normal ?_
          clear hSSs SSs
          obtain ⟨hA, hB, hC⟩ := FIN.out _ _ HMN.out (by rw [List.length_set]; exact HSL.out) HMU.out (spoil_fault HGI.out.built.surf (faF_comm F) HX.out (i := 0) (by omega))
          have HA := Lib.hid hA; have HBB := Lib.hid hB; have HC := Lib.hid hC
          clear hA hB hC
          go_wp2_with fail
          refine HA.out.mono ?_
          rintro e w8 ⟨rfl, hb8⟩
          have hB := HBB.out _ hb8
          have HB8 := Lib.hid hB; have HB9 := Lib.hid (HC.out.trans (hb8.mono HC.out.size))
          clear hB hb8
          go_wp2_with fail
          refine HB8.out.mono ?_
          rintro e w9 ⟨rfl, hb9⟩
          have FF := Lib.hid (HB9.out.trans (hb9.mono HB9.out.size))
          clear hb9
          go_wp2
          go_ret
          exact ⟨rfl, FF.out⟩
        · have hd := HM2.out.drew
          obtain ⟨c6, f6, hma, mua⟩ := MeshO.putF hd HSL.out HX.out 1 (t * 9 + 6 + 1) (by omega) rfl (!f1)
          obtain ⟨wa, hwa⟩ : ∃ wa, w6.drew.setCell ⟨tb2, t * 9 + 6 + 1, none⟩ (.bool (!f1)) = wa := ⟨_, rfl⟩
          rw [hwa] at hma mua
          have mu0 : Mut w6 w6.drew mb2 (.slice (some ⟨tb2, 0, none⟩) SL tc2) (.slice (some ⟨tb2, 0, none⟩) SL tc2) := (Mut.refl _ _ _).drew
          have mub' := mu0.trans mua
          have HMN := Lib.hid hma; have HMU := Lib.hid mub'
          simp only [TriM.f] at c6
          clear hd hma mua mu0 mub'
          go_wp2_with fail
          clear p0 p1 q1 hlc
          obtain ⟨SSs, hSSs⟩ : ∃ S : Array Bool → World → Prop, ∀ l w', S l w' ↔ ((l.getD 12 true = false → w'.cell? ⟨tb2, t * 9 + 6 + 1, none⟩ = some (.bool f1))) := ⟨_, fun _ _ => Iff.rfl⟩
          refine wp_region_noPanic ?_
          refine wp_region_G SSs 13 #[false, false, false, false, false, false, false, false, false, false, false, false, false] (by kernel_rfl) (by kernel_rfl) (by kernel_rfl) ((hSSs _ _).2 (fun _ => c6)) (fun hCl hHeld => ?_)
          generalize w6.drew = wd at *
          refine reg_takeG 0 ?_ ?_ ?_ (by kernel_rfl) (by kernel_rfl) (by kernel_rfl) (fun _ _ _ h => h) ?_ ?_ ?_ hCl hHeld ?_
          rotate_left 2
          · simp only [List.getElem?_toArray, List.getElem?_cons_zero]; exact rfl
          · intro l w'; rw [hSSs, hSSs]; rw [getD_set_ne (i := 0) (j := 12) true (by decide)]
          · rfl
          · intro w' hA; clear hA; go_simp; try with_reducible rfl
          clear hCl hHeld
          intro hCl hHeld
          simp only [List.setIfInBounds_toArray, List.set_cons_zero] at hCl hHeld
          try simp only [Act.put]
          try simp only [List.setIfInBounds_toArray, List.set_cons_zero, List.set_cons_succ]
          refine reg_takeG 1 ?_ ?_ ?_ (by kernel_rfl) (by kernel_rfl) (by kernel_rfl) (fun _ _ _ h => h) ?_ ?_ ?_ hCl hHeld ?_
          rotate_left 2
          · simp only [List.getElem?_toArray, List.getElem?_cons_succ, List.getElem?_cons_zero]; exact rfl
          · intro l w'; rw [hSSs, hSSs]; rw [getD_set_ne (i := 1) (j := 12) true (by decide)]
          · rfl
          · intro w' hA; clear hA; go_simp; try with_reducible rfl
          clear hCl hHeld
          intro hCl hHeld
          simp only [List.setIfInBounds_toArray, List.set_cons_zero, List.set_cons_succ] at hCl hHeld
          try simp only [Act.put]
          try simp only [List.setIfInBounds_toArray, List.set_cons_zero, List.set_cons_succ]
          refine reg_takeG 2 ?_ ?_ ?_ (by kernel_rfl) (by kernel_rfl) (by kernel_rfl) (fun _ _ _ h => h) ?_ ?_ ?_ hCl hHeld ?_
          rotate_left 2
          · simp only [List.getElem?_toArray, List.getElem?_cons_succ, List.getElem?_cons_zero]; exact rfl
          · intro l w'; rw [hSSs, hSSs]; rw [getD_set_ne (i := 2) (j := 12) true (by decide)]
          · rfl
          · intro w' hA; clear hA; go_simp; try with_reducible rfl
          clear hCl hHeld
          intro hCl hHeld
          simp only [List.setIfInBounds_toArray, List.set_cons_zero, List.set_cons_succ] at hCl hHeld
          try simp only [Act.put]
          try simp only [List.setIfInBounds_toArray, List.set_cons_zero, List.set_cons_succ]
          refine reg_takeG 3 ?_ ?_ ?_ (by kernel_rfl) (by kernel_rfl) (by kernel_rfl) (fun _ _ _ h => h) ?_ ?_ ?_ hCl hHeld ?_
          rotate_left 2
          · simp only [List.getElem?_toArray, List.getElem?_cons_succ, List.getElem?_cons_zero]; exact rfl
          · intro l w'; rw [hSSs, hSSs]; rw [getD_set_ne (i := 3) (j := 12) true (by decide)]
          · rfl
          · intro w' hA; clear hA; go_simp; try with_reducible rfl
          clear hCl hHeld
          intro hCl hHeld
          simp only [List.setIfInBounds_toArray, List.set_cons_zero, List.set_cons_succ] at hCl hHeld
          try simp only [Act.put]
          try simp only [List.setIfInBounds_toArray, List.set_cons_zero, List.set_cons_succ]
          refine reg_takeG 4 ?_ ?_ ?_ (by kernel_rfl) (by kernel_rfl) (by kernel_rfl) (fun _ _ _ h => h) ?_ ?_ ?_ hCl hHeld ?_
          rotate_left 2
          · simp only [List.getElem?_toArray, List.getElem?_cons_succ, List.getElem?_cons_zero]; exact rfl
          · intro l w'; rw [hSSs, hSSs]; rw [getD_set_ne (i := 4) (j := 12) true (by decide)]
          · rfl
          · intro w' hA; clear hA; go_simp; try with_reducible rfl
          clear hCl hHeld
          intro hCl hHeld
          simp only [List.setIfInBounds_toArray, List.set_cons_zero, List.set_cons_succ] at hCl hHeld
          try simp only [Act.put]
          try simp only [List.setIfInBounds_toArray, List.set_cons_zero, List.set_cons_succ]
          refine reg_takeG 5 ?_ ?_ ?_ (by kernel_rfl) (by kernel_rfl) (by kernel_rfl) (fun _ _ _ h => h) ?_ ?_ ?_ hCl hHeld ?_
          rotate_left 2
          · simp only [List.getElem?_toArray, List.getElem?_cons_succ, List.getElem?_cons_zero]; exact rfl
          · intro l w'; rw [hSSs, hSSs]; rw [getD_set_ne (i := 5) (j := 12) true (by decide)]
          · rfl
          · intro w' hA; clear hA; go_simp; try with_reducible rfl
          clear hCl hHeld
          intro hCl hHeld
          simp only [List.setIfInBounds_toArray, List.set_cons_zero, List.set_cons_succ] at hCl hHeld
          try simp only [Act.put]
          try simp only [List.setIfInBounds_toArray, List.set_cons_zero, List.set_cons_succ]
          refine reg_takeG 6 ?_ ?_ ?_ (by kernel_rfl) (by kernel_rfl) (by kernel_rfl) (fun _ _ _ h => h) ?_ ?_ ?_ hCl hHeld ?_
          rotate_left 2
          · simp only [List.getElem?_toArray, List.getElem?_cons_succ, List.getElem?_cons_zero]; exact rfl
          · intro l w'; rw [hSSs, hSSs]; rw [getD_set_ne (i := 6) (j := 12) true (by decide)]
          · rfl
          · intro w' hA; clear hA; go_simp; try with_reducible rfl
          clear hCl hHeld
          intro hCl hHeld
          simp only [List.setIfInBounds_toArray, List.set_cons_zero, List.set_cons_succ] at hCl hHeld
          try simp only [Act.put]
          try simp only [List.setIfInBounds_toArray, List.set_cons_zero, List.set_cons_succ]
          refine reg_takeG 7 ?_ ?_ ?_ (by kernel_rfl) (by kernel_rfl) (by kernel_rfl) (fun _ _ _ h => h) ?_ ?_ ?_ hCl hHeld ?_
          rotate_left 2
          · simp only [List.getElem?_toArray, List.getElem?_cons_succ, List.getElem?_cons_zero]; exact rfl
          · intro l w'; rw [hSSs, hSSs]; rw [getD_set_ne (i := 7) (j := 12) true (by decide)]
          · rfl
          · intro w' hA; obtain ⟨l, hl, hi, hSl⟩ := hA; have hSl := (hSSs _ _).1 hSl; have hy0 := hSl; have hz0 := hy0 (hl.not (t := 12) (by kernel_rfl) hi); go_simp; try with_reducible rfl
          clear hCl hHeld
          intro hCl hHeld
          simp only [List.setIfInBounds_toArray, List.set_cons_zero, List.set_cons_succ] at hCl hHeld
          try simp only [Act.put]
          try simp only [List.setIfInBounds_toArray, List.set_cons_zero, List.set_cons_succ]
          refine reg_takeG 8 ?_ ?_ ?_ (by kernel_rfl) (by kernel_rfl) (by kernel_rfl) (fun _ _ _ h => h) ?_ ?_ ?_ hCl hHeld ?_
          rotate_left 2
          · simp only [List.getElem?_toArray, List.getElem?_cons_succ, List.getElem?_cons_zero]; exact rfl
          · intro l w'; rw [hSSs, hSSs]; rw [getD_set_ne (i := 8) (j := 12) true (by decide)]
          · rfl
          · intro w' hA; clear hA; go_simp; try with_reducible rfl
          clear hCl hHeld
          intro hCl hHeld
          simp only [List.setIfInBounds_toArray, List.set_cons_zero, List.set_cons_succ] at hCl hHeld
          try simp only [Act.put]
          try simp only [List.setIfInBounds_toArray, List.set_cons_zero, List.set_cons_succ]
          refine reg_takeG 9 ?_ ?_ ?_ (by kernel_rfl) (by kernel_rfl) (by kernel_rfl) (fun _ _ _ h => h) ?_ ?_ ?_ hCl hHeld ?_
          rotate_left 2
          · simp only [List.getElem?_toArray, List.getElem?_cons_succ, List.getElem?_cons_zero]; exact rfl
          · intro l w'; rw [hSSs, hSSs]; rw [getD_set_ne (i := 9) (j := 12) true (by decide)]
          · rfl
          · intro w' hA; clear hA; go_simp; try with_reducible rfl
          clear hCl hHeld
          intro hCl hHeld
          simp only [List.setIfInBounds_toArray, List.set_cons_zero, List.set_cons_succ] at hCl hHeld
          try simp only [Act.put]
          try simp only [List.setIfInBounds_toArray, List.set_cons_zero, List.set_cons_succ]
          refine reg_takeG 10 ?_ ?_ ?_ (by kernel_rfl) (by kernel_rfl) (by kernel_rfl) (fun _ _ _ h => h) ?_ ?_ ?_ hCl hHeld ?_
          rotate_left 2
          · simp only [List.getElem?_toArray, List.getElem?_cons_succ, List.getElem?_cons_zero]; exact rfl
          · intro l w'; rw [hSSs, hSSs]; rw [getD_set_ne (i := 10) (j := 12) true (by decide)]
          · rfl
          · intro w' hA; clear hA; go_simp; try with_reducible rfl
          clear hCl hHeld
          intro hCl hHeld
          simp only [List.setIfInBounds_toArray, List.set_cons_zero, List.set_cons_succ] at hCl hHeld
          try simp only [Act.put]
          try simp only [List.setIfInBounds_toArray, List.set_cons_zero, List.set_cons_succ]
          refine reg_takeG 11 ?_ ?_ ?_ (by kernel_rfl) (by kernel_rfl) (by kernel_rfl) (fun _ _ _ h => h) ?_ ?_ ?_ hCl hHeld ?_
          rotate_left 2
          · simp only [List.getElem?_toArray, List.getElem?_cons_succ, List.getElem?_cons_zero]; exact rfl
          · intro l w'; rw [hSSs, hSSs]; rw [getD_set_ne (i := 11) (j := 12) true (by decide)]
          · rfl
          · intro w' hA; clear hA; go_simp; try with_reducible rfl
          clear hCl hHeld
          intro hCl hHeld
          simp only [List.setIfInBounds_toArray, List.set_cons_zero, List.set_cons_succ] at hCl hHeld
          try simp only [Act.put]
          try simp only [List.setIfInBounds_toArray, List.set_cons_zero, List.set_cons_succ]
          clear hCl hHeld
          refine reg_callG 12 ?_ (by kernel_rfl) ?_ (fun K hK => ?_)
          rotate_left 1
          · simp only [List.getElem?_toArray, List.getElem?_cons_succ, List.getElem?_cons_zero]; exact rfl
          go_simp
          try rw [hwa]
          refine hK.out _ _ ((hSSs _ _).2 (fun h => absurd h (by decide))) ?_
          clear hK K
          try simp only [Act.put]
          try simp only [List.setIfInBounds_toArray, List.set_cons_zero, List.set_cons_succ]
          refine wpAnyG_done (by kernel_rfl) ?_ _
          refine NoPanic.normal ?_
          clear hSSs SSs
          obtain ⟨hA, hB, hC⟩ := FIN.out _ _ HMN.out (by rw [List.length_set]; exact HSL.out) HMU.out (spoil_fault HGI.out.built.surf (faF_comm F) HX.out (i := 1) (by omega))
          have HA := Lib.hid hA; have HBB := Lib.hid hB; have HC := Lib.hid hC
          clear hA hB hC
          go_wp2_with fail
          refine HA.out.mono ?_
          rintro e w8 ⟨rfl, hb8⟩
          have hB := HBB.out _ hb8
          have HB8 := Lib.hid hB; have HB9 := Lib.hid (HC.out.trans (hb8.mono HC.out.size))
          clear hB hb8
          go_wp2_with fail
          refine HB8.out.mono ?_
          rintro e w9 ⟨rfl, hb9⟩
          have FF := Lib.hid (HB9.out.trans (hb9.mono HB9.out.size))
          clear hb9
          go_wp2
          go_ret
          exact ⟨rfl, FF.out⟩
end Go.Proofs.Ytaaeghcacjmjeaa
