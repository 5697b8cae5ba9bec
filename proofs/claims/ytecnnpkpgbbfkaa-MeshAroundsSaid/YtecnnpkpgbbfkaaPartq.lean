/- The statements' Grid, 2 by 1. -/
import Derived.Test.YtecnnpkpgbbfkaaPartp
import Derived.Test.YtecnnpkpgbbfkaaPartm
import Derived.Test.YtecnnpkpgbbfkaaParto
namespace Go.Proofs.Ytecnnpkpgbbfkaa
open Go.RowKit Go.MagM
set_option maxRecDepth 100000 in
set_option maxHeartbeats 16000000 in
theorem Grid21_any (w0 h0 b f : Int) (bn : Nat) (hbn : bn < 16) (e1 : bits .and .i64 w0 1 = 1) (e2 : bits .and .i64 h0 1 = 0) (hbit : ∀ k : Nat, k < 4 → bitB b k = bn.testBit k) (w : World) :
    Calls Try.prog 6 #[.int .i64 w0, .int .i64 h0, .int .u32 b, .int .u32 f] w fun e w' => ∃ (mb g c : Nat) (F : Int → Int → Bool), e = .returned (.tuple #[.pointer (some ⟨mb, 0, none⟩), .slice (some ⟨g, 0, none⟩) 4 c]) ∧ BuildEnd 62 49 F w.heap.size (gridP 2 1) (gridT 2 1 bn) mb w' ∧ TrIn w' g ((gridT 2 1 bn).map realV) ∧ w.heap.size ≤ g ∧ Below w.heap.size w w' := by
  have ok := grid_ok (w := 2) (h := 1) (by omega) (by omega) hbn
  have hm := grid_has (w := 2) (h := 1) (by omega) (by omega) hbn
  have hps : InPs (gridP 2 1) := grid_inPs (by omega) (by omega)
  have OK := Lib.hid ok; have HM := Lib.hid hm; have HPS := Lib.hid hps; have HBIT := Lib.hid hbit
  clear ok hm hps hbit
  obtain ⟨i0, hi, hz0, hz1, hz2⟩ := info_parts infoPt
  have HI := Lib.hid hi; have HZ0 := Lib.hid hz0; have HZ1 := Lib.hid hz1; have HZ2 := Lib.hid hz2
  obtain ⟨j0, hj, hy0, hy1, hy2⟩ := info_parts infoE3
  have HJ := Lib.hid hj; have HY0 := Lib.hid hy0; have HY1 := Lib.hid hy1; have HY2 := Lib.hid hy2
  clear hi hz0 hz1 hz2 hj hy0 hy1 hy2
  obtain ⟨w1, hw1, pw0, hB1, hs1⟩ := new_box w _ rfl [.int .i64 w0] 3
  have sc := pw0.c 0 _ rfl; have sf := pw0.f 0 _ rfl
  obtain ⟨w2, hw2⟩ : ∃ w2, w1.setCell ⟨w.heap.size, 0, none⟩ (.int .i64 2) = w2 := ⟨_, rfl⟩
  have pw2 : Box w2 w.heap.size [.int .i64 2] := by rw [← hw2]; exact pw0.set 0 (.int .i64 2)
  have hB2 : Below w.heap.size w w2 := by rw [← hw2]; exact hB1.setCell (p := ⟨w.heap.size, 0, none⟩) (by simp only []; omega) _
  have hz2 : w.heap.size + 1 ≤ w2.heap.size := by have := pw2.lt; omega
  have PW2 := Lib.hid pw2; have HB2 := Lib.hid hB2; have HZS := Lib.hid hz2
  clear pw0 hB1 hs1 pw2 hB2 hz2
  go_enter Try.func6, Try.ntmps6
  go_wp2
  clear sc sf hw1 hw2
  go_loopw [10, 11, 12, 35] (fun pv _ _ iv wr => ∃ (y : Nat) (vv : Value), y ≤ 2 ∧ iv = .int .i64 (y : Int) ∧ vv = pv ∧ RowN wr (w.heap.size + 1) 62 2 vv (y * 3) (ptsCells ((gridP 2 1).take (y * 3))) ∧ Box wr w.heap.size [.int .i64 2] ∧ Below w.heap.size w wr ∧ w.heap.size + 1 ≤ wr.heap.size) (fun _ _ _ iv _ => 2 - (intOf iv).toNat)
  case atStart => exact ⟨0, _, Nat.zero_le _, rfl, rfl, RowN.nil _ _ _ _, PW2.out, HB2.out, HZS.out⟩
  case round =>
    obtain ⟨y, vv, hy, rfl, rfl, hrow, hbx, hbw, hsz⟩ := hrel
    by_cases hlt : y < 2
    · have hyd : decide ((y : Int) < 2) = true := decide_eq_true (by omega)
      have cw := hbx.c 0 _ rfl
      have HROW := Lib.hid hrow; have HBX := Lib.hid hbx; have HBW := Lib.hid hbw; have HSZ := Lib.hid hsz
      clear hrow hbx hbw hsz
      go_wp2
      clear cw
      go_loopw [10, 12, 40] (fun pv _ iv wr => ∃ (x : Nat) (vv : Value), x ≤ 3 ∧ iv = .int .i64 (x : Int) ∧ vv = pv ∧ RowN wr (w.heap.size + 1) 62 2 vv (y * 3 + x) (ptsCells ((gridP 2 1).take (y * 3 + x))) ∧ Box wr w.heap.size [.int .i64 2] ∧ Below w.heap.size w wr ∧ w.heap.size + 1 ≤ wr.heap.size) (fun _ _ iv _ => 3 - (intOf iv).toNat)
      case atStart => exact ⟨0, _, Nat.zero_le _, rfl, rfl, HROW.out, HBX.out, HBW.out, HSZ.out⟩
      case round =>
        obtain ⟨x, vv, hx, rfl, rfl, hrow, hbx, hbw, hsz⟩ := hrel
        by_cases hlx : x < 3
        · have hel := gridP_at (w := 2) (h := 1) (by omega) (by omega) (x := x) (y := y) (by omega) (by omega)
          have hx2 : IntKind.i64.wrap (2 * (x : Int)) = 2 * (x : Int) := by rw [IntKind.wrap_i64]; omega
          have hy2 : IntKind.i64.wrap (2 * (y : Int)) = 2 * (y : Int) := by rw [IntKind.wrap_i64]; omega
          obtain ⟨w3, hw3, hpn, hb3, hs3⟩ := new_box wr _ rfl [.int .i64 (2 * (x : Int)), .int .i64 (2 * (y : Int))] 62
          have hrow3 := hrow.below hb3
          have hbx3 := hbx.below hb3
          have hbw3 := hbw.trans (hb3.mono hbw.size)
          obtain ⟨v1, w4, hrun, rown, hgrow, hkept⟩ := run_append_row (P := Try.prog) w3 (w.heap.size + 1) 40 40 62 i0 (.agg #[.int .i64 0, .int .i64 0]) 2 16 (by kernel_rfl) HI.out HZ0.out HZ1.out HZ2.out rfl (noWordI2 _ _) _ (y * 3 + x) _ hrow3 ⟨wr.heap.size, 0, none⟩ 1 1 [.int .i64 (2 * (x : Int)), .int .i64 (2 * (y : Int))] (by omega) rfl hpn.news (by intro u hu; simp at hu; rcases hu with rfl | rfl <;> rfl) (noWordI2 _ _) (by unfold maxLen; omega) (by omega) (by omega)
          have hne : ∀ k, vv.ownBlock = some k → w.heap.size + 1 ≤ k := fun k hk => (hrow3.lt k hk).1
          have hbx4 := hbx3.grown hgrow (fun e => by have := hne _ e; omega) hbx3.lt
          have hbw4 : Below w.heap.size w w4 := hbw3.grown hgrow (by omega) (fun k hk => by have := hne k hk; omega)
          have htk : ptsCells ((gridP 2 1).take (y * 3 + x)) ++ [.int .i64 (2 * (x : Int)), .int .i64 (2 * (y : Int))] = ptsCells ((gridP 2 1).take (y * 3 + (x + 1))) := by
            rw [← Nat.add_assoc, List.take_add_one, hel, ptsCells_app]; rfl
          rw [htk] at rown
          have FIN := Lib.hid (And.intro rown (And.intro hbx4 (And.intro hbw4 (show w.heap.size + 1 ≤ w4.heap.size by have := hgrow.size; omega))))
          clear hrow hbx hbw hsz hpn hb3 hs3 hrow3 hbx3 hbw3 rown hgrow hkept hne hbx4 hbw4 htk hel
          go_wp2_with (refine wpList_append_row rfl _ _ 40 rfl rfl rfl hrun ?_)
          have FI := FIN.out
          exact ⟨⟨x + 1, _, by omega, by go_num, rfl, FI.1, FI.2.1, FI.2.2.1, FI.2.2.2⟩, by simp [intOf]; omega⟩
        · obtain rfl : x = 3 := by omega
          have FIN := Lib.hid (And.intro hrow (And.intro hbx (And.intro hbw hsz)))
          clear hrow hbx hbw hsz
          go_wp2
          have FI := FIN.out
          have hrow := FI.1
          rw [show y * 3 + 3 = (y + 1) * 3 by omega] at hrow
          exact ⟨⟨y + 1, _, by omega, by go_num, rfl, hrow, FI.2.1, FI.2.2.1, FI.2.2.2⟩, by simp [intOf]; omega⟩
    · obtain rfl : y = 2 := by omega
      have hpt : (gridP 2 1).take (2 * 3) = gridP 2 1 := rfl
      rw [hpt] at hrow
      obtain ⟨gp, gpc, hvv⟩ : ∃ g c, vv = .slice (some ⟨g, 0, none⟩) 6 c := by
        rcases hrow.2 with ⟨h1, h2⟩ | ⟨g, cap, cur, h1, h2, h3⟩
        · omega
        · exact ⟨g, cap, h1⟩
      subst hvv
      have hpl := hrow.lt gp rfl
      obtain ⟨w5, hw5⟩ : ∃ w5, w5 = wr := ⟨_, rfl⟩
      rw [← hw5] at hrow hbx hbw hsz hpl
      rw [← hw5]
      have HROW := Lib.hid hrow; have HBX := Lib.hid hbx; have HBW := Lib.hid hbw; have HSZ := Lib.hid hsz; have HPL := Lib.hid hpl
      clear hrow hbx hbw hsz hpl hw5
      go_wp2
      go_loopw [13, 15, 16, 17, 18, 19, 20, 21, 55] (fun tv kv _ _ _ _ _ _ iv wr => ∃ (y : Nat) (vv : Value), y ≤ 1 ∧ iv = .int .i64 (y : Int) ∧ kv = .int .i64 ((y * 2 : Nat) : Int) ∧ vv = tv ∧ RowN wr w5.heap.size 46 3 vv (2 * (y * 2)) (tr3Cells ((gridT 2 1 bn).take (2 * (y * 2)))) ∧ Below w5.heap.size w5 wr) (fun _ _ _ _ _ _ _ _ iv _ => 1 - (intOf iv).toNat)
      case atStart => exact ⟨0, _, Nat.zero_le _, rfl, rfl, rfl, RowN.nil _ _ _ _, Below.refl _ _⟩
      case round =>
        obtain ⟨y, vv, hy, rfl, rfl, rfl, hrow, hbw⟩ := hrel
        by_cases hlt : y < 1
        · have hyd : decide ((y : Int) < 1) = true := decide_eq_true (by omega)
          have cw := (HBX.out.below hbw).c 0 _ rfl
          have HRW := Lib.hid hrow; have HBZ := Lib.hid hbw
          clear hrow hbw
          go_wp2
          clear cw
          go_loopw [13, 15, 17, 18, 19, 20, 21, 59] (fun tv kv _ _ _ _ _ iv wr => ∃ (x : Nat) (vv : Value), x ≤ 2 ∧ iv = .int .i64 (x : Int) ∧ kv = .int .i64 ((y * 2 + x : Nat) : Int) ∧ vv = tv ∧ RowN wr w5.heap.size 46 3 vv (2 * (y * 2 + x)) (tr3Cells ((gridT 2 1 bn).take (2 * (y * 2 + x)))) ∧ Below w5.heap.size w5 wr) (fun _ _ _ _ _ _ _ iv _ => 2 - (intOf iv).toNat)
          case atStart => exact ⟨0, _, Nat.zero_le _, rfl, by rw [Nat.add_zero], rfl, HRW.out, HBZ.out⟩
          case round =>
            obtain ⟨x, vv, hx, rfl, rfl, rfl, hrow, hbw⟩ := hrel
            by_cases hlx : x < 2
            · have cw := (HBX.out.below hbw).c 0 _ rfl
              have hev := HM.out.even y x hlt hlx
              have hod := HM.out.odd y x hlt hlx
              have hbt := HBIT.out (y * 2 + x) (by omega)
              obtain ⟨q, hq⟩ : ∃ q, bn.testBit (y * 2 + x) = q := ⟨_, rfl⟩
              rw [hq] at hev hod hbt
              have a0 := gridNo_any w.heap.size 2 x y wr (by omega) (by omega) (by omega) cw ((y : Int) * 3 + (x : Int)) (by omega)
              have a1 := gridNo_any w.heap.size 2 (x + 1) y wr (by omega) (by omega) (by omega) cw ((y : Int) * 3 + ((x : Int) + 1)) (by omega)
              have a2 := gridNo_any w.heap.size 2 (x + 1) (y + 1) wr (by omega) (by omega) (by omega) cw (((y : Int) + 1) * 3 + ((x : Int) + 1)) (by omega)
              have a3 := gridNo_any w.heap.size 2 x (y + 1) wr (by omega) (by omega) (by omega) cw (((y : Int) + 1) * 3 + (x : Int)) (by omega)
              rw [show (((x + 1 : Nat)) : Int) = (x : Int) + 1 by omega] at a1 a2
              rw [show (((y + 1 : Nat)) : Int) = (y : Int) + 1 by omega] at a2 a3
              obtain ⟨ca, hca⟩ : ∃ c : Int, (y : Int) * 3 + (x : Int) = c := ⟨_, rfl⟩
              obtain ⟨cb, hcb⟩ : ∃ c : Int, (y : Int) * 3 + ((x : Int) + 1) = c := ⟨_, rfl⟩
              obtain ⟨cc, hcc⟩ : ∃ c : Int, ((y : Int) + 1) * 3 + ((x : Int) + 1) = c := ⟨_, rfl⟩
              obtain ⟨cd, hcd⟩ : ∃ c : Int, ((y : Int) + 1) * 3 + (x : Int) = c := ⟨_, rfl⟩
              rw [hca] at a0; rw [hcb] at a1; rw [hcc] at a2; rw [hcd] at a3
              have C0 := Lib.hid a0; have C1 := Lib.hid a1; have C2 := Lib.hid a2; have C3 := Lib.hid a3
              have HEV := Lib.hid hev; have HOD := Lib.hid hod; have HBT := Lib.hid hbt; have HRW2 := Lib.hid hrow; have HBZ2 := Lib.hid hbw
              have HCA := Lib.hid hca; have HCB := Lib.hid hcb; have HCC := Lib.hid hcc; have HCD := Lib.hid hcd
              obtain ⟨kk, hkk⟩ : ∃ kk : Nat, y * 2 + x = kk := ⟨_, rfl⟩
              have hkk4 : kk < 4 := by omega
              rw [hkk] at hbt
              unfold bitB at hbt
              have na : (((y * 3 + x : Nat)) : Int) = ca := by omega
              have nb : (((y * 3 + (x + 1) : Nat)) : Int) = cb := by omega
              have nc : ((((y + 1) * 3 + (x + 1) : Nat)) : Int) = cc := by omega
              have nd : ((((y + 1) * 3 + x : Nat)) : Int) = cd := by omega
              have HKK := Lib.hid hkk
              rw [hkk]
              have HNA := Lib.hid (And.intro na (And.intro nb (And.intro nc nd)))
              clear a0 a1 a2 a3 hev hod hrow hbw hca hcb hcc hcd cw hkk na nb nc nd hq
              cases q
              · have hev' : (gridT 2 1 bn)[2 * (y * 2 + x)]? = some (y * 3 + (x + 1), (y + 1) * 3 + x, y * 3 + x) := HEV.out
                have hod' : (gridT 2 1 bn)[2 * (y * 2 + x) + 1]? = some ((y + 1) * 3 + x, y * 3 + (x + 1), (y + 1) * 3 + (x + 1)) := HOD.out
                have HEV' := Lib.hid hev'; have HOD' := Lib.hid hod'
                clear hev' hod'
                go_wp2_with fail
                refine C0.out.mono ?_
                rintro e w6 ⟨rfl, rfl⟩
                go_wp2_with fail
                refine C1.out.mono ?_
                rintro e w6 ⟨rfl, rfl⟩
                go_wp2_with fail
                refine C2.out.mono ?_
                rintro e w6 ⟨rfl, rfl⟩
                go_wp2_with fail
                refine C3.out.mono ?_
                rintro e w6 ⟨rfl, rfl⟩
                obtain ⟨w6, hw6, hpn, hb6, hs6⟩ := new_box wr _ rfl [.int .i64 cb, .int .i64 cd, .int .i64 ca, .int .i64 cd, .int .i64 cb, .int .i64 cc] 46
                have hrow6 := HRW2.out.below hb6
                have hbw6 := HBZ2.out.trans (hb6.mono HBZ2.out.size)
                obtain ⟨v1, w7, hrun, rown, hgrow, hkept⟩ := run_append_row (P := Try.prog) w6 w5.heap.size 26 26 46 j0 (.agg #[.int .i64 0, .int .i64 0, .int .i64 0]) 3 24 (by kernel_rfl) HJ.out HY0.out HY1.out HY2.out rfl (noWordI3 _ _ _) _ (2 * (y * 2 + x)) _ hrow6 ⟨wr.heap.size, 0, none⟩ 2 2 [.int .i64 cb, .int .i64 cd, .int .i64 ca, .int .i64 cd, .int .i64 cb, .int .i64 cc] (by omega) rfl hpn.news (by intro u hu; simp at hu; rcases hu with rfl | rfl | rfl | rfl | rfl | rfl <;> rfl) (noWordI6 _ _ _ _ _ _) (by unfold maxLen; omega) (by omega) (by have := hbw6.size; omega)
                have hbw7 : Below w5.heap.size w5 w7 := hbw6.grown hgrow (by have := hbw6.size; omega) (fun k hk => (hrow6.lt k hk).1)
                have htk : tr3Cells ((gridT 2 1 bn).take (2 * (y * 2 + x))) ++ [.int .i64 cb, .int .i64 cd, .int .i64 ca, .int .i64 cd, .int .i64 cb, .int .i64 cc] = tr3Cells ((gridT 2 1 bn).take (2 * (y * 2 + (x + 1)))) := by
                  obtain ⟨na, nb, nc, nd⟩ := HNA.out
                  rw [show 2 * (y * 2 + (x + 1)) = 2 * (y * 2 + x) + 1 + 1 by omega, List.take_add_one, List.take_add_one, HEV'.out, HOD'.out, tr3_app, tr3_app, List.append_assoc]
                  simp only [Option.toList_some, tr3Cells, na, nb, nc, nd, List.cons_append, List.nil_append]
                rw [htk, show 2 * (y * 2 + x) + 2 = 2 * (y * 2 + (x + 1)) by omega] at rown
                have FIN := Lib.hid (And.intro rown hbw7)
                clear hpn hb6 hs6 hrow6 hbw6 rown hgrow hkept hbw7 htk
                go_wp2_with (refine wpList_append_row rfl _ _ 26 rfl rfl rfl hrun ?_)
                have hkk := HKK.out
                refine ⟨⟨_, _, _, _, _, _, _, _, _, _, _, _, _, _, _, _, _, _, _, _, _, _, _, _, _, _, _, _, _, _, _, _, _, _, _, _, _, _, _, _, _, _, _, _, _, _, _, _, _, _, _, _, _, _, _, _, _, _, _, _, ?_, rfl⟩, by simp [intOf]; omega⟩
                exact ⟨x + 1, _, by omega, by go_num, congrArg (Value.int .i64) (by omega), rfl, FIN.out.1, FIN.out.2⟩
              · have hev' : (gridT 2 1 bn)[2 * (y * 2 + x)]? = some (y * 3 + x, y * 3 + (x + 1), (y + 1) * 3 + (x + 1)) := HEV.out
                have hod' : (gridT 2 1 bn)[2 * (y * 2 + x) + 1]? = some ((y + 1) * 3 + (x + 1), (y + 1) * 3 + x, y * 3 + x) := HOD.out
                have HEV' := Lib.hid hev'; have HOD' := Lib.hid hod'
                clear hev' hod'
                go_wp2_with fail
                refine C0.out.mono ?_
                rintro e w6 ⟨rfl, rfl⟩
                go_wp2_with fail
                refine C1.out.mono ?_
                rintro e w6 ⟨rfl, rfl⟩
                go_wp2_with fail
                refine C2.out.mono ?_
                rintro e w6 ⟨rfl, rfl⟩
                go_wp2_with fail
                refine C3.out.mono ?_
                rintro e w6 ⟨rfl, rfl⟩
                obtain ⟨w6, hw6, hpn, hb6, hs6⟩ := new_box wr _ rfl [.int .i64 ca, .int .i64 cb, .int .i64 cc, .int .i64 cc, .int .i64 cd, .int .i64 ca] 46
                have hrow6 := HRW2.out.below hb6
                have hbw6 := HBZ2.out.trans (hb6.mono HBZ2.out.size)
                obtain ⟨v1, w7, hrun, rown, hgrow, hkept⟩ := run_append_row (P := Try.prog) w6 w5.heap.size 26 26 46 j0 (.agg #[.int .i64 0, .int .i64 0, .int .i64 0]) 3 24 (by kernel_rfl) HJ.out HY0.out HY1.out HY2.out rfl (noWordI3 _ _ _) _ (2 * (y * 2 + x)) _ hrow6 ⟨wr.heap.size, 0, none⟩ 2 2 [.int .i64 ca, .int .i64 cb, .int .i64 cc, .int .i64 cc, .int .i64 cd, .int .i64 ca] (by omega) rfl hpn.news (by intro u hu; simp at hu; rcases hu with rfl | rfl | rfl | rfl | rfl | rfl <;> rfl) (noWordI6 _ _ _ _ _ _) (by unfold maxLen; omega) (by omega) (by have := hbw6.size; omega)
                have hbw7 : Below w5.heap.size w5 w7 := hbw6.grown hgrow (by have := hbw6.size; omega) (fun k hk => (hrow6.lt k hk).1)
                have htk : tr3Cells ((gridT 2 1 bn).take (2 * (y * 2 + x))) ++ [.int .i64 ca, .int .i64 cb, .int .i64 cc, .int .i64 cc, .int .i64 cd, .int .i64 ca] = tr3Cells ((gridT 2 1 bn).take (2 * (y * 2 + (x + 1)))) := by
                  obtain ⟨na, nb, nc, nd⟩ := HNA.out
                  rw [show 2 * (y * 2 + (x + 1)) = 2 * (y * 2 + x) + 1 + 1 by omega, List.take_add_one, List.take_add_one, HEV'.out, HOD'.out, tr3_app, tr3_app, List.append_assoc]
                  simp only [Option.toList_some, tr3Cells, na, nb, nc, nd, List.cons_append, List.nil_append]
                rw [htk, show 2 * (y * 2 + x) + 2 = 2 * (y * 2 + (x + 1)) by omega] at rown
                have FIN := Lib.hid (And.intro rown hbw7)
                clear hpn hb6 hs6 hrow6 hbw6 rown hgrow hkept hbw7 htk
                go_wp2_with (refine wpList_append_row rfl _ _ 26 rfl rfl rfl hrun ?_)
                have hkk := HKK.out
                refine ⟨⟨_, _, _, _, _, _, _, _, _, _, _, _, _, _, _, _, _, _, _, _, _, _, _, _, _, _, _, _, _, _, _, _, _, _, _, _, _, _, _, _, _, _, _, _, _, _, _, _, _, _, _, _, _, _, _, _, _, _, _, _, ?_, rfl⟩, by simp [intOf]; omega⟩
                exact ⟨x + 1, _, by omega, by go_num, congrArg (Value.int .i64) (by omega), rfl, FIN.out.1, FIN.out.2⟩
            · obtain rfl : x = 2 := by omega
              have FIN := Lib.hid (And.intro hrow hbw)
              clear hrow hbw
              go_wp2
              have hrow := FIN.out.1
              rw [show y * 2 + 2 = (y + 1) * 2 by omega] at hrow
              exact ⟨⟨y + 1, _, by omega, by go_num, congrArg (Value.int .i64) (by omega), rfl, hrow, FIN.out.2⟩, by simp [intOf]; omega⟩
        · obtain rfl : y = 1 := by omega
          have hgl := HM.out.len
          have htt : (gridT 2 1 bn).take (2 * (1 * 2)) = gridT 2 1 bn := List.take_of_length_le (by rw [hgl]; omega)
          rw [htt] at hrow
          obtain ⟨gt, gtc, hvv⟩ : ∃ g c, vv = .slice (some ⟨g, 0, none⟩) 4 c := by
            rcases hrow.2 with ⟨h1, h2⟩ | ⟨g, cap, cur, h1, h2, h3⟩
            · omega
            · exact ⟨g, cap, h1⟩
          subst hvv
          have hgtl := hrow.lt gt rfl
          obtain ⟨w7, hw7⟩ : ∃ w7, w7 = wr := ⟨_, rfl⟩
          rw [← hw7] at hrow hbw hgtl
          rw [← hw7]
          clear hw7
          obtain ⟨fb, hfb⟩ : ∃ fb, w7.heap.size = fb := ⟨_, rfl⟩
          obtain ⟨hmk, hmp⟩ := run_new_map (P := Try.prog) w7 64 22
          obtain ⟨w8, hw8⟩ : ∃ w8, w7.alloc (.map #[] 0) = w8 := ⟨_, rfl⟩
          rw [hw8, hfb] at hmk hmp
          have hb8 : Below fb w7 w8 := by rw [← hw8, ← hfb]; exact (Below.refl _ _).alloc (Nat.le_refl _) _
          have htr := hrow.trIn
          have HRWT := Lib.hid hrow; have HBT := Lib.hid hbw; have HTR := Lib.hid htr; have HGTL := Lib.hid hgtl; have HFB := Lib.hid hfb; have HMP := Lib.hid (fault_new hmp); have HB8 := Lib.hid hb8
          clear hrow hbw htr hgtl hfb hmp hb8 hw8
          go_wp2
          clear hmk
          go_loopw [23, 25, 26, 116] (fun nv _ _ iv wr => ∃ j : Nat, j ≤ 4 ∧ iv = .int .i64 (j : Int) ∧ nv = .int .i64 ((3 * j : Nat) : Int) ∧ (∃ F, FaultMap Try.prog 22 wr fb F) ∧ Below fb w7 wr) (fun _ _ _ iv _ => 4 - (intOf iv).toNat)
          case atStart => exact ⟨0, Nat.zero_le _, rfl, rfl, ⟨_, HMP.out⟩, HB8.out⟩
          case round =>
            obtain ⟨j, hj, rfl, rfl, ⟨F, hF⟩, hbw⟩ := hrel
            by_cases hlt : j < 4
            · have hyd : decide ((j : Int) < 4) = true := decide_eq_true (by omega)
              obtain ⟨⟨x, y, z⟩, hv⟩ : ∃ v, (gridT 2 1 bn)[j]? = some v := ⟨_, List.getElem?_eq_getElem (by have := HM.out.len; omega)⟩
              obtain ⟨px, py, pz⟩ := OK.out.pts _ (List.mem_of_getElem? hv)
              have hpl6 := OK.out.many
              simp only [] at px py pz
              have htk := HTR.out j (x : Int) (y : Int) (z : Int) (by rw [List.getElem?_map, hv]; rfl)
              have hfb := HFB.out
              have l1 := World.block_lt_of_cell? w7 _ htk.1
              simp only [] at l1
              have ka := (hbw.cell (p := ⟨gt, j * 3, none⟩) (by show gt < fb; omega)).trans htk.1
              have kb := (hbw.cell (p := ⟨gt, j * 3 + 1, none⟩) (by show gt < fb; omega)).trans htk.2.1
              have kc := (hbw.cell (p := ⟨gt, j * 3 + 2, none⟩) (by show gt < fb; omega)).trans htk.2.2
              obtain ⟨w9, hw9, hpv, hb9, hs9⟩ := new_box wr _ rfl [.int .i64 (x : Int), .int .i64 (y : Int), .int .i64 (z : Int)] 46
              have hF9 := hF.same (hb9.block fb hF.lt)
              have hfl := hF.lt
              have hbw9 : Below fb w7 w9 := hbw.trans (hb9.mono (by omega))
              obtain ⟨tb, htb⟩ : ∃ tb, wr.heap.size = tb := ⟨_, rfl⟩
              have htf : fb < tb := by omega
              rw [htb] at hpv
              have HF9 := Lib.hid hF9; have HBW9 := Lib.hid hbw9; have HPV := Lib.hid hpv
              have hxyz : x < 10 ∧ y < 10 ∧ z < 10 := by
                have : (gridP 2 1).length = 6 := rfl
                omega
              clear hv px py pz htk hfb l1 hb9 hs9 hF9 hbw9 hpv hF hbw hfl hpl6
              go_wp2
              clear ka kb kc hw9 htb
              go_loopw [23, 26, 120] (fun nv _ iv wr => ∃ i : Nat, i ≤ 3 ∧ iv = .int .i64 (i : Int) ∧ nv = .int .i64 ((3 * j + i : Nat) : Int) ∧ (∃ F, FaultMap Try.prog 22 wr fb F) ∧ Box wr tb [.int .i64 (x : Int), .int .i64 (y : Int), .int .i64 (z : Int)] ∧ Below fb w7 wr) (fun _ _ iv _ => 3 - (intOf iv).toNat)
              case atStart => exact ⟨0, Nat.zero_le _, rfl, rfl, ⟨_, HF9.out⟩, HPV.out, HBW9.out⟩
              case round =>
                obtain ⟨i, hi, rfl, rfl, ⟨F2, hF2⟩, hbx, hbw⟩ := hrel
                by_cases hli : i < 3
                · obtain ⟨nn, hnn⟩ : ∃ nn : Nat, 3 * j + i = nn := ⟨_, rfl⟩
                  have hnn24 : nn < 24 := by omega
                  have HNN := Lib.hid hnn
                  rw [hnn]
                  clear hnn
                  have HF2 := Lib.hid hF2; have HBX2 := Lib.hid hbx; have HBW2 := Lib.hid hbw
                  clear hF2 hbx hbw
                  obtain ⟨q, hq⟩ : ∃ q : Bool, (bits .and .u32 (f / 2 ^ (nn % 32)) 1 == 1) = q := ⟨_, rfl⟩
                  have hfb2 := HF2.out.lt
                  have hd3 := (HF2.out.same (w' := wr.drew) rfl)
                  have hx3 := HBX2.out.drew
                  have hw3 := HBW2.out.drew'
                  have HF3 := Lib.hid hd3; have HBX3 := Lib.hid hx3; have HBW3 := Lib.hid hw3
                  clear hd3 hx3 hw3
                  cases q
                  · go_wp2
                    have hnn := HNN.out
                    exact ⟨⟨i + 1, by omega, by go_num, congrArg (Value.int .i64) (by omega), ⟨_, HF2.out⟩, HBX2.out, HBW2.out⟩, by simp [intOf]; omega⟩
                  · obtain rfl | rfl | rfl : i = 0 ∨ i = 1 ∨ i = 2 := by omega
                    · obtain ⟨mn, hmn⟩ : ∃ mn : Int, (if (y : Int) < (x : Int) then (y : Int) else (x : Int)) = mn := ⟨_, rfl⟩
                      obtain ⟨mx, hmx⟩ : ∃ mx : Int, (if (y : Int) > (x : Int) then (y : Int) else (x : Int)) = mx := ⟨_, rfl⟩
                      have bmn : -1000000 ≤ mn ∧ mn ≤ 1000000 := by rw [← hmn]; split <;> omega
                      have bmx : -1000000 ≤ mx ∧ mx ≤ 1000000 := by rw [← hmx]; split <;> omega
                      have hmin : ∀ w : World, Sem.run Try.prog (Builtin.min_ #[3, 3] 3 #[.int .i64 (x : Int), .int .i64 (y : Int)]) w = Result.ok (Value.int .i64 mn) w := fun w => by rw [run_min_int2, hmn]
                      have hmax : ∀ w : World, Sem.run Try.prog (Builtin.max_ #[3, 3] 3 #[.int .i64 (x : Int), .int .i64 (y : Int)]) w = Result.ok (Value.int .i64 mx) w := fun w => by rw [run_max_int2, hmx]
                      have hwk : (IntKind.i64.wrap 1).tmod 3 = 1 := by decide
                      obtain ⟨wm, F4, hup, hT4, hF4⟩ := fault_store HF3.out bmn bmx
                      have hx0 := HBX3.out.c 0 _ rfl; have hx1 := HBX3.out.c 1 _ rfl
                      have hbx4 := HBX3.out.turned hT4 (by omega)
                      have hbw4 : Below fb w7 wm := Below.turned HBW3.out hT4 (Nat.le_refl _)
                      have hy0 := hbx4.c 0 _ rfl; have hy1 := hbx4.c 1 _ rfl
                      have FIN := Lib.hid (And.intro hF4 (And.intro hbx4 hbw4))
                      clear hmn hmx bmn bmx hT4 hF4 hbx4 hbw4
                      go_wp2_with fail
                      obtain ⟨SSs, hSSs⟩ : ∃ S : Array Bool → World → Prop, ∀ l w', S l w' ↔ ((w'.cell? ⟨tb, 0, none⟩ = some (.int .i64 (x : Int))) ∧ (w'.cell? ⟨tb, 1, none⟩ = some (.int .i64 (y : Int)))) := ⟨_, fun _ _ => Iff.rfl⟩
                      refine wp_region_noPanic ?_
                      refine wp_region_G SSs 21 #[false, false, false, false, false, false, false, false, false, false, false, false, false, false, false, false, false, false, false, false, false] (by kernel_rfl) (by kernel_rfl) (by kernel_rfl) ((hSSs _ _).2 ⟨hx0, hx1⟩) (fun hCl hHeld => ?_)
                      generalize wr.drew = wd at *
                      refine reg_takeG 0 ?_ ?_ ?_ (by kernel_rfl) (by kernel_rfl) (by kernel_rfl) (fun _ _ _ h => h) ?_ ?_ ?_ hCl hHeld ?_
                      rotate_left 2
                      · simp only [List.getElem?_toArray, List.getElem?_cons_zero]; exact rfl
                      · intro l w'; rw [hSSs, hSSs]
                      · rfl
                      · intro w' hA; clear hA; go_simp; try with_reducible rfl
                      clear hCl hHeld
                      intro hCl hHeld
                      simp only [List.setIfInBounds_toArray, List.set_cons_zero] at hCl hHeld
                      try simp only [Act.put]
                      try simp only [List.setIfInBounds_toArray, List.set_cons_zero, List.set_cons_succ]
                      refine reg_takeG 1 ?_ ?_ ?_ (by kernel_rfl) (by kernel_rfl) (by kernel_rfl) (fun _ _ _ h => h) ?_ ?_ ?_ hCl hHeld ?_
                      rotate_left 2
                      · simp only [List.getElem?_toArray, List.getElem?_cons_succ, List.getElem?_cons_zero]; exact rfl
                      · intro l w'; rw [hSSs, hSSs]
                      · rfl
                      · intro w' hA; clear hA; go_simp; try with_reducible rfl
                      clear hCl hHeld
                      intro hCl hHeld
                      simp only [List.setIfInBounds_toArray, List.set_cons_zero, List.set_cons_succ] at hCl hHeld
                      try simp only [Act.put]
                      try simp only [List.setIfInBounds_toArray, List.set_cons_zero, List.set_cons_succ]
                      refine reg_takeG 2 ?_ ?_ ?_ (by kernel_rfl) (by kernel_rfl) (by kernel_rfl) (fun _ _ _ h => h) ?_ ?_ ?_ hCl hHeld ?_
                      rotate_left 2
                      · simp only [List.getElem?_toArray, List.getElem?_cons_succ, List.getElem?_cons_zero]; exact rfl
                      · intro l w'; rw [hSSs, hSSs]
                      · rfl
                      · intro w' hA; clear hA; go_simp; try with_reducible rfl
                      clear hCl hHeld
                      intro hCl hHeld
                      simp only [List.setIfInBounds_toArray, List.set_cons_zero, List.set_cons_succ] at hCl hHeld
                      try simp only [Act.put]
                      try simp only [List.setIfInBounds_toArray, List.set_cons_zero, List.set_cons_succ]
                      refine reg_takeG 3 ?_ ?_ ?_ (by kernel_rfl) (by kernel_rfl) (by kernel_rfl) (fun _ _ _ h => h) ?_ ?_ ?_ hCl hHeld ?_
                      rotate_left 2
                      · simp only [List.getElem?_toArray, List.getElem?_cons_succ, List.getElem?_cons_zero]; exact rfl
                      · intro l w'; rw [hSSs, hSSs]
                      · rfl
                      · intro w' hA; obtain ⟨l, hl, hi, hSl⟩ := hA; have hSl := (hSSs _ _).1 hSl; obtain ⟨hz0, hz1⟩ := hSl; go_simp; try with_reducible rfl
                      clear hCl hHeld
                      intro hCl hHeld
                      simp only [List.setIfInBounds_toArray, List.set_cons_zero, List.set_cons_succ] at hCl hHeld
                      try simp only [Act.put]
                      try simp only [List.setIfInBounds_toArray, List.set_cons_zero, List.set_cons_succ]
                      refine reg_takeG 4 ?_ ?_ ?_ (by kernel_rfl) (by kernel_rfl) (by kernel_rfl) (fun _ _ _ h => h) ?_ ?_ ?_ hCl hHeld ?_
                      rotate_left 2
                      · simp only [List.getElem?_toArray, List.getElem?_cons_succ, List.getElem?_cons_zero]; exact rfl
                      · intro l w'; rw [hSSs, hSSs]
                      · rfl
                      · intro w' hA; clear hA; go_simp; try with_reducible rfl
                      clear hCl hHeld
                      intro hCl hHeld
                      simp only [List.setIfInBounds_toArray, List.set_cons_zero, List.set_cons_succ] at hCl hHeld
                      try simp only [Act.put]
                      try simp only [List.setIfInBounds_toArray, List.set_cons_zero, List.set_cons_succ]
                      refine reg_takeG 5 ?_ ?_ ?_ (by kernel_rfl) (by kernel_rfl) (by kernel_rfl) (fun _ _ _ h => h) ?_ ?_ ?_ hCl hHeld ?_
                      rotate_left 2
                      · simp only [List.getElem?_toArray, List.getElem?_cons_succ, List.getElem?_cons_zero]; exact rfl
                      · intro l w'; rw [hSSs, hSSs]
                      · rfl
                      · intro w' hA; clear hA; go_simp; try with_reducible rfl
                      clear hCl hHeld
                      intro hCl hHeld
                      simp only [List.setIfInBounds_toArray, List.set_cons_zero, List.set_cons_succ] at hCl hHeld
                      try simp only [Act.put]
                      try simp only [List.setIfInBounds_toArray, List.set_cons_zero, List.set_cons_succ]
                      refine reg_takeG 6 ?_ ?_ ?_ (by kernel_rfl) (by kernel_rfl) (by kernel_rfl) (fun _ _ _ h => h) ?_ ?_ ?_ hCl hHeld ?_
                      rotate_left 2
                      · simp only [List.getElem?_toArray, List.getElem?_cons_succ, List.getElem?_cons_zero]; exact rfl
                      · intro l w'; rw [hSSs, hSSs]
                      · rfl
                      · intro w' hA; clear hA; go_simp; try with_reducible rfl
                      clear hCl hHeld
                      intro hCl hHeld
                      simp only [List.setIfInBounds_toArray, List.set_cons_zero, List.set_cons_succ] at hCl hHeld
                      try simp only [Act.put]
                      try simp only [List.setIfInBounds_toArray, List.set_cons_zero, List.set_cons_succ]
                      refine reg_takeG 7 ?_ ?_ ?_ (by kernel_rfl) (by kernel_rfl) (by kernel_rfl) (fun _ _ _ h => h) ?_ ?_ ?_ hCl hHeld ?_
                      rotate_left 2
                      · simp only [List.getElem?_toArray, List.getElem?_cons_succ, List.getElem?_cons_zero]; exact rfl
                      · intro l w'; rw [hSSs, hSSs]
                      · rfl
                      · intro w' hA; clear hA; go_simp; try with_reducible rfl
                      clear hCl hHeld
                      intro hCl hHeld
                      simp only [List.setIfInBounds_toArray, List.set_cons_zero, List.set_cons_succ] at hCl hHeld
                      try simp only [Act.put]
                      try simp only [List.setIfInBounds_toArray, List.set_cons_zero, List.set_cons_succ]
                      refine reg_takeG 8 ?_ ?_ ?_ (by kernel_rfl) (by kernel_rfl) (by kernel_rfl) (fun _ _ _ h => h) ?_ ?_ ?_ hCl hHeld ?_
                      rotate_left 2
                      · simp only [List.getElem?_toArray, List.getElem?_cons_succ, List.getElem?_cons_zero]; exact rfl
                      · intro l w'; rw [hSSs, hSSs]
                      · rfl
                      · intro w' hA; obtain ⟨l, hl, hi, hSl⟩ := hA; have hSl := (hSSs _ _).1 hSl; obtain ⟨hz0, hz1⟩ := hSl; go_simp; try with_reducible rfl
                      clear hCl hHeld
                      intro hCl hHeld
                      simp only [List.setIfInBounds_toArray, List.set_cons_zero, List.set_cons_succ] at hCl hHeld
                      try simp only [Act.put]
                      try simp only [List.setIfInBounds_toArray, List.set_cons_zero, List.set_cons_succ]
                      refine reg_takeG 9 ?_ ?_ ?_ (by kernel_rfl) (by kernel_rfl) (by kernel_rfl) (fun _ _ _ h => h) ?_ ?_ ?_ hCl hHeld ?_
                      rotate_left 2
                      · simp only [List.getElem?_toArray, List.getElem?_cons_succ, List.getElem?_cons_zero]; exact rfl
                      · intro l w'; rw [hSSs, hSSs]
                      · rfl
                      · intro w' hA; clear hA; go_simp; try with_reducible rfl
                      clear hCl hHeld
                      intro hCl hHeld
                      simp only [List.setIfInBounds_toArray, List.set_cons_zero, List.set_cons_succ] at hCl hHeld
                      try simp only [Act.put]
                      try simp only [List.setIfInBounds_toArray, List.set_cons_zero, List.set_cons_succ]
                      refine reg_takeG 10 ?_ ?_ ?_ (by kernel_rfl) (by kernel_rfl) (by kernel_rfl) (fun _ _ _ h => h) ?_ ?_ ?_ hCl hHeld ?_
                      rotate_left 2
                      · simp only [List.getElem?_toArray, List.getElem?_cons_succ, List.getElem?_cons_zero]; exact rfl
                      · intro l w'; rw [hSSs, hSSs]
                      · rfl
                      · intro w' hA; clear hA; go_simp; try with_reducible rfl
                      clear hCl hHeld
                      intro hCl hHeld
                      simp only [List.setIfInBounds_toArray, List.set_cons_zero, List.set_cons_succ] at hCl hHeld
                      try simp only [Act.put]
                      try simp only [List.setIfInBounds_toArray, List.set_cons_zero, List.set_cons_succ]
                      refine reg_takeG 11 ?_ ?_ ?_ (by kernel_rfl) (by kernel_rfl) (by kernel_rfl) (fun _ _ _ h => h) ?_ ?_ ?_ hCl hHeld ?_
                      rotate_left 2
                      · simp only [List.getElem?_toArray, List.getElem?_cons_succ, List.getElem?_cons_zero]; exact rfl
                      · intro l w'; rw [hSSs, hSSs]
                      · rfl
                      · intro w' hA; clear hA; go_simp; try with_reducible rfl
                      clear hCl hHeld
                      intro hCl hHeld
                      simp only [List.setIfInBounds_toArray, List.set_cons_zero, List.set_cons_succ] at hCl hHeld
                      try simp only [Act.put]
                      try simp only [List.setIfInBounds_toArray, List.set_cons_zero, List.set_cons_succ]
                      refine reg_takeG 12 ?_ ?_ ?_ (by kernel_rfl) (by kernel_rfl) (by kernel_rfl) (fun _ _ _ h => h) ?_ ?_ ?_ hCl hHeld ?_
                      rotate_left 2
                      · simp only [List.getElem?_toArray, List.getElem?_cons_succ, List.getElem?_cons_zero]; exact rfl
                      · intro l w'; rw [hSSs, hSSs]
                      · rfl
                      · intro w' hA; obtain ⟨l, hl, hi, hSl⟩ := hA; have hSl := (hSSs _ _).1 hSl; obtain ⟨hz0, hz1⟩ := hSl; go_simp; try with_reducible rfl
                      clear hCl hHeld
                      intro hCl hHeld
                      simp only [List.setIfInBounds_toArray, List.set_cons_zero, List.set_cons_succ] at hCl hHeld
                      try simp only [Act.put]
                      try simp only [List.setIfInBounds_toArray, List.set_cons_zero, List.set_cons_succ]
                      refine reg_takeG 13 ?_ ?_ ?_ (by kernel_rfl) (by kernel_rfl) (by kernel_rfl) (fun _ _ _ h => h) ?_ ?_ ?_ hCl hHeld ?_
                      rotate_left 2
                      · simp only [List.getElem?_toArray, List.getElem?_cons_succ, List.getElem?_cons_zero]; exact rfl
                      · intro l w'; rw [hSSs, hSSs]
                      · rfl
                      · intro w' hA; clear hA; go_simp; try with_reducible rfl
                      clear hCl hHeld
                      intro hCl hHeld
                      simp only [List.setIfInBounds_toArray, List.set_cons_zero, List.set_cons_succ] at hCl hHeld
                      try simp only [Act.put]
                      try simp only [List.setIfInBounds_toArray, List.set_cons_zero, List.set_cons_succ]
                      refine reg_takeG 14 ?_ ?_ ?_ (by kernel_rfl) (by kernel_rfl) (by kernel_rfl) (fun _ _ _ h => h) ?_ ?_ ?_ hCl hHeld ?_
                      rotate_left 2
                      · simp only [List.getElem?_toArray, List.getElem?_cons_succ, List.getElem?_cons_zero]; exact rfl
                      · intro l w'; rw [hSSs, hSSs]
                      · rfl
                      · intro w' hA; clear hA; go_simp; try with_reducible rfl
                      clear hCl hHeld
                      intro hCl hHeld
                      simp only [List.setIfInBounds_toArray, List.set_cons_zero, List.set_cons_succ] at hCl hHeld
                      try simp only [Act.put]
                      try simp only [List.setIfInBounds_toArray, List.set_cons_zero, List.set_cons_succ]
                      refine reg_takeG 15 ?_ ?_ ?_ (by kernel_rfl) (by kernel_rfl) (by kernel_rfl) (fun _ _ _ h => h) ?_ ?_ ?_ hCl hHeld ?_
                      rotate_left 2
                      · simp only [List.getElem?_toArray, List.getElem?_cons_succ, List.getElem?_cons_zero]; exact rfl
                      · intro l w'; rw [hSSs, hSSs]
                      · rfl
                      · intro w' hA; clear hA; go_simp; try with_reducible rfl
                      clear hCl hHeld
                      intro hCl hHeld
                      simp only [List.setIfInBounds_toArray, List.set_cons_zero, List.set_cons_succ] at hCl hHeld
                      try simp only [Act.put]
                      try simp only [List.setIfInBounds_toArray, List.set_cons_zero, List.set_cons_succ]
                      refine reg_takeG 16 ?_ ?_ ?_ (by kernel_rfl) (by kernel_rfl) (by kernel_rfl) (fun _ _ _ h => h) ?_ ?_ ?_ hCl hHeld ?_
                      rotate_left 2
                      · simp only [List.getElem?_toArray, List.getElem?_cons_succ, List.getElem?_cons_zero]; exact rfl
                      · intro l w'; rw [hSSs, hSSs]
                      · rfl
                      · intro w' hA; clear hA; go_simp; try with_reducible rfl
                      clear hCl hHeld
                      intro hCl hHeld
                      simp only [List.setIfInBounds_toArray, List.set_cons_zero, List.set_cons_succ] at hCl hHeld
                      try simp only [Act.put]
                      try simp only [List.setIfInBounds_toArray, List.set_cons_zero, List.set_cons_succ]
                      refine reg_takeG 17 ?_ ?_ ?_ (by kernel_rfl) (by kernel_rfl) (by kernel_rfl) (fun _ _ _ h => h) ?_ ?_ ?_ hCl hHeld ?_
                      rotate_left 2
                      · simp only [List.getElem?_toArray, List.getElem?_cons_succ, List.getElem?_cons_zero]; exact rfl
                      · intro l w'; rw [hSSs, hSSs]
                      · rfl
                      · intro w' hA; obtain ⟨l, hl, hi, hSl⟩ := hA; have hSl := (hSSs _ _).1 hSl; obtain ⟨hz0, hz1⟩ := hSl; go_simp; try with_reducible rfl
                      clear hCl hHeld
                      intro hCl hHeld
                      simp only [List.setIfInBounds_toArray, List.set_cons_zero, List.set_cons_succ] at hCl hHeld
                      try simp only [Act.put]
                      try simp only [List.setIfInBounds_toArray, List.set_cons_zero, List.set_cons_succ]
                      refine reg_takeG 18 ?_ ?_ ?_ (by kernel_rfl) (by kernel_rfl) (by kernel_rfl) (fun _ _ _ h => h) ?_ ?_ ?_ hCl hHeld ?_
                      rotate_left 2
                      · simp only [List.getElem?_toArray, List.getElem?_cons_succ, List.getElem?_cons_zero]; exact rfl
                      · intro l w'; rw [hSSs, hSSs]
                      · rfl
                      · intro w' hA; clear hA; go_simp; try with_reducible rfl
                      clear hCl hHeld
                      intro hCl hHeld
                      simp only [List.setIfInBounds_toArray, List.set_cons_zero, List.set_cons_succ] at hCl hHeld
                      try simp only [Act.put]
                      try simp only [List.setIfInBounds_toArray, List.set_cons_zero, List.set_cons_succ]
                      refine reg_takeG 19 ?_ ?_ ?_ (by kernel_rfl) (by kernel_rfl) (by kernel_rfl) (fun _ _ _ h => h) ?_ ?_ ?_ hCl hHeld ?_
                      rotate_left 2
                      · simp only [List.getElem?_toArray, List.getElem?_cons_succ, List.getElem?_cons_zero]; exact rfl
                      · intro l w'; rw [hSSs, hSSs]
                      · rfl
                      · intro w' hA; clear hA; go_simp; try with_reducible rfl
                      clear hCl hHeld
                      intro hCl hHeld
                      simp only [List.setIfInBounds_toArray, List.set_cons_zero, List.set_cons_succ] at hCl hHeld
                      try simp only [Act.put]
                      try simp only [List.setIfInBounds_toArray, List.set_cons_zero, List.set_cons_succ]
                      clear hCl hHeld
                      refine reg_callG 20 ?_ (by kernel_rfl) ?_ (fun K hK => ?_)
                      rotate_left 1
                      · simp only [List.getElem?_toArray, List.getElem?_cons_succ, List.getElem?_cons_zero]; exact rfl
                      go_simp
                      clear hx0 hx1 hup
                      refine hK.out _ _ ((hSSs _ _).2 ⟨hy0, hy1⟩) ?_
                      clear hK K
                      try simp only [Act.put]
                      try simp only [List.setIfInBounds_toArray, List.set_cons_zero, List.set_cons_succ]
                      refine wpAnyG_done (by kernel_rfl) ?_ _
                      refine NoPanic.normal ?_
                      clear hSSs SSs
                      go_wp2
                      have hnn := HNN.out
                      refine ⟨⟨_, _, _, _, _, _, _, _, _, _, _, _, _, _, _, _, _, _, _, _, _, _, _, _, _, _, _, _, _, _, _, _, _, _, ?_, rfl⟩, by simp [intOf]⟩
                      exact ⟨0 + 1, by omega, by go_num, congrArg (Value.int .i64) (by omega), ⟨_, FIN.out.1⟩, FIN.out.2.1, FIN.out.2.2⟩
                    · obtain ⟨mn, hmn⟩ : ∃ mn : Int, (if (z : Int) < (y : Int) then (z : Int) else (y : Int)) = mn := ⟨_, rfl⟩
                      obtain ⟨mx, hmx⟩ : ∃ mx : Int, (if (z : Int) > (y : Int) then (z : Int) else (y : Int)) = mx := ⟨_, rfl⟩
                      have bmn : -1000000 ≤ mn ∧ mn ≤ 1000000 := by rw [← hmn]; split <;> omega
                      have bmx : -1000000 ≤ mx ∧ mx ≤ 1000000 := by rw [← hmx]; split <;> omega
                      have hmin : ∀ w : World, Sem.run Try.prog (Builtin.min_ #[3, 3] 3 #[.int .i64 (y : Int), .int .i64 (z : Int)]) w = Result.ok (Value.int .i64 mn) w := fun w => by rw [run_min_int2, hmn]
                      have hmax : ∀ w : World, Sem.run Try.prog (Builtin.max_ #[3, 3] 3 #[.int .i64 (y : Int), .int .i64 (z : Int)]) w = Result.ok (Value.int .i64 mx) w := fun w => by rw [run_max_int2, hmx]
                      have hwk : (IntKind.i64.wrap 2).tmod 3 = 2 := by decide
                      obtain ⟨wm, F4, hup, hT4, hF4⟩ := fault_store HF3.out bmn bmx
                      have hx0 := HBX3.out.c 1 _ rfl; have hx1 := HBX3.out.c 2 _ rfl
                      have hbx4 := HBX3.out.turned hT4 (by omega)
                      have hbw4 : Below fb w7 wm := Below.turned HBW3.out hT4 (Nat.le_refl _)
                      have hy0 := hbx4.c 1 _ rfl; have hy1 := hbx4.c 2 _ rfl
                      have FIN := Lib.hid (And.intro hF4 (And.intro hbx4 hbw4))
                      clear hmn hmx bmn bmx hT4 hF4 hbx4 hbw4
                      go_wp2_with fail
                      obtain ⟨SSs, hSSs⟩ : ∃ S : Array Bool → World → Prop, ∀ l w', S l w' ↔ ((w'.cell? ⟨tb, 1, none⟩ = some (.int .i64 (y : Int))) ∧ (w'.cell? ⟨tb, 2, none⟩ = some (.int .i64 (z : Int)))) := ⟨_, fun _ _ => Iff.rfl⟩
                      refine wp_region_noPanic ?_
                      refine wp_region_G SSs 21 #[false, false, false, false, false, false, false, false, false, false, false, false, false, false, false, false, false, false, false, false, false] (by kernel_rfl) (by kernel_rfl) (by kernel_rfl) ((hSSs _ _).2 ⟨hx0, hx1⟩) (fun hCl hHeld => ?_)
                      generalize wr.drew = wd at *
                      refine reg_takeG 0 ?_ ?_ ?_ (by kernel_rfl) (by kernel_rfl) (by kernel_rfl) (fun _ _ _ h => h) ?_ ?_ ?_ hCl hHeld ?_
                      rotate_left 2
                      · simp only [List.getElem?_toArray, List.getElem?_cons_zero]; exact rfl
                      · intro l w'; rw [hSSs, hSSs]
                      · rfl
                      · intro w' hA; clear hA; go_simp; try with_reducible rfl
                      clear hCl hHeld
                      intro hCl hHeld
                      simp only [List.setIfInBounds_toArray, List.set_cons_zero] at hCl hHeld
                      try simp only [Act.put]
                      try simp only [List.setIfInBounds_toArray, List.set_cons_zero, List.set_cons_succ]
                      refine reg_takeG 1 ?_ ?_ ?_ (by kernel_rfl) (by kernel_rfl) (by kernel_rfl) (fun _ _ _ h => h) ?_ ?_ ?_ hCl hHeld ?_
                      rotate_left 2
                      · simp only [List.getElem?_toArray, List.getElem?_cons_succ, List.getElem?_cons_zero]; exact rfl
                      · intro l w'; rw [hSSs, hSSs]
                      · rfl
                      · intro w' hA; clear hA; go_simp; try with_reducible rfl
                      clear hCl hHeld
                      intro hCl hHeld
                      simp only [List.setIfInBounds_toArray, List.set_cons_zero, List.set_cons_succ] at hCl hHeld
                      try simp only [Act.put]
                      try simp only [List.setIfInBounds_toArray, List.set_cons_zero, List.set_cons_succ]
                      refine reg_takeG 2 ?_ ?_ ?_ (by kernel_rfl) (by kernel_rfl) (by kernel_rfl) (fun _ _ _ h => h) ?_ ?_ ?_ hCl hHeld ?_
                      rotate_left 2
                      · simp only [List.getElem?_toArray, List.getElem?_cons_succ, List.getElem?_cons_zero]; exact rfl
                      · intro l w'; rw [hSSs, hSSs]
                      · rfl
                      · intro w' hA; clear hA; go_simp; try with_reducible rfl
                      clear hCl hHeld
                      intro hCl hHeld
                      simp only [List.setIfInBounds_toArray, List.set_cons_zero, List.set_cons_succ] at hCl hHeld
                      try simp only [Act.put]
                      try simp only [List.setIfInBounds_toArray, List.set_cons_zero, List.set_cons_succ]
                      refine reg_takeG 3 ?_ ?_ ?_ (by kernel_rfl) (by kernel_rfl) (by kernel_rfl) (fun _ _ _ h => h) ?_ ?_ ?_ hCl hHeld ?_
                      rotate_left 2
                      · simp only [List.getElem?_toArray, List.getElem?_cons_succ, List.getElem?_cons_zero]; exact rfl
                      · intro l w'; rw [hSSs, hSSs]
                      · rfl
                      · intro w' hA; obtain ⟨l, hl, hi, hSl⟩ := hA; have hSl := (hSSs _ _).1 hSl; obtain ⟨hz0, hz1⟩ := hSl; go_simp; try with_reducible rfl
                      clear hCl hHeld
                      intro hCl hHeld
                      simp only [List.setIfInBounds_toArray, List.set_cons_zero, List.set_cons_succ] at hCl hHeld
                      try simp only [Act.put]
                      try simp only [List.setIfInBounds_toArray, List.set_cons_zero, List.set_cons_succ]
                      refine reg_takeG 4 ?_ ?_ ?_ (by kernel_rfl) (by kernel_rfl) (by kernel_rfl) (fun _ _ _ h => h) ?_ ?_ ?_ hCl hHeld ?_
                      rotate_left 2
                      · simp only [List.getElem?_toArray, List.getElem?_cons_succ, List.getElem?_cons_zero]; exact rfl
                      · intro l w'; rw [hSSs, hSSs]
                      · rfl
                      · intro w' hA; clear hA; go_simp; try with_reducible rfl
                      clear hCl hHeld
                      intro hCl hHeld
                      simp only [List.setIfInBounds_toArray, List.set_cons_zero, List.set_cons_succ] at hCl hHeld
                      try simp only [Act.put]
                      try simp only [List.setIfInBounds_toArray, List.set_cons_zero, List.set_cons_succ]
                      refine reg_takeG 5 ?_ ?_ ?_ (by kernel_rfl) (by kernel_rfl) (by kernel_rfl) (fun _ _ _ h => h) ?_ ?_ ?_ hCl hHeld ?_
                      rotate_left 2
                      · simp only [List.getElem?_toArray, List.getElem?_cons_succ, List.getElem?_cons_zero]; exact rfl
                      · intro l w'; rw [hSSs, hSSs]
                      · rfl
                      · intro w' hA; clear hA; go_simp; try with_reducible rfl
                      clear hCl hHeld
                      intro hCl hHeld
                      simp only [List.setIfInBounds_toArray, List.set_cons_zero, List.set_cons_succ] at hCl hHeld
                      try simp only [Act.put]
                      try simp only [List.setIfInBounds_toArray, List.set_cons_zero, List.set_cons_succ]
                      refine reg_takeG 6 ?_ ?_ ?_ (by kernel_rfl) (by kernel_rfl) (by kernel_rfl) (fun _ _ _ h => h) ?_ ?_ ?_ hCl hHeld ?_
                      rotate_left 2
                      · simp only [List.getElem?_toArray, List.getElem?_cons_succ, List.getElem?_cons_zero]; exact rfl
                      · intro l w'; rw [hSSs, hSSs]
                      · rfl
                      · intro w' hA; clear hA; go_simp; try with_reducible rfl
                      clear hCl hHeld
                      intro hCl hHeld
                      simp only [List.setIfInBounds_toArray, List.set_cons_zero, List.set_cons_succ] at hCl hHeld
                      try simp only [Act.put]
                      try simp only [List.setIfInBounds_toArray, List.set_cons_zero, List.set_cons_succ]
                      refine reg_takeG 7 ?_ ?_ ?_ (by kernel_rfl) (by kernel_rfl) (by kernel_rfl) (fun _ _ _ h => h) ?_ ?_ ?_ hCl hHeld ?_
                      rotate_left 2
                      · simp only [List.getElem?_toArray, List.getElem?_cons_succ, List.getElem?_cons_zero]; exact rfl
                      · intro l w'; rw [hSSs, hSSs]
                      · rfl
                      · intro w' hA; clear hA; go_simp; try with_reducible rfl
                      clear hCl hHeld
                      intro hCl hHeld
                      simp only [List.setIfInBounds_toArray, List.set_cons_zero, List.set_cons_succ] at hCl hHeld
                      try simp only [Act.put]
                      try simp only [List.setIfInBounds_toArray, List.set_cons_zero, List.set_cons_succ]
                      refine reg_takeG 8 ?_ ?_ ?_ (by kernel_rfl) (by kernel_rfl) (by kernel_rfl) (fun _ _ _ h => h) ?_ ?_ ?_ hCl hHeld ?_
                      rotate_left 2
                      · simp only [List.getElem?_toArray, List.getElem?_cons_succ, List.getElem?_cons_zero]; exact rfl
                      · intro l w'; rw [hSSs, hSSs]
                      · rfl
                      · intro w' hA; obtain ⟨l, hl, hi, hSl⟩ := hA; have hSl := (hSSs _ _).1 hSl; obtain ⟨hz0, hz1⟩ := hSl; go_simp; try with_reducible rfl
                      clear hCl hHeld
                      intro hCl hHeld
                      simp only [List.setIfInBounds_toArray, List.set_cons_zero, List.set_cons_succ] at hCl hHeld
                      try simp only [Act.put]
                      try simp only [List.setIfInBounds_toArray, List.set_cons_zero, List.set_cons_succ]
                      refine reg_takeG 9 ?_ ?_ ?_ (by kernel_rfl) (by kernel_rfl) (by kernel_rfl) (fun _ _ _ h => h) ?_ ?_ ?_ hCl hHeld ?_
                      rotate_left 2
                      · simp only [List.getElem?_toArray, List.getElem?_cons_succ, List.getElem?_cons_zero]; exact rfl
                      · intro l w'; rw [hSSs, hSSs]
                      · rfl
                      · intro w' hA; clear hA; go_simp; try with_reducible rfl
                      clear hCl hHeld
                      intro hCl hHeld
                      simp only [List.setIfInBounds_toArray, List.set_cons_zero, List.set_cons_succ] at hCl hHeld
                      try simp only [Act.put]
                      try simp only [List.setIfInBounds_toArray, List.set_cons_zero, List.set_cons_succ]
                      refine reg_takeG 10 ?_ ?_ ?_ (by kernel_rfl) (by kernel_rfl) (by kernel_rfl) (fun _ _ _ h => h) ?_ ?_ ?_ hCl hHeld ?_
                      rotate_left 2
                      · simp only [List.getElem?_toArray, List.getElem?_cons_succ, List.getElem?_cons_zero]; exact rfl
                      · intro l w'; rw [hSSs, hSSs]
                      · rfl
                      · intro w' hA; clear hA; go_simp; try with_reducible rfl
                      clear hCl hHeld
                      intro hCl hHeld
                      simp only [List.setIfInBounds_toArray, List.set_cons_zero, List.set_cons_succ] at hCl hHeld
                      try simp only [Act.put]
                      try simp only [List.setIfInBounds_toArray, List.set_cons_zero, List.set_cons_succ]
                      refine reg_takeG 11 ?_ ?_ ?_ (by kernel_rfl) (by kernel_rfl) (by kernel_rfl) (fun _ _ _ h => h) ?_ ?_ ?_ hCl hHeld ?_
                      rotate_left 2
                      · simp only [List.getElem?_toArray, List.getElem?_cons_succ, List.getElem?_cons_zero]; exact rfl
                      · intro l w'; rw [hSSs, hSSs]
                      · rfl
                      · intro w' hA; clear hA; go_simp; try with_reducible rfl
                      clear hCl hHeld
                      intro hCl hHeld
                      simp only [List.setIfInBounds_toArray, List.set_cons_zero, List.set_cons_succ] at hCl hHeld
                      try simp only [Act.put]
                      try simp only [List.setIfInBounds_toArray, List.set_cons_zero, List.set_cons_succ]
                      refine reg_takeG 12 ?_ ?_ ?_ (by kernel_rfl) (by kernel_rfl) (by kernel_rfl) (fun _ _ _ h => h) ?_ ?_ ?_ hCl hHeld ?_
                      rotate_left 2
                      · simp only [List.getElem?_toArray, List.getElem?_cons_succ, List.getElem?_cons_zero]; exact rfl
                      · intro l w'; rw [hSSs, hSSs]
                      · rfl
                      · intro w' hA; obtain ⟨l, hl, hi, hSl⟩ := hA; have hSl := (hSSs _ _).1 hSl; obtain ⟨hz0, hz1⟩ := hSl; go_simp; try with_reducible rfl
                      clear hCl hHeld
                      intro hCl hHeld
                      simp only [List.setIfInBounds_toArray, List.set_cons_zero, List.set_cons_succ] at hCl hHeld
                      try simp only [Act.put]
                      try simp only [List.setIfInBounds_toArray, List.set_cons_zero, List.set_cons_succ]
                      refine reg_takeG 13 ?_ ?_ ?_ (by kernel_rfl) (by kernel_rfl) (by kernel_rfl) (fun _ _ _ h => h) ?_ ?_ ?_ hCl hHeld ?_
                      rotate_left 2
                      · simp only [List.getElem?_toArray, List.getElem?_cons_succ, List.getElem?_cons_zero]; exact rfl
                      · intro l w'; rw [hSSs, hSSs]
                      · rfl
                      · intro w' hA; clear hA; go_simp; try with_reducible rfl
                      clear hCl hHeld
                      intro hCl hHeld
                      simp only [List.setIfInBounds_toArray, List.set_cons_zero, List.set_cons_succ] at hCl hHeld
                      try simp only [Act.put]
                      try simp only [List.setIfInBounds_toArray, List.set_cons_zero, List.set_cons_succ]
                      refine reg_takeG 14 ?_ ?_ ?_ (by kernel_rfl) (by kernel_rfl) (by kernel_rfl) (fun _ _ _ h => h) ?_ ?_ ?_ hCl hHeld ?_
                      rotate_left 2
                      · simp only [List.getElem?_toArray, List.getElem?_cons_succ, List.getElem?_cons_zero]; exact rfl
                      · intro l w'; rw [hSSs, hSSs]
                      · rfl
                      · intro w' hA; clear hA; go_simp; try with_reducible rfl
                      clear hCl hHeld
                      intro hCl hHeld
                      simp only [List.setIfInBounds_toArray, List.set_cons_zero, List.set_cons_succ] at hCl hHeld
                      try simp only [Act.put]
                      try simp only [List.setIfInBounds_toArray, List.set_cons_zero, List.set_cons_succ]
                      refine reg_takeG 15 ?_ ?_ ?_ (by kernel_rfl) (by kernel_rfl) (by kernel_rfl) (fun _ _ _ h => h) ?_ ?_ ?_ hCl hHeld ?_
                      rotate_left 2
                      · simp only [List.getElem?_toArray, List.getElem?_cons_succ, List.getElem?_cons_zero]; exact rfl
                      · intro l w'; rw [hSSs, hSSs]
                      · rfl
                      · intro w' hA; clear hA; go_simp; try with_reducible rfl
                      clear hCl hHeld
                      intro hCl hHeld
                      simp only [List.setIfInBounds_toArray, List.set_cons_zero, List.set_cons_succ] at hCl hHeld
                      try simp only [Act.put]
                      try simp only [List.setIfInBounds_toArray, List.set_cons_zero, List.set_cons_succ]
                      refine reg_takeG 16 ?_ ?_ ?_ (by kernel_rfl) (by kernel_rfl) (by kernel_rfl) (fun _ _ _ h => h) ?_ ?_ ?_ hCl hHeld ?_
                      rotate_left 2
                      · simp only [List.getElem?_toArray, List.getElem?_cons_succ, List.getElem?_cons_zero]; exact rfl
                      · intro l w'; rw [hSSs, hSSs]
                      · rfl
                      · intro w' hA; clear hA; go_simp; try with_reducible rfl
                      clear hCl hHeld
                      intro hCl hHeld
                      simp only [List.setIfInBounds_toArray, List.set_cons_zero, List.set_cons_succ] at hCl hHeld
                      try simp only [Act.put]
                      try simp only [List.setIfInBounds_toArray, List.set_cons_zero, List.set_cons_succ]
                      refine reg_takeG 17 ?_ ?_ ?_ (by kernel_rfl) (by kernel_rfl) (by kernel_rfl) (fun _ _ _ h => h) ?_ ?_ ?_ hCl hHeld ?_
                      rotate_left 2
                      · simp only [List.getElem?_toArray, List.getElem?_cons_succ, List.getElem?_cons_zero]; exact rfl
                      · intro l w'; rw [hSSs, hSSs]
                      · rfl
                      · intro w' hA; obtain ⟨l, hl, hi, hSl⟩ := hA; have hSl := (hSSs _ _).1 hSl; obtain ⟨hz0, hz1⟩ := hSl; go_simp; try with_reducible rfl
                      clear hCl hHeld
                      intro hCl hHeld
                      simp only [List.setIfInBounds_toArray, List.set_cons_zero, List.set_cons_succ] at hCl hHeld
                      try simp only [Act.put]
                      try simp only [List.setIfInBounds_toArray, List.set_cons_zero, List.set_cons_succ]
                      refine reg_takeG 18 ?_ ?_ ?_ (by kernel_rfl) (by kernel_rfl) (by kernel_rfl) (fun _ _ _ h => h) ?_ ?_ ?_ hCl hHeld ?_
                      rotate_left 2
                      · simp only [List.getElem?_toArray, List.getElem?_cons_succ, List.getElem?_cons_zero]; exact rfl
                      · intro l w'; rw [hSSs, hSSs]
                      · rfl
                      · intro w' hA; clear hA; go_simp; try with_reducible rfl
                      clear hCl hHeld
                      intro hCl hHeld
                      simp only [List.setIfInBounds_toArray, List.set_cons_zero, List.set_cons_succ] at hCl hHeld
                      try simp only [Act.put]
                      try simp only [List.setIfInBounds_toArray, List.set_cons_zero, List.set_cons_succ]
                      refine reg_takeG 19 ?_ ?_ ?_ (by kernel_rfl) (by kernel_rfl) (by kernel_rfl) (fun _ _ _ h => h) ?_ ?_ ?_ hCl hHeld ?_
                      rotate_left 2
                      · simp only [List.getElem?_toArray, List.getElem?_cons_succ, List.getElem?_cons_zero]; exact rfl
                      · intro l w'; rw [hSSs, hSSs]
                      · rfl
                      · intro w' hA; clear hA; go_simp; try with_reducible rfl
                      clear hCl hHeld
                      intro hCl hHeld
                      simp only [List.setIfInBounds_toArray, List.set_cons_zero, List.set_cons_succ] at hCl hHeld
                      try simp only [Act.put]
                      try simp only [List.setIfInBounds_toArray, List.set_cons_zero, List.set_cons_succ]
                      clear hCl hHeld
                      refine reg_callG 20 ?_ (by kernel_rfl) ?_ (fun K hK => ?_)
                      rotate_left 1
                      · simp only [List.getElem?_toArray, List.getElem?_cons_succ, List.getElem?_cons_zero]; exact rfl
                      go_simp
                      clear hx0 hx1 hup
                      refine hK.out _ _ ((hSSs _ _).2 ⟨hy0, hy1⟩) ?_
                      clear hK K
                      try simp only [Act.put]
                      try simp only [List.setIfInBounds_toArray, List.set_cons_zero, List.set_cons_succ]
                      refine wpAnyG_done (by kernel_rfl) ?_ _
                      refine NoPanic.normal ?_
                      clear hSSs SSs
                      go_wp2
                      have hnn := HNN.out
                      refine ⟨⟨_, _, _, _, _, _, _, _, _, _, _, _, _, _, _, _, _, _, _, _, _, _, _, _, _, _, _, _, _, _, _, _, _, _, ?_, rfl⟩, by simp [intOf]⟩
                      exact ⟨1 + 1, by omega, by go_num, congrArg (Value.int .i64) (by omega), ⟨_, FIN.out.1⟩, FIN.out.2.1, FIN.out.2.2⟩
                    · obtain ⟨mn, hmn⟩ : ∃ mn : Int, (if (x : Int) < (z : Int) then (x : Int) else (z : Int)) = mn := ⟨_, rfl⟩
                      obtain ⟨mx, hmx⟩ : ∃ mx : Int, (if (x : Int) > (z : Int) then (x : Int) else (z : Int)) = mx := ⟨_, rfl⟩
                      have bmn : -1000000 ≤ mn ∧ mn ≤ 1000000 := by rw [← hmn]; split <;> omega
                      have bmx : -1000000 ≤ mx ∧ mx ≤ 1000000 := by rw [← hmx]; split <;> omega
                      have hmin : ∀ w : World, Sem.run Try.prog (Builtin.min_ #[3, 3] 3 #[.int .i64 (z : Int), .int .i64 (x : Int)]) w = Result.ok (Value.int .i64 mn) w := fun w => by rw [run_min_int2, hmn]
                      have hmax : ∀ w : World, Sem.run Try.prog (Builtin.max_ #[3, 3] 3 #[.int .i64 (z : Int), .int .i64 (x : Int)]) w = Result.ok (Value.int .i64 mx) w := fun w => by rw [run_max_int2, hmx]
                      have hwk : (IntKind.i64.wrap 3).tmod 3 = 0 := by decide
                      obtain ⟨wm, F4, hup, hT4, hF4⟩ := fault_store HF3.out bmn bmx
                      have hx0 := HBX3.out.c 2 _ rfl; have hx1 := HBX3.out.c 0 _ rfl
                      have hbx4 := HBX3.out.turned hT4 (by omega)
                      have hbw4 : Below fb w7 wm := Below.turned HBW3.out hT4 (Nat.le_refl _)
                      have hy0 := hbx4.c 2 _ rfl; have hy1 := hbx4.c 0 _ rfl
                      have FIN := Lib.hid (And.intro hF4 (And.intro hbx4 hbw4))
                      clear hmn hmx bmn bmx hT4 hF4 hbx4 hbw4
                      go_wp2_with fail
                      obtain ⟨SSs, hSSs⟩ : ∃ S : Array Bool → World → Prop, ∀ l w', S l w' ↔ ((w'.cell? ⟨tb, 2, none⟩ = some (.int .i64 (z : Int))) ∧ (w'.cell? ⟨tb, 0, none⟩ = some (.int .i64 (x : Int)))) := ⟨_, fun _ _ => Iff.rfl⟩
                      refine wp_region_noPanic ?_
                      refine wp_region_G SSs 21 #[false, false, false, false, false, false, false, false, false, false, false, false, false, false, false, false, false, false, false, false, false] (by kernel_rfl) (by kernel_rfl) (by kernel_rfl) ((hSSs _ _).2 ⟨hx0, hx1⟩) (fun hCl hHeld => ?_)
                      generalize wr.drew = wd at *
                      refine reg_takeG 0 ?_ ?_ ?_ (by kernel_rfl) (by kernel_rfl) (by kernel_rfl) (fun _ _ _ h => h) ?_ ?_ ?_ hCl hHeld ?_
                      rotate_left 2
                      · simp only [List.getElem?_toArray, List.getElem?_cons_zero]; exact rfl
                      · intro l w'; rw [hSSs, hSSs]
                      · rfl
                      · intro w' hA; clear hA; go_simp; try with_reducible rfl
                      clear hCl hHeld
                      intro hCl hHeld
                      simp only [List.setIfInBounds_toArray, List.set_cons_zero] at hCl hHeld
                      try simp only [Act.put]
                      try simp only [List.setIfInBounds_toArray, List.set_cons_zero, List.set_cons_succ]
                      refine reg_takeG 1 ?_ ?_ ?_ (by kernel_rfl) (by kernel_rfl) (by kernel_rfl) (fun _ _ _ h => h) ?_ ?_ ?_ hCl hHeld ?_
                      rotate_left 2
                      · simp only [List.getElem?_toArray, List.getElem?_cons_succ, List.getElem?_cons_zero]; exact rfl
                      · intro l w'; rw [hSSs, hSSs]
                      · rfl
                      · intro w' hA; clear hA; go_simp; try with_reducible rfl
                      clear hCl hHeld
                      intro hCl hHeld
                      simp only [List.setIfInBounds_toArray, List.set_cons_zero, List.set_cons_succ] at hCl hHeld
                      try simp only [Act.put]
                      try simp only [List.setIfInBounds_toArray, List.set_cons_zero, List.set_cons_succ]
                      refine reg_takeG 2 ?_ ?_ ?_ (by kernel_rfl) (by kernel_rfl) (by kernel_rfl) (fun _ _ _ h => h) ?_ ?_ ?_ hCl hHeld ?_
                      rotate_left 2
                      · simp only [List.getElem?_toArray, List.getElem?_cons_succ, List.getElem?_cons_zero]; exact rfl
                      · intro l w'; rw [hSSs, hSSs]
                      · rfl
                      · intro w' hA; clear hA; go_simp; try with_reducible rfl
                      clear hCl hHeld
                      intro hCl hHeld
                      simp only [List.setIfInBounds_toArray, List.set_cons_zero, List.set_cons_succ] at hCl hHeld
                      try simp only [Act.put]
                      try simp only [List.setIfInBounds_toArray, List.set_cons_zero, List.set_cons_succ]
                      refine reg_takeG 3 ?_ ?_ ?_ (by kernel_rfl) (by kernel_rfl) (by kernel_rfl) (fun _ _ _ h => h) ?_ ?_ ?_ hCl hHeld ?_
                      rotate_left 2
                      · simp only [List.getElem?_toArray, List.getElem?_cons_succ, List.getElem?_cons_zero]; exact rfl
                      · intro l w'; rw [hSSs, hSSs]
                      · rfl
                      · intro w' hA; obtain ⟨l, hl, hi, hSl⟩ := hA; have hSl := (hSSs _ _).1 hSl; obtain ⟨hz0, hz1⟩ := hSl; go_simp; try with_reducible rfl
                      clear hCl hHeld
                      intro hCl hHeld
                      simp only [List.setIfInBounds_toArray, List.set_cons_zero, List.set_cons_succ] at hCl hHeld
                      try simp only [Act.put]
                      try simp only [List.setIfInBounds_toArray, List.set_cons_zero, List.set_cons_succ]
                      refine reg_takeG 4 ?_ ?_ ?_ (by kernel_rfl) (by kernel_rfl) (by kernel_rfl) (fun _ _ _ h => h) ?_ ?_ ?_ hCl hHeld ?_
                      rotate_left 2
                      · simp only [List.getElem?_toArray, List.getElem?_cons_succ, List.getElem?_cons_zero]; exact rfl
                      · intro l w'; rw [hSSs, hSSs]
                      · rfl
                      · intro w' hA; clear hA; go_simp; try with_reducible rfl
                      clear hCl hHeld
                      intro hCl hHeld
                      simp only [List.setIfInBounds_toArray, List.set_cons_zero, List.set_cons_succ] at hCl hHeld
                      try simp only [Act.put]
                      try simp only [List.setIfInBounds_toArray, List.set_cons_zero, List.set_cons_succ]
                      refine reg_takeG 5 ?_ ?_ ?_ (by kernel_rfl) (by kernel_rfl) (by kernel_rfl) (fun _ _ _ h => h) ?_ ?_ ?_ hCl hHeld ?_
                      rotate_left 2
                      · simp only [List.getElem?_toArray, List.getElem?_cons_succ, List.getElem?_cons_zero]; exact rfl
                      · intro l w'; rw [hSSs, hSSs]
                      · rfl
                      · intro w' hA; clear hA; go_simp; try with_reducible rfl
                      clear hCl hHeld
                      intro hCl hHeld
                      simp only [List.setIfInBounds_toArray, List.set_cons_zero, List.set_cons_succ] at hCl hHeld
                      try simp only [Act.put]
                      try simp only [List.setIfInBounds_toArray, List.set_cons_zero, List.set_cons_succ]
                      refine reg_takeG 6 ?_ ?_ ?_ (by kernel_rfl) (by kernel_rfl) (by kernel_rfl) (fun _ _ _ h => h) ?_ ?_ ?_ hCl hHeld ?_
                      rotate_left 2
                      · simp only [List.getElem?_toArray, List.getElem?_cons_succ, List.getElem?_cons_zero]; exact rfl
                      · intro l w'; rw [hSSs, hSSs]
                      · rfl
                      · intro w' hA; clear hA; go_simp; try with_reducible rfl
                      clear hCl hHeld
                      intro hCl hHeld
                      simp only [List.setIfInBounds_toArray, List.set_cons_zero, List.set_cons_succ] at hCl hHeld
                      try simp only [Act.put]
                      try simp only [List.setIfInBounds_toArray, List.set_cons_zero, List.set_cons_succ]
                      refine reg_takeG 7 ?_ ?_ ?_ (by kernel_rfl) (by kernel_rfl) (by kernel_rfl) (fun _ _ _ h => h) ?_ ?_ ?_ hCl hHeld ?_
                      rotate_left 2
                      · simp only [List.getElem?_toArray, List.getElem?_cons_succ, List.getElem?_cons_zero]; exact rfl
                      · intro l w'; rw [hSSs, hSSs]
                      · rfl
                      · intro w' hA; clear hA; go_simp; try with_reducible rfl
                      clear hCl hHeld
                      intro hCl hHeld
                      simp only [List.setIfInBounds_toArray, List.set_cons_zero, List.set_cons_succ] at hCl hHeld
                      try simp only [Act.put]
                      try simp only [List.setIfInBounds_toArray, List.set_cons_zero, List.set_cons_succ]
                      refine reg_takeG 8 ?_ ?_ ?_ (by kernel_rfl) (by kernel_rfl) (by kernel_rfl) (fun _ _ _ h => h) ?_ ?_ ?_ hCl hHeld ?_
                      rotate_left 2
                      · simp only [List.getElem?_toArray, List.getElem?_cons_succ, List.getElem?_cons_zero]; exact rfl
                      · intro l w'; rw [hSSs, hSSs]
                      · rfl
                      · intro w' hA; obtain ⟨l, hl, hi, hSl⟩ := hA; have hSl := (hSSs _ _).1 hSl; obtain ⟨hz0, hz1⟩ := hSl; go_simp; try with_reducible rfl
                      clear hCl hHeld
                      intro hCl hHeld
                      simp only [List.setIfInBounds_toArray, List.set_cons_zero, List.set_cons_succ] at hCl hHeld
                      try simp only [Act.put]
                      try simp only [List.setIfInBounds_toArray, List.set_cons_zero, List.set_cons_succ]
                      refine reg_takeG 9 ?_ ?_ ?_ (by kernel_rfl) (by kernel_rfl) (by kernel_rfl) (fun _ _ _ h => h) ?_ ?_ ?_ hCl hHeld ?_
                      rotate_left 2
                      · simp only [List.getElem?_toArray, List.getElem?_cons_succ, List.getElem?_cons_zero]; exact rfl
                      · intro l w'; rw [hSSs, hSSs]
                      · rfl
                      · intro w' hA; clear hA; go_simp; try with_reducible rfl
                      clear hCl hHeld
                      intro hCl hHeld
                      simp only [List.setIfInBounds_toArray, List.set_cons_zero, List.set_cons_succ] at hCl hHeld
                      try simp only [Act.put]
                      try simp only [List.setIfInBounds_toArray, List.set_cons_zero, List.set_cons_succ]
                      refine reg_takeG 10 ?_ ?_ ?_ (by kernel_rfl) (by kernel_rfl) (by kernel_rfl) (fun _ _ _ h => h) ?_ ?_ ?_ hCl hHeld ?_
                      rotate_left 2
                      · simp only [List.getElem?_toArray, List.getElem?_cons_succ, List.getElem?_cons_zero]; exact rfl
                      · intro l w'; rw [hSSs, hSSs]
                      · rfl
                      · intro w' hA; clear hA; go_simp; try with_reducible rfl
                      clear hCl hHeld
                      intro hCl hHeld
                      simp only [List.setIfInBounds_toArray, List.set_cons_zero, List.set_cons_succ] at hCl hHeld
                      try simp only [Act.put]
                      try simp only [List.setIfInBounds_toArray, List.set_cons_zero, List.set_cons_succ]
                      refine reg_takeG 11 ?_ ?_ ?_ (by kernel_rfl) (by kernel_rfl) (by kernel_rfl) (fun _ _ _ h => h) ?_ ?_ ?_ hCl hHeld ?_
                      rotate_left 2
                      · simp only [List.getElem?_toArray, List.getElem?_cons_succ, List.getElem?_cons_zero]; exact rfl
                      · intro l w'; rw [hSSs, hSSs]
                      · rfl
                      · intro w' hA; clear hA; go_simp; try with_reducible rfl
                      clear hCl hHeld
                      intro hCl hHeld
                      simp only [List.setIfInBounds_toArray, List.set_cons_zero, List.set_cons_succ] at hCl hHeld
                      try simp only [Act.put]
                      try simp only [List.setIfInBounds_toArray, List.set_cons_zero, List.set_cons_succ]
                      refine reg_takeG 12 ?_ ?_ ?_ (by kernel_rfl) (by kernel_rfl) (by kernel_rfl) (fun _ _ _ h => h) ?_ ?_ ?_ hCl hHeld ?_
                      rotate_left 2
                      · simp only [List.getElem?_toArray, List.getElem?_cons_succ, List.getElem?_cons_zero]; exact rfl
                      · intro l w'; rw [hSSs, hSSs]
                      · rfl
                      · intro w' hA; obtain ⟨l, hl, hi, hSl⟩ := hA; have hSl := (hSSs _ _).1 hSl; obtain ⟨hz0, hz1⟩ := hSl; go_simp; try with_reducible rfl
                      clear hCl hHeld
                      intro hCl hHeld
                      simp only [List.setIfInBounds_toArray, List.set_cons_zero, List.set_cons_succ] at hCl hHeld
                      try simp only [Act.put]
                      try simp only [List.setIfInBounds_toArray, List.set_cons_zero, List.set_cons_succ]
                      refine reg_takeG 13 ?_ ?_ ?_ (by kernel_rfl) (by kernel_rfl) (by kernel_rfl) (fun _ _ _ h => h) ?_ ?_ ?_ hCl hHeld ?_
                      rotate_left 2
                      · simp only [List.getElem?_toArray, List.getElem?_cons_succ, List.getElem?_cons_zero]; exact rfl
                      · intro l w'; rw [hSSs, hSSs]
                      · rfl
                      · intro w' hA; clear hA; go_simp; try with_reducible rfl
                      clear hCl hHeld
                      intro hCl hHeld
                      simp only [List.setIfInBounds_toArray, List.set_cons_zero, List.set_cons_succ] at hCl hHeld
                      try simp only [Act.put]
                      try simp only [List.setIfInBounds_toArray, List.set_cons_zero, List.set_cons_succ]
                      refine reg_takeG 14 ?_ ?_ ?_ (by kernel_rfl) (by kernel_rfl) (by kernel_rfl) (fun _ _ _ h => h) ?_ ?_ ?_ hCl hHeld ?_
                      rotate_left 2
                      · simp only [List.getElem?_toArray, List.getElem?_cons_succ, List.getElem?_cons_zero]; exact rfl
                      · intro l w'; rw [hSSs, hSSs]
                      · rfl
                      · intro w' hA; clear hA; go_simp; try with_reducible rfl
                      clear hCl hHeld
                      intro hCl hHeld
                      simp only [List.setIfInBounds_toArray, List.set_cons_zero, List.set_cons_succ] at hCl hHeld
                      try simp only [Act.put]
                      try simp only [List.setIfInBounds_toArray, List.set_cons_zero, List.set_cons_succ]
                      refine reg_takeG 15 ?_ ?_ ?_ (by kernel_rfl) (by kernel_rfl) (by kernel_rfl) (fun _ _ _ h => h) ?_ ?_ ?_ hCl hHeld ?_
                      rotate_left 2
                      · simp only [List.getElem?_toArray, List.getElem?_cons_succ, List.getElem?_cons_zero]; exact rfl
                      · intro l w'; rw [hSSs, hSSs]
                      · rfl
                      · intro w' hA; clear hA; go_simp; try with_reducible rfl
                      clear hCl hHeld
                      intro hCl hHeld
                      simp only [List.setIfInBounds_toArray, List.set_cons_zero, List.set_cons_succ] at hCl hHeld
                      try simp only [Act.put]
                      try simp only [List.setIfInBounds_toArray, List.set_cons_zero, List.set_cons_succ]
                      refine reg_takeG 16 ?_ ?_ ?_ (by kernel_rfl) (by kernel_rfl) (by kernel_rfl) (fun _ _ _ h => h) ?_ ?_ ?_ hCl hHeld ?_
                      rotate_left 2
                      · simp only [List.getElem?_toArray, List.getElem?_cons_succ, List.getElem?_cons_zero]; exact rfl
                      · intro l w'; rw [hSSs, hSSs]
                      · rfl
                      · intro w' hA; clear hA; go_simp; try with_reducible rfl
                      clear hCl hHeld
                      intro hCl hHeld
                      simp only [List.setIfInBounds_toArray, List.set_cons_zero, List.set_cons_succ] at hCl hHeld
                      try simp only [Act.put]
                      try simp only [List.setIfInBounds_toArray, List.set_cons_zero, List.set_cons_succ]
                      refine reg_takeG 17 ?_ ?_ ?_ (by kernel_rfl) (by kernel_rfl) (by kernel_rfl) (fun _ _ _ h => h) ?_ ?_ ?_ hCl hHeld ?_
                      rotate_left 2
                      · simp only [List.getElem?_toArray, List.getElem?_cons_succ, List.getElem?_cons_zero]; exact rfl
                      · intro l w'; rw [hSSs, hSSs]
                      · rfl
                      · intro w' hA; obtain ⟨l, hl, hi, hSl⟩ := hA; have hSl := (hSSs _ _).1 hSl; obtain ⟨hz0, hz1⟩ := hSl; go_simp; try with_reducible rfl
                      clear hCl hHeld
                      intro hCl hHeld
                      simp only [List.setIfInBounds_toArray, List.set_cons_zero, List.set_cons_succ] at hCl hHeld
                      try simp only [Act.put]
                      try simp only [List.setIfInBounds_toArray, List.set_cons_zero, List.set_cons_succ]
                      refine reg_takeG 18 ?_ ?_ ?_ (by kernel_rfl) (by kernel_rfl) (by kernel_rfl) (fun _ _ _ h => h) ?_ ?_ ?_ hCl hHeld ?_
                      rotate_left 2
                      · simp only [List.getElem?_toArray, List.getElem?_cons_succ, List.getElem?_cons_zero]; exact rfl
                      · intro l w'; rw [hSSs, hSSs]
                      · rfl
                      · intro w' hA; clear hA; go_simp; try with_reducible rfl
                      clear hCl hHeld
                      intro hCl hHeld
                      simp only [List.setIfInBounds_toArray, List.set_cons_zero, List.set_cons_succ] at hCl hHeld
                      try simp only [Act.put]
                      try simp only [List.setIfInBounds_toArray, List.set_cons_zero, List.set_cons_succ]
                      refine reg_takeG 19 ?_ ?_ ?_ (by kernel_rfl) (by kernel_rfl) (by kernel_rfl) (fun _ _ _ h => h) ?_ ?_ ?_ hCl hHeld ?_
                      rotate_left 2
                      · simp only [List.getElem?_toArray, List.getElem?_cons_succ, List.getElem?_cons_zero]; exact rfl
                      · intro l w'; rw [hSSs, hSSs]
                      · rfl
                      · intro w' hA; clear hA; go_simp; try with_reducible rfl
                      clear hCl hHeld
                      intro hCl hHeld
                      simp only [List.setIfInBounds_toArray, List.set_cons_zero, List.set_cons_succ] at hCl hHeld
                      try simp only [Act.put]
                      try simp only [List.setIfInBounds_toArray, List.set_cons_zero, List.set_cons_succ]
                      clear hCl hHeld
                      refine reg_callG 20 ?_ (by kernel_rfl) ?_ (fun K hK => ?_)
                      rotate_left 1
                      · simp only [List.getElem?_toArray, List.getElem?_cons_succ, List.getElem?_cons_zero]; exact rfl
                      go_simp
                      clear hx0 hx1 hup
                      refine hK.out _ _ ((hSSs _ _).2 ⟨hy0, hy1⟩) ?_
                      clear hK K
                      try simp only [Act.put]
                      try simp only [List.setIfInBounds_toArray, List.set_cons_zero, List.set_cons_succ]
                      refine wpAnyG_done (by kernel_rfl) ?_ _
                      refine NoPanic.normal ?_
                      clear hSSs SSs
                      go_wp2
                      have hnn := HNN.out
                      refine ⟨⟨_, _, _, _, _, _, _, _, _, _, _, _, _, _, _, _, _, _, _, _, _, _, _, _, _, _, _, _, _, _, _, _, _, _, ?_, rfl⟩, by simp [intOf]⟩
                      exact ⟨2 + 1, by omega, by go_num, congrArg (Value.int .i64) (by omega), ⟨_, FIN.out.1⟩, FIN.out.2.1, FIN.out.2.2⟩
                · obtain rfl : i = 3 := by omega
                  have FIN := Lib.hid (And.intro hF2 hbw)
                  clear hF2 hbw hbx
                  go_wp2
                  exact ⟨⟨j + 1, by omega, by go_num, congrArg (Value.int .i64) (by omega), ⟨_, FIN.out.1⟩, FIN.out.2⟩, by simp [intOf]; omega⟩
            · obtain rfl : j = 4 := by omega
              have hgl := HM.out.len
              obtain ⟨⟨ta, tb, tc⟩, h0⟩ : ∃ v, (gridT 2 1 bn)[0]? = some v := ⟨_, List.getElem?_eq_getElem (by omega)⟩
              have hz := HM.out.one _ (List.mem_of_getElem? h0)
              simp only [] at hz
              have hb7 : Below w7.heap.size w7 wr := by rw [HFB.out]; exact hbw
              have hpr : RowN wr (w.heap.size + 1) 62 2 (.slice (some ⟨gp, 0, none⟩) 6 gpc) 6 (ptsCells (gridP 2 1)) := (HROW.out.below HBT.out).below hb7
              have htr := HTR.out.below hb7
              have hbu := Build_any F (gridT 2 1 bn) ta tb tc fb gt 4 gtc gp 6 gpc (gridP 2 1) wr OK.out.good h0 hz (by omega) (by omega) OK.out.pts htr hF rfl (by omega) (by omega) HPS.out hpr.ptsC HM.out.some_ (by have := HM.out.few; omega) HM.out.ends
              have HBU := Lib.hid hbu; have HTRR := Lib.hid htr
              have HBWR := Lib.hid (HBW.out.trans ((HBT.out.trans (hb7.mono HBT.out.size)).mono HBW.out.size))
              have hgt := HGTL.out.1; have hsz5 := HBW.out.size
              clear hbu htr hpr hb7 hF hbw hz h0 hgl
              go_wp2_with fail
              refine HBU.out.mono ?_
              rintro e w9 ⟨mb, rfl, hbe, hb9⟩
              have hbs := HBWR.out.size
              have FIN := Lib.hid (And.intro (hbe.low hbs) (And.intro (HTRR.out.below hb9) (HBWR.out.trans (hb9.mono hbs))))
              clear hbe hb9
              go_wp2
              go_ret2
              exact ⟨mb, gt, gtc, F, rfl, FIN.out.1, FIN.out.2.1, by omega, FIN.out.2.2⟩
end Go.Proofs.Ytecnnpkpgbbfkaa
/- The statements' Grid, 2 by 2. -/
namespace Go.Proofs.Ytecnnpkpgbbfkaa
open Go.RowKit Go.MagM
set_option maxRecDepth 100000 in
set_option maxHeartbeats 16000000 in
theorem Grid22_any (w0 h0 b f : Int) (bn : Nat) (hbn : bn < 16) (e1 : bits .and .i64 w0 1 = 1) (e2 : bits .and .i64 h0 1 = 1) (hbit : ∀ k : Nat, k < 4 → bitB b k = bn.testBit k) (w : World) :
    Calls Try.prog 6 #[.int .i64 w0, .int .i64 h0, .int .u32 b, .int .u32 f] w fun e w' => ∃ (mb g c : Nat) (F : Int → Int → Bool), e = .returned (.tuple #[.pointer (some ⟨mb, 0, none⟩), .slice (some ⟨g, 0, none⟩) 8 c]) ∧ BuildEnd 62 49 F w.heap.size (gridP 2 2) (gridT 2 2 bn) mb w' ∧ TrIn w' g ((gridT 2 2 bn).map realV) ∧ w.heap.size ≤ g ∧ Below w.heap.size w w' := by
  have ok := grid_ok (w := 2) (h := 2) (by omega) (by omega) hbn
  have hm := grid_has (w := 2) (h := 2) (by omega) (by omega) hbn
  have hps : InPs (gridP 2 2) := grid_inPs (by omega) (by omega)
  have OK := Lib.hid ok; have HM := Lib.hid hm; have HPS := Lib.hid hps; have HBIT := Lib.hid hbit
  clear ok hm hps hbit
  obtain ⟨i0, hi, hz0, hz1, hz2⟩ := info_parts infoPt
  have HI := Lib.hid hi; have HZ0 := Lib.hid hz0; have HZ1 := Lib.hid hz1; have HZ2 := Lib.hid hz2
  obtain ⟨j0, hj, hy0, hy1, hy2⟩ := info_parts infoE3
  have HJ := Lib.hid hj; have HY0 := Lib.hid hy0; have HY1 := Lib.hid hy1; have HY2 := Lib.hid hy2
  clear hi hz0 hz1 hz2 hj hy0 hy1 hy2
  obtain ⟨w1, hw1, pw0, hB1, hs1⟩ := new_box w _ rfl [.int .i64 w0] 3
  have sc := pw0.c 0 _ rfl; have sf := pw0.f 0 _ rfl
  obtain ⟨w2, hw2⟩ : ∃ w2, w1.setCell ⟨w.heap.size, 0, none⟩ (.int .i64 2) = w2 := ⟨_, rfl⟩
  have pw2 : Box w2 w.heap.size [.int .i64 2] := by rw [← hw2]; exact pw0.set 0 (.int .i64 2)
  have hB2 : Below w.heap.size w w2 := by rw [← hw2]; exact hB1.setCell (p := ⟨w.heap.size, 0, none⟩) (by simp only []; omega) _
  have hz2 : w.heap.size + 1 ≤ w2.heap.size := by have := pw2.lt; omega
  have PW2 := Lib.hid pw2; have HB2 := Lib.hid hB2; have HZS := Lib.hid hz2
  clear pw0 hB1 hs1 pw2 hB2 hz2
  go_enter Try.func6, Try.ntmps6
  go_wp2
  clear sc sf hw1 hw2
  go_loopw [10, 11, 12, 35] (fun pv _ _ iv wr => ∃ (y : Nat) (vv : Value), y ≤ 3 ∧ iv = .int .i64 (y : Int) ∧ vv = pv ∧ RowN wr (w.heap.size + 1) 62 2 vv (y * 3) (ptsCells ((gridP 2 2).take (y * 3))) ∧ Box wr w.heap.size [.int .i64 2] ∧ Below w.heap.size w wr ∧ w.heap.size + 1 ≤ wr.heap.size) (fun _ _ _ iv _ => 3 - (intOf iv).toNat)
  case atStart => exact ⟨0, _, Nat.zero_le _, rfl, rfl, RowN.nil _ _ _ _, PW2.out, HB2.out, HZS.out⟩
  case round =>
    obtain ⟨y, vv, hy, rfl, rfl, hrow, hbx, hbw, hsz⟩ := hrel
    by_cases hlt : y < 3
    · have hyd : decide ((y : Int) < 3) = true := decide_eq_true (by omega)
      have cw := hbx.c 0 _ rfl
      have HROW := Lib.hid hrow; have HBX := Lib.hid hbx; have HBW := Lib.hid hbw; have HSZ := Lib.hid hsz
      clear hrow hbx hbw hsz
      go_wp2
      clear cw
      go_loopw [10, 12, 40] (fun pv _ iv wr => ∃ (x : Nat) (vv : Value), x ≤ 3 ∧ iv = .int .i64 (x : Int) ∧ vv = pv ∧ RowN wr (w.heap.size + 1) 62 2 vv (y * 3 + x) (ptsCells ((gridP 2 2).take (y * 3 + x))) ∧ Box wr w.heap.size [.int .i64 2] ∧ Below w.heap.size w wr ∧ w.heap.size + 1 ≤ wr.heap.size) (fun _ _ iv _ => 3 - (intOf iv).toNat)
      case atStart => exact ⟨0, _, Nat.zero_le _, rfl, rfl, HROW.out, HBX.out, HBW.out, HSZ.out⟩
      case round =>
        obtain ⟨x, vv, hx, rfl, rfl, hrow, hbx, hbw, hsz⟩ := hrel
        by_cases hlx : x < 3
        · have hel := gridP_at (w := 2) (h := 2) (by omega) (by omega) (x := x) (y := y) (by omega) (by omega)
          have hx2 : IntKind.i64.wrap (2 * (x : Int)) = 2 * (x : Int) := by rw [IntKind.wrap_i64]; omega
          have hy2 : IntKind.i64.wrap (2 * (y : Int)) = 2 * (y : Int) := by rw [IntKind.wrap_i64]; omega
          obtain ⟨w3, hw3, hpn, hb3, hs3⟩ := new_box wr _ rfl [.int .i64 (2 * (x : Int)), .int .i64 (2 * (y : Int))] 62
          have hrow3 := hrow.below hb3
          have hbx3 := hbx.below hb3
          have hbw3 := hbw.trans (hb3.mono hbw.size)
          obtain ⟨v1, w4, hrun, rown, hgrow, hkept⟩ := run_append_row (P := Try.prog) w3 (w.heap.size + 1) 40 40 62 i0 (.agg #[.int .i64 0, .int .i64 0]) 2 16 (by kernel_rfl) HI.out HZ0.out HZ1.out HZ2.out rfl (noWordI2 _ _) _ (y * 3 + x) _ hrow3 ⟨wr.heap.size, 0, none⟩ 1 1 [.int .i64 (2 * (x : Int)), .int .i64 (2 * (y : Int))] (by omega) rfl hpn.news (by intro u hu; simp at hu; rcases hu with rfl | rfl <;> rfl) (noWordI2 _ _) (by unfold maxLen; omega) (by omega) (by omega)
          have hne : ∀ k, vv.ownBlock = some k → w.heap.size + 1 ≤ k := fun k hk => (hrow3.lt k hk).1
          have hbx4 := hbx3.grown hgrow (fun e => by have := hne _ e; omega) hbx3.lt
          have hbw4 : Below w.heap.size w w4 := hbw3.grown hgrow (by omega) (fun k hk => by have := hne k hk; omega)
          have htk : ptsCells ((gridP 2 2).take (y * 3 + x)) ++ [.int .i64 (2 * (x : Int)), .int .i64 (2 * (y : Int))] = ptsCells ((gridP 2 2).take (y * 3 + (x + 1))) := by
            rw [← Nat.add_assoc, List.take_add_one, hel, ptsCells_app]; rfl
          rw [htk] at rown
          have FIN := Lib.hid (And.intro rown (And.intro hbx4 (And.intro hbw4 (show w.heap.size + 1 ≤ w4.heap.size by have := hgrow.size; omega))))
          clear hrow hbx hbw hsz hpn hb3 hs3 hrow3 hbx3 hbw3 rown hgrow hkept hne hbx4 hbw4 htk hel
          go_wp2_with (refine wpList_append_row rfl _ _ 40 rfl rfl rfl hrun ?_)
          have FI := FIN.out
          exact ⟨⟨x + 1, _, by omega, by go_num, rfl, FI.1, FI.2.1, FI.2.2.1, FI.2.2.2⟩, by simp [intOf]; omega⟩
        · obtain rfl : x = 3 := by omega
          have FIN := Lib.hid (And.intro hrow (And.intro hbx (And.intro hbw hsz)))
          clear hrow hbx hbw hsz
          go_wp2
          have FI := FIN.out
          have hrow := FI.1
          rw [show y * 3 + 3 = (y + 1) * 3 by omega] at hrow
          exact ⟨⟨y + 1, _, by omega, by go_num, rfl, hrow, FI.2.1, FI.2.2.1, FI.2.2.2⟩, by simp [intOf]; omega⟩
    · obtain rfl : y = 3 := by omega
      have hpt : (gridP 2 2).take (3 * 3) = gridP 2 2 := rfl
      rw [hpt] at hrow
      obtain ⟨gp, gpc, hvv⟩ : ∃ g c, vv = .slice (some ⟨g, 0, none⟩) 9 c := by
        rcases hrow.2 with ⟨h1, h2⟩ | ⟨g, cap, cur, h1, h2, h3⟩
        · omega
        · exact ⟨g, cap, h1⟩
      subst hvv
      have hpl := hrow.lt gp rfl
      obtain ⟨w5, hw5⟩ : ∃ w5, w5 = wr := ⟨_, rfl⟩
      rw [← hw5] at hrow hbx hbw hsz hpl
      rw [← hw5]
      have HROW := Lib.hid hrow; have HBX := Lib.hid hbx; have HBW := Lib.hid hbw; have HSZ := Lib.hid hsz; have HPL := Lib.hid hpl
      clear hrow hbx hbw hsz hpl hw5
      go_wp2
      go_loopw [13, 15, 16, 17, 18, 19, 20, 21, 55] (fun tv kv _ _ _ _ _ _ iv wr => ∃ (y : Nat) (vv : Value), y ≤ 2 ∧ iv = .int .i64 (y : Int) ∧ kv = .int .i64 ((y * 2 : Nat) : Int) ∧ vv = tv ∧ RowN wr w5.heap.size 46 3 vv (2 * (y * 2)) (tr3Cells ((gridT 2 2 bn).take (2 * (y * 2)))) ∧ Below w5.heap.size w5 wr) (fun _ _ _ _ _ _ _ _ iv _ => 2 - (intOf iv).toNat)
      case atStart => exact ⟨0, _, Nat.zero_le _, rfl, rfl, rfl, RowN.nil _ _ _ _, Below.refl _ _⟩
      case round =>
        obtain ⟨y, vv, hy, rfl, rfl, rfl, hrow, hbw⟩ := hrel
        by_cases hlt : y < 2
        · have hyd : decide ((y : Int) < 2) = true := decide_eq_true (by omega)
          have cw := (HBX.out.below hbw).c 0 _ rfl
          have HRW := Lib.hid hrow; have HBZ := Lib.hid hbw
          clear hrow hbw
          go_wp2
          clear cw
          go_loopw [13, 15, 17, 18, 19, 20, 21, 59] (fun tv kv _ _ _ _ _ iv wr => ∃ (x : Nat) (vv : Value), x ≤ 2 ∧ iv = .int .i64 (x : Int) ∧ kv = .int .i64 ((y * 2 + x : Nat) : Int) ∧ vv = tv ∧ RowN wr w5.heap.size 46 3 vv (2 * (y * 2 + x)) (tr3Cells ((gridT 2 2 bn).take (2 * (y * 2 + x)))) ∧ Below w5.heap.size w5 wr) (fun _ _ _ _ _ _ _ iv _ => 2 - (intOf iv).toNat)
          case atStart => exact ⟨0, _, Nat.zero_le _, rfl, by rw [Nat.add_zero], rfl, HRW.out, HBZ.out⟩
          case round =>
            obtain ⟨x, vv, hx, rfl, rfl, rfl, hrow, hbw⟩ := hrel
            by_cases hlx : x < 2
            · have cw := (HBX.out.below hbw).c 0 _ rfl
              have hev := HM.out.even y x hlt hlx
              have hod := HM.out.odd y x hlt hlx
              have hbt := HBIT.out (y * 2 + x) (by omega)
              obtain ⟨q, hq⟩ : ∃ q, bn.testBit (y * 2 + x) = q := ⟨_, rfl⟩
              rw [hq] at hev hod hbt
              have a0 := gridNo_any w.heap.size 2 x y wr (by omega) (by omega) (by omega) cw ((y : Int) * 3 + (x : Int)) (by omega)
              have a1 := gridNo_any w.heap.size 2 (x + 1) y wr (by omega) (by omega) (by omega) cw ((y : Int) * 3 + ((x : Int) + 1)) (by omega)
              have a2 := gridNo_any w.heap.size 2 (x + 1) (y + 1) wr (by omega) (by omega) (by omega) cw (((y : Int) + 1) * 3 + ((x : Int) + 1)) (by omega)
              have a3 := gridNo_any w.heap.size 2 x (y + 1) wr (by omega) (by omega) (by omega) cw (((y : Int) + 1) * 3 + (x : Int)) (by omega)
              rw [show (((x + 1 : Nat)) : Int) = (x : Int) + 1 by omega] at a1 a2
              rw [show (((y + 1 : Nat)) : Int) = (y : Int) + 1 by omega] at a2 a3
              obtain ⟨ca, hca⟩ : ∃ c : Int, (y : Int) * 3 + (x : Int) = c := ⟨_, rfl⟩
              obtain ⟨cb, hcb⟩ : ∃ c : Int, (y : Int) * 3 + ((x : Int) + 1) = c := ⟨_, rfl⟩
              obtain ⟨cc, hcc⟩ : ∃ c : Int, ((y : Int) + 1) * 3 + ((x : Int) + 1) = c := ⟨_, rfl⟩
              obtain ⟨cd, hcd⟩ : ∃ c : Int, ((y : Int) + 1) * 3 + (x : Int) = c := ⟨_, rfl⟩
              rw [hca] at a0; rw [hcb] at a1; rw [hcc] at a2; rw [hcd] at a3
              have C0 := Lib.hid a0; have C1 := Lib.hid a1; have C2 := Lib.hid a2; have C3 := Lib.hid a3
              have HEV := Lib.hid hev; have HOD := Lib.hid hod; have HBT := Lib.hid hbt; have HRW2 := Lib.hid hrow; have HBZ2 := Lib.hid hbw
              have HCA := Lib.hid hca; have HCB := Lib.hid hcb; have HCC := Lib.hid hcc; have HCD := Lib.hid hcd
              obtain ⟨kk, hkk⟩ : ∃ kk : Nat, y * 2 + x = kk := ⟨_, rfl⟩
              have hkk4 : kk < 4 := by omega
              rw [hkk] at hbt
              unfold bitB at hbt
              have na : (((y * 3 + x : Nat)) : Int) = ca := by omega
              have nb : (((y * 3 + (x + 1) : Nat)) : Int) = cb := by omega
              have nc : ((((y + 1) * 3 + (x + 1) : Nat)) : Int) = cc := by omega
              have nd : ((((y + 1) * 3 + x : Nat)) : Int) = cd := by omega
              have HKK := Lib.hid hkk
              rw [hkk]
              have HNA := Lib.hid (And.intro na (And.intro nb (And.intro nc nd)))
              clear a0 a1 a2 a3 hev hod hrow hbw hca hcb hcc hcd cw hkk na nb nc nd hq
              cases q
              · have hev' : (gridT 2 2 bn)[2 * (y * 2 + x)]? = some (y * 3 + (x + 1), (y + 1) * 3 + x, y * 3 + x) := HEV.out
                have hod' : (gridT 2 2 bn)[2 * (y * 2 + x) + 1]? = some ((y + 1) * 3 + x, y * 3 + (x + 1), (y + 1) * 3 + (x + 1)) := HOD.out
                have HEV' := Lib.hid hev'; have HOD' := Lib.hid hod'
                clear hev' hod'
                go_wp2_with fail
                refine C0.out.mono ?_
                rintro e w6 ⟨rfl, rfl⟩
                go_wp2_with fail
                refine C1.out.mono ?_
                rintro e w6 ⟨rfl, rfl⟩
                go_wp2_with fail
                refine C2.out.mono ?_
                rintro e w6 ⟨rfl, rfl⟩
                go_wp2_with fail
                refine C3.out.mono ?_
                rintro e w6 ⟨rfl, rfl⟩
                obtain ⟨w6, hw6, hpn, hb6, hs6⟩ := new_box wr _ rfl [.int .i64 cb, .int .i64 cd, .int .i64 ca, .int .i64 cd, .int .i64 cb, .int .i64 cc] 46
                have hrow6 := HRW2.out.below hb6
                have hbw6 := HBZ2.out.trans (hb6.mono HBZ2.out.size)
                obtain ⟨v1, w7, hrun, rown, hgrow, hkept⟩ := run_append_row (P := Try.prog) w6 w5.heap.size 26 26 46 j0 (.agg #[.int .i64 0, .int .i64 0, .int .i64 0]) 3 24 (by kernel_rfl) HJ.out HY0.out HY1.out HY2.out rfl (noWordI3 _ _ _) _ (2 * (y * 2 + x)) _ hrow6 ⟨wr.heap.size, 0, none⟩ 2 2 [.int .i64 cb, .int .i64 cd, .int .i64 ca, .int .i64 cd, .int .i64 cb, .int .i64 cc] (by omega) rfl hpn.news (by intro u hu; simp at hu; rcases hu with rfl | rfl | rfl | rfl | rfl | rfl <;> rfl) (noWordI6 _ _ _ _ _ _) (by unfold maxLen; omega) (by omega) (by have := hbw6.size; omega)
                have hbw7 : Below w5.heap.size w5 w7 := hbw6.grown hgrow (by have := hbw6.size; omega) (fun k hk => (hrow6.lt k hk).1)
                have htk : tr3Cells ((gridT 2 2 bn).take (2 * (y * 2 + x))) ++ [.int .i64 cb, .int .i64 cd, .int .i64 ca, .int .i64 cd, .int .i64 cb, .int .i64 cc] = tr3Cells ((gridT 2 2 bn).take (2 * (y * 2 + (x + 1)))) := by
                  obtain ⟨na, nb, nc, nd⟩ := HNA.out
                  rw [show 2 * (y * 2 + (x + 1)) = 2 * (y * 2 + x) + 1 + 1 by omega, List.take_add_one, List.take_add_one, HEV'.out, HOD'.out, tr3_app, tr3_app, List.append_assoc]
                  simp only [Option.toList_some, tr3Cells, na, nb, nc, nd, List.cons_append, List.nil_append]
                rw [htk, show 2 * (y * 2 + x) + 2 = 2 * (y * 2 + (x + 1)) by omega] at rown
                have FIN := Lib.hid (And.intro rown hbw7)
                clear hpn hb6 hs6 hrow6 hbw6 rown hgrow hkept hbw7 htk
                go_wp2_with (refine wpList_append_row rfl _ _ 26 rfl rfl rfl hrun ?_)
                have hkk := HKK.out
                refine ⟨⟨_, _, _, _, _, _, _, _, _, _, _, _, _, _, _, _, _, _, _, _, _, _, _, _, _, _, _, _, _, _, _, _, _, _, _, _, _, _, _, _, _, _, _, _, _, _, _, _, _, _, _, _, _, _, _, _, _, _, _, _, ?_, rfl⟩, by simp [intOf]; omega⟩
                exact ⟨x + 1, _, by omega, by go_num, congrArg (Value.int .i64) (by omega), rfl, FIN.out.1, FIN.out.2⟩
              · have hev' : (gridT 2 2 bn)[2 * (y * 2 + x)]? = some (y * 3 + x, y * 3 + (x + 1), (y + 1) * 3 + (x + 1)) := HEV.out
                have hod' : (gridT 2 2 bn)[2 * (y * 2 + x) + 1]? = some ((y + 1) * 3 + (x + 1), (y + 1) * 3 + x, y * 3 + x) := HOD.out
                have HEV' := Lib.hid hev'; have HOD' := Lib.hid hod'
                clear hev' hod'
                go_wp2_with fail
                refine C0.out.mono ?_
                rintro e w6 ⟨rfl, rfl⟩
                go_wp2_with fail
                refine C1.out.mono ?_
                rintro e w6 ⟨rfl, rfl⟩
                go_wp2_with fail
                refine C2.out.mono ?_
                rintro e w6 ⟨rfl, rfl⟩
                go_wp2_with fail
                refine C3.out.mono ?_
                rintro e w6 ⟨rfl, rfl⟩
                obtain ⟨w6, hw6, hpn, hb6, hs6⟩ := new_box wr _ rfl [.int .i64 ca, .int .i64 cb, .int .i64 cc, .int .i64 cc, .int .i64 cd, .int .i64 ca] 46
                have hrow6 := HRW2.out.below hb6
                have hbw6 := HBZ2.out.trans (hb6.mono HBZ2.out.size)
                obtain ⟨v1, w7, hrun, rown, hgrow, hkept⟩ := run_append_row (P := Try.prog) w6 w5.heap.size 26 26 46 j0 (.agg #[.int .i64 0, .int .i64 0, .int .i64 0]) 3 24 (by kernel_rfl) HJ.out HY0.out HY1.out HY2.out rfl (noWordI3 _ _ _) _ (2 * (y * 2 + x)) _ hrow6 ⟨wr.heap.size, 0, none⟩ 2 2 [.int .i64 ca, .int .i64 cb, .int .i64 cc, .int .i64 cc, .int .i64 cd, .int .i64 ca] (by omega) rfl hpn.news (by intro u hu; simp at hu; rcases hu with rfl | rfl | rfl | rfl | rfl | rfl <;> rfl) (noWordI6 _ _ _ _ _ _) (by unfold maxLen; omega) (by omega) (by have := hbw6.size; omega)
                have hbw7 : Below w5.heap.size w5 w7 := hbw6.grown hgrow (by have := hbw6.size; omega) (fun k hk => (hrow6.lt k hk).1)
                have htk : tr3Cells ((gridT 2 2 bn).take (2 * (y * 2 + x))) ++ [.int .i64 ca, .int .i64 cb, .int .i64 cc, .int .i64 cc, .int .i64 cd, .int .i64 ca] = tr3Cells ((gridT 2 2 bn).take (2 * (y * 2 + (x + 1)))) := by
                  obtain ⟨na, nb, nc, nd⟩ := HNA.out
                  rw [show 2 * (y * 2 + (x + 1)) = 2 * (y * 2 + x) + 1 + 1 by omega, List.take_add_one, List.take_add_one, HEV'.out, HOD'.out, tr3_app, tr3_app, List.append_assoc]
                  simp only [Option.toList_some, tr3Cells, na, nb, nc, nd, List.cons_append, List.nil_append]
                rw [htk, show 2 * (y * 2 + x) + 2 = 2 * (y * 2 + (x + 1)) by omega] at rown
                have FIN := Lib.hid (And.intro rown hbw7)
                clear hpn hb6 hs6 hrow6 hbw6 rown hgrow hkept hbw7 htk
                go_wp2_with (refine wpList_append_row rfl _ _ 26 rfl rfl rfl hrun ?_)
                have hkk := HKK.out
                refine ⟨⟨_, _, _, _, _, _, _, _, _, _, _, _, _, _, _, _, _, _, _, _, _, _, _, _, _, _, _, _, _, _, _, _, _, _, _, _, _, _, _, _, _, _, _, _, _, _, _, _, _, _, _, _, _, _, _, _, _, _, _, _, ?_, rfl⟩, by simp [intOf]; omega⟩
                exact ⟨x + 1, _, by omega, by go_num, congrArg (Value.int .i64) (by omega), rfl, FIN.out.1, FIN.out.2⟩
            · obtain rfl : x = 2 := by omega
              have FIN := Lib.hid (And.intro hrow hbw)
              clear hrow hbw
              go_wp2
              have hrow := FIN.out.1
              rw [show y * 2 + 2 = (y + 1) * 2 by omega] at hrow
              exact ⟨⟨y + 1, _, by omega, by go_num, congrArg (Value.int .i64) (by omega), rfl, hrow, FIN.out.2⟩, by simp [intOf]; omega⟩
        · obtain rfl : y = 2 := by omega
          have hgl := HM.out.len
          have htt : (gridT 2 2 bn).take (2 * (2 * 2)) = gridT 2 2 bn := List.take_of_length_le (by rw [hgl]; omega)
          rw [htt] at hrow
          obtain ⟨gt, gtc, hvv⟩ : ∃ g c, vv = .slice (some ⟨g, 0, none⟩) 8 c := by
            rcases hrow.2 with ⟨h1, h2⟩ | ⟨g, cap, cur, h1, h2, h3⟩
            · omega
            · exact ⟨g, cap, h1⟩
          subst hvv
          have hgtl := hrow.lt gt rfl
          obtain ⟨w7, hw7⟩ : ∃ w7, w7 = wr := ⟨_, rfl⟩
          rw [← hw7] at hrow hbw hgtl
          rw [← hw7]
          clear hw7
          obtain ⟨fb, hfb⟩ : ∃ fb, w7.heap.size = fb := ⟨_, rfl⟩
          obtain ⟨hmk, hmp⟩ := run_new_map (P := Try.prog) w7 64 22
          obtain ⟨w8, hw8⟩ : ∃ w8, w7.alloc (.map #[] 0) = w8 := ⟨_, rfl⟩
          rw [hw8, hfb] at hmk hmp
          have hb8 : Below fb w7 w8 := by rw [← hw8, ← hfb]; exact (Below.refl _ _).alloc (Nat.le_refl _) _
          have htr := hrow.trIn
          have HRWT := Lib.hid hrow; have HBT := Lib.hid hbw; have HTR := Lib.hid htr; have HGTL := Lib.hid hgtl; have HFB := Lib.hid hfb; have HMP := Lib.hid (fault_new hmp); have HB8 := Lib.hid hb8
          clear hrow hbw htr hgtl hfb hmp hb8 hw8
          go_wp2
          clear hmk
          go_loopw [23, 25, 26, 116] (fun nv _ _ iv wr => ∃ j : Nat, j ≤ 8 ∧ iv = .int .i64 (j : Int) ∧ nv = .int .i64 ((3 * j : Nat) : Int) ∧ (∃ F, FaultMap Try.prog 22 wr fb F) ∧ Below fb w7 wr) (fun _ _ _ iv _ => 8 - (intOf iv).toNat)
          case atStart => exact ⟨0, Nat.zero_le _, rfl, rfl, ⟨_, HMP.out⟩, HB8.out⟩
          case round =>
            obtain ⟨j, hj, rfl, rfl, ⟨F, hF⟩, hbw⟩ := hrel
            by_cases hlt : j < 8
            · have hyd : decide ((j : Int) < 8) = true := decide_eq_true (by omega)
              obtain ⟨⟨x, y, z⟩, hv⟩ : ∃ v, (gridT 2 2 bn)[j]? = some v := ⟨_, List.getElem?_eq_getElem (by have := HM.out.len; omega)⟩
              obtain ⟨px, py, pz⟩ := OK.out.pts _ (List.mem_of_getElem? hv)
              have hpl6 := OK.out.many
              simp only [] at px py pz
              have htk := HTR.out j (x : Int) (y : Int) (z : Int) (by rw [List.getElem?_map, hv]; rfl)
              have hfb := HFB.out
              have l1 := World.block_lt_of_cell? w7 _ htk.1
              simp only [] at l1
              have ka := (hbw.cell (p := ⟨gt, j * 3, none⟩) (by show gt < fb; omega)).trans htk.1
              have kb := (hbw.cell (p := ⟨gt, j * 3 + 1, none⟩) (by show gt < fb; omega)).trans htk.2.1
              have kc := (hbw.cell (p := ⟨gt, j * 3 + 2, none⟩) (by show gt < fb; omega)).trans htk.2.2
              obtain ⟨w9, hw9, hpv, hb9, hs9⟩ := new_box wr _ rfl [.int .i64 (x : Int), .int .i64 (y : Int), .int .i64 (z : Int)] 46
              have hF9 := hF.same (hb9.block fb hF.lt)
              have hfl := hF.lt
              have hbw9 : Below fb w7 w9 := hbw.trans (hb9.mono (by omega))
              obtain ⟨tb, htb⟩ : ∃ tb, wr.heap.size = tb := ⟨_, rfl⟩
              have htf : fb < tb := by omega
              rw [htb] at hpv
              have HF9 := Lib.hid hF9; have HBW9 := Lib.hid hbw9; have HPV := Lib.hid hpv
              have hxyz : x < 10 ∧ y < 10 ∧ z < 10 := by
                have : (gridP 2 2).length = 9 := rfl
                omega
              clear hv px py pz htk hfb l1 hb9 hs9 hF9 hbw9 hpv hF hbw hfl hpl6
              go_wp2
              clear ka kb kc hw9 htb
              go_loopw [23, 26, 120] (fun nv _ iv wr => ∃ i : Nat, i ≤ 3 ∧ iv = .int .i64 (i : Int) ∧ nv = .int .i64 ((3 * j + i : Nat) : Int) ∧ (∃ F, FaultMap Try.prog 22 wr fb F) ∧ Box wr tb [.int .i64 (x : Int), .int .i64 (y : Int), .int .i64 (z : Int)] ∧ Below fb w7 wr) (fun _ _ iv _ => 3 - (intOf iv).toNat)
              case atStart => exact ⟨0, Nat.zero_le _, rfl, rfl, ⟨_, HF9.out⟩, HPV.out, HBW9.out⟩
              case round =>
                obtain ⟨i, hi, rfl, rfl, ⟨F2, hF2⟩, hbx, hbw⟩ := hrel
                by_cases hli : i < 3
                · obtain ⟨nn, hnn⟩ : ∃ nn : Nat, 3 * j + i = nn := ⟨_, rfl⟩
                  have hnn24 : nn < 24 := by omega
                  have HNN := Lib.hid hnn
                  rw [hnn]
                  clear hnn
                  have HF2 := Lib.hid hF2; have HBX2 := Lib.hid hbx; have HBW2 := Lib.hid hbw
                  clear hF2 hbx hbw
                  obtain ⟨q, hq⟩ : ∃ q : Bool, (bits .and .u32 (f / 2 ^ (nn % 32)) 1 == 1) = q := ⟨_, rfl⟩
                  have hfb2 := HF2.out.lt
                  have hd3 := (HF2.out.same (w' := wr.drew) rfl)
                  have hx3 := HBX2.out.drew
                  have hw3 := HBW2.out.drew'
                  have HF3 := Lib.hid hd3; have HBX3 := Lib.hid hx3; have HBW3 := Lib.hid hw3
                  clear hd3 hx3 hw3
                  cases q
                  · go_wp2
                    have hnn := HNN.out
                    exact ⟨⟨i + 1, by omega, by go_num, congrArg (Value.int .i64) (by omega), ⟨_, HF2.out⟩, HBX2.out, HBW2.out⟩, by simp [intOf]; omega⟩
                  · obtain rfl | rfl | rfl : i = 0 ∨ i = 1 ∨ i = 2 := by omega
                    · obtain ⟨mn, hmn⟩ : ∃ mn : Int, (if (y : Int) < (x : Int) then (y : Int) else (x : Int)) = mn := ⟨_, rfl⟩
                      obtain ⟨mx, hmx⟩ : ∃ mx : Int, (if (y : Int) > (x : Int) then (y : Int) else (x : Int)) = mx := ⟨_, rfl⟩
                      have bmn : -1000000 ≤ mn ∧ mn ≤ 1000000 := by rw [← hmn]; split <;> omega
                      have bmx : -1000000 ≤ mx ∧ mx ≤ 1000000 := by rw [← hmx]; split <;> omega
                      have hmin : ∀ w : World, Sem.run Try.prog (Builtin.min_ #[3, 3] 3 #[.int .i64 (x : Int), .int .i64 (y : Int)]) w = Result.ok (Value.int .i64 mn) w := fun w => by rw [run_min_int2, hmn]
                      have hmax : ∀ w : World, Sem.run Try.prog (Builtin.max_ #[3, 3] 3 #[.int .i64 (x : Int), .int .i64 (y : Int)]) w = Result.ok (Value.int .i64 mx) w := fun w => by rw [run_max_int2, hmx]
                      have hwk : (IntKind.i64.wrap 1).tmod 3 = 1 := by decide
                      obtain ⟨wm, F4, hup, hT4, hF4⟩ := fault_store HF3.out bmn bmx
                      have hx0 := HBX3.out.c 0 _ rfl; have hx1 := HBX3.out.c 1 _ rfl
                      have hbx4 := HBX3.out.turned hT4 (by omega)
                      have hbw4 : Below fb w7 wm := Below.turned HBW3.out hT4 (Nat.le_refl _)
                      have hy0 := hbx4.c 0 _ rfl; have hy1 := hbx4.c 1 _ rfl
                      have FIN := Lib.hid (And.intro hF4 (And.intro hbx4 hbw4))
                      clear hmn hmx bmn bmx hT4 hF4 hbx4 hbw4
                      go_wp2_with fail
                      obtain ⟨SSs, hSSs⟩ : ∃ S : Array Bool → World → Prop, ∀ l w', S l w' ↔ ((w'.cell? ⟨tb, 0, none⟩ = some (.int .i64 (x : Int))) ∧ (w'.cell? ⟨tb, 1, none⟩ = some (.int .i64 (y : Int)))) := ⟨_, fun _ _ => Iff.rfl⟩
                      refine wp_region_noPanic ?_
                      refine wp_region_G SSs 21 #[false, false, false, false, false, false, false, false, false, false, false, false, false, false, false, false, false, false, false, false, false] (by kernel_rfl) (by kernel_rfl) (by kernel_rfl) ((hSSs _ _).2 ⟨hx0, hx1⟩) (fun hCl hHeld => ?_)
                      generalize wr.drew = wd at *
                      refine reg_takeG 0 ?_ ?_ ?_ (by kernel_rfl) (by kernel_rfl) (by kernel_rfl) (fun _ _ _ h => h) ?_ ?_ ?_ hCl hHeld ?_
                      rotate_left 2
                      · simp only [List.getElem?_toArray, List.getElem?_cons_zero]; exact rfl
                      · intro l w'; rw [hSSs, hSSs]
                      · rfl
                      · intro w' hA; clear hA; go_simp; try with_reducible rfl
                      clear hCl hHeld
                      intro hCl hHeld
                      simp only [List.setIfInBounds_toArray, List.set_cons_zero] at hCl hHeld
                      try simp only [Act.put]
                      try simp only [List.setIfInBounds_toArray, List.set_cons_zero, List.set_cons_succ]
                      refine reg_takeG 1 ?_ ?_ ?_ (by kernel_rfl) (by kernel_rfl) (by kernel_rfl) (fun _ _ _ h => h) ?_ ?_ ?_ hCl hHeld ?_
                      rotate_left 2
                      · simp only [List.getElem?_toArray, List.getElem?_cons_succ, List.getElem?_cons_zero]; exact rfl
                      · intro l w'; rw [hSSs, hSSs]
                      · rfl
                      · intro w' hA; clear hA; go_simp; try with_reducible rfl
                      clear hCl hHeld
                      intro hCl hHeld
                      simp only [List.setIfInBounds_toArray, List.set_cons_zero, List.set_cons_succ] at hCl hHeld
                      try simp only [Act.put]
                      try simp only [List.setIfInBounds_toArray, List.set_cons_zero, List.set_cons_succ]
                      refine reg_takeG 2 ?_ ?_ ?_ (by kernel_rfl) (by kernel_rfl) (by kernel_rfl) (fun _ _ _ h => h) ?_ ?_ ?_ hCl hHeld ?_
                      rotate_left 2
                      · simp only [List.getElem?_toArray, List.getElem?_cons_succ, List.getElem?_cons_zero]; exact rfl
                      · intro l w'; rw [hSSs, hSSs]
                      · rfl
                      · intro w' hA; clear hA; go_simp; try with_reducible rfl
                      clear hCl hHeld
                      intro hCl hHeld
                      simp only [List.setIfInBounds_toArray, List.set_cons_zero, List.set_cons_succ] at hCl hHeld
                      try simp only [Act.put]
                      try simp only [List.setIfInBounds_toArray, List.set_cons_zero, List.set_cons_succ]
                      refine reg_takeG 3 ?_ ?_ ?_ (by kernel_rfl) (by kernel_rfl) (by kernel_rfl) (fun _ _ _ h => h) ?_ ?_ ?_ hCl hHeld ?_
                      rotate_left 2
                      · simp only [List.getElem?_toArray, List.getElem?_cons_succ, List.getElem?_cons_zero]; exact rfl
                      · intro l w'; rw [hSSs, hSSs]
                      · rfl
                      · intro w' hA; obtain ⟨l, hl, hi, hSl⟩ := hA; have hSl := (hSSs _ _).1 hSl; obtain ⟨hz0, hz1⟩ := hSl; go_simp; try with_reducible rfl
                      clear hCl hHeld
                      intro hCl hHeld
                      simp only [List.setIfInBounds_toArray, List.set_cons_zero, List.set_cons_succ] at hCl hHeld
                      try simp only [Act.put]
                      try simp only [List.setIfInBounds_toArray, List.set_cons_zero, List.set_cons_succ]
                      refine reg_takeG 4 ?_ ?_ ?_ (by kernel_rfl) (by kernel_rfl) (by kernel_rfl) (fun _ _ _ h => h) ?_ ?_ ?_ hCl hHeld ?_
                      rotate_left 2
                      · simp only [List.getElem?_toArray, List.getElem?_cons_succ, List.getElem?_cons_zero]; exact rfl
                      · intro l w'; rw [hSSs, hSSs]
                      · rfl
                      · intro w' hA; clear hA; go_simp; try with_reducible rfl
                      clear hCl hHeld
                      intro hCl hHeld
                      simp only [List.setIfInBounds_toArray, List.set_cons_zero, List.set_cons_succ] at hCl hHeld
                      try simp only [Act.put]
                      try simp only [List.setIfInBounds_toArray, List.set_cons_zero, List.set_cons_succ]
                      refine reg_takeG 5 ?_ ?_ ?_ (by kernel_rfl) (by kernel_rfl) (by kernel_rfl) (fun _ _ _ h => h) ?_ ?_ ?_ hCl hHeld ?_
                      rotate_left 2
                      · simp only [List.getElem?_toArray, List.getElem?_cons_succ, List.getElem?_cons_zero]; exact rfl
                      · intro l w'; rw [hSSs, hSSs]
                      · rfl
                      · intro w' hA; clear hA; go_simp; try with_reducible rfl
                      clear hCl hHeld
                      intro hCl hHeld
                      simp only [List.setIfInBounds_toArray, List.set_cons_zero, List.set_cons_succ] at hCl hHeld
                      try simp only [Act.put]
                      try simp only [List.setIfInBounds_toArray, List.set_cons_zero, List.set_cons_succ]
                      refine reg_takeG 6 ?_ ?_ ?_ (by kernel_rfl) (by kernel_rfl) (by kernel_rfl) (fun _ _ _ h => h) ?_ ?_ ?_ hCl hHeld ?_
                      rotate_left 2
                      · simp only [List.getElem?_toArray, List.getElem?_cons_succ, List.getElem?_cons_zero]; exact rfl
                      · intro l w'; rw [hSSs, hSSs]
                      · rfl
                      · intro w' hA; clear hA; go_simp; try with_reducible rfl
                      clear hCl hHeld
                      intro hCl hHeld
                      simp only [List.setIfInBounds_toArray, List.set_cons_zero, List.set_cons_succ] at hCl hHeld
                      try simp only [Act.put]
                      try simp only [List.setIfInBounds_toArray, List.set_cons_zero, List.set_cons_succ]
                      refine reg_takeG 7 ?_ ?_ ?_ (by kernel_rfl) (by kernel_rfl) (by kernel_rfl) (fun _ _ _ h => h) ?_ ?_ ?_ hCl hHeld ?_
                      rotate_left 2
                      · simp only [List.getElem?_toArray, List.getElem?_cons_succ, List.getElem?_cons_zero]; exact rfl
                      · intro l w'; rw [hSSs, hSSs]
                      · rfl
                      · intro w' hA; clear hA; go_simp; try with_reducible rfl
                      clear hCl hHeld
                      intro hCl hHeld
                      simp only [List.setIfInBounds_toArray, List.set_cons_zero, List.set_cons_succ] at hCl hHeld
                      try simp only [Act.put]
                      try simp only [List.setIfInBounds_toArray, List.set_cons_zero, List.set_cons_succ]
                      refine reg_takeG 8 ?_ ?_ ?_ (by kernel_rfl) (by kernel_rfl) (by kernel_rfl) (fun _ _ _ h => h) ?_ ?_ ?_ hCl hHeld ?_
                      rotate_left 2
                      · simp only [List.getElem?_toArray, List.getElem?_cons_succ, List.getElem?_cons_zero]; exact rfl
                      · intro l w'; rw [hSSs, hSSs]
                      · rfl
                      · intro w' hA; obtain ⟨l, hl, hi, hSl⟩ := hA; have hSl := (hSSs _ _).1 hSl; obtain ⟨hz0, hz1⟩ := hSl; go_simp; try with_reducible rfl
                      clear hCl hHeld
                      intro hCl hHeld
                      simp only [List.setIfInBounds_toArray, List.set_cons_zero, List.set_cons_succ] at hCl hHeld
                      try simp only [Act.put]
                      try simp only [List.setIfInBounds_toArray, List.set_cons_zero, List.set_cons_succ]
                      refine reg_takeG 9 ?_ ?_ ?_ (by kernel_rfl) (by kernel_rfl) (by kernel_rfl) (fun _ _ _ h => h) ?_ ?_ ?_ hCl hHeld ?_
                      rotate_left 2
                      · simp only [List.getElem?_toArray, List.getElem?_cons_succ, List.getElem?_cons_zero]; exact rfl
                      · intro l w'; rw [hSSs, hSSs]
                      · rfl
                      · intro w' hA; clear hA; go_simp; try with_reducible rfl
                      clear hCl hHeld
                      intro hCl hHeld
                      simp only [List.setIfInBounds_toArray, List.set_cons_zero, List.set_cons_succ] at hCl hHeld
                      try simp only [Act.put]
                      try simp only [List.setIfInBounds_toArray, List.set_cons_zero, List.set_cons_succ]
                      refine reg_takeG 10 ?_ ?_ ?_ (by kernel_rfl) (by kernel_rfl) (by kernel_rfl) (fun _ _ _ h => h) ?_ ?_ ?_ hCl hHeld ?_
                      rotate_left 2
                      · simp only [List.getElem?_toArray, List.getElem?_cons_succ, List.getElem?_cons_zero]; exact rfl
                      · intro l w'; rw [hSSs, hSSs]
                      · rfl
                      · intro w' hA; clear hA; go_simp; try with_reducible rfl
                      clear hCl hHeld
                      intro hCl hHeld
                      simp only [List.setIfInBounds_toArray, List.set_cons_zero, List.set_cons_succ] at hCl hHeld
                      try simp only [Act.put]
                      try simp only [List.setIfInBounds_toArray, List.set_cons_zero, List.set_cons_succ]
                      refine reg_takeG 11 ?_ ?_ ?_ (by kernel_rfl) (by kernel_rfl) (by kernel_rfl) (fun _ _ _ h => h) ?_ ?_ ?_ hCl hHeld ?_
                      rotate_left 2
                      · simp only [List.getElem?_toArray, List.getElem?_cons_succ, List.getElem?_cons_zero]; exact rfl
                      · intro l w'; rw [hSSs, hSSs]
                      · rfl
                      · intro w' hA; clear hA; go_simp; try with_reducible rfl
                      clear hCl hHeld
                      intro hCl hHeld
                      simp only [List.setIfInBounds_toArray, List.set_cons_zero, List.set_cons_succ] at hCl hHeld
                      try simp only [Act.put]
                      try simp only [List.setIfInBounds_toArray, List.set_cons_zero, List.set_cons_succ]
                      refine reg_takeG 12 ?_ ?_ ?_ (by kernel_rfl) (by kernel_rfl) (by kernel_rfl) (fun _ _ _ h => h) ?_ ?_ ?_ hCl hHeld ?_
                      rotate_left 2
                      · simp only [List.getElem?_toArray, List.getElem?_cons_succ, List.getElem?_cons_zero]; exact rfl
                      · intro l w'; rw [hSSs, hSSs]
                      · rfl
                      · intro w' hA; obtain ⟨l, hl, hi, hSl⟩ := hA; have hSl := (hSSs _ _).1 hSl; obtain ⟨hz0, hz1⟩ := hSl; go_simp; try with_reducible rfl
                      clear hCl hHeld
                      intro hCl hHeld
                      simp only [List.setIfInBounds_toArray, List.set_cons_zero, List.set_cons_succ] at hCl hHeld
                      try simp only [Act.put]
                      try simp only [List.setIfInBounds_toArray, List.set_cons_zero, List.set_cons_succ]
                      refine reg_takeG 13 ?_ ?_ ?_ (by kernel_rfl) (by kernel_rfl) (by kernel_rfl) (fun _ _ _ h => h) ?_ ?_ ?_ hCl hHeld ?_
                      rotate_left 2
                      · simp only [List.getElem?_toArray, List.getElem?_cons_succ, List.getElem?_cons_zero]; exact rfl
                      · intro l w'; rw [hSSs, hSSs]
                      · rfl
                      · intro w' hA; clear hA; go_simp; try with_reducible rfl
                      clear hCl hHeld
                      intro hCl hHeld
                      simp only [List.setIfInBounds_toArray, List.set_cons_zero, List.set_cons_succ] at hCl hHeld
                      try simp only [Act.put]
                      try simp only [List.setIfInBounds_toArray, List.set_cons_zero, List.set_cons_succ]
                      refine reg_takeG 14 ?_ ?_ ?_ (by kernel_rfl) (by kernel_rfl) (by kernel_rfl) (fun _ _ _ h => h) ?_ ?_ ?_ hCl hHeld ?_
                      rotate_left 2
                      · simp only [List.getElem?_toArray, List.getElem?_cons_succ, List.getElem?_cons_zero]; exact rfl
                      · intro l w'; rw [hSSs, hSSs]
                      · rfl
                      · intro w' hA; clear hA; go_simp; try with_reducible rfl
                      clear hCl hHeld
                      intro hCl hHeld
                      simp only [List.setIfInBounds_toArray, List.set_cons_zero, List.set_cons_succ] at hCl hHeld
                      try simp only [Act.put]
                      try simp only [List.setIfInBounds_toArray, List.set_cons_zero, List.set_cons_succ]
                      refine reg_takeG 15 ?_ ?_ ?_ (by kernel_rfl) (by kernel_rfl) (by kernel_rfl) (fun _ _ _ h => h) ?_ ?_ ?_ hCl hHeld ?_
                      rotate_left 2
                      · simp only [List.getElem?_toArray, List.getElem?_cons_succ, List.getElem?_cons_zero]; exact rfl
                      · intro l w'; rw [hSSs, hSSs]
                      · rfl
                      · intro w' hA; clear hA; go_simp; try with_reducible rfl
                      clear hCl hHeld
                      intro hCl hHeld
                      simp only [List.setIfInBounds_toArray, List.set_cons_zero, List.set_cons_succ] at hCl hHeld
                      try simp only [Act.put]
                      try simp only [List.setIfInBounds_toArray, List.set_cons_zero, List.set_cons_succ]
                      refine reg_takeG 16 ?_ ?_ ?_ (by kernel_rfl) (by kernel_rfl) (by kernel_rfl) (fun _ _ _ h => h) ?_ ?_ ?_ hCl hHeld ?_
                      rotate_left 2
                      · simp only [List.getElem?_toArray, List.getElem?_cons_succ, List.getElem?_cons_zero]; exact rfl
                      · intro l w'; rw [hSSs, hSSs]
                      · rfl
                      · intro w' hA; clear hA; go_simp; try with_reducible rfl
                      clear hCl hHeld
                      intro hCl hHeld
                      simp only [List.setIfInBounds_toArray, List.set_cons_zero, List.set_cons_succ] at hCl hHeld
                      try simp only [Act.put]
                      try simp only [List.setIfInBounds_toArray, List.set_cons_zero, List.set_cons_succ]
                      refine reg_takeG 17 ?_ ?_ ?_ (by kernel_rfl) (by kernel_rfl) (by kernel_rfl) (fun _ _ _ h => h) ?_ ?_ ?_ hCl hHeld ?_
                      rotate_left 2
                      · simp only [List.getElem?_toArray, List.getElem?_cons_succ, List.getElem?_cons_zero]; exact rfl
                      · intro l w'; rw [hSSs, hSSs]
                      · rfl
                      · intro w' hA; obtain ⟨l, hl, hi, hSl⟩ := hA; have hSl := (hSSs _ _).1 hSl; obtain ⟨hz0, hz1⟩ := hSl; go_simp; try with_reducible rfl
                      clear hCl hHeld
                      intro hCl hHeld
                      simp only [List.setIfInBounds_toArray, List.set_cons_zero, List.set_cons_succ] at hCl hHeld
                      try simp only [Act.put]
                      try simp only [List.setIfInBounds_toArray, List.set_cons_zero, List.set_cons_succ]
                      refine reg_takeG 18 ?_ ?_ ?_ (by kernel_rfl) (by kernel_rfl) (by kernel_rfl) (fun _ _ _ h => h) ?_ ?_ ?_ hCl hHeld ?_
                      rotate_left 2
                      · simp only [List.getElem?_toArray, List.getElem?_cons_succ, List.getElem?_cons_zero]; exact rfl
                      · intro l w'; rw [hSSs, hSSs]
                      · rfl
                      · intro w' hA; clear hA; go_simp; try with_reducible rfl
                      clear hCl hHeld
                      intro hCl hHeld
                      simp only [List.setIfInBounds_toArray, List.set_cons_zero, List.set_cons_succ] at hCl hHeld
                      try simp only [Act.put]
                      try simp only [List.setIfInBounds_toArray, List.set_cons_zero, List.set_cons_succ]
                      refine reg_takeG 19 ?_ ?_ ?_ (by kernel_rfl) (by kernel_rfl) (by kernel_rfl) (fun _ _ _ h => h) ?_ ?_ ?_ hCl hHeld ?_
                      rotate_left 2
                      · simp only [List.getElem?_toArray, List.getElem?_cons_succ, List.getElem?_cons_zero]; exact rfl
                      · intro l w'; rw [hSSs, hSSs]
                      · rfl
                      · intro w' hA; clear hA; go_simp; try with_reducible rfl
                      clear hCl hHeld
                      intro hCl hHeld
                      simp only [List.setIfInBounds_toArray, List.set_cons_zero, List.set_cons_succ] at hCl hHeld
                      try simp only [Act.put]
                      try simp only [List.setIfInBounds_toArray, List.set_cons_zero, List.set_cons_succ]
                      clear hCl hHeld
                      refine reg_callG 20 ?_ (by kernel_rfl) ?_ (fun K hK => ?_)
                      rotate_left 1
                      · simp only [List.getElem?_toArray, List.getElem?_cons_succ, List.getElem?_cons_zero]; exact rfl
                      go_simp
                      clear hx0 hx1 hup
                      refine hK.out _ _ ((hSSs _ _).2 ⟨hy0, hy1⟩) ?_
                      clear hK K
                      try simp only [Act.put]
                      try simp only [List.setIfInBounds_toArray, List.set_cons_zero, List.set_cons_succ]
                      refine wpAnyG_done (by kernel_rfl) ?_ _
                      refine NoPanic.normal ?_
                      clear hSSs SSs
                      go_wp2
                      have hnn := HNN.out
                      refine ⟨⟨_, _, _, _, _, _, _, _, _, _, _, _, _, _, _, _, _, _, _, _, _, _, _, _, _, _, _, _, _, _, _, _, _, _, ?_, rfl⟩, by simp [intOf]⟩
                      exact ⟨0 + 1, by omega, by go_num, congrArg (Value.int .i64) (by omega), ⟨_, FIN.out.1⟩, FIN.out.2.1, FIN.out.2.2⟩
                    · obtain ⟨mn, hmn⟩ : ∃ mn : Int, (if (z : Int) < (y : Int) then (z : Int) else (y : Int)) = mn := ⟨_, rfl⟩
                      obtain ⟨mx, hmx⟩ : ∃ mx : Int, (if (z : Int) > (y : Int) then (z : Int) else (y : Int)) = mx := ⟨_, rfl⟩
                      have bmn : -1000000 ≤ mn ∧ mn ≤ 1000000 := by rw [← hmn]; split <;> omega
                      have bmx : -1000000 ≤ mx ∧ mx ≤ 1000000 := by rw [← hmx]; split <;> omega
                      have hmin : ∀ w : World, Sem.run Try.prog (Builtin.min_ #[3, 3] 3 #[.int .i64 (y : Int), .int .i64 (z : Int)]) w = Result.ok (Value.int .i64 mn) w := fun w => by rw [run_min_int2, hmn]
                      have hmax : ∀ w : World, Sem.run Try.prog (Builtin.max_ #[3, 3] 3 #[.int .i64 (y : Int), .int .i64 (z : Int)]) w = Result.ok (Value.int .i64 mx) w := fun w => by rw [run_max_int2, hmx]
                      have hwk : (IntKind.i64.wrap 2).tmod 3 = 2 := by decide
                      obtain ⟨wm, F4, hup, hT4, hF4⟩ := fault_store HF3.out bmn bmx
                      have hx0 := HBX3.out.c 1 _ rfl; have hx1 := HBX3.out.c 2 _ rfl
                      have hbx4 := HBX3.out.turned hT4 (by omega)
                      have hbw4 : Below fb w7 wm := Below.turned HBW3.out hT4 (Nat.le_refl _)
                      have hy0 := hbx4.c 1 _ rfl; have hy1 := hbx4.c 2 _ rfl
                      have FIN := Lib.hid (And.intro hF4 (And.intro hbx4 hbw4))
                      clear hmn hmx bmn bmx hT4 hF4 hbx4 hbw4
                      go_wp2_with fail
                      obtain ⟨SSs, hSSs⟩ : ∃ S : Array Bool → World → Prop, ∀ l w', S l w' ↔ ((w'.cell? ⟨tb, 1, none⟩ = some (.int .i64 (y : Int))) ∧ (w'.cell? ⟨tb, 2, none⟩ = some (.int .i64 (z : Int)))) := ⟨_, fun _ _ => Iff.rfl⟩
                      refine wp_region_noPanic ?_
                      refine wp_region_G SSs 21 #[false, false, false, false, false, false, false, false, false, false, false, false, false, false, false, false, false, false, false, false, false] (by kernel_rfl) (by kernel_rfl) (by kernel_rfl) ((hSSs _ _).2 ⟨hx0, hx1⟩) (fun hCl hHeld => ?_)
                      generalize wr.drew = wd at *
                      refine reg_takeG 0 ?_ ?_ ?_ (by kernel_rfl) (by kernel_rfl) (by kernel_rfl) (fun _ _ _ h => h) ?_ ?_ ?_ hCl hHeld ?_
                      rotate_left 2
                      · simp only [List.getElem?_toArray, List.getElem?_cons_zero]; exact rfl
                      · intro l w'; rw [hSSs, hSSs]
                      · rfl
                      · intro w' hA; clear hA; go_simp; try with_reducible rfl
                      clear hCl hHeld
                      intro hCl hHeld
                      simp only [List.setIfInBounds_toArray, List.set_cons_zero] at hCl hHeld
                      try simp only [Act.put]
                      try simp only [List.setIfInBounds_toArray, List.set_cons_zero, List.set_cons_succ]
                      refine reg_takeG 1 ?_ ?_ ?_ (by kernel_rfl) (by kernel_rfl) (by kernel_rfl) (fun _ _ _ h => h) ?_ ?_ ?_ hCl hHeld ?_
                      rotate_left 2
                      · simp only [List.getElem?_toArray, List.getElem?_cons_succ, List.getElem?_cons_zero]; exact rfl
                      · intro l w'; rw [hSSs, hSSs]
                      · rfl
                      · intro w' hA; clear hA; go_simp; try with_reducible rfl
                      clear hCl hHeld
                      intro hCl hHeld
                      simp only [List.setIfInBounds_toArray, List.set_cons_zero, List.set_cons_succ] at hCl hHeld
                      try simp only [Act.put]
                      try simp only [List.setIfInBounds_toArray, List.set_cons_zero, List.set_cons_succ]
                      refine reg_takeG 2 ?_ ?_ ?_ (by kernel_rfl) (by kernel_rfl) (by kernel_rfl) (fun _ _ _ h => h) ?_ ?_ ?_ hCl hHeld ?_
                      rotate_left 2
                      · simp only [List.getElem?_toArray, List.getElem?_cons_succ, List.getElem?_cons_zero]; exact rfl
                      · intro l w'; rw [hSSs, hSSs]
                      · rfl
                      · intro w' hA; clear hA; go_simp; try with_reducible rfl
                      clear hCl hHeld
                      intro hCl hHeld
                      simp only [List.setIfInBounds_toArray, List.set_cons_zero, List.set_cons_succ] at hCl hHeld
                      try simp only [Act.put]
                      try simp only [List.setIfInBounds_toArray, List.set_cons_zero, List.set_cons_succ]
                      refine reg_takeG 3 ?_ ?_ ?_ (by kernel_rfl) (by kernel_rfl) (by kernel_rfl) (fun _ _ _ h => h) ?_ ?_ ?_ hCl hHeld ?_
                      rotate_left 2
                      · simp only [List.getElem?_toArray, List.getElem?_cons_succ, List.getElem?_cons_zero]; exact rfl
                      · intro l w'; rw [hSSs, hSSs]
                      · rfl
                      · intro w' hA; obtain ⟨l, hl, hi, hSl⟩ := hA; have hSl := (hSSs _ _).1 hSl; obtain ⟨hz0, hz1⟩ := hSl; go_simp; try with_reducible rfl
                      clear hCl hHeld
                      intro hCl hHeld
                      simp only [List.setIfInBounds_toArray, List.set_cons_zero, List.set_cons_succ] at hCl hHeld
                      try simp only [Act.put]
                      try simp only [List.setIfInBounds_toArray, List.set_cons_zero, List.set_cons_succ]
                      refine reg_takeG 4 ?_ ?_ ?_ (by kernel_rfl) (by kernel_rfl) (by kernel_rfl) (fun _ _ _ h => h) ?_ ?_ ?_ hCl hHeld ?_
                      rotate_left 2
                      · simp only [List.getElem?_toArray, List.getElem?_cons_succ, List.getElem?_cons_zero]; exact rfl
                      · intro l w'; rw [hSSs, hSSs]
                      · rfl
                      · intro w' hA; clear hA; go_simp; try with_reducible rfl
                      clear hCl hHeld
                      intro hCl hHeld
                      simp only [List.setIfInBounds_toArray, List.set_cons_zero, List.set_cons_succ] at hCl hHeld
                      try simp only [Act.put]
                      try simp only [List.setIfInBounds_toArray, List.set_cons_zero, List.set_cons_succ]
                      refine reg_takeG 5 ?_ ?_ ?_ (by kernel_rfl) (by kernel_rfl) (by kernel_rfl) (fun _ _ _ h => h) ?_ ?_ ?_ hCl hHeld ?_
                      rotate_left 2
                      · simp only [List.getElem?_toArray, List.getElem?_cons_succ, List.getElem?_cons_zero]; exact rfl
                      · intro l w'; rw [hSSs, hSSs]
                      · rfl
                      · intro w' hA; clear hA; go_simp; try with_reducible rfl
                      clear hCl hHeld
                      intro hCl hHeld
                      simp only [List.setIfInBounds_toArray, List.set_cons_zero, List.set_cons_succ] at hCl hHeld
                      try simp only [Act.put]
                      try simp only [List.setIfInBounds_toArray, List.set_cons_zero, List.set_cons_succ]
                      refine reg_takeG 6 ?_ ?_ ?_ (by kernel_rfl) (by kernel_rfl) (by kernel_rfl) (fun _ _ _ h => h) ?_ ?_ ?_ hCl hHeld ?_
                      rotate_left 2
                      · simp only [List.getElem?_toArray, List.getElem?_cons_succ, List.getElem?_cons_zero]; exact rfl
                      · intro l w'; rw [hSSs, hSSs]
                      · rfl
                      · intro w' hA; clear hA; go_simp; try with_reducible rfl
                      clear hCl hHeld
                      intro hCl hHeld
                      simp only [List.setIfInBounds_toArray, List.set_cons_zero, List.set_cons_succ] at hCl hHeld
                      try simp only [Act.put]
                      try simp only [List.setIfInBounds_toArray, List.set_cons_zero, List.set_cons_succ]
                      refine reg_takeG 7 ?_ ?_ ?_ (by kernel_rfl) (by kernel_rfl) (by kernel_rfl) (fun _ _ _ h => h) ?_ ?_ ?_ hCl hHeld ?_
                      rotate_left 2
                      · simp only [List.getElem?_toArray, List.getElem?_cons_succ, List.getElem?_cons_zero]; exact rfl
                      · intro l w'; rw [hSSs, hSSs]
                      · rfl
                      · intro w' hA; clear hA; go_simp; try with_reducible rfl
                      clear hCl hHeld
                      intro hCl hHeld
                      simp only [List.setIfInBounds_toArray, List.set_cons_zero, List.set_cons_succ] at hCl hHeld
                      try simp only [Act.put]
                      try simp only [List.setIfInBounds_toArray, List.set_cons_zero, List.set_cons_succ]
                      refine reg_takeG 8 ?_ ?_ ?_ (by kernel_rfl) (by kernel_rfl) (by kernel_rfl) (fun _ _ _ h => h) ?_ ?_ ?_ hCl hHeld ?_
                      rotate_left 2
                      · simp only [List.getElem?_toArray, List.getElem?_cons_succ, List.getElem?_cons_zero]; exact rfl
                      · intro l w'; rw [hSSs, hSSs]
                      · rfl
                      · intro w' hA; obtain ⟨l, hl, hi, hSl⟩ := hA; have hSl := (hSSs _ _).1 hSl; obtain ⟨hz0, hz1⟩ := hSl; go_simp; try with_reducible rfl
                      clear hCl hHeld
                      intro hCl hHeld
                      simp only [List.setIfInBounds_toArray, List.set_cons_zero, List.set_cons_succ] at hCl hHeld
                      try simp only [Act.put]
                      try simp only [List.setIfInBounds_toArray, List.set_cons_zero, List.set_cons_succ]
                      refine reg_takeG 9 ?_ ?_ ?_ (by kernel_rfl) (by kernel_rfl) (by kernel_rfl) (fun _ _ _ h => h) ?_ ?_ ?_ hCl hHeld ?_
                      rotate_left 2
                      · simp only [List.getElem?_toArray, List.getElem?_cons_succ, List.getElem?_cons_zero]; exact rfl
                      · intro l w'; rw [hSSs, hSSs]
                      · rfl
                      · intro w' hA; clear hA; go_simp; try with_reducible rfl
                      clear hCl hHeld
                      intro hCl hHeld
                      simp only [List.setIfInBounds_toArray, List.set_cons_zero, List.set_cons_succ] at hCl hHeld
                      try simp only [Act.put]
                      try simp only [List.setIfInBounds_toArray, List.set_cons_zero, List.set_cons_succ]
                      refine reg_takeG 10 ?_ ?_ ?_ (by kernel_rfl) (by kernel_rfl) (by kernel_rfl) (fun _ _ _ h => h) ?_ ?_ ?_ hCl hHeld ?_
                      rotate_left 2
                      · simp only [List.getElem?_toArray, List.getElem?_cons_succ, List.getElem?_cons_zero]; exact rfl
                      · intro l w'; rw [hSSs, hSSs]
                      · rfl
                      · intro w' hA; clear hA; go_simp; try with_reducible rfl
                      clear hCl hHeld
                      intro hCl hHeld
                      simp only [List.setIfInBounds_toArray, List.set_cons_zero, List.set_cons_succ] at hCl hHeld
                      try simp only [Act.put]
                      try simp only [List.setIfInBounds_toArray, List.set_cons_zero, List.set_cons_succ]
                      refine reg_takeG 11 ?_ ?_ ?_ (by kernel_rfl) (by kernel_rfl) (by kernel_rfl) (fun _ _ _ h => h) ?_ ?_ ?_ hCl hHeld ?_
                      rotate_left 2
                      · simp only [List.getElem?_toArray, List.getElem?_cons_succ, List.getElem?_cons_zero]; exact rfl
                      · intro l w'; rw [hSSs, hSSs]
                      · rfl
                      · intro w' hA; clear hA; go_simp; try with_reducible rfl
                      clear hCl hHeld
                      intro hCl hHeld
                      simp only [List.setIfInBounds_toArray, List.set_cons_zero, List.set_cons_succ] at hCl hHeld
                      try simp only [Act.put]
                      try simp only [List.setIfInBounds_toArray, List.set_cons_zero, List.set_cons_succ]
                      refine reg_takeG 12 ?_ ?_ ?_ (by kernel_rfl) (by kernel_rfl) (by kernel_rfl) (fun _ _ _ h => h) ?_ ?_ ?_ hCl hHeld ?_
                      rotate_left 2
                      · simp only [List.getElem?_toArray, List.getElem?_cons_succ, List.getElem?_cons_zero]; exact rfl
                      · intro l w'; rw [hSSs, hSSs]
                      · rfl
                      · intro w' hA; obtain ⟨l, hl, hi, hSl⟩ := hA; have hSl := (hSSs _ _).1 hSl; obtain ⟨hz0, hz1⟩ := hSl; go_simp; try with_reducible rfl
                      clear hCl hHeld
                      intro hCl hHeld
                      simp only [List.setIfInBounds_toArray, List.set_cons_zero, List.set_cons_succ] at hCl hHeld
                      try simp only [Act.put]
                      try simp only [List.setIfInBounds_toArray, List.set_cons_zero, List.set_cons_succ]
                      refine reg_takeG 13 ?_ ?_ ?_ (by kernel_rfl) (by kernel_rfl) (by kernel_rfl) (fun _ _ _ h => h) ?_ ?_ ?_ hCl hHeld ?_
                      rotate_left 2
                      · simp only [List.getElem?_toArray, List.getElem?_cons_succ, List.getElem?_cons_zero]; exact rfl
                      · intro l w'; rw [hSSs, hSSs]
                      · rfl
                      · intro w' hA; clear hA; go_simp; try with_reducible rfl
                      clear hCl hHeld
                      intro hCl hHeld
                      simp only [List.setIfInBounds_toArray, List.set_cons_zero, List.set_cons_succ] at hCl hHeld
                      try simp only [Act.put]
                      try simp only [List.setIfInBounds_toArray, List.set_cons_zero, List.set_cons_succ]
                      refine reg_takeG 14 ?_ ?_ ?_ (by kernel_rfl) (by kernel_rfl) (by kernel_rfl) (fun _ _ _ h => h) ?_ ?_ ?_ hCl hHeld ?_
                      rotate_left 2
                      · simp only [List.getElem?_toArray, List.getElem?_cons_succ, List.getElem?_cons_zero]; exact rfl
                      · intro l w'; rw [hSSs, hSSs]
                      · rfl
                      · intro w' hA; clear hA; go_simp; try with_reducible rfl
                      clear hCl hHeld
                      intro hCl hHeld
                      simp only [List.setIfInBounds_toArray, List.set_cons_zero, List.set_cons_succ] at hCl hHeld
                      try simp only [Act.put]
                      try simp only [List.setIfInBounds_toArray, List.set_cons_zero, List.set_cons_succ]
                      refine reg_takeG 15 ?_ ?_ ?_ (by kernel_rfl) (by kernel_rfl) (by kernel_rfl) (fun _ _ _ h => h) ?_ ?_ ?_ hCl hHeld ?_
                      rotate_left 2
                      · simp only [List.getElem?_toArray, List.getElem?_cons_succ, List.getElem?_cons_zero]; exact rfl
                      · intro l w'; rw [hSSs, hSSs]
                      · rfl
                      · intro w' hA; clear hA; go_simp; try with_reducible rfl
                      clear hCl hHeld
                      intro hCl hHeld
                      simp only [List.setIfInBounds_toArray, List.set_cons_zero, List.set_cons_succ] at hCl hHeld
                      try simp only [Act.put]
                      try simp only [List.setIfInBounds_toArray, List.set_cons_zero, List.set_cons_succ]
                      refine reg_takeG 16 ?_ ?_ ?_ (by kernel_rfl) (by kernel_rfl) (by kernel_rfl) (fun _ _ _ h => h) ?_ ?_ ?_ hCl hHeld ?_
                      rotate_left 2
                      · simp only [List.getElem?_toArray, List.getElem?_cons_succ, List.getElem?_cons_zero]; exact rfl
                      · intro l w'; rw [hSSs, hSSs]
                      · rfl
                      · intro w' hA; clear hA; go_simp; try with_reducible rfl
                      clear hCl hHeld
                      intro hCl hHeld
                      simp only [List.setIfInBounds_toArray, List.set_cons_zero, List.set_cons_succ] at hCl hHeld
                      try simp only [Act.put]
                      try simp only [List.setIfInBounds_toArray, List.set_cons_zero, List.set_cons_succ]
                      refine reg_takeG 17 ?_ ?_ ?_ (by kernel_rfl) (by kernel_rfl) (by kernel_rfl) (fun _ _ _ h => h) ?_ ?_ ?_ hCl hHeld ?_
                      rotate_left 2
                      · simp only [List.getElem?_toArray, List.getElem?_cons_succ, List.getElem?_cons_zero]; exact rfl
                      · intro l w'; rw [hSSs, hSSs]
                      · rfl
                      · intro w' hA; obtain ⟨l, hl, hi, hSl⟩ := hA; have hSl := (hSSs _ _).1 hSl; obtain ⟨hz0, hz1⟩ := hSl; go_simp; try with_reducible rfl
                      clear hCl hHeld
                      intro hCl hHeld
                      simp only [List.setIfInBounds_toArray, List.set_cons_zero, List.set_cons_succ] at hCl hHeld
                      try simp only [Act.put]
                      try simp only [List.setIfInBounds_toArray, List.set_cons_zero, List.set_cons_succ]
                      refine reg_takeG 18 ?_ ?_ ?_ (by kernel_rfl) (by kernel_rfl) (by kernel_rfl) (fun _ _ _ h => h) ?_ ?_ ?_ hCl hHeld ?_
                      rotate_left 2
                      · simp only [List.getElem?_toArray, List.getElem?_cons_succ, List.getElem?_cons_zero]; exact rfl
                      · intro l w'; rw [hSSs, hSSs]
                      · rfl
                      · intro w' hA; clear hA; go_simp; try with_reducible rfl
                      clear hCl hHeld
                      intro hCl hHeld
                      simp only [List.setIfInBounds_toArray, List.set_cons_zero, List.set_cons_succ] at hCl hHeld
                      try simp only [Act.put]
                      try simp only [List.setIfInBounds_toArray, List.set_cons_zero, List.set_cons_succ]
                      refine reg_takeG 19 ?_ ?_ ?_ (by kernel_rfl) (by kernel_rfl) (by kernel_rfl) (fun _ _ _ h => h) ?_ ?_ ?_ hCl hHeld ?_
                      rotate_left 2
                      · simp only [List.getElem?_toArray, List.getElem?_cons_succ, List.getElem?_cons_zero]; exact rfl
                      · intro l w'; rw [hSSs, hSSs]
                      · rfl
                      · intro w' hA; clear hA; go_simp; try with_reducible rfl
                      clear hCl hHeld
                      intro hCl hHeld
                      simp only [List.setIfInBounds_toArray, List.set_cons_zero, List.set_cons_succ] at hCl hHeld
                      try simp only [Act.put]
                      try simp only [List.setIfInBounds_toArray, List.set_cons_zero, List.set_cons_succ]
                      clear hCl hHeld
                      refine reg_callG 20 ?_ (by kernel_rfl) ?_ (fun K hK => ?_)
                      rotate_left 1
                      · simp only [List.getElem?_toArray, List.getElem?_cons_succ, List.getElem?_cons_zero]; exact rfl
                      go_simp
                      clear hx0 hx1 hup
                      refine hK.out _ _ ((hSSs _ _).2 ⟨hy0, hy1⟩) ?_
                      clear hK K
                      try simp only [Act.put]
                      try simp only [List.setIfInBounds_toArray, List.set_cons_zero, List.set_cons_succ]
                      refine wpAnyG_done (by kernel_rfl) ?_ _
                      refine NoPanic.normal ?_
                      clear hSSs SSs
                      go_wp2
                      have hnn := HNN.out
                      refine ⟨⟨_, _, _, _, _, _, _, _, _, _, _, _, _, _, _, _, _, _, _, _, _, _, _, _, _, _, _, _, _, _, _, _, _, _, ?_, rfl⟩, by simp [intOf]⟩
                      exact ⟨1 + 1, by omega, by go_num, congrArg (Value.int .i64) (by omega), ⟨_, FIN.out.1⟩, FIN.out.2.1, FIN.out.2.2⟩
                    · obtain ⟨mn, hmn⟩ : ∃ mn : Int, (if (x : Int) < (z : Int) then (x : Int) else (z : Int)) = mn := ⟨_, rfl⟩
                      obtain ⟨mx, hmx⟩ : ∃ mx : Int, (if (x : Int) > (z : Int) then (x : Int) else (z : Int)) = mx := ⟨_, rfl⟩
                      have bmn : -1000000 ≤ mn ∧ mn ≤ 1000000 := by rw [← hmn]; split <;> omega
                      have bmx : -1000000 ≤ mx ∧ mx ≤ 1000000 := by rw [← hmx]; split <;> omega
                      have hmin : ∀ w : World, Sem.run Try.prog (Builtin.min_ #[3, 3] 3 #[.int .i64 (z : Int), .int .i64 (x : Int)]) w = Result.ok (Value.int .i64 mn) w := fun w => by rw [run_min_int2, hmn]
                      have hmax : ∀ w : World, Sem.run Try.prog (Builtin.max_ #[3, 3] 3 #[.int .i64 (z : Int), .int .i64 (x : Int)]) w = Result.ok (Value.int .i64 mx) w := fun w => by rw [run_max_int2, hmx]
                      have hwk : (IntKind.i64.wrap 3).tmod 3 = 0 := by decide
                      obtain ⟨wm, F4, hup, hT4, hF4⟩ := fault_store HF3.out bmn bmx
                      have hx0 := HBX3.out.c 2 _ rfl; have hx1 := HBX3.out.c 0 _ rfl
                      have hbx4 := HBX3.out.turned hT4 (by omega)
                      have hbw4 : Below fb w7 wm := Below.turned HBW3.out hT4 (Nat.le_refl _)
                      have hy0 := hbx4.c 2 _ rfl; have hy1 := hbx4.c 0 _ rfl
                      have FIN := Lib.hid (And.intro hF4 (And.intro hbx4 hbw4))
                      clear hmn hmx bmn bmx hT4 hF4 hbx4 hbw4
                      go_wp2_with fail
                      obtain ⟨SSs, hSSs⟩ : ∃ S : Array Bool → World → Prop, ∀ l w', S l w' ↔ ((w'.cell? ⟨tb, 2, none⟩ = some (.int .i64 (z : Int))) ∧ (w'.cell? ⟨tb, 0, none⟩ = some (.int .i64 (x : Int)))) := ⟨_, fun _ _ => Iff.rfl⟩
                      refine wp_region_noPanic ?_
                      refine wp_region_G SSs 21 #[false, false, false, false, false, false, false, false, false, false, false, false, false, false, false, false, false, false, false, false, false] (by kernel_rfl) (by kernel_rfl) (by kernel_rfl) ((hSSs _ _).2 ⟨hx0, hx1⟩) (fun hCl hHeld => ?_)
                      generalize wr.drew = wd at *
                      refine reg_takeG 0 ?_ ?_ ?_ (by kernel_rfl) (by kernel_rfl) (by kernel_rfl) (fun _ _ _ h => h) ?_ ?_ ?_ hCl hHeld ?_
                      rotate_left 2
                      · simp only [List.getElem?_toArray, List.getElem?_cons_zero]; exact rfl
                      · intro l w'; rw [hSSs, hSSs]
                      · rfl
                      · intro w' hA; clear hA; go_simp; try with_reducible rfl
                      clear hCl hHeld
                      intro hCl hHeld
                      simp only [List.setIfInBounds_toArray, List.set_cons_zero] at hCl hHeld
                      try simp only [Act.put]
                      try simp only [List.setIfInBounds_toArray, List.set_cons_zero, List.set_cons_succ]
                      refine reg_takeG 1 ?_ ?_ ?_ (by kernel_rfl) (by kernel_rfl) (by kernel_rfl) (fun _ _ _ h => h) ?_ ?_ ?_ hCl hHeld ?_
                      rotate_left 2
                      · simp only [List.getElem?_toArray, List.getElem?_cons_succ, List.getElem?_cons_zero]; exact rfl
                      · intro l w'; rw [hSSs, hSSs]
                      · rfl
                      · intro w' hA; clear hA; go_simp; try with_reducible rfl
                      clear hCl hHeld
                      intro hCl hHeld
                      simp only [List.setIfInBounds_toArray, List.set_cons_zero, List.set_cons_succ] at hCl hHeld
                      try simp only [Act.put]
                      try simp only [List.setIfInBounds_toArray, List.set_cons_zero, List.set_cons_succ]
                      refine reg_takeG 2 ?_ ?_ ?_ (by kernel_rfl) (by kernel_rfl) (by kernel_rfl) (fun _ _ _ h => h) ?_ ?_ ?_ hCl hHeld ?_
                      rotate_left 2
                      · simp only [List.getElem?_toArray, List.getElem?_cons_succ, List.getElem?_cons_zero]; exact rfl
                      · intro l w'; rw [hSSs, hSSs]
                      · rfl
                      · intro w' hA; clear hA; go_simp; try with_reducible rfl
                      clear hCl hHeld
                      intro hCl hHeld
                      simp only [List.setIfInBounds_toArray, List.set_cons_zero, List.set_cons_succ] at hCl hHeld
                      try simp only [Act.put]
                      try simp only [List.setIfInBounds_toArray, List.set_cons_zero, List.set_cons_succ]
                      refine reg_takeG 3 ?_ ?_ ?_ (by kernel_rfl) (by kernel_rfl) (by kernel_rfl) (fun _ _ _ h => h) ?_ ?_ ?_ hCl hHeld ?_
                      rotate_left 2
                      · simp only [List.getElem?_toArray, List.getElem?_cons_succ, List.getElem?_cons_zero]; exact rfl
                      · intro l w'; rw [hSSs, hSSs]
                      · rfl
                      · intro w' hA; obtain ⟨l, hl, hi, hSl⟩ := hA; have hSl := (hSSs _ _).1 hSl; obtain ⟨hz0, hz1⟩ := hSl; go_simp; try with_reducible rfl
                      clear hCl hHeld
                      intro hCl hHeld
                      simp only [List.setIfInBounds_toArray, List.set_cons_zero, List.set_cons_succ] at hCl hHeld
                      try simp only [Act.put]
                      try simp only [List.setIfInBounds_toArray, List.set_cons_zero, List.set_cons_succ]
                      refine reg_takeG 4 ?_ ?_ ?_ (by kernel_rfl) (by kernel_rfl) (by kernel_rfl) (fun _ _ _ h => h) ?_ ?_ ?_ hCl hHeld ?_
                      rotate_left 2
                      · simp only [List.getElem?_toArray, List.getElem?_cons_succ, List.getElem?_cons_zero]; exact rfl
                      · intro l w'; rw [hSSs, hSSs]
                      · rfl
                      · intro w' hA; clear hA; go_simp; try with_reducible rfl
                      clear hCl hHeld
                      intro hCl hHeld
                      simp only [List.setIfInBounds_toArray, List.set_cons_zero, List.set_cons_succ] at hCl hHeld
                      try simp only [Act.put]
                      try simp only [List.setIfInBounds_toArray, List.set_cons_zero, List.set_cons_succ]
                      refine reg_takeG 5 ?_ ?_ ?_ (by kernel_rfl) (by kernel_rfl) (by kernel_rfl) (fun _ _ _ h => h) ?_ ?_ ?_ hCl hHeld ?_
                      rotate_left 2
                      · simp only [List.getElem?_toArray, List.getElem?_cons_succ, List.getElem?_cons_zero]; exact rfl
                      · intro l w'; rw [hSSs, hSSs]
                      · rfl
                      · intro w' hA; clear hA; go_simp; try with_reducible rfl
                      clear hCl hHeld
                      intro hCl hHeld
                      simp only [List.setIfInBounds_toArray, List.set_cons_zero, List.set_cons_succ] at hCl hHeld
                      try simp only [Act.put]
                      try simp only [List.setIfInBounds_toArray, List.set_cons_zero, List.set_cons_succ]
                      refine reg_takeG 6 ?_ ?_ ?_ (by kernel_rfl) (by kernel_rfl) (by kernel_rfl) (fun _ _ _ h => h) ?_ ?_ ?_ hCl hHeld ?_
                      rotate_left 2
                      · simp only [List.getElem?_toArray, List.getElem?_cons_succ, List.getElem?_cons_zero]; exact rfl
                      · intro l w'; rw [hSSs, hSSs]
                      · rfl
                      · intro w' hA; clear hA; go_simp; try with_reducible rfl
                      clear hCl hHeld
                      intro hCl hHeld
                      simp only [List.setIfInBounds_toArray, List.set_cons_zero, List.set_cons_succ] at hCl hHeld
                      try simp only [Act.put]
                      try simp only [List.setIfInBounds_toArray, List.set_cons_zero, List.set_cons_succ]
                      refine reg_takeG 7 ?_ ?_ ?_ (by kernel_rfl) (by kernel_rfl) (by kernel_rfl) (fun _ _ _ h => h) ?_ ?_ ?_ hCl hHeld ?_
                      rotate_left 2
                      · simp only [List.getElem?_toArray, List.getElem?_cons_succ, List.getElem?_cons_zero]; exact rfl
                      · intro l w'; rw [hSSs, hSSs]
                      · rfl
                      · intro w' hA; clear hA; go_simp; try with_reducible rfl
                      clear hCl hHeld
                      intro hCl hHeld
                      simp only [List.setIfInBounds_toArray, List.set_cons_zero, List.set_cons_succ] at hCl hHeld
                      try simp only [Act.put]
                      try simp only [List.setIfInBounds_toArray, List.set_cons_zero, List.set_cons_succ]
                      refine reg_takeG 8 ?_ ?_ ?_ (by kernel_rfl) (by kernel_rfl) (by kernel_rfl) (fun _ _ _ h => h) ?_ ?_ ?_ hCl hHeld ?_
                      rotate_left 2
                      · simp only [List.getElem?_toArray, List.getElem?_cons_succ, List.getElem?_cons_zero]; exact rfl
                      · intro l w'; rw [hSSs, hSSs]
                      · rfl
                      · intro w' hA; obtain ⟨l, hl, hi, hSl⟩ := hA; have hSl := (hSSs _ _).1 hSl; obtain ⟨hz0, hz1⟩ := hSl; go_simp; try with_reducible rfl
                      clear hCl hHeld
                      intro hCl hHeld
                      simp only [List.setIfInBounds_toArray, List.set_cons_zero, List.set_cons_succ] at hCl hHeld
                      try simp only [Act.put]
                      try simp only [List.setIfInBounds_toArray, List.set_cons_zero, List.set_cons_succ]
                      refine reg_takeG 9 ?_ ?_ ?_ (by kernel_rfl) (by kernel_rfl) (by kernel_rfl) (fun _ _ _ h => h) ?_ ?_ ?_ hCl hHeld ?_
                      rotate_left 2
                      · simp only [List.getElem?_toArray, List.getElem?_cons_succ, List.getElem?_cons_zero]; exact rfl
                      · intro l w'; rw [hSSs, hSSs]
                      · rfl
                      · intro w' hA; clear hA; go_simp; try with_reducible rfl
                      clear hCl hHeld
                      intro hCl hHeld
                      simp only [List.setIfInBounds_toArray, List.set_cons_zero, List.set_cons_succ] at hCl hHeld
                      try simp only [Act.put]
                      try simp only [List.setIfInBounds_toArray, List.set_cons_zero, List.set_cons_succ]
                      refine reg_takeG 10 ?_ ?_ ?_ (by kernel_rfl) (by kernel_rfl) (by kernel_rfl) (fun _ _ _ h => h) ?_ ?_ ?_ hCl hHeld ?_
                      rotate_left 2
                      · simp only [List.getElem?_toArray, List.getElem?_cons_succ, List.getElem?_cons_zero]; exact rfl
                      · intro l w'; rw [hSSs, hSSs]
                      · rfl
                      · intro w' hA; clear hA; go_simp; try with_reducible rfl
                      clear hCl hHeld
                      intro hCl hHeld
                      simp only [List.setIfInBounds_toArray, List.set_cons_zero, List.set_cons_succ] at hCl hHeld
                      try simp only [Act.put]
                      try simp only [List.setIfInBounds_toArray, List.set_cons_zero, List.set_cons_succ]
                      refine reg_takeG 11 ?_ ?_ ?_ (by kernel_rfl) (by kernel_rfl) (by kernel_rfl) (fun _ _ _ h => h) ?_ ?_ ?_ hCl hHeld ?_
                      rotate_left 2
                      · simp only [List.getElem?_toArray, List.getElem?_cons_succ, List.getElem?_cons_zero]; exact rfl
                      · intro l w'; rw [hSSs, hSSs]
                      · rfl
                      · intro w' hA; clear hA; go_simp; try with_reducible rfl
                      clear hCl hHeld
                      intro hCl hHeld
                      simp only [List.setIfInBounds_toArray, List.set_cons_zero, List.set_cons_succ] at hCl hHeld
                      try simp only [Act.put]
                      try simp only [List.setIfInBounds_toArray, List.set_cons_zero, List.set_cons_succ]
                      refine reg_takeG 12 ?_ ?_ ?_ (by kernel_rfl) (by kernel_rfl) (by kernel_rfl) (fun _ _ _ h => h) ?_ ?_ ?_ hCl hHeld ?_
                      rotate_left 2
                      · simp only [List.getElem?_toArray, List.getElem?_cons_succ, List.getElem?_cons_zero]; exact rfl
                      · intro l w'; rw [hSSs, hSSs]
                      · rfl
                      · intro w' hA; obtain ⟨l, hl, hi, hSl⟩ := hA; have hSl := (hSSs _ _).1 hSl; obtain ⟨hz0, hz1⟩ := hSl; go_simp; try with_reducible rfl
                      clear hCl hHeld
                      intro hCl hHeld
                      simp only [List.setIfInBounds_toArray, List.set_cons_zero, List.set_cons_succ] at hCl hHeld
                      try simp only [Act.put]
                      try simp only [List.setIfInBounds_toArray, List.set_cons_zero, List.set_cons_succ]
                      refine reg_takeG 13 ?_ ?_ ?_ (by kernel_rfl) (by kernel_rfl) (by kernel_rfl) (fun _ _ _ h => h) ?_ ?_ ?_ hCl hHeld ?_
                      rotate_left 2
                      · simp only [List.getElem?_toArray, List.getElem?_cons_succ, List.getElem?_cons_zero]; exact rfl
                      · intro l w'; rw [hSSs, hSSs]
                      · rfl
                      · intro w' hA; clear hA; go_simp; try with_reducible rfl
                      clear hCl hHeld
                      intro hCl hHeld
                      simp only [List.setIfInBounds_toArray, List.set_cons_zero, List.set_cons_succ] at hCl hHeld
                      try simp only [Act.put]
                      try simp only [List.setIfInBounds_toArray, List.set_cons_zero, List.set_cons_succ]
                      refine reg_takeG 14 ?_ ?_ ?_ (by kernel_rfl) (by kernel_rfl) (by kernel_rfl) (fun _ _ _ h => h) ?_ ?_ ?_ hCl hHeld ?_
                      rotate_left 2
                      · simp only [List.getElem?_toArray, List.getElem?_cons_succ, List.getElem?_cons_zero]; exact rfl
                      · intro l w'; rw [hSSs, hSSs]
                      · rfl
                      · intro w' hA; clear hA; go_simp; try with_reducible rfl
                      clear hCl hHeld
                      intro hCl hHeld
                      simp only [List.setIfInBounds_toArray, List.set_cons_zero, List.set_cons_succ] at hCl hHeld
                      try simp only [Act.put]
                      try simp only [List.setIfInBounds_toArray, List.set_cons_zero, List.set_cons_succ]
                      refine reg_takeG 15 ?_ ?_ ?_ (by kernel_rfl) (by kernel_rfl) (by kernel_rfl) (fun _ _ _ h => h) ?_ ?_ ?_ hCl hHeld ?_
                      rotate_left 2
                      · simp only [List.getElem?_toArray, List.getElem?_cons_succ, List.getElem?_cons_zero]; exact rfl
                      · intro l w'; rw [hSSs, hSSs]
                      · rfl
                      · intro w' hA; clear hA; go_simp; try with_reducible rfl
                      clear hCl hHeld
                      intro hCl hHeld
                      simp only [List.setIfInBounds_toArray, List.set_cons_zero, List.set_cons_succ] at hCl hHeld
                      try simp only [Act.put]
                      try simp only [List.setIfInBounds_toArray, List.set_cons_zero, List.set_cons_succ]
                      refine reg_takeG 16 ?_ ?_ ?_ (by kernel_rfl) (by kernel_rfl) (by kernel_rfl) (fun _ _ _ h => h) ?_ ?_ ?_ hCl hHeld ?_
                      rotate_left 2
                      · simp only [List.getElem?_toArray, List.getElem?_cons_succ, List.getElem?_cons_zero]; exact rfl
                      · intro l w'; rw [hSSs, hSSs]
                      · rfl
                      · intro w' hA; clear hA; go_simp; try with_reducible rfl
                      clear hCl hHeld
                      intro hCl hHeld
                      simp only [List.setIfInBounds_toArray, List.set_cons_zero, List.set_cons_succ] at hCl hHeld
                      try simp only [Act.put]
                      try simp only [List.setIfInBounds_toArray, List.set_cons_zero, List.set_cons_succ]
                      refine reg_takeG 17 ?_ ?_ ?_ (by kernel_rfl) (by kernel_rfl) (by kernel_rfl) (fun _ _ _ h => h) ?_ ?_ ?_ hCl hHeld ?_
                      rotate_left 2
                      · simp only [List.getElem?_toArray, List.getElem?_cons_succ, List.getElem?_cons_zero]; exact rfl
                      · intro l w'; rw [hSSs, hSSs]
                      · rfl
                      · intro w' hA; obtain ⟨l, hl, hi, hSl⟩ := hA; have hSl := (hSSs _ _).1 hSl; obtain ⟨hz0, hz1⟩ := hSl; go_simp; try with_reducible rfl
                      clear hCl hHeld
                      intro hCl hHeld
                      simp only [List.setIfInBounds_toArray, List.set_cons_zero, List.set_cons_succ] at hCl hHeld
                      try simp only [Act.put]
                      try simp only [List.setIfInBounds_toArray, List.set_cons_zero, List.set_cons_succ]
                      refine reg_takeG 18 ?_ ?_ ?_ (by kernel_rfl) (by kernel_rfl) (by kernel_rfl) (fun _ _ _ h => h) ?_ ?_ ?_ hCl hHeld ?_
                      rotate_left 2
                      · simp only [List.getElem?_toArray, List.getElem?_cons_succ, List.getElem?_cons_zero]; exact rfl
                      · intro l w'; rw [hSSs, hSSs]
                      · rfl
                      · intro w' hA; clear hA; go_simp; try with_reducible rfl
                      clear hCl hHeld
                      intro hCl hHeld
                      simp only [List.setIfInBounds_toArray, List.set_cons_zero, List.set_cons_succ] at hCl hHeld
                      try simp only [Act.put]
                      try simp only [List.setIfInBounds_toArray, List.set_cons_zero, List.set_cons_succ]
                      refine reg_takeG 19 ?_ ?_ ?_ (by kernel_rfl) (by kernel_rfl) (by kernel_rfl) (fun _ _ _ h => h) ?_ ?_ ?_ hCl hHeld ?_
                      rotate_left 2
                      · simp only [List.getElem?_toArray, List.getElem?_cons_succ, List.getElem?_cons_zero]; exact rfl
                      · intro l w'; rw [hSSs, hSSs]
                      · rfl
                      · intro w' hA; clear hA; go_simp; try with_reducible rfl
                      clear hCl hHeld
                      intro hCl hHeld
                      simp only [List.setIfInBounds_toArray, List.set_cons_zero, List.set_cons_succ] at hCl hHeld
                      try simp only [Act.put]
                      try simp only [List.setIfInBounds_toArray, List.set_cons_zero, List.set_cons_succ]
                      clear hCl hHeld
                      refine reg_callG 20 ?_ (by kernel_rfl) ?_ (fun K hK => ?_)
                      rotate_left 1
                      · simp only [List.getElem?_toArray, List.getElem?_cons_succ, List.getElem?_cons_zero]; exact rfl
                      go_simp
                      clear hx0 hx1 hup
                      refine hK.out _ _ ((hSSs _ _).2 ⟨hy0, hy1⟩) ?_
                      clear hK K
                      try simp only [Act.put]
                      try simp only [List.setIfInBounds_toArray, List.set_cons_zero, List.set_cons_succ]
                      refine wpAnyG_done (by kernel_rfl) ?_ _
                      refine NoPanic.normal ?_
                      clear hSSs SSs
                      go_wp2
                      have hnn := HNN.out
                      refine ⟨⟨_, _, _, _, _, _, _, _, _, _, _, _, _, _, _, _, _, _, _, _, _, _, _, _, _, _, _, _, _, _, _, _, _, _, ?_, rfl⟩, by simp [intOf]⟩
                      exact ⟨2 + 1, by omega, by go_num, congrArg (Value.int .i64) (by omega), ⟨_, FIN.out.1⟩, FIN.out.2.1, FIN.out.2.2⟩
                · obtain rfl : i = 3 := by omega
                  have FIN := Lib.hid (And.intro hF2 hbw)
                  clear hF2 hbw hbx
                  go_wp2
                  exact ⟨⟨j + 1, by omega, by go_num, congrArg (Value.int .i64) (by omega), ⟨_, FIN.out.1⟩, FIN.out.2⟩, by simp [intOf]; omega⟩
            · obtain rfl : j = 8 := by omega
              have hgl := HM.out.len
              obtain ⟨⟨ta, tb, tc⟩, h0⟩ : ∃ v, (gridT 2 2 bn)[0]? = some v := ⟨_, List.getElem?_eq_getElem (by omega)⟩
              have hz := HM.out.one _ (List.mem_of_getElem? h0)
              simp only [] at hz
              have hb7 : Below w7.heap.size w7 wr := by rw [HFB.out]; exact hbw
              have hpr : RowN wr (w.heap.size + 1) 62 2 (.slice (some ⟨gp, 0, none⟩) 9 gpc) 9 (ptsCells (gridP 2 2)) := (HROW.out.below HBT.out).below hb7
              have htr := HTR.out.below hb7
              have hbu := Build_any F (gridT 2 2 bn) ta tb tc fb gt 8 gtc gp 9 gpc (gridP 2 2) wr OK.out.good h0 hz (by omega) (by omega) OK.out.pts htr hF rfl (by omega) (by omega) HPS.out hpr.ptsC HM.out.some_ (by have := HM.out.few; omega) HM.out.ends
              have HBU := Lib.hid hbu; have HTRR := Lib.hid htr
              have HBWR := Lib.hid (HBW.out.trans ((HBT.out.trans (hb7.mono HBT.out.size)).mono HBW.out.size))
              have hgt := HGTL.out.1; have hsz5 := HBW.out.size
              clear hbu htr hpr hb7 hF hbw hz h0 hgl
              go_wp2_with fail
              refine HBU.out.mono ?_
              rintro e w9 ⟨mb, rfl, hbe, hb9⟩
              have hbs := HBWR.out.size
              have FIN := Lib.hid (And.intro (hbe.low hbs) (And.intro (HTRR.out.below hb9) (HBWR.out.trans (hb9.mono hbs))))
              clear hbe hb9
              go_wp2
              go_ret2
              exact ⟨mb, gt, gtc, F, rfl, FIN.out.1, FIN.out.2.1, by omega, FIN.out.2.2⟩
end Go.Proofs.Ytecnnpkpgbbfkaa
/- The statements' Grid, whatever it is asked: what comes. -/
namespace Go.Proofs.Ytecnnpkpgbbfkaa
open Go.RowKit Go.MagM
/-- What Grid leaves. -/
structure GridIs (w : World) (B mb pb pc tb tc g W H bn : Nat) (F : Int → Int → Bool) (Bd : List (Nat × Nat)) (S : List TriM) : Prop where
  mesh : MeshO 62 49 w B mb pb pc (.slice (some ⟨tb, 0, none⟩) S.length tc) (gridP W H) S
  pts : B ≤ pb
  built : Built (faF F) (gridT W H bn) Bd S
  tr : TrIn w g ((gridT W H bn).map realV)
  row : B ≤ g
  hW : W = 1 ∨ W = 2
  hH : H = 1 ∨ H = 2
  hb : bn < 16
theorem GridIs.below {w w' : World} {B mb pb pc tb tc g W H bn : Nat} {F : Int → Int → Bool} {Bd : List (Nat × Nat)} {S : List TriM} (h : GridIs w B mb pb pc tb tc g W H bn F Bd S) (hb : Below w.heap.size w w') : GridIs w' B mb pb pc tb tc g W H bn F Bd S :=
  ⟨h.mesh.below hb, h.pts, h.built, h.tr.below hb, h.row, h.hW, h.hH, h.hb⟩
theorem GridIs.drew {w : World} {B mb pb pc tb tc g W H bn : Nat} {F : Int → Int → Bool} {Bd : List (Nat × Nat)} {S : List TriM} (h : GridIs w B mb pb pc tb tc g W H bn F Bd S) : GridIs w.drew B mb pb pc tb tc g W H bn F Bd S := h.below (Below.refl _ _).drew'
theorem GridIs.read {w : World} {B mb pb pc tb tc g W H bn : Nat} {F : Int → Int → Bool} {Bd : List (Nat × Nat)} {S : List TriM} (h : GridIs w B mb pb pc tb tc g W H bn F Bd S) : MeshR w mb pb pc (some ⟨tb, 0, none⟩) tc (gridP W H) S := by
  obtain ⟨ta, tc', e, hr⟩ := h.mesh.read
  simp only [Value.slice.injEq] at e
  obtain ⟨rfl, -, rfl⟩ := e
  exact hr
theorem GridIs.sound {w : World} {B mb pb pc tb tc g W H bn : Nat} {F : Int → Int → Bool} {Bd : List (Nat × Nat)} {S : List TriM} (h : GridIs w B mb pb pc tb tc g W H bn F Bd S) : SoundIs (gridP W H) S true := by
  have ok := grid_ok h.hW h.hH h.hb
  exact built_sound h.built ok.turn ok.some_ ok.rim
theorem GridIs.sizes {w : World} {B mb pb pc tb tc g W H bn : Nat} {F : Int → Int → Bool} {Bd : List (Nat × Nat)} {S : List TriM} (h : GridIs w B mb pb pc tb tc g W H bn F Bd S) : 4 ≤ (gridP W H).length ∧ (gridP W H).length ≤ 9 ∧ 4 ≤ S.length ∧ S.length ≤ 16 := by
  have ok := grid_ok h.hW h.hH h.hb
  have hm := grid_has h.hW h.hH h.hb
  have h1 := ok.many; have h2 := ok.few; have h3 := hm.few; have h4 := ok.four; have h5 := h.built.len; have h6 := h.built.perm.length_eq
  have h7 : 4 ≤ (W + 1) * (H + 1) ∧ (W + 1) * (H + 1) ≤ 9 := by
    rcases h.hW with e | e <;> rcases h.hH with e' | e' <;> rw [e, e'] <;> decide
  omega
theorem and_one (x : Int) : bits .and .i64 x 1 = 0 ∨ bits .and .i64 x 1 = 1 := by
  have h1 : (BitVec.ofInt 64 (1 : Int)).toNat = 1 := by decide
  have h2 : (BitVec.ofInt 64 x).toNat &&& 1 ≤ 1 := Nat.and_le_right
  have h3 : bits .and .i64 x 1 = (((BitVec.ofInt 64 x).toNat &&& 1 : Nat) : Int) := by
    show IntKind.i64.wrap ((BitVec.ofInt 64 x &&& BitVec.ofInt 64 (1 : Int)).toNat : Int) = _
    rw [BitVec.toNat_and, h1, IntKind.wrap_i64]
    omega
  rw [h3]; omega
theorem Grid_any (w0 h0 b f : Int) (w : World) :
    Calls Try.prog 6 #[.int .i64 w0, .int .i64 h0, .int .u32 b, .int .u32 f] w fun e w' => ∃ (mb pb pc tb tc g gn gc W H bn : Nat) (F : Int → Int → Bool) (Bd : List (Nat × Nat)) (S : List TriM), e = .returned (.tuple #[.pointer (some ⟨mb, 0, none⟩), .slice (some ⟨g, 0, none⟩) gn gc]) ∧ gn = (gridT W H bn).length ∧ GridIs w' w.heap.size mb pb pc tb tc g W H bn F Bd S ∧ Below w.heap.size w w' := by
  obtain ⟨bn, hbn, hbit⟩ := bits_of b
  have fin : ∀ {W H : Nat} (hW : W = 1 ∨ W = 2) (hH : H = 1 ∨ H = 2) {NT : Nat}, NT = 2 * (W * H) → (Calls Try.prog 6 #[.int .i64 w0, .int .i64 h0, .int .u32 b, .int .u32 f] w fun e w' => ∃ (mb g c : Nat) (F : Int → Int → Bool), e = .returned (.tuple #[.pointer (some ⟨mb, 0, none⟩), .slice (some ⟨g, 0, none⟩) NT c]) ∧ BuildEnd 62 49 F w.heap.size (gridP W H) (gridT W H bn) mb w' ∧ TrIn w' g ((gridT W H bn).map realV) ∧ w.heap.size ≤ g ∧ Below w.heap.size w w') →
      Calls Try.prog 6 #[.int .i64 w0, .int .i64 h0, .int .u32 b, .int .u32 f] w fun e w' => ∃ (mb pb pc tb tc g gn gc W H bn : Nat) (F : Int → Int → Bool) (Bd : List (Nat × Nat)) (S : List TriM), e = .returned (.tuple #[.pointer (some ⟨mb, 0, none⟩), .slice (some ⟨g, 0, none⟩) gn gc]) ∧ gn = (gridT W H bn).length ∧ GridIs w' w.heap.size mb pb pc tb tc g W H bn F Bd S ∧ Below w.heap.size w w' := by
    intro W H hW hH NT hNT hc
    refine hc.mono ?_
    rintro e w' ⟨mb, g, c, F, rfl, ⟨pb, pc, tv, S, Bd, hm, hpb, hp, hbs, hj⟩, htr, hg, hb⟩
    have ok := grid_ok hW hH hbn
    have hmo := grid_has hW hH hbn
    have hbu := Built.of ok.good ok.four hp hbs hj
    have h0 : 0 < S.length := by have := hbu.len; have := ok.four; have := hp.length_eq; omega
    obtain ⟨t, ht⟩ : ∃ t, S[0]? = some t := ⟨_, List.getElem?_eq_getElem h0⟩
    obtain ⟨tb, tc, rfl⟩ := hm.slot ht
    exact ⟨mb, pb, pc, tb, tc, g, _, c, W, H, bn, F, Bd, S, rfl, by rw [hmo.len]; exact hNT, ⟨hm, hpb, hbu, htr, hg, hW, hH, hbn⟩, hb⟩
  rcases and_one w0 with e1 | e1 <;> rcases and_one h0 with e2 | e2
  · exact fin (W := 1) (H := 1) (by omega) (by omega) rfl (Grid11_any w0 h0 b f bn hbn e1 e2 hbit w)
  · exact fin (W := 1) (H := 2) (by omega) (by omega) rfl (Grid12_any w0 h0 b f bn hbn e1 e2 hbit w)
  · exact fin (W := 2) (H := 1) (by omega) (by omega) rfl (Grid21_any w0 h0 b f bn hbn e1 e2 hbit w)
  · exact fin (W := 2) (H := 2) (by omega) (by omega) rfl (Grid22_any w0 h0 b f bn hbn e1 e2 hbit w)
end Go.Proofs.Ytecnnpkpgbbfkaa
/- The statements' fit (layer 9). -/
namespace Go.Proofs.Ytecnnpkpgbbfkaa
open Go.RowKit Go.MagM
theorem MeshO.sl {p e : TypeId} {w : World} {lo mb pb pc : Nat} {tv : Value} {P : List (Int × Int)} {S : List TriM} (h : MeshO p e w lo mb pb pc tv P S) (h0 : 0 < S.length) : ∃ tb tc, tv = .slice (some ⟨tb, 0, none⟩) S.length tc ∧ MeshR w mb pb pc (some ⟨tb, 0, none⟩) tc P S := by
  obtain ⟨t, ht⟩ : ∃ t, S[0]? = some t := ⟨_, List.getElem?_eq_getElem h0⟩
  obtain ⟨tb, tc, rfl⟩ := h.slot ht
  obtain ⟨ta, tc', e, hr⟩ := h.read
  simp only [Value.slice.injEq] at e
  obtain ⟨rfl, -, rfl⟩ := e
  exact ⟨tb, tc, rfl, hr⟩
set_option maxRecDepth 100000 in
set_option maxHeartbeats 16000000 in
theorem fit9_any (w : World) : Calls Try.prog 5 #[] w fun e w' => e = .returned (.bool true) ∧ Below w.heap.size w w' := by
  obtain ⟨w1, hw1, pp, hb1, hs1⟩ := new_box w _ rfl [.int .i64 0, .int .i64 0, .int .i64 1, .int .i64 0, .int .i64 0, .int .i64 1] 62
  have hP : InPs [(0, 0), (1, 0), (0, 1)] := by
    intro p hp
    simp at hp
    rcases hp with rfl | rfl | rfl <;> (unfold InP; omega)
  have hnew := New_yes (some ⟨w.heap.size, 0, none⟩) w.heap.size 3 3 [(0, 0), (1, 0), (0, 1)] w1 rfl (by omega) (by omega) hP rfl (fun j u hj => by rw [Nat.zero_add]; exact pp.c j u hj) 0 1 2 (by rfl)
  have hnew' : Calls Try.prog 16 #[.slice (some ⟨w.heap.size, 0, none⟩) 3 3, .int .i64 0, .int .i64 1, .int .i64 2] w1 fun e w' => ∃ mb pb pc tv, e = .returned (.tuple #[.pointer (some ⟨mb, 0, none⟩), .bool true]) ∧ MeshO 62 49 w' w1.heap.size mb pb pc tv [(0, 0), (1, 0), (0, 1)] (newM ((0 : Nat) : Int) ((1 : Nat) : Int) ((2 : Nat) : Int)) ∧ w1.heap.size ≤ pb ∧ Below w1.heap.size w1 w' := hnew
  have HN := Lib.hid hnew'; have HP := Lib.hid hP
  have hB1 : Below w.heap.size w w1 := hb1
  have HB1 := Lib.hid hB1
  clear pp hb1 hs1 hnew hnew' hP hB1
  go_enter Try.func5, Try.ntmps5
  go_wp2_with fail
  refine HN.out.mono ?_
  rintro e w2 ⟨mb, pb, pc, tv, rfl, hm, hpb, hb2⟩
  obtain ⟨tb, tc, rfl, hr⟩ := MeshO.sl hm (by show 0 < 4; omega)
  have hB2 := HB1.out.trans (hb2.mono HB1.out.size)
  have hso := Sound_any true w2 hr HP.out (by simp) (newM_sound (a := 0) (b := 1) (c := 2) (P := [(0, 0), (1, 0), (0, 1)]) (by decide) (by decide) (by decide) (by decide))
  have c1 := hr.box.c 1 _ rfl
  have HR := Lib.hid hr; have HB2 := Lib.hid hB2; have HSO := Lib.hid hso
  clear hm hpb hb2 hr hB2 hso
  obtain ⟨S, hS⟩ : ∃ S, newM ((0 : Nat) : Int) ((1 : Nat) : Int) ((2 : Nat) : Int) = S := ⟨_, rfl⟩
  have hr0 : realM S ((0 : Nat) : Int) = true := by rw [← hS]; decide
  have hr1 : ∀ k : Nat, 1 ≤ k → k < 4 → realM S (k : Int) = false := by
    intro k h1 h4
    rw [← hS]
    obtain rfl | rfl | rfl : k = 1 ∨ k = 2 ∨ k = 3 := by omega
    all_goals decide
  have hl : S.length = 4 := by rw [← hS]; rfl
  rw [hS] at HR c1
  rw [hl] at c1
  go_wp2_with fail
  refine HSO.out.mono ?_
  rintro e w3 ⟨rfl, hb3⟩
  have hB3 := HB2.out.trans (hb3.mono HB2.out.size)
  have hr3 := HR.out.below hb3
  have HR3 := Lib.hid hr3; have HB3 := Lib.hid hB3; have HR0 := Lib.hid hr0; have HR1 := Lib.hid hr1
  have c2 := hr3.box.c 1 _ rfl
  rw [hl] at c2
  clear hr3 hB3 hb3 c1 hr0 hr1
  go_wp2
  clear c2
  go_loopw [3, 4, 37] (fun nv _ iv wr => ∃ k : Nat, k ≤ 4 ∧ iv = .int .i64 (k : Int) ∧ nv = .int .i64 ((if k = 0 then 0 else 1 : Nat) : Int) ∧ Below w3.heap.size w3 wr) (fun _ _ iv _ => 4 - (intOf iv).toNat)
  case atStart => exact ⟨0, by omega, rfl, rfl, Below.refl _ _⟩
  case round =>
    obtain ⟨k, hk, rfl, rfl, hbw⟩ := hrel
    by_cases hlt : k < 4
    · have hre := Real_any (k : Int) wr (HR3.out.below hbw)
      have HBW := Lib.hid hbw
      by_cases h0 : k = 0
      · subst h0
        rw [HR0.out] at hre
        have HRE := Lib.hid hre
        clear hre hbw
        go_wp2_with fail
        refine HRE.out.mono ?_
        rintro e w4 ⟨rfl, hd4⟩
        have FIN := Lib.hid (HBW.out.trans (hd4.below.mono HBW.out.size))
        clear hd4
        go_wp2
        exact ⟨⟨1, by omega, by go_num, rfl, FIN.out⟩, by simp [intOf]⟩
      · rw [HR1.out k (by omega) hlt] at hre
        have HRE := Lib.hid hre
        have hn1 : (if k = 0 then 0 else 1 : Nat) = 1 := if_neg h0
        rw [hn1]
        have H0 := Lib.hid h0
        clear hre hbw h0 hn1
        go_wp2_with fail
        refine HRE.out.mono ?_
        rintro e w4 ⟨rfl, hd4⟩
        have FIN := Lib.hid (HBW.out.trans (hd4.below.mono HBW.out.size))
        clear hd4
        go_wp2
        exact ⟨⟨k + 1, by omega, by go_num, by rw [if_neg (by omega)]; rfl, FIN.out⟩, by simp [intOf]; omega⟩
    · obtain rfl : k = 4 := by omega
      have FIN := Lib.hid (HB3.out.trans (hbw.mono HB3.out.size))
      clear hbw
      go_wp2
      go_ret
      exact ⟨rfl, FIN.out⟩
end Go.Proofs.Ytecnnpkpgbbfkaa
/- Maps from ints to 1 (sets of numbers); bytes in a row; slots of which some are gone. -/
namespace Go.MagM
open Go.RowKit Go.Maps
/-- An entry: this number is in. -/
def encG (t : Nat) : Value × Value := (.int .i64 (t : Int), .int .i64 1)
theorem encG_mem {D : List Nat} {t : Nat} {v : Value} : (Value.int .i64 (t : Int), v) ∈ D.map encG ↔ t ∈ D ∧ v = .int .i64 1 := by
  rw [List.mem_map]
  constructor
  · rintro ⟨x, hx, e⟩
    simp only [encG, Prod.mk.injEq, Value.int.injEq, true_and] at e
    obtain ⟨e1, e2⟩ := e
    have : x = t := by omega
    subst this; exact ⟨hx, e2.symm⟩
  · rintro ⟨h, rfl⟩; exact ⟨t, h, rfl⟩
/-- Bytes that come in. -/
def BytesAt (w : World) (ao : Option Addr) (l : List Int) : Prop :=
  ∀ i x, l[i]? = some x → ∃ b o, ao = some ⟨b, o, none⟩ ∧ w.cell? ⟨b, o + i, none⟩ = some (.int .u8 x) ∧ 0 ≤ x ∧ x < 256
theorem BytesAt.below {w w' : World} {ao : Option Addr} {l : List Int} (h : BytesAt w ao l) (hb : Below w.heap.size w w') : BytesAt w' ao l := by
  intro i x hi
  obtain ⟨b, o, h0, h1, h2⟩ := h i x hi
  have hlt := World.block_lt_of_cell? w _ h1
  exact ⟨b, o, h0, (hb.cell (p := ⟨b, o + i, none⟩) hlt).trans h1, h2⟩
/-- Of n slots those of D are gone. -/
structure SlotsD (n : Nat) (S : List TriM) (D : List Nat) : Prop where
  len : S.length = n
  gone : ∀ (t : Nat) (T : TriM), S[t]? = some T → (goneB T = true ↔ t ∈ D)
  lt : ∀ t, t ∈ D → t < n
theorem goneTri_gone : goneB goneTri = true := by decide
theorem SlotsD.drop {n : Nat} {S : List TriM} {D : List Nat} (h : SlotsD n S D) {t : Nat} (ht : t < n) : SlotsD n (S.set t goneTri) (D ++ [t]) := by
  refine ⟨by rw [List.length_set]; exact h.len, fun u T hu => ?_, fun u hu => ?_⟩
  · rw [List.getElem?_set] at hu
    split at hu
    · rename_i e; subst e
      split at hu
      · cases hu; rw [goneTri_gone]; simp
      · cases hu
    · rename_i e
      rw [h.gone u T hu, List.mem_append, List.mem_singleton]
      exact ⟨.inl, fun hx => hx.elim id fun hx => absurd hx.symm e⟩
  · rcases List.mem_append.1 hu with h1 | h1
    · exact h.lt u h1
    · simp at h1; omega
theorem SlotsD.alive {n : Nat} {S : List TriM} {D : List Nat} (h : SlotsD n S D) {t : Nat} {T : TriM} (hT : S[t]? = some T) (ht : t ∉ D) : goneB T = false := by
  cases hg : goneB T with
  | false => rfl
  | true => exact absurd ((h.gone t T hT).1 hg) ht
theorem SlotsD.free_none {n : Nat} {S : List TriM} (h : SlotsD n S []) : freeK S = none := by
  unfold freeK
  rw [List.findIdx?_eq_none_iff]
  intro T hT
  obtain ⟨j, hj⟩ := List.mem_iff_getElem?.1 hT
  exact h.alive hj (by simp)
theorem newT_alive : goneB (newT 0 1 2) = false := by decide
theorem SlotsD.make {n : Nat} {S : List TriM} {D D' : List Nat} (h : SlotsD n S D) {k : Nat} (hD : ∀ x, x ∈ D' ↔ x ∈ D ∧ x ≠ k) : SlotsD n (S.set k (newT 0 1 2)) D' := by
  refine ⟨by rw [List.length_set]; exact h.len, fun u T hu => ?_, fun u hu => h.lt u ((hD u).1 hu).1⟩
  rw [List.getElem?_set] at hu
  split at hu
  · rename_i e; subst e
    split at hu
    · cases hu; rw [newT_alive, hD]; simp
    · cases hu
  · rename_i e
    rw [h.gone u T hu, hD]
    simp only [ne_eq, iff_self_and]
    intro _ e'; exact e e'.symm
end Go.MagM
namespace Go.Proofs.Ytecnnpkpgbbfkaa
open Go.RowKit Go.MagM Go.Maps
theorem set_look {w : World} {gb : Nat} {D : List Nat} (h : MapB Try.prog 3 w gb (D.map encG)) {t : Nat} (ht : t ≤ 1000000) :
    (Instr.lookup 52 (.map (some gb)) (.int .i64 (t : Int)) false).run Try.prog w = .ok (.int .i64 (if t ∈ D then 1 else 0)) w := by
  rcases h.look keyedI Try.underlying52 (keyI_of (a := (t : Int)) (by omega)) (z := .int .i64 0) (by kernel_rfl) false with ⟨v, hv, hr⟩ | ⟨hno, hr⟩
  · obtain ⟨h1, rfl⟩ := encG_mem.1 hv
    rw [if_pos h1]; exact hr
  · have h1 : t ∉ D := fun hx => hno _ (encG_mem.2 ⟨hx, rfl⟩)
    rw [if_neg h1]; exact hr
theorem set_store {w : World} {gb : Nat} {D : List Nat} (h : MapB Try.prog 3 w gb (D.map encG)) {t : Nat} (ht : t ≤ 1000000) (hno : t ∉ D) :
    ∃ w', (Instr.mapUpdate 52 (.map (some gb)) (.int .i64 (t : Int)) (.int .i64 1)).run Try.prog w = .ok () w' ∧ Turned w w' gb ∧ MapB Try.prog 3 w' gb ((D ++ [t]).map encG) := by
  obtain ⟨w', m', hr, htu, hm, hc⟩ := h.store keyedI Try.underlying52 (keyI_of (a := (t : Int)) (by omega)) (.int .i64 1)
  rcases hc with ⟨-, rfl⟩ | ⟨j, u, hj, -⟩
  · exact ⟨w', hr, htu, by rw [List.map_append]; exact hm⟩
  · exact absurd (encG_mem.1 (List.mem_of_getElem? hj)).1 hno
end Go.Proofs.Ytecnnpkpgbbfkaa
/- Going round a point of a grid: each triangle that has it comes once. Over no program; written ahead of layer 9's code. -/
namespace Go.MagM
/-- What stands in a ghost in the place of a point, among numbers. -/
def ghostN : Nat := 1000
/-- The triangles that have v, turned so that v stands first: both other points. -/
def rotsT (T : List (Nat × Nat × Nat)) (v : Nat) : List (Nat × Nat) :=
  T.flatMap fun t => (if t.1 = v then [(t.2.1, t.2.2)] else []) ++ (if t.2.1 = v then [(t.2.2, t.1)] else []) ++ (if t.2.2 = v then [(t.1, t.2.1)] else [])
def withGhosts (T : List (Nat × Nat × Nat)) (Bd : List (Nat × Nat)) : List (Nat × Nat × Nat) := T ++ Bd.map fun e => (e.2, e.1, ghostN)
/-- The next one, to the left: it begins where this one ends. -/
def nextS (R : List (Nat × Nat)) (s : Nat × Nat) : Nat × Nat := (R.find? fun p => p.1 == s.2).getD (0, 0)
def walkS (R : List (Nat × Nat)) : Nat → Nat × Nat → List (Nat × Nat)
  | 0, _ => []
  | n + 1, s => s :: walkS R n (nextS R s)
def iterS (R : List (Nat × Nat)) : Nat → Nat × Nat → Nat × Nat
  | 0, s => s
  | n + 1, s => iterS R n (nextS R s)
/-- From each of them on all come, each once, and then the first one again. -/
def roundS (R : List (Nat × Nat)) : Bool := (R.map (·.1)).Nodup && (R.map (·.2)).Nodup && R.all fun s => (walkS R R.length s).Nodup && (walkS R R.length s).all (fun p => R.contains p) && iterS R R.length s == s && R.any (fun p => p.1 == s.2)
def starsT (w h bits : Nat) : Bool := (List.range ((w + 1) * (h + 1))).all fun v => roundS (rotsT (withGhosts (gridT w h bits) (borderT (gridT w h bits))) v) && (rotsT (gridT w h bits) v).length != 0
def allStars : Bool := [1, 2].all fun w => [1, 2].all fun h => (List.range 16).all fun bits => starsT w h bits
set_option maxRecDepth 100000 in
theorem all_stars : allStars = true := by decide +kernel
theorem grid_stars {w h : Nat} (hw : w = 1 ∨ w = 2) (hh : h = 1 ∨ h = 2) {bits : Nat} (hb : bits < 16) : starsT w h bits = true := by
  have := all_stars
  unfold allStars at this
  rw [List.all_eq_true] at this
  have h1 := this w (by rcases hw with rfl | rfl <;> simp)
  rw [List.all_eq_true] at h1
  have h2 := h1 h (by rcases hh with rfl | rfl <;> simp)
  rw [List.all_eq_true] at h2
  exact h2 bits (List.mem_range.2 hb)
/-- As a proposition: what follows what hangs on the set of them alone. -/
structure Round (R : List (Nat × Nat)) : Prop where
  firsts : (R.map (·.1)).Nodup
  seconds : (R.map (·.2)).Nodup
  next : ∀ s, s ∈ R → ∃ p, p ∈ R ∧ p.1 = s.2
  walk : ∀ s, s ∈ R → (walkS R R.length s).Nodup ∧ (∀ p, p ∈ walkS R R.length s → p ∈ R) ∧ iterS R R.length s = s
theorem Round.of {R : List (Nat × Nat)} (h : roundS R = true) : Round R := by
  unfold roundS at h
  simp only [Bool.and_eq_true, decide_eq_true_eq, List.all_eq_true, List.contains_iff_mem, beq_iff_eq, List.any_eq_true] at h
  obtain ⟨⟨h1, h2⟩, h3⟩ := h
  exact ⟨h1, h2, fun s hs => by obtain ⟨p, hp, e⟩ := (h3 s hs).2; exact ⟨p, hp, e⟩, fun s hs => ⟨(h3 s hs).1.1.1, (h3 s hs).1.1.2, (h3 s hs).1.2⟩⟩
theorem walkS_len (R : List (Nat × Nat)) : ∀ n s, (walkS R n s).length = n
  | 0, _ => rfl
  | n + 1, s => by rw [walkS, List.length_cons, walkS_len R n]
/-- All come. -/
theorem subset_of_len {α : Type} [DecidableEq α] : ∀ {l R : List α}, l.Nodup → (∀ x, x ∈ l → x ∈ R) → R.length ≤ l.length → ∀ x, x ∈ R → x ∈ l
  | [], R, _, _, hl, x, hx => by
    have : R = [] := List.eq_nil_of_length_eq_zero (by simpa using hl)
    rw [this] at hx; cases hx
  | a :: t, R, hn, hs, hl, x, hx => by
    have hn' := List.nodup_cons.1 hn
    by_cases e : x = a
    · rw [e]; simp
    · refine List.mem_cons_of_mem _ (subset_of_len (R := R.erase a) hn'.2 (fun y hy => ?_) ?_ x ?_)
      · have hya : y ≠ a := fun e => hn'.1 (e ▸ hy)
        exact (List.mem_erase_of_ne hya).2 (hs y (List.mem_cons_of_mem _ hy))
      · rw [List.length_erase_of_mem (hs a (by simp))]
        simp at hl; omega
      · exact (List.mem_erase_of_ne e).2 hx
theorem Round.all {R : List (Nat × Nat)} (h : Round R) {s : Nat × Nat} (hs : s ∈ R) : ∀ p, p ∈ R → p ∈ walkS R R.length s := by
  obtain ⟨h1, h2, _⟩ := h.walk s hs
  exact subset_of_len h1 h2 (by rw [walkS_len]; exact Nat.le_refl _)
/-- The next one is the only one that begins there. -/
theorem Round.next_is {R : List (Nat × Nat)} (h : Round R) {s p : Nat × Nat} (hp : p ∈ R) (e : p.1 = s.2) : nextS R s = p := by
  unfold nextS
  cases hf : R.find? (fun q => q.1 == s.2) with
  | none =>
    have := List.find?_eq_none.1 hf p hp
    simp [e] at this
  | some q =>
    have h1 := List.find?_some hf
    have h2 := List.mem_of_find?_eq_some hf
    have : q.1 = p.1 := by rw [e]; simpa using h1
    exact nodup_inj h.firsts h2 hp this
end Go.MagM
/- Going round a point of what the statements' Build has made: all triangles that have it come, each once. Pure. -/
namespace Go.MagM
/-- Numbers that stand for points, and for Ghost. -/
def encI (x : Nat) : Int := if x = ghostN then -1 else (x : Int)
def encP (p : Nat × Nat) : Int × Int := (encI p.1, encI p.2)
theorem encI_inj {x y : Nat} (h : encI x = encI y) : x = y := by
  unfold encI at h
  split at h <;> split at h <;> omega
theorem encP_inj {p q : Nat × Nat} (h : encP p = encP q) : p = q := by
  unfold encP at h
  simp only [Prod.mk.injEq] at h
  exact Prod.ext (encI_inj h.1) (encI_inj h.2)
theorem encI_small {x : Nat} (h : x < 10) : encI x = (x : Int) := by unfold encI ghostN; rw [if_neg (by omega)]
theorem encI_ghost : encI ghostN = -1 := by unfold encI; rw [if_pos rfl]
/-- The points behind the k-th one. -/
def pairX (X : TriM) (k : Nat) : Int × Int := (X.v ((k + 1) % 3), X.v ((k + 2) % 3))
theorem mem_rots {L : List (Nat × Nat × Nat)} {v : Nat} {p : Nat × Nat} : p ∈ rotsT L v ↔ ∃ t, t ∈ L ∧ ((t.1 = v ∧ p = (t.2.1, t.2.2)) ∨ (t.2.1 = v ∧ p = (t.2.2, t.1)) ∨ (t.2.2 = v ∧ p = (t.1, t.2.1))) := by
  unfold rotsT
  rw [List.mem_flatMap]
  refine exists_congr fun t => and_congr_right fun _ => ?_
  rw [List.mem_append, List.mem_append]
  constructor
  · rintro ((h | h) | h)
    · split at h
      · simp at h; exact .inl ⟨by assumption, h⟩
      · cases h
    · split at h
      · simp at h; exact .inr (.inl ⟨by assumption, h⟩)
      · cases h
    · split at h
      · simp at h; exact .inr (.inr ⟨by assumption, h⟩)
      · cases h
  · rintro (⟨h1, h2⟩ | ⟨h1, h2⟩ | ⟨h1, h2⟩)
    · exact .inl (.inl (by rw [if_pos h1, h2]; simp))
    · exact .inl (.inr (by rw [if_pos h1, h2]; simp))
    · exact .inr (by rw [if_pos h1, h2]; simp)
/-- Round, till the first one comes again. -/
def cutS (R : List (Nat × Nat)) (p0 : Nat × Nat) : Nat → Nat × Nat → List (Nat × Nat)
  | 0, _ => []
  | n + 1, p => p :: (if nextS R p = p0 then [] else cutS R p0 n (nextS R p))
theorem cutS_walk (R : List (Nat × Nat)) (p0 : Nat × Nat) : ∀ m n p, 1 ≤ m → m ≤ n → iterS R m p = p0 → (∀ j, 0 < j → j < m → iterS R j p ≠ p0) → cutS R p0 n p = walkS R m p
  | 0, _, _, h, _, _, _ => by omega
  | m + 1, 0, _, _, h, _, _ => by omega
  | m + 1, n + 1, p, _, hn, hi, hj => by
    rw [cutS, walkS]
    by_cases hm : m = 0
    · subst hm
      have : nextS R p = p0 := hi
      rw [if_pos this]; rfl
    · have h1 := hj 1 (by omega) (by omega)
      have h1' : nextS R p ≠ p0 := h1
      rw [if_neg h1', cutS_walk R p0 m n (nextS R p) (by omega) (by omega) hi (fun j h0 hlt => hj (j + 1) (by omega) (by omega))]
theorem walkS_get (R : List (Nat × Nat)) : ∀ n p j, j < n → (walkS R n p)[j]? = some (iterS R j p)
  | 0, _, _, h => by omega
  | n + 1, p, 0, _ => rfl
  | n + 1, p, j + 1, h => by
    rw [walkS, List.getElem?_cons_succ]
    exact walkS_get R n (nextS R p) j (by omega)
theorem Round.cut {R : List (Nat × Nat)} (h : Round R) {s : Nat × Nat} (hs : s ∈ R) {n : Nat} (hn : R.length ≤ n) : cutS R s n s = walkS R R.length s := by
  obtain ⟨h1, -, h3⟩ := h.walk s hs
  have hl : 1 ≤ R.length := List.length_pos_iff.2 (List.ne_nil_of_mem hs)
  refine cutS_walk R s R.length n s hl hn h3 fun j h0 hj e => ?_
  have e0 := walkS_get R R.length s 0 (by omega)
  have ej := walkS_get R R.length s j hj
  rw [e] at ej
  have := (List.getElem?_inj (by rw [walkS_len]; omega) h1).1 (e0.trans ej.symm)
  omega
section
variable {fa : Int → Int → Bool} {T : List (Nat × Nat × Nat)} {Bd : List (Nat × Nat)} {S : List TriM}
/-- All points of the triangles are small. -/
structure SmallT (T : List (Nat × Nat × Nat)) : Prop where
  t : ∀ x, x ∈ T → x.1 < 10 ∧ x.2.1 < 10 ∧ x.2.2 < 10
  b : ∀ e, e ∈ borderT T → e.1 < 10 ∧ e.2 < 10
theorem star_of (h : Built fa T Bd S) (hs : SmallT T) {v t k : Nat} {X : TriM} (hX : S[t]? = some X) (hk : k < 3) (hv : X.v k = (v : Int)) : ∃ p, p ∈ rotsT (withGhosts T (borderT T)) v ∧ pairX X k = encP p := by
  rcases h.cases hX with ⟨x, hx, e0, e1, e2⟩ | ⟨j, e, rfl, he, e0, e1, e2⟩
  · have hm := List.mem_of_getElem? hx
    obtain ⟨s0, s1, s2⟩ := hs.t x hm
    have hin : x ∈ withGhosts T (borderT T) := List.mem_append_left _ hm
    obtain rfl | rfl | rfl : k = 0 ∨ k = 1 ∨ k = 2 := by omega
    · have hv' : x.1 = v := by have : X.v0 = (v : Int) := hv; omega
      exact ⟨_, mem_rots.2 ⟨x, hin, .inl ⟨hv', rfl⟩⟩, by unfold pairX encP; simp only [encI_small s1, encI_small s2]; show (X.v1, X.v2) = _; rw [e1, e2]⟩
    · have hv' : x.2.1 = v := by have : X.v1 = (v : Int) := hv; omega
      exact ⟨_, mem_rots.2 ⟨x, hin, .inr (.inl ⟨hv', rfl⟩)⟩, by unfold pairX encP; simp only [encI_small s2, encI_small s0]; show (X.v2, X.v0) = _; rw [e2, e0]⟩
    · have hv' : x.2.2 = v := by have : X.v2 = (v : Int) := hv; omega
      exact ⟨_, mem_rots.2 ⟨x, hin, .inr (.inr ⟨hv', rfl⟩)⟩, by unfold pairX encP; simp only [encI_small s0, encI_small s1]; show (X.v0, X.v1) = _; rw [e0, e1]⟩
  · have hm := h.mem.1 (List.mem_of_getElem? he)
    obtain ⟨s1, s0⟩ := hs.b e hm
    have hin : (e.2, e.1, ghostN) ∈ withGhosts T (borderT T) := List.mem_append_right _ (List.mem_map.2 ⟨e, hm, rfl⟩)
    obtain rfl | rfl | rfl : k = 0 ∨ k = 1 ∨ k = 2 := by omega
    · have hv' : e.2 = v := by have : X.v0 = (v : Int) := hv; omega
      exact ⟨_, mem_rots.2 ⟨_, hin, .inl ⟨hv', rfl⟩⟩, by unfold pairX encP; simp only [encI_small s1, encI_ghost]; show (X.v1, X.v2) = _; rw [e1, e2]⟩
    · have hv' : e.1 = v := by have : X.v1 = (v : Int) := hv; omega
      exact ⟨_, mem_rots.2 ⟨_, hin, .inr (.inl ⟨hv', rfl⟩)⟩, by unfold pairX encP; simp only [encI_small s0, encI_ghost]; show (X.v2, X.v0) = _; rw [e2, e0]⟩
    · have : X.v2 = (v : Int) := hv
      omega
theorem star_at (h : Built fa T Bd S) (hs : SmallT T) {v : Nat} (hv9 : v < 10) {p : Nat × Nat} (hp : p ∈ rotsT (withGhosts T (borderT T)) v) : ∃ (t k : Nat) (X : TriM), S[t]? = some X ∧ k < 3 ∧ X.v k = (v : Int) ∧ pairX X k = encP p := by
  obtain ⟨x, hx, hc⟩ := mem_rots.1 hp
  rcases List.mem_append.1 hx with hm | hm
  · obtain ⟨s0, s1, s2⟩ := hs.t x hm
    obtain ⟨t, ht⟩ := List.mem_iff_getElem?.1 hm
    obtain ⟨X, hX, e0, e1, e2⟩ := h.real ht
    rcases hc with ⟨hv, rfl⟩ | ⟨hv, rfl⟩ | ⟨hv, rfl⟩
    · exact ⟨t, 0, X, hX, by omega, by show X.v0 = _; rw [e0, hv], by unfold pairX encP; simp only [encI_small s1, encI_small s2]; show (X.v1, X.v2) = _; rw [e1, e2]⟩
    · exact ⟨t, 1, X, hX, by omega, by show X.v1 = _; rw [e1, hv], by unfold pairX encP; simp only [encI_small s2, encI_small s0]; show (X.v2, X.v0) = _; rw [e2, e0]⟩
    · exact ⟨t, 2, X, hX, by omega, by show X.v2 = _; rw [e2, hv], by unfold pairX encP; simp only [encI_small s0, encI_small s1]; show (X.v0, X.v1) = _; rw [e0, e1]⟩
  · obtain ⟨e, he, rfl⟩ := List.mem_map.1 hm
    obtain ⟨s1, s0⟩ := hs.b e he
    obtain ⟨j, hj⟩ := List.mem_iff_getElem?.1 (h.mem.2 he)
    obtain ⟨X, hX, e0, e1, e2⟩ := h.ghost hj
    simp only [] at hc
    rcases hc with ⟨hv, rfl⟩ | ⟨hv, rfl⟩ | ⟨hv, rfl⟩
    · exact ⟨_, 0, X, hX, by omega, by show X.v0 = _; rw [e0, hv], by unfold pairX encP; simp only [encI_small s1, encI_ghost]; show (X.v1, X.v2) = _; rw [e1, e2]⟩
    · exact ⟨_, 1, X, hX, by omega, by show X.v1 = _; rw [e1, hv], by unfold pairX encP; simp only [encI_small s0, encI_ghost]; show (X.v2, X.v0) = _; rw [e2, e0]⟩
    · exact absurd hv (by unfold ghostN; omega)
theorem Surf.points {V : List (Int × Int × Int)} (h : Surf fa V S) {t : Nat} {X : TriM} (hX : S[t]? = some X) : X.v1 ≠ X.v2 ∧ X.v2 ≠ X.v0 ∧ X.v0 ≠ X.v1 :=
  ⟨h.apart hX (i := 0) (by omega), h.apart hX (i := 1) (by omega), h.apart hX (i := 2) (by omega)⟩
theorem Surf.place {V : List (Int × Int × Int)} (h : Surf fa V S) {t k : Nat} {X : TriM} (hX : S[t]? = some X) (hk : k < 3) : placeT X (X.v k) = (k : Int) ∧ placeM S (t : Int) (X.v k) = (k : Int) := by
  obtain ⟨a, b, c⟩ := h.points hX
  have hp : placeT X (X.v k) = (k : Int) := by
    unfold placeT
    obtain rfl | rfl | rfl : k = 0 ∨ k = 1 ∨ k = 2 := by omega
    · rw [show X.v 0 = X.v0 from rfl, if_pos rfl]; rfl
    · rw [show X.v 1 = X.v1 from rfl, if_neg (fun e => c e.symm), if_pos rfl]; rfl
    · rw [show X.v 2 = X.v2 from rfl, if_neg b, if_neg (fun e => a e.symm), if_pos rfl]; rfl
  refine ⟨hp, ?_⟩
  unfold placeM
  rw [getT_nat, hX]
  simp only []
  rw [(h.alive hX).2, hp]; simp
/-- A point's triangles are told apart by what stands behind it. -/
theorem Surf.pair_inj {V : List (Int × Int × Int)} (h : Surf fa V S) {t u k l : Nat} {X Y : TriM} (hX : S[t]? = some X) (hY : S[u]? = some Y) (hk : k < 3) (hl : l < 3) (hv : X.v k = Y.v l) (hp : (pairX X k).1 = (pairX Y l).1) : t = u ∧ k = l := by
  have e1 : edgeV X ((k + 2) % 3) = (X.v k, (pairX X k).1) := by
    obtain rfl | rfl | rfl : k = 0 ∨ k = 1 ∨ k = 2 := by omega
    all_goals rfl
  have e2 : edgeV Y ((l + 2) % 3) = (Y.v l, (pairX Y l).1) := by
    obtain rfl | rfl | rfl : l = 0 ∨ l = 1 ∨ l = 2 := by omega
    all_goals rfl
  obtain ⟨h1, h2⟩ := h.once hX hY (i := (k + 2) % 3) (j := (l + 2) % 3) (by omega) (by omega) (by rw [e1, e2, hv, hp])
  exact ⟨h1, by omega⟩
/-- The next one begins where this one ends. -/
theorem Surf.next {V : List (Int × Int × Int)} (h : Surf fa V S) {t k : Nat} {X : TriM} (hX : S[t]? = some X) (hk : k < 3) : ∃ (u l : Nat) (Y : TriM), S[u]? = some Y ∧ l < 3 ∧ Y.v l = X.v k ∧ (pairX Y l).1 = (pairX X k).2 ∧ stepM S (X.v k) (t : Int) = (u : Int) := by
  obtain ⟨u, j, Y, hY, hj, he, hn, -⟩ := h.other hX (i := (k + 1) % 3) (by omega)
  have e1 : edgeV X ((k + 1) % 3) = ((pairX X k).2, X.v k) := by
    obtain rfl | rfl | rfl : k = 0 ∨ k = 1 ∨ k = 2 := by omega
    all_goals rfl
  rw [e1] at he
  simp only [] at he
  refine ⟨u, (j + 1) % 3, Y, hY, by omega, ?_, ?_, ?_⟩
  · obtain rfl | rfl | rfl : j = 0 ∨ j = 1 ∨ j = 2 := by omega
    all_goals exact congrArg Prod.fst he
  · obtain rfl | rfl | rfl : j = 0 ∨ j = 1 ∨ j = 2 := by omega
    all_goals exact congrArg Prod.snd he
  · unfold stepM
    rw [getT_nat, hX]
    simp only []
    rw [(h.place hX hk).1, Int.toNat_natCast, hn]
/-- A triangle, and the place of the point in it. -/
def IsAt (S : List TriM) (v : Int) (y : Nat × Nat) (q : Int × Int) : Prop := ∃ X, S[y.1]? = some X ∧ y.2 < 3 ∧ X.v y.2 = v ∧ pairX X y.2 = q
theorem star_walk (h : Built fa T Bd S) (hs : SmallT T) {v : Nat} (hr : Round (rotsT (withGhosts T (borderT T)) v)) {y0 : Nat × Nat} {p0 : Nat × Nat} (h0 : IsAt S (v : Int) y0 (encP p0)) :
    ∀ (n : Nat) (y p : Nat × Nat), p ∈ rotsT (withGhosts T (borderT T)) v → IsAt S (v : Int) y (encP p) →
      (walkM S (v : Int) (y0.1 : Int) n (y.1 : Int)).length = (cutS (rotsT (withGhosts T (borderT T)) v) p0 n p).length ∧ ∀ (i : Nat) (z : Nat × Nat) (q : Nat × Nat), (walkM S (v : Int) (y0.1 : Int) n (y.1 : Int))[i]? = some z → (cutS (rotsT (withGhosts T (borderT T)) v) p0 n p)[i]? = some q → IsAt S (v : Int) z (encP q)
  | 0, _, _, _, _ => ⟨rfl, fun i z q hz => by simp [walkM] at hz⟩
  | n + 1, y, p, hp, hy => by
    have hy' := hy
    obtain ⟨X, hX, hk, hv, hq⟩ := hy
    obtain ⟨u, l, Y, hY, hl, hvY, hpY, hst⟩ := h.surf.next hX hk
    obtain ⟨p', hp', hq'⟩ := star_of h hs hY hl (hvY.trans hv)
    have hlink : p'.1 = p.2 := by
      have e1 := congrArg Prod.fst hq'
      have e2 := congrArg Prod.snd hq
      simp only [encP] at e1 e2
      exact encI_inj (e1.symm.trans (hpY.trans e2))
    have hnx := hr.next_is hp' hlink
    have hpl := (h.surf.place hX hk).2
    rw [hv] at hpl hst
    have hd : ((u : Int) = (y0.1 : Int)) ↔ p' = p0 := by
      obtain ⟨X0, hX0, hk0, hv0, hq0⟩ := h0
      constructor
      · intro e
        have : u = y0.1 := by omega
        subst this
        rw [hX0] at hY; cases hY
        have hkl : y0.2 = l := by
          have e1 := (h.surf.place hX0 hk0).1
          have e2 := (h.surf.place hX0 hl).1
          rw [hv0] at e1; rw [hvY, hv] at e2
          omega
        subst hkl
        exact encP_inj (hq'.symm.trans hq0)
      · intro e
        subst e
        have := (h.surf.pair_inj hY hX0 hl hk0 (by rw [hvY, hv, hv0]) (by rw [hq', hq0])).1
        omega
    have ih := star_walk h hs hr h0 n (u, l) p' hp' ⟨Y, hY, hl, hvY.trans hv, hq'⟩
    have hw : walkM S (v : Int) (y0.1 : Int) (n + 1) (y.1 : Int) = y :: (if p' = p0 then [] else walkM S (v : Int) (y0.1 : Int) n (u : Int)) := by
      rw [walkM, if_neg (by rw [hpl]; omega), hst, hpl, Int.toNat_natCast, Int.toNat_natCast]
      by_cases e : p' = p0
      · rw [if_pos (hd.2 e), if_pos e]
      · rw [if_neg (fun x => e (hd.1 x)), if_neg e]
    rw [hw, cutS, hnx]
    by_cases e : p' = p0
    · rw [if_pos e, if_pos e]
      refine ⟨rfl, fun i z q hz hzq => ?_⟩
      cases i with
      | zero => simp at hz hzq; subst hz; subst hzq; exact hy'
      | succ i => simp at hz
    · rw [if_neg e, if_neg e]
      refine ⟨by rw [List.length_cons, List.length_cons, ih.1], fun i z q hz hzq => ?_⟩
      cases i with
      | zero => simp at hz hzq; subst hz; subst hzq; exact hy'
      | succ i => exact ih.2 i z q (by simpa using hz) (by simpa using hzq)
/-- All of it, from the first triangle on. -/
structure Star (S : List TriM) (v : Int) (ys : List (Nat × Nat)) : Prop where
  at_ : ∀ y, y ∈ ys → ∃ X, S[y.1]? = some X ∧ y.2 < 3 ∧ X.v y.2 = v
  once : ∀ (i j : Nat) (y z : Nat × Nat), ys[i]? = some y → ys[j]? = some z → y.1 = z.1 → i = j
  all : ∀ (t k : Nat) (X : TriM), S[t]? = some X → k < 3 → X.v k = v → (t, k) ∈ ys
theorem star_all (h : Built fa T Bd S) (hs : SmallT T) {v : Nat} (hr : Round (rotsT (withGhosts T (borderT T)) v)) (hl : (rotsT (withGhosts T (borderT T)) v).length ≤ S.length) {y0 : Nat × Nat} {X0 : TriM} (hX0 : S[y0.1]? = some X0) (hk0 : y0.2 < 3) (hv0 : X0.v y0.2 = (v : Int)) :
    Star S (v : Int) (walkM S (v : Int) (y0.1 : Int) S.length (y0.1 : Int)) := by
  obtain ⟨p0, hp0, hq0⟩ := star_of h hs hX0 hk0 hv0
  have h0 : IsAt S (v : Int) y0 (encP p0) := ⟨X0, hX0, hk0, hv0, hq0⟩
  obtain ⟨w1, w2⟩ := star_walk h hs hr h0 S.length y0 p0 hp0 h0
  rw [hr.cut hp0 hl] at w1 w2
  obtain ⟨r1, r2, -⟩ := hr.walk p0 hp0
  have get : ∀ (i : Nat) (y : Nat × Nat), (walkM S (v : Int) (y0.1 : Int) S.length (y0.1 : Int))[i]? = some y → ∃ q, (walkS (rotsT (withGhosts T (borderT T)) v) (rotsT (withGhosts T (borderT T)) v).length p0)[i]? = some q ∧ IsAt S (v : Int) y (encP q) := by
    intro i y hy
    have hil := (List.getElem?_eq_some_iff.1 hy).1
    rw [w1] at hil
    exact ⟨_, List.getElem?_eq_getElem hil, w2 i y _ hy (List.getElem?_eq_getElem hil)⟩
  refine ⟨fun y hy => ?_, fun i j y z hy hz e => ?_, fun t k X hX hk hv => ?_⟩
  · obtain ⟨i, hi⟩ := List.mem_iff_getElem?.1 hy
    obtain ⟨q, -, X, hX, hk, hv, -⟩ := get i y hi
    exact ⟨X, hX, hk, hv⟩
  · obtain ⟨q, hq, X, hX, hk, hv, hp⟩ := get i y hy
    obtain ⟨q', hq', Y, hY, hk', hv', hp'⟩ := get j z hz
    rw [← e, hX] at hY; cases hY
    have hkk : y.2 = z.2 := by
      have e1 := (h.surf.place hX hk).1
      have e2 := (h.surf.place hX hk').1
      rw [hv] at e1; rw [hv'] at e2; omega
    rw [← hkk, hp] at hp'
    have : q = q' := encP_inj hp'
    subst this
    exact (List.getElem?_inj (List.getElem?_eq_some_iff.1 hq).1 r1).1 (hq.trans hq'.symm)
  · obtain ⟨p, hp, hq⟩ := star_of h hs hX hk hv
    obtain ⟨i, hi⟩ := List.mem_iff_getElem?.1 (hr.all hp0 p hp)
    have hil := (List.getElem?_eq_some_iff.1 hi).1
    rw [← w1] at hil
    obtain ⟨y, hy⟩ : ∃ y, (walkM S (v : Int) (y0.1 : Int) S.length (y0.1 : Int))[i]? = some y := ⟨_, List.getElem?_eq_getElem hil⟩
    obtain ⟨Y, hY, hk', hv', hp'⟩ := w2 i y p hy hi
    obtain ⟨e1, e2⟩ := h.surf.pair_inj hX hY hk hk' (by rw [hv, hv']) (by rw [hq, hp'])
    have : y = (t, k) := Prod.ext e1.symm e2.symm
    rw [← this]; exact List.mem_of_getElem? hy
end
end Go.MagM
namespace Go.Proofs.Ytecnnpkpgbbfkaa
open Go.RowKit Go.MagM
def starL (w h bits : Nat) : Bool := (List.range ((w + 1) * (h + 1))).all (fun v => decide ((rotsT (withGhosts (gridT w h bits) (borderT (gridT w h bits))) v).length ≤ (gridT w h bits).length + (borderT (gridT w h bits)).length) && !(rotsT (withGhosts (gridT w h bits) (borderT (gridT w h bits))) v).isEmpty) &&
  (gridT w h bits).all (fun x => decide (x.1 < 10) && decide (x.2.1 < 10) && decide (x.2.2 < 10)) && (borderT (gridT w h bits)).all (fun e => decide (e.1 < 10) && decide (e.2 < 10))
def allL : Bool := [1, 2].all fun w => [1, 2].all fun h => (List.range 16).all fun bits => starL w h bits
set_option maxRecDepth 100000 in
theorem all_L : allL = true := by decide +kernel
theorem grid_L {w h : Nat} (hw : w = 1 ∨ w = 2) (hh : h = 1 ∨ h = 2) {bits : Nat} (hb : bits < 16) : starL w h bits = true := by
  have := all_L
  unfold allL at this
  rw [List.all_eq_true] at this
  have h1 := this w (by rcases hw with rfl | rfl <;> simp)
  rw [List.all_eq_true] at h1
  have h2 := h1 h (by rcases hh with rfl | rfl <;> simp)
  rw [List.all_eq_true] at h2
  exact h2 bits (List.mem_range.2 hb)
theorem grid_small {w h : Nat} (hw : w = 1 ∨ w = 2) (hh : h = 1 ∨ h = 2) {bits : Nat} (hb : bits < 16) : SmallT (gridT w h bits) := by
  have s := grid_L hw hh hb
  unfold starL at s
  simp only [Bool.and_eq_true, decide_eq_true_eq, List.all_eq_true] at s
  exact ⟨fun x hx => ⟨(s.1.2 x hx).1.1, (s.1.2 x hx).1.2, (s.1.2 x hx).2⟩, fun e he => s.2 e he⟩
/-- Each point of a grid has a star. -/
theorem grid_star {fa : Int → Int → Bool} {w h bits : Nat} {Bd : List (Nat × Nat)} {S : List TriM} (hb : Built fa (gridT w h bits) Bd S) (hw : w = 1 ∨ w = 2) (hh : h = 1 ∨ h = 2) (hbits : bits < 16) {v : Nat} (hv : v < (w + 1) * (h + 1)) :
    ∃ t0 : Nat, atM S (v : Int) = (t0 : Int) ∧ t0 < S.length ∧ Star S (v : Int) (walkM S (v : Int) (atM S (v : Int)) S.length (atM S (v : Int))) := by
  have hs := grid_small hw hh hbits
  have hst := grid_stars hw hh hbits
  unfold starsT at hst
  rw [List.all_eq_true] at hst
  have h1 := hst v (List.mem_range.2 hv)
  simp only [Bool.and_eq_true] at h1
  have hr := Round.of h1.1
  have sL := grid_L hw hh hbits
  unfold starL at sL
  simp only [Bool.and_eq_true, List.all_eq_true, List.mem_range, decide_eq_true_eq] at sL
  have hlen := (sL.1.1 v hv).1
  have hne := (sL.1.1 v hv).2
  have hv9 : v < 10 := by
    have : (w + 1) * (h + 1) ≤ 9 := by rcases hw with rfl | rfl <;> rcases hh with rfl | rfl <;> decide
    omega
  obtain ⟨p, hp⟩ : ∃ p, p ∈ rotsT (withGhosts (gridT w h bits) (borderT (gridT w h bits))) v := by
    cases hR : rotsT (withGhosts (gridT w h bits) (borderT (gridT w h bits))) v with
    | nil => rw [hR] at hne; simp at hne
    | cons p l => exact ⟨p, by simp⟩
  obtain ⟨t, k, X, hX, hk, hvX, -⟩ := star_at hb hs hv9 hp
  have hSl : S.length = (gridT w h bits).length + (borderT (gridT w h bits)).length := by rw [hb.len, hb.perm.length_eq]
  -- the first triangle that has it
  have htl := (List.getElem?_eq_some_iff.1 hX).1
  obtain ⟨t0, ht0, hmin, hlt⟩ : ∃ t0 : Nat, placeM S (t0 : Int) (v : Int) ≠ -1 ∧ (∀ j : Nat, j < t0 → placeM S (j : Int) (v : Int) = -1) ∧ t0 < S.length := by
    have hex : ∃ n : Nat, n < S.length ∧ placeM S (n : Int) (v : Int) ≠ -1 := ⟨t, htl, by have := (hb.surf.place hX hk).2; rw [hvX] at this; rw [this]; omega⟩
    cases hf : (List.range S.length).find? (fun n : Nat => placeM S (n : Int) (v : Int) != -1) with
    | none =>
      obtain ⟨n, hn, hpn⟩ := hex
      have := List.find?_eq_none.1 hf n (List.mem_range.2 hn)
      simp at this; exact absurd this hpn
    | some n =>
      rw [List.find?_range_eq_some] at hf
      obtain ⟨h1, h2, h3⟩ := hf
      exact ⟨n, by simpa using h1, fun j hj => by simpa using h3 j hj, by simpa using h2⟩
  have hat : atM S (v : Int) = (t0 : Int) := by
    unfold atM
    rw [if_neg (by omega)]
    exact firstM_hit hlt ht0 hmin
  obtain ⟨m, k0, X0, hm, hpk, hk0, hX0, -, -, hv0⟩ := placeM_some ht0
  obtain rfl : t0 = m := by omega
  refine ⟨t0, hat, hlt, ?_⟩
  rw [hat]
  exact star_all hb hs hr (by omega) (y0 := (t0, k0)) hX0 hk0 hv0
end Go.Proofs.Ytecnnpkpgbbfkaa
/- mesh's iterator over all real triangles; the statements' has. -/
namespace Go.MagM
open Go.RowKit
def triV (T : TriM) : Value := .agg #[.int .i64 T.v0, .int .i64 T.v1, .int .i64 T.v2, .int .i64 T.n0, .int .i64 T.n1, .int .i64 T.n2, .bool T.f0, .bool T.f1, .bool T.f2]
end Go.MagM
namespace Go.Proofs.Ytecnnpkpgbbfkaa
open Go.RowKit Go.MagM Go.Shelf
set_option maxRecDepth 100000 in
set_option maxHeartbeats 8000000 in
theorem has_any (T : TriM) (v : Int) (w : World) : Calls Try.prog 14 #[triV T, .int .i64 v] w fun e w' => e = .returned (.int .i64 (placeT T v)) ∧ Below w.heap.size w w' := by
  obtain ⟨v0, v1, v2, n0, n1, n2, f0, f1, f2⟩ := T
  unfold triV
  simp only []
  obtain ⟨w1, hw1, hp, hb1, hs1⟩ := new_box w _ rfl [.int .i64 v0, .int .i64 v1, .int .i64 v2, .int .i64 n0, .int .i64 n1, .int .i64 n2, .bool f0, .bool f1, .bool f2] 49
  have HP := Lib.hid hp; have HB1 := Lib.hid hb1
  clear hp hb1 hs1
  obtain ⟨p, hpl⟩ : ∃ p, placeT ⟨v0, v1, v2, n0, n1, n2, f0, f1, f2⟩ v = p := ⟨_, rfl⟩
  rw [hpl]
  have HPL := Lib.hid hpl
  clear hpl
  go_enter Try.func14, Try.ntmps14
  go_wp2
  go_loopw [5, 6] (fun _ iv wr => ∃ i : Nat, i ≤ 3 ∧ iv = .int .i64 (i : Int) ∧ wr = w1 ∧ (0 < i → v0 ≠ v) ∧ (1 < i → v1 ≠ v) ∧ (2 < i → v2 ≠ v)) (fun _ iv _ => 3 - (intOf iv).toNat)
  case atStart => exact ⟨0, by omega, rfl, rfl, fun h => by omega, fun h => by omega, fun h => by omega⟩
  case round =>
    obtain ⟨i, hi, rfl, rfl, h0, h1, h2⟩ := hrel
    have d0 := HP.out.c 0 _ rfl; have d1 := HP.out.c 1 _ rfl; have d2 := HP.out.c 2 _ rfl
    by_cases hlt : i < 3
    · obtain rfl | rfl | rfl : i = 0 ∨ i = 1 ∨ i = 2 := by omega
      · by_cases e : v0 = v
        · have q : (v0 == v) = true := by simpa using e
          have HE := Lib.hid e
          clear e h0 h1 h2
          go_wp2
          go_ret
          exact ⟨by rw [← HPL.out]; unfold placeT; rw [if_pos HE.out.symm]; rfl, HB1.out⟩
        · have q : (v0 == v) = false := by simpa using e
          have HE := Lib.hid e
          clear e h0 h1 h2
          go_wp2
          exact ⟨⟨1, by omega, by go_num, by first | rfl | trivial, fun _ => HE.out, fun h => by omega, fun h => by omega⟩, by simp [intOf]⟩
      · have e0 := h0 (by omega)
        have HE0 := Lib.hid e0
        by_cases e : v1 = v
        · have q : (v1 == v) = true := by simpa using e
          have HE := Lib.hid e
          clear e e0 h0 h1 h2
          go_wp2
          go_ret
          exact ⟨by rw [← HPL.out]; unfold placeT; rw [if_neg (fun x => HE0.out x.symm), if_pos HE.out.symm]; rfl, HB1.out⟩
        · have q : (v1 == v) = false := by simpa using e
          have HE := Lib.hid e
          clear e e0 h0 h1 h2
          go_wp2
          exact ⟨⟨2, by omega, by go_num, by first | rfl | trivial, fun _ => HE0.out, fun _ => HE.out, fun h => by omega⟩, by simp [intOf]⟩
      · have e0 := h0 (by omega); have e1 := h1 (by omega)
        have HE0 := Lib.hid e0; have HE1 := Lib.hid e1
        by_cases e : v2 = v
        · have q : (v2 == v) = true := by simpa using e
          have HE := Lib.hid e
          clear e e0 e1 h0 h1 h2
          go_wp2
          go_ret
          exact ⟨by rw [← HPL.out]; unfold placeT; rw [if_neg (fun x => HE0.out x.symm), if_neg (fun x => HE1.out x.symm), if_pos HE.out.symm]; rfl, HB1.out⟩
        · have q : (v2 == v) = false := by simpa using e
          have HE := Lib.hid e
          clear e e0 e1 h0 h1 h2
          go_wp2
          exact ⟨⟨3, by omega, by go_num, by first | rfl | trivial, fun _ => HE0.out, fun _ => HE1.out, fun _ => HE.out⟩, by simp [intOf]⟩
    · obtain rfl : i = 3 := by omega
      have e0 := h0 (by omega); have e1 := h1 (by omega); have e2 := h2 (by omega)
      have HE := Lib.hid (And.intro e0 (And.intro e1 e2))
      clear e0 e1 e2 h0 h1 h2
      go_wp2
      go_ret
      exact ⟨by rw [← HPL.out]; unfold placeT; rw [if_neg (fun x => HE.out.1 x.symm), if_neg (fun x => HE.out.2.1 x.symm), if_neg (fun x => HE.out.2.2 x.symm)]; rfl, HB1.out⟩
attribute [local go_sem] Oper.semAt_some
end Go.Proofs.Ytecnnpkpgbbfkaa
