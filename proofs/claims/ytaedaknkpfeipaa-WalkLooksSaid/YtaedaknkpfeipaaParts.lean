/- The statements' Grid, 2 by 2. -/
import Derived.Test.YtaedaknkpfeipaaPartr
import Derived.Test.YtaedaknkpfeipaaPartk
import Derived.Test.YtaedaknkpfeipaaPartq
import Derived.Test.YtaedaknkpfeipaaParto
import Derived.Test.YtaedaknkpfeipaaWalkSk
namespace Go.Proofs.Ytaedaknkpfeipaa
open Go.RowKit Go.MagM
set_option maxRecDepth 100000 in
set_option maxHeartbeats 16000000 in
theorem Grid22_any (w0 h0 b f : Int) (bn : Nat) (hbn : bn < 16) (e1 : bits .and .i64 w0 1 = 1) (e2 : bits .and .i64 h0 1 = 1) (hbit : ∀ k : Nat, k < 4 → bitB b k = bn.testBit k) (w : World) :
    Calls Try.prog 20 #[.int .i64 w0, .int .i64 h0, .int .u32 b, .int .u32 f] w fun e w' => ∃ (mb g c : Nat) (F : Int → Int → Bool), e = .returned (.tuple #[.pointer (some ⟨mb, 0, none⟩), .slice (some ⟨g, 0, none⟩) 8 c]) ∧ BuildEnd 26 37 F w.heap.size (gridP 2 2) (gridT 2 2 bn) mb w' ∧ TrIn w' g ((gridT 2 2 bn).map realV) ∧ w.heap.size ≤ g ∧ Below w.heap.size w w' := by
  have ok := grid_ok (w := 2) (h := 2) (by omega) (by omega) hbn
  have hm := grid_has (w := 2) (h := 2) (by omega) (by omega) hbn
  have hps : InPs (gridP 2 2) := grid_inPs (by omega) (by omega)
  have OK := Lib.hid ok; have HM := Lib.hid hm; have HPS := Lib.hid hps; have HBIT := Lib.hid hbit
  clear ok hm hps hbit
  obtain ⟨i0, hi, hz0, hz1, hz2⟩ := info_parts infoPt
  have HI := Lib.hid hi; have HZ0 := Lib.hid hz0; have HZ1 := Lib.hid hz1; have HZ2 := Lib.hid hz2
  obtain ⟨j0, hj, hy0, hy1, hy2⟩ := info_parts infoE3
  have HJ := Lib.hid hj; have HY0 := Lib.hid hy0; have HY1 := Lib.hid hy1; have HY2 := Lib.hid hy2
  clear hi hz0 hz1 hz2 hj hy0 hy1 hy2
  obtain ⟨w1, hw1, pw0, hB1, hs1⟩ := new_box w _ rfl [.int .i64 w0] 3
  have sc := pw0.c 0 _ rfl; have sf := pw0.f 0 _ rfl
  obtain ⟨w2, hw2⟩ : ∃ w2, w1.setCell ⟨w.heap.size, 0, none⟩ (.int .i64 2) = w2 := ⟨_, rfl⟩
  have pw2 : Box w2 w.heap.size [.int .i64 2] := by rw [← hw2]; exact pw0.set 0 (.int .i64 2)
  have hB2 : Below w.heap.size w w2 := by rw [← hw2]; exact hB1.setCell (p := ⟨w.heap.size, 0, none⟩) (by simp only []; omega) _
  have hz2 : w.heap.size + 1 ≤ w2.heap.size := by have := pw2.lt; omega
  have PW2 := Lib.hid pw2; have HB2 := Lib.hid hB2; have HZS := Lib.hid hz2
  clear pw0 hB1 hs1 pw2 hB2 hz2
  go_enter Try.func20, Try.ntmps20
  go_wp2
  clear sc sf hw1 hw2
  go_loopw [10, 11, 12, 35] (fun pv _ _ iv wr => ∃ (y : Nat) (vv : Value), y ≤ 3 ∧ iv = .int .i64 (y : Int) ∧ vv = pv ∧ RowN wr (w.heap.size + 1) 26 2 vv (y * 3) (ptsCells ((gridP 2 2).take (y * 3))) ∧ Box wr w.heap.size [.int .i64 2] ∧ Below w.heap.size w wr ∧ w.heap.size + 1 ≤ wr.heap.size) (fun _ _ _ iv _ => 3 - (intOf iv).toNat)
  case atStart => exact ⟨0, _, Nat.zero_le _, rfl, rfl, RowN.nil _ _ _ _, PW2.out, HB2.out, HZS.out⟩
  case round =>
    obtain ⟨y, vv, hy, rfl, rfl, hrow, hbx, hbw, hsz⟩ := hrel
    by_cases hlt : y < 3
    · have hyd : decide ((y : Int) < 3) = true := decide_eq_true (by omega)
      have cw := hbx.c 0 _ rfl
      have HROW := Lib.hid hrow; have HBX := Lib.hid hbx; have HBW := Lib.hid hbw; have HSZ := Lib.hid hsz
      clear hrow hbx hbw hsz
      go_wp2
      clear cw
      go_loopw [10, 12, 40] (fun pv _ iv wr => ∃ (x : Nat) (vv : Value), x ≤ 3 ∧ iv = .int .i64 (x : Int) ∧ vv = pv ∧ RowN wr (w.heap.size + 1) 26 2 vv (y * 3 + x) (ptsCells ((gridP 2 2).take (y * 3 + x))) ∧ Box wr w.heap.size [.int .i64 2] ∧ Below w.heap.size w wr ∧ w.heap.size + 1 ≤ wr.heap.size) (fun _ _ iv _ => 3 - (intOf iv).toNat)
      case atStart => exact ⟨0, _, Nat.zero_le _, rfl, rfl, HROW.out, HBX.out, HBW.out, HSZ.out⟩
      case round =>
        obtain ⟨x, vv, hx, rfl, rfl, hrow, hbx, hbw, hsz⟩ := hrel
        by_cases hlx : x < 3
        · have hel := gridP_at (w := 2) (h := 2) (by omega) (by omega) (x := x) (y := y) (by omega) (by omega)
          have hx2 : IntKind.i64.wrap (2 * (x : Int)) = 2 * (x : Int) := by rw [IntKind.wrap_i64]; omega
          have hy2 : IntKind.i64.wrap (2 * (y : Int)) = 2 * (y : Int) := by rw [IntKind.wrap_i64]; omega
          obtain ⟨w3, hw3, hpn, hb3, hs3⟩ := new_box wr _ rfl [.int .i64 (2 * (x : Int)), .int .i64 (2 * (y : Int))] 26
          have hrow3 := hrow.below hb3
          have hbx3 := hbx.below hb3
          have hbw3 := hbw.trans (hb3.mono hbw.size)
          obtain ⟨v1, w4, hrun, rown, hgrow, hkept⟩ := run_append_row (P := Try.prog) w3 (w.heap.size + 1) 22 22 26 i0 (.agg #[.int .i64 0, .int .i64 0]) 2 16 (by kernel_rfl) HI.out HZ0.out HZ1.out HZ2.out rfl (noWordI2 _ _) _ (y * 3 + x) _ hrow3 ⟨wr.heap.size, 0, none⟩ 1 1 [.int .i64 (2 * (x : Int)), .int .i64 (2 * (y : Int))] (by omega) rfl hpn.news (by intro u hu; simp at hu; rcases hu with rfl | rfl <;> rfl) (noWordI2 _ _) (by unfold maxLen; omega) (by omega) (by omega)
          have hne : ∀ k, vv.ownBlock = some k → w.heap.size + 1 ≤ k := fun k hk => (hrow3.lt k hk).1
          have hbx4 := hbx3.grown hgrow (fun e => by have := hne _ e; omega) hbx3.lt
          have hbw4 : Below w.heap.size w w4 := hbw3.grown hgrow (by omega) (fun k hk => by have := hne k hk; omega)
          have htk : ptsCells ((gridP 2 2).take (y * 3 + x)) ++ [.int .i64 (2 * (x : Int)), .int .i64 (2 * (y : Int))] = ptsCells ((gridP 2 2).take (y * 3 + (x + 1))) := by
            rw [← Nat.add_assoc, List.take_add_one, hel, ptsCells_app]; rfl
          rw [htk] at rown
          have FIN := Lib.hid (And.intro rown (And.intro hbx4 (And.intro hbw4 (show w.heap.size + 1 ≤ w4.heap.size by have := hgrow.size; omega))))
          clear hrow hbx hbw hsz hpn hb3 hs3 hrow3 hbx3 hbw3 rown hgrow hkept hne hbx4 hbw4 htk hel
          go_wp2_with (refine wpList_append_row rfl _ _ 22 rfl rfl rfl hrun ?_)
          have FI := FIN.out
          exact ⟨⟨x + 1, _, by omega, by go_num, rfl, FI.1, FI.2.1, FI.2.2.1, FI.2.2.2⟩, by simp [intOf]; omega⟩
        · obtain rfl : x = 3 := by omega
          have FIN := Lib.hid (And.intro hrow (And.intro hbx (And.intro hbw hsz)))
          clear hrow hbx hbw hsz
          go_wp2
          have FI := FIN.out
          have hrow := FI.1
          rw [show y * 3 + 3 = (y + 1) * 3 by omega] at hrow
          exact ⟨⟨y + 1, _, by omega, by go_num, rfl, hrow, FI.2.1, FI.2.2.1, FI.2.2.2⟩, by simp [intOf]; omega⟩
    · obtain rfl : y = 3 := by omega
      have hpt : (gridP 2 2).take (3 * 3) = gridP 2 2 := rfl
      rw [hpt] at hrow
      obtain ⟨gp, gpc, hvv⟩ : ∃ g c, vv = .slice (some ⟨g, 0, none⟩) 9 c := by
        rcases hrow.2 with ⟨h1, h2⟩ | ⟨g, cap, cur, h1, h2, h3⟩
        · omega
        · exact ⟨g, cap, h1⟩
      subst hvv
      have hpl := hrow.lt gp rfl
      obtain ⟨w5, hw5⟩ : ∃ w5, w5 = wr := ⟨_, rfl⟩
      rw [← hw5] at hrow hbx hbw hsz hpl
      rw [← hw5]
      have HROW := Lib.hid hrow; have HBX := Lib.hid hbx; have HBW := Lib.hid hbw; have HSZ := Lib.hid hsz; have HPL := Lib.hid hpl
      clear hrow hbx hbw hsz hpl hw5
      go_wp2
      go_loopw [13, 15, 16, 17, 18, 19, 20, 21, 55] (fun tv kv _ _ _ _ _ _ iv wr => ∃ (y : Nat) (vv : Value), y ≤ 2 ∧ iv = .int .i64 (y : Int) ∧ kv = .int .i64 ((y * 2 : Nat) : Int) ∧ vv = tv ∧ RowN wr w5.heap.size 23 3 vv (2 * (y * 2)) (tr3Cells ((gridT 2 2 bn).take (2 * (y * 2)))) ∧ Below w5.heap.size w5 wr) (fun _ _ _ _ _ _ _ _ iv _ => 2 - (intOf iv).toNat)
      case atStart => exact ⟨0, _, Nat.zero_le _, rfl, rfl, rfl, RowN.nil _ _ _ _, Below.refl _ _⟩
      case round =>
        obtain ⟨y, vv, hy, rfl, rfl, rfl, hrow, hbw⟩ := hrel
        by_cases hlt : y < 2
        · have hyd : decide ((y : Int) < 2) = true := decide_eq_true (by omega)
          have cw := (HBX.out.below hbw).c 0 _ rfl
          have HRW := Lib.hid hrow; have HBZ := Lib.hid hbw
          clear hrow hbw
          go_wp2
          clear cw
          go_loopw [13, 15, 17, 18, 19, 20, 21, 59] (fun tv kv _ _ _ _ _ iv wr => ∃ (x : Nat) (vv : Value), x ≤ 2 ∧ iv = .int .i64 (x : Int) ∧ kv = .int .i64 ((y * 2 + x : Nat) : Int) ∧ vv = tv ∧ RowN wr w5.heap.size 23 3 vv (2 * (y * 2 + x)) (tr3Cells ((gridT 2 2 bn).take (2 * (y * 2 + x)))) ∧ Below w5.heap.size w5 wr) (fun _ _ _ _ _ _ _ iv _ => 2 - (intOf iv).toNat)
          case atStart => exact ⟨0, _, Nat.zero_le _, rfl, by rw [Nat.add_zero], rfl, HRW.out, HBZ.out⟩
          case round =>
            obtain ⟨x, vv, hx, rfl, rfl, rfl, hrow, hbw⟩ := hrel
            by_cases hlx : x < 2
            · have cw := (HBX.out.below hbw).c 0 _ rfl
              have hev := HM.out.even y x hlt hlx
              have hod := HM.out.odd y x hlt hlx
              have hbt := HBIT.out (y * 2 + x) (by omega)
              obtain ⟨q, hq⟩ : ∃ q, bn.testBit (y * 2 + x) = q := ⟨_, rfl⟩
              rw [hq] at hev hod hbt
              have a0 := gridNo_any w.heap.size 2 x y wr (by omega) (by omega) (by omega) cw ((y : Int) * 3 + (x : Int)) (by omega)
              have a1 := gridNo_any w.heap.size 2 (x + 1) y wr (by omega) (by omega) (by omega) cw ((y : Int) * 3 + ((x : Int) + 1)) (by omega)
              have a2 := gridNo_any w.heap.size 2 (x + 1) (y + 1) wr (by omega) (by omega) (by omega) cw (((y : Int) + 1) * 3 + ((x : Int) + 1)) (by omega)
              have a3 := gridNo_any w.heap.size 2 x (y + 1) wr (by omega) (by omega) (by omega) cw (((y : Int) + 1) * 3 + (x : Int)) (by omega)
              rw [show (((x + 1 : Nat)) : Int) = (x : Int) + 1 by omega] at a1 a2
              rw [show (((y + 1 : Nat)) : Int) = (y : Int) + 1 by omega] at a2 a3
              obtain ⟨ca, hca⟩ : ∃ c : Int, (y : Int) * 3 + (x : Int) = c := ⟨_, rfl⟩
              obtain ⟨cb, hcb⟩ : ∃ c : Int, (y : Int) * 3 + ((x : Int) + 1) = c := ⟨_, rfl⟩
              obtain ⟨cc, hcc⟩ : ∃ c : Int, ((y : Int) + 1) * 3 + ((x : Int) + 1) = c := ⟨_, rfl⟩
              obtain ⟨cd, hcd⟩ : ∃ c : Int, ((y : Int) + 1) * 3 + (x : Int) = c := ⟨_, rfl⟩
              rw [hca] at a0; rw [hcb] at a1; rw [hcc] at a2; rw [hcd] at a3
              have C0 := Lib.hid a0; have C1 := Lib.hid a1; have C2 := Lib.hid a2; have C3 := Lib.hid a3
              have HEV := Lib.hid hev; have HOD := Lib.hid hod; have HBT := Lib.hid hbt; have HRW2 := Lib.hid hrow; have HBZ2 := Lib.hid hbw
              have HCA := Lib.hid hca; have HCB := Lib.hid hcb; have HCC := Lib.hid hcc; have HCD := Lib.hid hcd
              obtain ⟨kk, hkk⟩ : ∃ kk : Nat, y * 2 + x = kk := ⟨_, rfl⟩
              have hkk4 : kk < 4 := by omega
              rw [hkk] at hbt
              unfold bitB at hbt
              have na : (((y * 3 + x : Nat)) : Int) = ca := by omega
              have nb : (((y * 3 + (x + 1) : Nat)) : Int) = cb := by omega
              have nc : ((((y + 1) * 3 + (x + 1) : Nat)) : Int) = cc := by omega
              have nd : ((((y + 1) * 3 + x : Nat)) : Int) = cd := by omega
              have HKK := Lib.hid hkk
              rw [hkk]
              have HNA := Lib.hid (And.intro na (And.intro nb (And.intro nc nd)))
              clear a0 a1 a2 a3 hev hod hrow hbw hca hcb hcc hcd cw hkk na nb nc nd hq
              cases q
              · have hev' : (gridT 2 2 bn)[2 * (y * 2 + x)]? = some (y * 3 + (x + 1), (y + 1) * 3 + x, y * 3 + x) := HEV.out
                have hod' : (gridT 2 2 bn)[2 * (y * 2 + x) + 1]? = some ((y + 1) * 3 + x, y * 3 + (x + 1), (y + 1) * 3 + (x + 1)) := HOD.out
                have HEV' := Lib.hid hev'; have HOD' := Lib.hid hod'
                clear hev' hod'
                go_wp2_with fail
                refine C0.out.mono ?_
                rintro e w6 ⟨rfl, rfl⟩
                go_wp2_with fail
                refine C1.out.mono ?_
                rintro e w6 ⟨rfl, rfl⟩
                go_wp2_with fail
                refine C2.out.mono ?_
                rintro e w6 ⟨rfl, rfl⟩
                go_wp2_with fail
                refine C3.out.mono ?_
                rintro e w6 ⟨rfl, rfl⟩
                obtain ⟨w6, hw6, hpn, hb6, hs6⟩ := new_box wr _ rfl [.int .i64 cb, .int .i64 cd, .int .i64 ca, .int .i64 cd, .int .i64 cb, .int .i64 cc] 23
                have hrow6 := HRW2.out.below hb6
                have hbw6 := HBZ2.out.trans (hb6.mono HBZ2.out.size)
                obtain ⟨v1, w7, hrun, rown, hgrow, hkept⟩ := run_append_row (P := Try.prog) w6 w5.heap.size 50 50 23 j0 (.agg #[.int .i64 0, .int .i64 0, .int .i64 0]) 3 24 (by kernel_rfl) HJ.out HY0.out HY1.out HY2.out rfl (noWordI3 _ _ _) _ (2 * (y * 2 + x)) _ hrow6 ⟨wr.heap.size, 0, none⟩ 2 2 [.int .i64 cb, .int .i64 cd, .int .i64 ca, .int .i64 cd, .int .i64 cb, .int .i64 cc] (by omega) rfl hpn.news (by intro u hu; simp at hu; rcases hu with rfl | rfl | rfl | rfl | rfl | rfl <;> rfl) (noWordI6 _ _ _ _ _ _) (by unfold maxLen; omega) (by omega) (by have := hbw6.size; omega)
                have hbw7 : Below w5.heap.size w5 w7 := hbw6.grown hgrow (by have := hbw6.size; omega) (fun k hk => (hrow6.lt k hk).1)
                have htk : tr3Cells ((gridT 2 2 bn).take (2 * (y * 2 + x))) ++ [.int .i64 cb, .int .i64 cd, .int .i64 ca, .int .i64 cd, .int .i64 cb, .int .i64 cc] = tr3Cells ((gridT 2 2 bn).take (2 * (y * 2 + (x + 1)))) := by
                  obtain ⟨na, nb, nc, nd⟩ := HNA.out
                  rw [show 2 * (y * 2 + (x + 1)) = 2 * (y * 2 + x) + 1 + 1 by omega, List.take_add_one, List.take_add_one, HEV'.out, HOD'.out, tr3_app, tr3_app, List.append_assoc]
                  simp only [Option.toList_some, tr3Cells, na, nb, nc, nd, List.cons_append, List.nil_append]
                rw [htk, show 2 * (y * 2 + x) + 2 = 2 * (y * 2 + (x + 1)) by omega] at rown
                have FIN := Lib.hid (And.intro rown hbw7)
                clear hpn hb6 hs6 hrow6 hbw6 rown hgrow hkept hbw7 htk
                go_wp2_with (refine wpList_append_row rfl _ _ 50 rfl rfl rfl hrun ?_)
                have hkk := HKK.out
                refine ⟨⟨_, _, _, _, _, _, _, _, _, _, _, _, _, _, _, _, _, _, _, _, _, _, _, _, _, _, _, _, _, _, _, _, _, _, _, _, _, _, _, _, _, _, _, _, _, _, _, _, _, _, _, _, _, _, _, _, _, _, _, _, ?_, rfl⟩, by simp [intOf]; omega⟩
                exact ⟨x + 1, _, by omega, by go_num, congrArg (Value.int .i64) (by omega), rfl, FIN.out.1, FIN.out.2⟩
              · have hev' : (gridT 2 2 bn)[2 * (y * 2 + x)]? = some (y * 3 + x, y * 3 + (x + 1), (y + 1) * 3 + (x + 1)) := HEV.out
                have hod' : (gridT 2 2 bn)[2 * (y * 2 + x) + 1]? = some ((y + 1) * 3 + (x + 1), (y + 1) * 3 + x, y * 3 + x) := HOD.out
                have HEV' := Lib.hid hev'; have HOD' := Lib.hid hod'
                clear hev' hod'
                go_wp2_with fail
                refine C0.out.mono ?_
                rintro e w6 ⟨rfl, rfl⟩
                go_wp2_with fail
                refine C1.out.mono ?_
                rintro e w6 ⟨rfl, rfl⟩
                go_wp2_with fail
                refine C2.out.mono ?_
                rintro e w6 ⟨rfl, rfl⟩
                go_wp2_with fail
                refine C3.out.mono ?_
                rintro e w6 ⟨rfl, rfl⟩
                obtain ⟨w6, hw6, hpn, hb6, hs6⟩ := new_box wr _ rfl [.int .i64 ca, .int .i64 cb, .int .i64 cc, .int .i64 cc, .int .i64 cd, .int .i64 ca] 23
                have hrow6 := HRW2.out.below hb6
                have hbw6 := HBZ2.out.trans (hb6.mono HBZ2.out.size)
                obtain ⟨v1, w7, hrun, rown, hgrow, hkept⟩ := run_append_row (P := Try.prog) w6 w5.heap.size 50 50 23 j0 (.agg #[.int .i64 0, .int .i64 0, .int .i64 0]) 3 24 (by kernel_rfl) HJ.out HY0.out HY1.out HY2.out rfl (noWordI3 _ _ _) _ (2 * (y * 2 + x)) _ hrow6 ⟨wr.heap.size, 0, none⟩ 2 2 [.int .i64 ca, .int .i64 cb, .int .i64 cc, .int .i64 cc, .int .i64 cd, .int .i64 ca] (by omega) rfl hpn.news (by intro u hu; simp at hu; rcases hu with rfl | rfl | rfl | rfl | rfl | rfl <;> rfl) (noWordI6 _ _ _ _ _ _) (by unfold maxLen; omega) (by omega) (by have := hbw6.size; omega)
                have hbw7 : Below w5.heap.size w5 w7 := hbw6.grown hgrow (by have := hbw6.size; omega) (fun k hk => (hrow6.lt k hk).1)
                have htk : tr3Cells ((gridT 2 2 bn).take (2 * (y * 2 + x))) ++ [.int .i64 ca, .int .i64 cb, .int .i64 cc, .int .i64 cc, .int .i64 cd, .int .i64 ca] = tr3Cells ((gridT 2 2 bn).take (2 * (y * 2 + (x + 1)))) := by
                  obtain ⟨na, nb, nc, nd⟩ := HNA.out
                  rw [show 2 * (y * 2 + (x + 1)) = 2 * (y * 2 + x) + 1 + 1 by omega, List.take_add_one, List.take_add_one, HEV'.out, HOD'.out, tr3_app, tr3_app, List.append_assoc]
                  simp only [Option.toList_some, tr3Cells, na, nb, nc, nd, List.cons_append, List.nil_append]
                rw [htk, show 2 * (y * 2 + x) + 2 = 2 * (y * 2 + (x + 1)) by omega] at rown
                have FIN := Lib.hid (And.intro rown hbw7)
                clear hpn hb6 hs6 hrow6 hbw6 rown hgrow hkept hbw7 htk
                go_wp2_with (refine wpList_append_row rfl _ _ 50 rfl rfl rfl hrun ?_)
                have hkk := HKK.out
                refine ⟨⟨_, _, _, _, _, _, _, _, _, _, _, _, _, _, _, _, _, _, _, _, _, _, _, _, _, _, _, _, _, _, _, _, _, _, _, _, _, _, _, _, _, _, _, _, _, _, _, _, _, _, _, _, _, _, _, _, _, _, _, _, ?_, rfl⟩, by simp [intOf]; omega⟩
                exact ⟨x + 1, _, by omega, by go_num, congrArg (Value.int .i64) (by omega), rfl, FIN.out.1, FIN.out.2⟩
            · obtain rfl : x = 2 := by omega
              have FIN := Lib.hid (And.intro hrow hbw)
              clear hrow hbw
              go_wp2
              have hrow := FIN.out.1
              rw [show y * 2 + 2 = (y + 1) * 2 by omega] at hrow
              exact ⟨⟨y + 1, _, by omega, by go_num, congrArg (Value.int .i64) (by omega), rfl, hrow, FIN.out.2⟩, by simp [intOf]; omega⟩
        · obtain rfl : y = 2 := by omega
          have hgl := HM.out.len
          have htt : (gridT 2 2 bn).take (2 * (2 * 2)) = gridT 2 2 bn := List.take_of_length_le (by rw [hgl]; omega)
          rw [htt] at hrow
          obtain ⟨gt, gtc, hvv⟩ : ∃ g c, vv = .slice (some ⟨g, 0, none⟩) 8 c := by
            rcases hrow.2 with ⟨h1, h2⟩ | ⟨g, cap, cur, h1, h2, h3⟩
            · omega
            · exact ⟨g, cap, h1⟩
          subst hvv
          have hgtl := hrow.lt gt rfl
          obtain ⟨w7, hw7⟩ : ∃ w7, w7 = wr := ⟨_, rfl⟩
          rw [← hw7] at hrow hbw hgtl
          rw [← hw7]
          clear hw7
          obtain ⟨fb, hfb⟩ : ∃ fb, w7.heap.size = fb := ⟨_, rfl⟩
          obtain ⟨hmk, hmp⟩ := run_new_map (P := Try.prog) w7 93 48
          obtain ⟨w8, hw8⟩ : ∃ w8, w7.alloc (.map #[] 0) = w8 := ⟨_, rfl⟩
          rw [hw8, hfb] at hmk hmp
          have hb8 : Below fb w7 w8 := by rw [← hw8, ← hfb]; exact (Below.refl _ _).alloc (Nat.le_refl _) _
          have htr := hrow.trIn
          have HRWT := Lib.hid hrow; have HBT := Lib.hid hbw; have HTR := Lib.hid htr; have HGTL := Lib.hid hgtl; have HFB := Lib.hid hfb; have HMP := Lib.hid (fault_new hmp); have HB8 := Lib.hid hb8
          clear hrow hbw htr hgtl hfb hmp hb8 hw8
          go_wp2
          clear hmk
          go_loopw [23, 25, 26, 116] (fun nv _ _ iv wr => ∃ j : Nat, j ≤ 8 ∧ iv = .int .i64 (j : Int) ∧ nv = .int .i64 ((3 * j : Nat) : Int) ∧ (∃ F, FaultMap Try.prog 48 wr fb F) ∧ Below fb w7 wr) (fun _ _ _ iv _ => 8 - (intOf iv).toNat)
          case atStart => exact ⟨0, Nat.zero_le _, rfl, rfl, ⟨_, HMP.out⟩, HB8.out⟩
          case round =>
            obtain ⟨j, hj, rfl, rfl, ⟨F, hF⟩, hbw⟩ := hrel
            by_cases hlt : j < 8
            · have hyd : decide ((j : Int) < 8) = true := decide_eq_true (by omega)
              obtain ⟨⟨x, y, z⟩, hv⟩ : ∃ v, (gridT 2 2 bn)[j]? = some v := ⟨_, List.getElem?_eq_getElem (by have := HM.out.len; omega)⟩
              obtain ⟨px, py, pz⟩ := OK.out.pts _ (List.mem_of_getElem? hv)
              have hpl6 := OK.out.many
              simp only [] at px py pz
              have htk := HTR.out j (x : Int) (y : Int) (z : Int) (by rw [List.getElem?_map, hv]; rfl)
              have hfb := HFB.out
              have l1 := World.block_lt_of_cell? w7 _ htk.1
              simp only [] at l1
              have ka := (hbw.cell (p := ⟨gt, j * 3, none⟩) (by show gt < fb; omega)).trans htk.1
              have kb := (hbw.cell (p := ⟨gt, j * 3 + 1, none⟩) (by show gt < fb; omega)).trans htk.2.1
              have kc := (hbw.cell (p := ⟨gt, j * 3 + 2, none⟩) (by show gt < fb; omega)).trans htk.2.2
              obtain ⟨w9, hw9, hpv, hb9, hs9⟩ := new_box wr _ rfl [.int .i64 (x : Int), .int .i64 (y : Int), .int .i64 (z : Int)] 23
              have hF9 := hF.same (hb9.block fb hF.lt)
              have hfl := hF.lt
              have hbw9 : Below fb w7 w9 := hbw.trans (hb9.mono (by omega))
              obtain ⟨tb, htb⟩ : ∃ tb, wr.heap.size = tb := ⟨_, rfl⟩
              have htf : fb < tb := by omega
              rw [htb] at hpv
              have HF9 := Lib.hid hF9; have HBW9 := Lib.hid hbw9; have HPV := Lib.hid hpv
              have hxyz : x < 10 ∧ y < 10 ∧ z < 10 := by
                have : (gridP 2 2).length = 9 := rfl
                omega
              clear hv px py pz htk hfb l1 hb9 hs9 hF9 hbw9 hpv hF hbw hfl hpl6
              go_wp2
              clear ka kb kc hw9 htb
              go_loopw [23, 26, 120] (fun nv _ iv wr => ∃ i : Nat, i ≤ 3 ∧ iv = .int .i64 (i : Int) ∧ nv = .int .i64 ((3 * j + i : Nat) : Int) ∧ (∃ F, FaultMap Try.prog 48 wr fb F) ∧ Box wr tb [.int .i64 (x : Int), .int .i64 (y : Int), .int .i64 (z : Int)] ∧ Below fb w7 wr) (fun _ _ iv _ => 3 - (intOf iv).toNat)
              case atStart => exact ⟨0, Nat.zero_le _, rfl, rfl, ⟨_, HF9.out⟩, HPV.out, HBW9.out⟩
              case round =>
                obtain ⟨i, hi, rfl, rfl, ⟨F2, hF2⟩, hbx, hbw⟩ := hrel
                by_cases hli : i < 3
                · obtain ⟨nn, hnn⟩ : ∃ nn : Nat, 3 * j + i = nn := ⟨_, rfl⟩
                  have hnn24 : nn < 24 := by omega
                  have HNN := Lib.hid hnn
                  rw [hnn]
                  clear hnn
                  have HF2 := Lib.hid hF2; have HBX2 := Lib.hid hbx; have HBW2 := Lib.hid hbw
                  clear hF2 hbx hbw
                  obtain ⟨q, hq⟩ : ∃ q : Bool, (bits .and .u32 (f / 2 ^ (nn % 32)) 1 == 1) = q := ⟨_, rfl⟩
                  have hfb2 := HF2.out.lt
                  have hd3 := (HF2.out.same (w' := wr.drew) rfl)
                  have hx3 := HBX2.out.drew
                  have hw3 := HBW2.out.drew'
                  have HF3 := Lib.hid hd3; have HBX3 := Lib.hid hx3; have HBW3 := Lib.hid hw3
                  clear hd3 hx3 hw3
                  cases q
                  · go_wp2
                    have hnn := HNN.out
                    exact ⟨⟨i + 1, by omega, by go_num, congrArg (Value.int .i64) (by omega), ⟨_, HF2.out⟩, HBX2.out, HBW2.out⟩, by simp [intOf]; omega⟩
                  · obtain rfl | rfl | rfl : i = 0 ∨ i = 1 ∨ i = 2 := by omega
                    · obtain ⟨mn, hmn⟩ : ∃ mn : Int, (if (y : Int) < (x : Int) then (y : Int) else (x : Int)) = mn := ⟨_, rfl⟩
                      obtain ⟨mx, hmx⟩ : ∃ mx : Int, (if (y : Int) > (x : Int) then (y : Int) else (x : Int)) = mx := ⟨_, rfl⟩
                      have bmn : -1000000 ≤ mn ∧ mn ≤ 1000000 := by rw [← hmn]; split <;> omega
                      have bmx : -1000000 ≤ mx ∧ mx ≤ 1000000 := by rw [← hmx]; split <;> omega
                      have hmin : ∀ w : World, Sem.run Try.prog (Builtin.min_ #[3, 3] 3 #[.int .i64 (x : Int), .int .i64 (y : Int)]) w = Result.ok (Value.int .i64 mn) w := fun w => by rw [run_min_int2, hmn]
                      have hmax : ∀ w : World, Sem.run Try.prog (Builtin.max_ #[3, 3] 3 #[.int .i64 (x : Int), .int .i64 (y : Int)]) w = Result.ok (Value.int .i64 mx) w := fun w => by rw [run_max_int2, hmx]
                      have hwk : (IntKind.i64.wrap 1).tmod 3 = 1 := by decide
                      obtain ⟨wm, F4, hup, hT4, hF4⟩ := fault_store HF3.out bmn bmx
                      have hx0 := HBX3.out.c 0 _ rfl; have hx1 := HBX3.out.c 1 _ rfl
                      have hbx4 := HBX3.out.turned hT4 (by omega)
                      have hbw4 : Below fb w7 wm := Below.turned HBW3.out hT4 (Nat.le_refl _)
                      have hy0 := hbx4.c 0 _ rfl; have hy1 := hbx4.c 1 _ rfl
                      have FIN := Lib.hid (And.intro hF4 (And.intro hbx4 hbw4))
                      clear hmn hmx bmn bmx hT4 hF4 hbx4 hbw4
                      go_wp2_with fail
                      obtain ⟨SSs, hSSs⟩ : ∃ S : Array Bool → World → Prop, ∀ l w', S l w' ↔ ((w'.cell? ⟨tb, 0, none⟩ = some (.int .i64 (x : Int))) ∧ (w'.cell? ⟨tb, 1, none⟩ = some (.int .i64 (y : Int)))) := ⟨_, fun _ _ => Iff.rfl⟩
                      refine wp_region_noPanic ?_
                      refine wp_region_G SSs 21 #[false, false, false, false, false, false, false, false, false, false, false, false, false, false, false, false, false, false, false, false, false] (by kernel_rfl) (by kernel_rfl) (by kernel_rfl) ((hSSs _ _).2 ⟨hx0, hx1⟩) (fun hCl hHeld => ?_)
                      generalize wr.drew = wd at *
                      refine reg_takeG 0 ?_ ?_ ?_ (by kernel_rfl) (by kernel_rfl) (by kernel_rfl) (fun _ _ _ h => h) ?_ ?_ ?_ hCl hHeld ?_
                      rotate_left 2
                      · simp only [List.getElem?_toArray, List.getElem?_cons_zero]; exact rfl
                      · intro l w'; rw [hSSs, hSSs]
                      · rfl
                      · intro w' hA; clear hA; go_simp; try with_reducible rfl
                      clear hCl hHeld
                      intro hCl hHeld
                      simp only [List.setIfInBounds_toArray, List.set_cons_zero] at hCl hHeld
                      try simp only [Act.put]
                      try simp only [List.setIfInBounds_toArray, List.set_cons_zero, List.set_cons_succ]
                      refine reg_takeG 1 ?_ ?_ ?_ (by kernel_rfl) (by kernel_rfl) (by kernel_rfl) (fun _ _ _ h => h) ?_ ?_ ?_ hCl hHeld ?_
                      rotate_left 2
                      · simp only [List.getElem?_toArray, List.getElem?_cons_succ, List.getElem?_cons_zero]; exact rfl
                      · intro l w'; rw [hSSs, hSSs]
                      · rfl
                      · intro w' hA; clear hA; go_simp; try with_reducible rfl
                      clear hCl hHeld
                      intro hCl hHeld
                      simp only [List.setIfInBounds_toArray, List.set_cons_zero, List.set_cons_succ] at hCl hHeld
                      try simp only [Act.put]
                      try simp only [List.setIfInBounds_toArray, List.set_cons_zero, List.set_cons_succ]
                      refine reg_takeG 2 ?_ ?_ ?_ (by kernel_rfl) (by kernel_rfl) (by kernel_rfl) (fun _ _ _ h => h) ?_ ?_ ?_ hCl hHeld ?_
                      rotate_left 2
                      · simp only [List.getElem?_toArray, List.getElem?_cons_succ, List.getElem?_cons_zero]; exact rfl
                      · intro l w'; rw [hSSs, hSSs]
                      · rfl
                      · intro w' hA; clear hA; go_simp; try with_reducible rfl
                      clear hCl hHeld
                      intro hCl hHeld
                      simp only [List.setIfInBounds_toArray, List.set_cons_zero, List.set_cons_succ] at hCl hHeld
                      try simp only [Act.put]
                      try simp only [List.setIfInBounds_toArray, List.set_cons_zero, List.set_cons_succ]
                      refine reg_takeG 3 ?_ ?_ ?_ (by kernel_rfl) (by kernel_rfl) (by kernel_rfl) (fun _ _ _ h => h) ?_ ?_ ?_ hCl hHeld ?_
                      rotate_left 2
                      · simp only [List.getElem?_toArray, List.getElem?_cons_succ, List.getElem?_cons_zero]; exact rfl
                      · intro l w'; rw [hSSs, hSSs]
                      · rfl
                      · intro w' hA; obtain ⟨l, hl, hi, hSl⟩ := hA; have hSl := (hSSs _ _).1 hSl; obtain ⟨hz0, hz1⟩ := hSl; go_simp; try with_reducible rfl
                      clear hCl hHeld
                      intro hCl hHeld
                      simp only [List.setIfInBounds_toArray, List.set_cons_zero, List.set_cons_succ] at hCl hHeld
                      try simp only [Act.put]
                      try simp only [List.setIfInBounds_toArray, List.set_cons_zero, List.set_cons_succ]
                      refine reg_takeG 4 ?_ ?_ ?_ (by kernel_rfl) (by kernel_rfl) (by kernel_rfl) (fun _ _ _ h => h) ?_ ?_ ?_ hCl hHeld ?_
                      rotate_left 2
                      · simp only [List.getElem?_toArray, List.getElem?_cons_succ, List.getElem?_cons_zero]; exact rfl
                      · intro l w'; rw [hSSs, hSSs]
                      · rfl
                      · intro w' hA; clear hA; go_simp; try with_reducible rfl
                      clear hCl hHeld
                      intro hCl hHeld
                      simp only [List.setIfInBounds_toArray, List.set_cons_zero, List.set_cons_succ] at hCl hHeld
                      try simp only [Act.put]
                      try simp only [List.setIfInBounds_toArray, List.set_cons_zero, List.set_cons_succ]
                      refine reg_takeG 5 ?_ ?_ ?_ (by kernel_rfl) (by kernel_rfl) (by kernel_rfl) (fun _ _ _ h => h) ?_ ?_ ?_ hCl hHeld ?_
                      rotate_left 2
                      · simp only [List.getElem?_toArray, List.getElem?_cons_succ, List.getElem?_cons_zero]; exact rfl
                      · intro l w'; rw [hSSs, hSSs]
                      · rfl
                      · intro w' hA; clear hA; go_simp; try with_reducible rfl
                      clear hCl hHeld
                      intro hCl hHeld
                      simp only [List.setIfInBounds_toArray, List.set_cons_zero, List.set_cons_succ] at hCl hHeld
                      try simp only [Act.put]
                      try simp only [List.setIfInBounds_toArray, List.set_cons_zero, List.set_cons_succ]
                      refine reg_takeG 6 ?_ ?_ ?_ (by kernel_rfl) (by kernel_rfl) (by kernel_rfl) (fun _ _ _ h => h) ?_ ?_ ?_ hCl hHeld ?_
                      rotate_left 2
                      · simp only [List.getElem?_toArray, List.getElem?_cons_succ, List.getElem?_cons_zero]; exact rfl
                      · intro l w'; rw [hSSs, hSSs]
                      · rfl
                      · intro w' hA; clear hA; go_simp; try with_reducible rfl
                      clear hCl hHeld
                      intro hCl hHeld
                      simp only [List.setIfInBounds_toArray, List.set_cons_zero, List.set_cons_succ] at hCl hHeld
                      try simp only [Act.put]
                      try simp only [List.setIfInBounds_toArray, List.set_cons_zero, List.set_cons_succ]
                      refine reg_takeG 7 ?_ ?_ ?_ (by kernel_rfl) (by kernel_rfl) (by kernel_rfl) (fun _ _ _ h => h) ?_ ?_ ?_ hCl hHeld ?_
                      rotate_left 2
                      · simp only [List.getElem?_toArray, List.getElem?_cons_succ, List.getElem?_cons_zero]; exact rfl
                      · intro l w'; rw [hSSs, hSSs]
                      · rfl
                      · intro w' hA; clear hA; go_simp; try with_reducible rfl
                      clear hCl hHeld
                      intro hCl hHeld
                      simp only [List.setIfInBounds_toArray, List.set_cons_zero, List.set_cons_succ] at hCl hHeld
                      try simp only [Act.put]
                      try simp only [List.setIfInBounds_toArray, List.set_cons_zero, List.set_cons_succ]
                      refine reg_takeG 8 ?_ ?_ ?_ (by kernel_rfl) (by kernel_rfl) (by kernel_rfl) (fun _ _ _ h => h) ?_ ?_ ?_ hCl hHeld ?_
                      rotate_left 2
                      · simp only [List.getElem?_toArray, List.getElem?_cons_succ, List.getElem?_cons_zero]; exact rfl
                      · intro l w'; rw [hSSs, hSSs]
                      · rfl
                      · intro w' hA; obtain ⟨l, hl, hi, hSl⟩ := hA; have hSl := (hSSs _ _).1 hSl; obtain ⟨hz0, hz1⟩ := hSl; go_simp; try with_reducible rfl
                      clear hCl hHeld
                      intro hCl hHeld
                      simp only [List.setIfInBounds_toArray, List.set_cons_zero, List.set_cons_succ] at hCl hHeld
                      try simp only [Act.put]
                      try simp only [List.setIfInBounds_toArray, List.set_cons_zero, List.set_cons_succ]
                      refine reg_takeG 9 ?_ ?_ ?_ (by kernel_rfl) (by kernel_rfl) (by kernel_rfl) (fun _ _ _ h => h) ?_ ?_ ?_ hCl hHeld ?_
                      rotate_left 2
                      · simp only [List.getElem?_toArray, List.getElem?_cons_succ, List.getElem?_cons_zero]; exact rfl
                      · intro l w'; rw [hSSs, hSSs]
                      · rfl
                      · intro w' hA; clear hA; go_simp; try with_reducible rfl
                      clear hCl hHeld
                      intro hCl hHeld
                      simp only [List.setIfInBounds_toArray, List.set_cons_zero, List.set_cons_succ] at hCl hHeld
                      try simp only [Act.put]
                      try simp only [List.setIfInBounds_toArray, List.set_cons_zero, List.set_cons_succ]
                      refine reg_takeG 10 ?_ ?_ ?_ (by kernel_rfl) (by kernel_rfl) (by kernel_rfl) (fun _ _ _ h => h) ?_ ?_ ?_ hCl hHeld ?_
                      rotate_left 2
                      · simp only [List.getElem?_toArray, List.getElem?_cons_succ, List.getElem?_cons_zero]; exact rfl
                      · intro l w'; rw [hSSs, hSSs]
                      · rfl
                      · intro w' hA; clear hA; go_simp; try with_reducible rfl
                      clear hCl hHeld
                      intro hCl hHeld
                      simp only [List.setIfInBounds_toArray, List.set_cons_zero, List.set_cons_succ] at hCl hHeld
                      try simp only [Act.put]
                      try simp only [List.setIfInBounds_toArray, List.set_cons_zero, List.set_cons_succ]
                      refine reg_takeG 11 ?_ ?_ ?_ (by kernel_rfl) (by kernel_rfl) (by kernel_rfl) (fun _ _ _ h => h) ?_ ?_ ?_ hCl hHeld ?_
                      rotate_left 2
                      · simp only [List.getElem?_toArray, List.getElem?_cons_succ, List.getElem?_cons_zero]; exact rfl
                      · intro l w'; rw [hSSs, hSSs]
                      · rfl
                      · intro w' hA; clear hA; go_simp; try with_reducible rfl
                      clear hCl hHeld
                      intro hCl hHeld
                      simp only [List.setIfInBounds_toArray, List.set_cons_zero, List.set_cons_succ] at hCl hHeld
                      try simp only [Act.put]
                      try simp only [List.setIfInBounds_toArray, List.set_cons_zero, List.set_cons_succ]
                      refine reg_takeG 12 ?_ ?_ ?_ (by kernel_rfl) (by kernel_rfl) (by kernel_rfl) (fun _ _ _ h => h) ?_ ?_ ?_ hCl hHeld ?_
                      rotate_left 2
                      · simp only [List.getElem?_toArray, List.getElem?_cons_succ, List.getElem?_cons_zero]; exact rfl
                      · intro l w'; rw [hSSs, hSSs]
                      · rfl
                      · intro w' hA; obtain ⟨l, hl, hi, hSl⟩ := hA; have hSl := (hSSs _ _).1 hSl; obtain ⟨hz0, hz1⟩ := hSl; go_simp; try with_reducible rfl
                      clear hCl hHeld
                      intro hCl hHeld
                      simp only [List.setIfInBounds_toArray, List.set_cons_zero, List.set_cons_succ] at hCl hHeld
                      try simp only [Act.put]
                      try simp only [List.setIfInBounds_toArray, List.set_cons_zero, List.set_cons_succ]
                      refine reg_takeG 13 ?_ ?_ ?_ (by kernel_rfl) (by kernel_rfl) (by kernel_rfl) (fun _ _ _ h => h) ?_ ?_ ?_ hCl hHeld ?_
                      rotate_left 2
                      · simp only [List.getElem?_toArray, List.getElem?_cons_succ, List.getElem?_cons_zero]; exact rfl
                      · intro l w'; rw [hSSs, hSSs]
                      · rfl
                      · intro w' hA; clear hA; go_simp; try with_reducible rfl
                      clear hCl hHeld
                      intro hCl hHeld
                      simp only [List.setIfInBounds_toArray, List.set_cons_zero, List.set_cons_succ] at hCl hHeld
                      try simp only [Act.put]
                      try simp only [List.setIfInBounds_toArray, List.set_cons_zero, List.set_cons_succ]
                      refine reg_takeG 14 ?_ ?_ ?_ (by kernel_rfl) (by kernel_rfl) (by kernel_rfl) (fun _ _ _ h => h) ?_ ?_ ?_ hCl hHeld ?_
                      rotate_left 2
                      · simp only [List.getElem?_toArray, List.getElem?_cons_succ, List.getElem?_cons_zero]; exact rfl
                      · intro l w'; rw [hSSs, hSSs]
                      · rfl
                      · intro w' hA; clear hA; go_simp; try with_reducible rfl
                      clear hCl hHeld
                      intro hCl hHeld
                      simp only [List.setIfInBounds_toArray, List.set_cons_zero, List.set_cons_succ] at hCl hHeld
                      try simp only [Act.put]
                      try simp only [List.setIfInBounds_toArray, List.set_cons_zero, List.set_cons_succ]
                      refine reg_takeG 15 ?_ ?_ ?_ (by kernel_rfl) (by kernel_rfl) (by kernel_rfl) (fun _ _ _ h => h) ?_ ?_ ?_ hCl hHeld ?_
                      rotate_left 2
                      · simp only [List.getElem?_toArray, List.getElem?_cons_succ, List.getElem?_cons_zero]; exact rfl
                      · intro l w'; rw [hSSs, hSSs]
                      · rfl
                      · intro w' hA; clear hA; go_simp; try with_reducible rfl
                      clear hCl hHeld
                      intro hCl hHeld
                      simp only [List.setIfInBounds_toArray, List.set_cons_zero, List.set_cons_succ] at hCl hHeld
                      try simp only [Act.put]
                      try simp only [List.setIfInBounds_toArray, List.set_cons_zero, List.set_cons_succ]
                      refine reg_takeG 16 ?_ ?_ ?_ (by kernel_rfl) (by kernel_rfl) (by kernel_rfl) (fun _ _ _ h => h) ?_ ?_ ?_ hCl hHeld ?_
                      rotate_left 2
                      · simp only [List.getElem?_toArray, List.getElem?_cons_succ, List.getElem?_cons_zero]; exact rfl
                      · intro l w'; rw [hSSs, hSSs]
                      · rfl
                      · intro w' hA; clear hA; go_simp; try with_reducible rfl
                      clear hCl hHeld
                      intro hCl hHeld
                      simp only [List.setIfInBounds_toArray, List.set_cons_zero, List.set_cons_succ] at hCl hHeld
                      try simp only [Act.put]
                      try simp only [List.setIfInBounds_toArray, List.set_cons_zero, List.set_cons_succ]
                      refine reg_takeG 17 ?_ ?_ ?_ (by kernel_rfl) (by kernel_rfl) (by kernel_rfl) (fun _ _ _ h => h) ?_ ?_ ?_ hCl hHeld ?_
                      rotate_left 2
                      · simp only [List.getElem?_toArray, List.getElem?_cons_succ, List.getElem?_cons_zero]; exact rfl
                      · intro l w'; rw [hSSs, hSSs]
                      · rfl
                      · intro w' hA; obtain ⟨l, hl, hi, hSl⟩ := hA; have hSl := (hSSs _ _).1 hSl; obtain ⟨hz0, hz1⟩ := hSl; go_simp; try with_reducible rfl
                      clear hCl hHeld
                      intro hCl hHeld
                      simp only [List.setIfInBounds_toArray, List.set_cons_zero, List.set_cons_succ] at hCl hHeld
                      try simp only [Act.put]
                      try simp only [List.setIfInBounds_toArray, List.set_cons_zero, List.set_cons_succ]
                      refine reg_takeG 18 ?_ ?_ ?_ (by kernel_rfl) (by kernel_rfl) (by kernel_rfl) (fun _ _ _ h => h) ?_ ?_ ?_ hCl hHeld ?_
                      rotate_left 2
                      · simp only [List.getElem?_toArray, List.getElem?_cons_succ, List.getElem?_cons_zero]; exact rfl
                      · intro l w'; rw [hSSs, hSSs]
                      · rfl
                      · intro w' hA; clear hA; go_simp; try with_reducible rfl
                      clear hCl hHeld
                      intro hCl hHeld
                      simp only [List.setIfInBounds_toArray, List.set_cons_zero, List.set_cons_succ] at hCl hHeld
                      try simp only [Act.put]
                      try simp only [List.setIfInBounds_toArray, List.set_cons_zero, List.set_cons_succ]
                      refine reg_takeG 19 ?_ ?_ ?_ (by kernel_rfl) (by kernel_rfl) (by kernel_rfl) (fun _ _ _ h => h) ?_ ?_ ?_ hCl hHeld ?_
                      rotate_left 2
                      · simp only [List.getElem?_toArray, List.getElem?_cons_succ, List.getElem?_cons_zero]; exact rfl
                      · intro l w'; rw [hSSs, hSSs]
                      · rfl
                      · intro w' hA; clear hA; go_simp; try with_reducible rfl
                      clear hCl hHeld
                      intro hCl hHeld
                      simp only [List.setIfInBounds_toArray, List.set_cons_zero, List.set_cons_succ] at hCl hHeld
                      try simp only [Act.put]
                      try simp only [List.setIfInBounds_toArray, List.set_cons_zero, List.set_cons_succ]
                      clear hCl hHeld
                      refine reg_callG 20 ?_ (by kernel_rfl) ?_ (fun K hK => ?_)
                      rotate_left 1
                      · simp only [List.getElem?_toArray, List.getElem?_cons_succ, List.getElem?_cons_zero]; exact rfl
                      go_simp
                      clear hx0 hx1 hup
                      refine hK.out _ _ ((hSSs _ _).2 ⟨hy0, hy1⟩) ?_
                      clear hK K
                      try simp only [Act.put]
                      try simp only [List.setIfInBounds_toArray, List.set_cons_zero, List.set_cons_succ]
                      refine wpAnyG_done (by kernel_rfl) ?_ _
                      refine NoPanic.normal ?_
                      clear hSSs SSs
                      go_wp2
                      have hnn := HNN.out
                      refine ⟨⟨_, _, _, _, _, _, _, _, _, _, _, _, _, _, _, _, _, _, _, _, _, _, _, _, _, _, _, _, _, _, _, _, _, _, ?_, rfl⟩, by simp [intOf]⟩
                      exact ⟨0 + 1, by omega, by go_num, congrArg (Value.int .i64) (by omega), ⟨_, FIN.out.1⟩, FIN.out.2.1, FIN.out.2.2⟩
                    · obtain ⟨mn, hmn⟩ : ∃ mn : Int, (if (z : Int) < (y : Int) then (z : Int) else (y : Int)) = mn := ⟨_, rfl⟩
                      obtain ⟨mx, hmx⟩ : ∃ mx : Int, (if (z : Int) > (y : Int) then (z : Int) else (y : Int)) = mx := ⟨_, rfl⟩
                      have bmn : -1000000 ≤ mn ∧ mn ≤ 1000000 := by rw [← hmn]; split <;> omega
                      have bmx : -1000000 ≤ mx ∧ mx ≤ 1000000 := by rw [← hmx]; split <;> omega
                      have hmin : ∀ w : World, Sem.run Try.prog (Builtin.min_ #[3, 3] 3 #[.int .i64 (y : Int), .int .i64 (z : Int)]) w = Result.ok (Value.int .i64 mn) w := fun w => by rw [run_min_int2, hmn]
                      have hmax : ∀ w : World, Sem.run Try.prog (Builtin.max_ #[3, 3] 3 #[.int .i64 (y : Int), .int .i64 (z : Int)]) w = Result.ok (Value.int .i64 mx) w := fun w => by rw [run_max_int2, hmx]
                      have hwk : (IntKind.i64.wrap 2).tmod 3 = 2 := by decide
                      obtain ⟨wm, F4, hup, hT4, hF4⟩ := fault_store HF3.out bmn bmx
                      have hx0 := HBX3.out.c 1 _ rfl; have hx1 := HBX3.out.c 2 _ rfl
                      have hbx4 := HBX3.out.turned hT4 (by omega)
                      have hbw4 : Below fb w7 wm := Below.turned HBW3.out hT4 (Nat.le_refl _)
                      have hy0 := hbx4.c 1 _ rfl; have hy1 := hbx4.c 2 _ rfl
                      have FIN := Lib.hid (And.intro hF4 (And.intro hbx4 hbw4))
                      clear hmn hmx bmn bmx hT4 hF4 hbx4 hbw4
                      go_wp2_with fail
                      obtain ⟨SSs, hSSs⟩ : ∃ S : Array Bool → World → Prop, ∀ l w', S l w' ↔ ((w'.cell? ⟨tb, 1, none⟩ = some (.int .i64 (y : Int))) ∧ (w'.cell? ⟨tb, 2, none⟩ = some (.int .i64 (z : Int)))) := ⟨_, fun _ _ => Iff.rfl⟩
                      refine wp_region_noPanic ?_
                      refine wp_region_G SSs 21 #[false, false, false, false, false, false, false, false, false, false, false, false, false, false, false, false, false, false, false, false, false] (by kernel_rfl) (by kernel_rfl) (by kernel_rfl) ((hSSs _ _).2 ⟨hx0, hx1⟩) (fun hCl hHeld => ?_)
                      generalize wr.drew = wd at *
                      refine reg_takeG 0 ?_ ?_ ?_ (by kernel_rfl) (by kernel_rfl) (by kernel_rfl) (fun _ _ _ h => h) ?_ ?_ ?_ hCl hHeld ?_
                      rotate_left 2
                      · simp only [List.getElem?_toArray, List.getElem?_cons_zero]; exact rfl
                      · intro l w'; rw [hSSs, hSSs]
                      · rfl
                      · intro w' hA; clear hA; go_simp; try with_reducible rfl
                      clear hCl hHeld
                      intro hCl hHeld
                      simp only [List.setIfInBounds_toArray, List.set_cons_zero] at hCl hHeld
                      try simp only [Act.put]
                      try simp only [List.setIfInBounds_toArray, List.set_cons_zero, List.set_cons_succ]
                      refine reg_takeG 1 ?_ ?_ ?_ (by kernel_rfl) (by kernel_rfl) (by kernel_rfl) (fun _ _ _ h => h) ?_ ?_ ?_ hCl hHeld ?_
                      rotate_left 2
                      · simp only [List.getElem?_toArray, List.getElem?_cons_succ, List.getElem?_cons_zero]; exact rfl
                      · intro l w'; rw [hSSs, hSSs]
                      · rfl
                      · intro w' hA; clear hA; go_simp; try with_reducible rfl
                      clear hCl hHeld
                      intro hCl hHeld
                      simp only [List.setIfInBounds_toArray, List.set_cons_zero, List.set_cons_succ] at hCl hHeld
                      try simp only [Act.put]
                      try simp only [List.setIfInBounds_toArray, List.set_cons_zero, List.set_cons_succ]
                      refine reg_takeG 2 ?_ ?_ ?_ (by kernel_rfl) (by kernel_rfl) (by kernel_rfl) (fun _ _ _ h => h) ?_ ?_ ?_ hCl hHeld ?_
                      rotate_left 2
                      · simp only [List.getElem?_toArray, List.getElem?_cons_succ, List.getElem?_cons_zero]; exact rfl
                      · intro l w'; rw [hSSs, hSSs]
                      · rfl
                      · intro w' hA; clear hA; go_simp; try with_reducible rfl
                      clear hCl hHeld
                      intro hCl hHeld
                      simp only [List.setIfInBounds_toArray, List.set_cons_zero, List.set_cons_succ] at hCl hHeld
                      try simp only [Act.put]
                      try simp only [List.setIfInBounds_toArray, List.set_cons_zero, List.set_cons_succ]
                      refine reg_takeG 3 ?_ ?_ ?_ (by kernel_rfl) (by kernel_rfl) (by kernel_rfl) (fun _ _ _ h => h) ?_ ?_ ?_ hCl hHeld ?_
                      rotate_left 2
                      · simp only [List.getElem?_toArray, List.getElem?_cons_succ, List.getElem?_cons_zero]; exact rfl
                      · intro l w'; rw [hSSs, hSSs]
                      · rfl
                      · intro w' hA; obtain ⟨l, hl, hi, hSl⟩ := hA; have hSl := (hSSs _ _).1 hSl; obtain ⟨hz0, hz1⟩ := hSl; go_simp; try with_reducible rfl
                      clear hCl hHeld
                      intro hCl hHeld
                      simp only [List.setIfInBounds_toArray, List.set_cons_zero, List.set_cons_succ] at hCl hHeld
                      try simp only [Act.put]
                      try simp only [List.setIfInBounds_toArray, List.set_cons_zero, List.set_cons_succ]
                      refine reg_takeG 4 ?_ ?_ ?_ (by kernel_rfl) (by kernel_rfl) (by kernel_rfl) (fun _ _ _ h => h) ?_ ?_ ?_ hCl hHeld ?_
                      rotate_left 2
                      · simp only [List.getElem?_toArray, List.getElem?_cons_succ, List.getElem?_cons_zero]; exact rfl
                      · intro l w'; rw [hSSs, hSSs]
                      · rfl
                      · intro w' hA; clear hA; go_simp; try with_reducible rfl
                      clear hCl hHeld
                      intro hCl hHeld
                      simp only [List.setIfInBounds_toArray, List.set_cons_zero, List.set_cons_succ] at hCl hHeld
                      try simp only [Act.put]
                      try simp only [List.setIfInBounds_toArray, List.set_cons_zero, List.set_cons_succ]
                      refine reg_takeG 5 ?_ ?_ ?_ (by kernel_rfl) (by kernel_rfl) (by kernel_rfl) (fun _ _ _ h => h) ?_ ?_ ?_ hCl hHeld ?_
                      rotate_left 2
                      · simp only [List.getElem?_toArray, List.getElem?_cons_succ, List.getElem?_cons_zero]; exact rfl
                      · intro l w'; rw [hSSs, hSSs]
                      · rfl
                      · intro w' hA; clear hA; go_simp; try with_reducible rfl
                      clear hCl hHeld
                      intro hCl hHeld
                      simp only [List.setIfInBounds_toArray, List.set_cons_zero, List.set_cons_succ] at hCl hHeld
                      try simp only [Act.put]
                      try simp only [List.setIfInBounds_toArray, List.set_cons_zero, List.set_cons_succ]
                      refine reg_takeG 6 ?_ ?_ ?_ (by kernel_rfl) (by kernel_rfl) (by kernel_rfl) (fun _ _ _ h => h) ?_ ?_ ?_ hCl hHeld ?_
                      rotate_left 2
                      · simp only [List.getElem?_toArray, List.getElem?_cons_succ, List.getElem?_cons_zero]; exact rfl
                      · intro l w'; rw [hSSs, hSSs]
                      · rfl
                      · intro w' hA; clear hA; go_simp; try with_reducible rfl
                      clear hCl hHeld
                      intro hCl hHeld
                      simp only [List.setIfInBounds_toArray, List.set_cons_zero, List.set_cons_succ] at hCl hHeld
                      try simp only [Act.put]
                      try simp only [List.setIfInBounds_toArray, List.set_cons_zero, List.set_cons_succ]
                      refine reg_takeG 7 ?_ ?_ ?_ (by kernel_rfl) (by kernel_rfl) (by kernel_rfl) (fun _ _ _ h => h) ?_ ?_ ?_ hCl hHeld ?_
                      rotate_left 2
                      · simp only [List.getElem?_toArray, List.getElem?_cons_succ, List.getElem?_cons_zero]; exact rfl
                      · intro l w'; rw [hSSs, hSSs]
                      · rfl
                      · intro w' hA; clear hA; go_simp; try with_reducible rfl
                      clear hCl hHeld
                      intro hCl hHeld
                      simp only [List.setIfInBounds_toArray, List.set_cons_zero, List.set_cons_succ] at hCl hHeld
                      try simp only [Act.put]
                      try simp only [List.setIfInBounds_toArray, List.set_cons_zero, List.set_cons_succ]
                      refine reg_takeG 8 ?_ ?_ ?_ (by kernel_rfl) (by kernel_rfl) (by kernel_rfl) (fun _ _ _ h => h) ?_ ?_ ?_ hCl hHeld ?_
                      rotate_left 2
                      · simp only [List.getElem?_toArray, List.getElem?_cons_succ, List.getElem?_cons_zero]; exact rfl
                      · intro l w'; rw [hSSs, hSSs]
                      · rfl
                      · intro w' hA; obtain ⟨l, hl, hi, hSl⟩ := hA; have hSl := (hSSs _ _).1 hSl; obtain ⟨hz0, hz1⟩ := hSl; go_simp; try with_reducible rfl
                      clear hCl hHeld
                      intro hCl hHeld
                      simp only [List.setIfInBounds_toArray, List.set_cons_zero, List.set_cons_succ] at hCl hHeld
                      try simp only [Act.put]
                      try simp only [List.setIfInBounds_toArray, List.set_cons_zero, List.set_cons_succ]
                      refine reg_takeG 9 ?_ ?_ ?_ (by kernel_rfl) (by kernel_rfl) (by kernel_rfl) (fun _ _ _ h => h) ?_ ?_ ?_ hCl hHeld ?_
                      rotate_left 2
                      · simp only [List.getElem?_toArray, List.getElem?_cons_succ, List.getElem?_cons_zero]; exact rfl
                      · intro l w'; rw [hSSs, hSSs]
                      · rfl
                      · intro w' hA; clear hA; go_simp; try with_reducible rfl
                      clear hCl hHeld
                      intro hCl hHeld
                      simp only [List.setIfInBounds_toArray, List.set_cons_zero, List.set_cons_succ] at hCl hHeld
                      try simp only [Act.put]
                      try simp only [List.setIfInBounds_toArray, List.set_cons_zero, List.set_cons_succ]
                      refine reg_takeG 10 ?_ ?_ ?_ (by kernel_rfl) (by kernel_rfl) (by kernel_rfl) (fun _ _ _ h => h) ?_ ?_ ?_ hCl hHeld ?_
                      rotate_left 2
                      · simp only [List.getElem?_toArray, List.getElem?_cons_succ, List.getElem?_cons_zero]; exact rfl
                      · intro l w'; rw [hSSs, hSSs]
                      · rfl
                      · intro w' hA; clear hA; go_simp; try with_reducible rfl
                      clear hCl hHeld
                      intro hCl hHeld
                      simp only [List.setIfInBounds_toArray, List.set_cons_zero, List.set_cons_succ] at hCl hHeld
                      try simp only [Act.put]
                      try simp only [List.setIfInBounds_toArray, List.set_cons_zero, List.set_cons_succ]
                      refine reg_takeG 11 ?_ ?_ ?_ (by kernel_rfl) (by kernel_rfl) (by kernel_rfl) (fun _ _ _ h => h) ?_ ?_ ?_ hCl hHeld ?_
                      rotate_left 2
                      · simp only [List.getElem?_toArray, List.getElem?_cons_succ, List.getElem?_cons_zero]; exact rfl
                      · intro l w'; rw [hSSs, hSSs]
                      · rfl
                      · intro w' hA; clear hA; go_simp; try with_reducible rfl
                      clear hCl hHeld
                      intro hCl hHeld
                      simp only [List.setIfInBounds_toArray, List.set_cons_zero, List.set_cons_succ] at hCl hHeld
                      try simp only [Act.put]
                      try simp only [List.setIfInBounds_toArray, List.set_cons_zero, List.set_cons_succ]
                      refine reg_takeG 12 ?_ ?_ ?_ (by kernel_rfl) (by kernel_rfl) (by kernel_rfl) (fun _ _ _ h => h) ?_ ?_ ?_ hCl hHeld ?_
                      rotate_left 2
                      · simp only [List.getElem?_toArray, List.getElem?_cons_succ, List.getElem?_cons_zero]; exact rfl
                      · intro l w'; rw [hSSs, hSSs]
                      · rfl
                      · intro w' hA; obtain ⟨l, hl, hi, hSl⟩ := hA; have hSl := (hSSs _ _).1 hSl; obtain ⟨hz0, hz1⟩ := hSl; go_simp; try with_reducible rfl
                      clear hCl hHeld
                      intro hCl hHeld
                      simp only [List.setIfInBounds_toArray, List.set_cons_zero, List.set_cons_succ] at hCl hHeld
                      try simp only [Act.put]
                      try simp only [List.setIfInBounds_toArray, List.set_cons_zero, List.set_cons_succ]
                      refine reg_takeG 13 ?_ ?_ ?_ (by kernel_rfl) (by kernel_rfl) (by kernel_rfl) (fun _ _ _ h => h) ?_ ?_ ?_ hCl hHeld ?_
                      rotate_left 2
                      · simp only [List.getElem?_toArray, List.getElem?_cons_succ, List.getElem?_cons_zero]; exact rfl
                      · intro l w'; rw [hSSs, hSSs]
                      · rfl
                      · intro w' hA; clear hA; go_simp; try with_reducible rfl
                      clear hCl hHeld
                      intro hCl hHeld
                      simp only [List.setIfInBounds_toArray, List.set_cons_zero, List.set_cons_succ] at hCl hHeld
                      try simp only [Act.put]
                      try simp only [List.setIfInBounds_toArray, List.set_cons_zero, List.set_cons_succ]
                      refine reg_takeG 14 ?_ ?_ ?_ (by kernel_rfl) (by kernel_rfl) (by kernel_rfl) (fun _ _ _ h => h) ?_ ?_ ?_ hCl hHeld ?_
                      rotate_left 2
                      · simp only [List.getElem?_toArray, List.getElem?_cons_succ, List.getElem?_cons_zero]; exact rfl
                      · intro l w'; rw [hSSs, hSSs]
                      · rfl
                      · intro w' hA; clear hA; go_simp; try with_reducible rfl
                      clear hCl hHeld
                      intro hCl hHeld
                      simp only [List.setIfInBounds_toArray, List.set_cons_zero, List.set_cons_succ] at hCl hHeld
                      try simp only [Act.put]
                      try simp only [List.setIfInBounds_toArray, List.set_cons_zero, List.set_cons_succ]
                      refine reg_takeG 15 ?_ ?_ ?_ (by kernel_rfl) (by kernel_rfl) (by kernel_rfl) (fun _ _ _ h => h) ?_ ?_ ?_ hCl hHeld ?_
                      rotate_left 2
                      · simp only [List.getElem?_toArray, List.getElem?_cons_succ, List.getElem?_cons_zero]; exact rfl
                      · intro l w'; rw [hSSs, hSSs]
                      · rfl
                      · intro w' hA; clear hA; go_simp; try with_reducible rfl
                      clear hCl hHeld
                      intro hCl hHeld
                      simp only [List.setIfInBounds_toArray, List.set_cons_zero, List.set_cons_succ] at hCl hHeld
                      try simp only [Act.put]
                      try simp only [List.setIfInBounds_toArray, List.set_cons_zero, List.set_cons_succ]
                      refine reg_takeG 16 ?_ ?_ ?_ (by kernel_rfl) (by kernel_rfl) (by kernel_rfl) (fun _ _ _ h => h) ?_ ?_ ?_ hCl hHeld ?_
                      rotate_left 2
                      · simp only [List.getElem?_toArray, List.getElem?_cons_succ, List.getElem?_cons_zero]; exact rfl
                      · intro l w'; rw [hSSs, hSSs]
                      · rfl
                      · intro w' hA; clear hA; go_simp; try with_reducible rfl
                      clear hCl hHeld
                      intro hCl hHeld
                      simp only [List.setIfInBounds_toArray, List.set_cons_zero, List.set_cons_succ] at hCl hHeld
                      try simp only [Act.put]
                      try simp only [List.setIfInBounds_toArray, List.set_cons_zero, List.set_cons_succ]
                      refine reg_takeG 17 ?_ ?_ ?_ (by kernel_rfl) (by kernel_rfl) (by kernel_rfl) (fun _ _ _ h => h) ?_ ?_ ?_ hCl hHeld ?_
                      rotate_left 2
                      · simp only [List.getElem?_toArray, List.getElem?_cons_succ, List.getElem?_cons_zero]; exact rfl
                      · intro l w'; rw [hSSs, hSSs]
                      · rfl
                      · intro w' hA; obtain ⟨l, hl, hi, hSl⟩ := hA; have hSl := (hSSs _ _).1 hSl; obtain ⟨hz0, hz1⟩ := hSl; go_simp; try with_reducible rfl
                      clear hCl hHeld
                      intro hCl hHeld
                      simp only [List.setIfInBounds_toArray, List.set_cons_zero, List.set_cons_succ] at hCl hHeld
                      try simp only [Act.put]
                      try simp only [List.setIfInBounds_toArray, List.set_cons_zero, List.set_cons_succ]
                      refine reg_takeG 18 ?_ ?_ ?_ (by kernel_rfl) (by kernel_rfl) (by kernel_rfl) (fun _ _ _ h => h) ?_ ?_ ?_ hCl hHeld ?_
                      rotate_left 2
                      · simp only [List.getElem?_toArray, List.getElem?_cons_succ, List.getElem?_cons_zero]; exact rfl
                      · intro l w'; rw [hSSs, hSSs]
                      · rfl
                      · intro w' hA; clear hA; go_simp; try with_reducible rfl
                      clear hCl hHeld
                      intro hCl hHeld
                      simp only [List.setIfInBounds_toArray, List.set_cons_zero, List.set_cons_succ] at hCl hHeld
                      try simp only [Act.put]
                      try simp only [List.setIfInBounds_toArray, List.set_cons_zero, List.set_cons_succ]
                      refine reg_takeG 19 ?_ ?_ ?_ (by kernel_rfl) (by kernel_rfl) (by kernel_rfl) (fun _ _ _ h => h) ?_ ?_ ?_ hCl hHeld ?_
                      rotate_left 2
                      · simp only [List.getElem?_toArray, List.getElem?_cons_succ, List.getElem?_cons_zero]; exact rfl
                      · intro l w'; rw [hSSs, hSSs]
                      · rfl
                      · intro w' hA; clear hA; go_simp; try with_reducible rfl
                      clear hCl hHeld
                      intro hCl hHeld
                      simp only [List.setIfInBounds_toArray, List.set_cons_zero, List.set_cons_succ] at hCl hHeld
                      try simp only [Act.put]
                      try simp only [List.setIfInBounds_toArray, List.set_cons_zero, List.set_cons_succ]
                      clear hCl hHeld
                      refine reg_callG 20 ?_ (by kernel_rfl) ?_ (fun K hK => ?_)
                      rotate_left 1
                      · simp only [List.getElem?_toArray, List.getElem?_cons_succ, List.getElem?_cons_zero]; exact rfl
                      go_simp
                      clear hx0 hx1 hup
                      refine hK.out _ _ ((hSSs _ _).2 ⟨hy0, hy1⟩) ?_
                      clear hK K
                      try simp only [Act.put]
                      try simp only [List.setIfInBounds_toArray, List.set_cons_zero, List.set_cons_succ]
                      refine wpAnyG_done (by kernel_rfl) ?_ _
                      refine NoPanic.normal ?_
                      clear hSSs SSs
                      go_wp2
                      have hnn := HNN.out
                      refine ⟨⟨_, _, _, _, _, _, _, _, _, _, _, _, _, _, _, _, _, _, _, _, _, _, _, _, _, _, _, _, _, _, _, _, _, _, ?_, rfl⟩, by simp [intOf]⟩
                      exact ⟨1 + 1, by omega, by go_num, congrArg (Value.int .i64) (by omega), ⟨_, FIN.out.1⟩, FIN.out.2.1, FIN.out.2.2⟩
                    · obtain ⟨mn, hmn⟩ : ∃ mn : Int, (if (x : Int) < (z : Int) then (x : Int) else (z : Int)) = mn := ⟨_, rfl⟩
                      obtain ⟨mx, hmx⟩ : ∃ mx : Int, (if (x : Int) > (z : Int) then (x : Int) else (z : Int)) = mx := ⟨_, rfl⟩
                      have bmn : -1000000 ≤ mn ∧ mn ≤ 1000000 := by rw [← hmn]; split <;> omega
                      have bmx : -1000000 ≤ mx ∧ mx ≤ 1000000 := by rw [← hmx]; split <;> omega
                      have hmin : ∀ w : World, Sem.run Try.prog (Builtin.min_ #[3, 3] 3 #[.int .i64 (z : Int), .int .i64 (x : Int)]) w = Result.ok (Value.int .i64 mn) w := fun w => by rw [run_min_int2, hmn]
                      have hmax : ∀ w : World, Sem.run Try.prog (Builtin.max_ #[3, 3] 3 #[.int .i64 (z : Int), .int .i64 (x : Int)]) w = Result.ok (Value.int .i64 mx) w := fun w => by rw [run_max_int2, hmx]
                      have hwk : (IntKind.i64.wrap 3).tmod 3 = 0 := by decide
                      obtain ⟨wm, F4, hup, hT4, hF4⟩ := fault_store HF3.out bmn bmx
                      have hx0 := HBX3.out.c 2 _ rfl; have hx1 := HBX3.out.c 0 _ rfl
                      have hbx4 := HBX3.out.turned hT4 (by omega)
                      have hbw4 : Below fb w7 wm := Below.turned HBW3.out hT4 (Nat.le_refl _)
                      have hy0 := hbx4.c 2 _ rfl; have hy1 := hbx4.c 0 _ rfl
                      have FIN := Lib.hid (And.intro hF4 (And.intro hbx4 hbw4))
                      clear hmn hmx bmn bmx hT4 hF4 hbx4 hbw4
                      go_wp2_with fail
                      obtain ⟨SSs, hSSs⟩ : ∃ S : Array Bool → World → Prop, ∀ l w', S l w' ↔ ((w'.cell? ⟨tb, 2, none⟩ = some (.int .i64 (z : Int))) ∧ (w'.cell? ⟨tb, 0, none⟩ = some (.int .i64 (x : Int)))) := ⟨_, fun _ _ => Iff.rfl⟩
                      refine wp_region_noPanic ?_
                      refine wp_region_G SSs 21 #[false, false, false, false, false, false, false, false, false, false, false, false, false, false, false, false, false, false, false, false, false] (by kernel_rfl) (by kernel_rfl) (by kernel_rfl) ((hSSs _ _).2 ⟨hx0, hx1⟩) (fun hCl hHeld => ?_)
                      generalize wr.drew = wd at *
                      refine reg_takeG 0 ?_ ?_ ?_ (by kernel_rfl) (by kernel_rfl) (by kernel_rfl) (fun _ _ _ h => h) ?_ ?_ ?_ hCl hHeld ?_
                      rotate_left 2
                      · simp only [List.getElem?_toArray, List.getElem?_cons_zero]; exact rfl
                      · intro l w'; rw [hSSs, hSSs]
                      · rfl
                      · intro w' hA; clear hA; go_simp; try with_reducible rfl
                      clear hCl hHeld
                      intro hCl hHeld
                      simp only [List.setIfInBounds_toArray, List.set_cons_zero] at hCl hHeld
                      try simp only [Act.put]
                      try simp only [List.setIfInBounds_toArray, List.set_cons_zero, List.set_cons_succ]
                      refine reg_takeG 1 ?_ ?_ ?_ (by kernel_rfl) (by kernel_rfl) (by kernel_rfl) (fun _ _ _ h => h) ?_ ?_ ?_ hCl hHeld ?_
                      rotate_left 2
                      · simp only [List.getElem?_toArray, List.getElem?_cons_succ, List.getElem?_cons_zero]; exact rfl
                      · intro l w'; rw [hSSs, hSSs]
                      · rfl
                      · intro w' hA; clear hA; go_simp; try with_reducible rfl
                      clear hCl hHeld
                      intro hCl hHeld
                      simp only [List.setIfInBounds_toArray, List.set_cons_zero, List.set_cons_succ] at hCl hHeld
                      try simp only [Act.put]
                      try simp only [List.setIfInBounds_toArray, List.set_cons_zero, List.set_cons_succ]
                      refine reg_takeG 2 ?_ ?_ ?_ (by kernel_rfl) (by kernel_rfl) (by kernel_rfl) (fun _ _ _ h => h) ?_ ?_ ?_ hCl hHeld ?_
                      rotate_left 2
                      · simp only [List.getElem?_toArray, List.getElem?_cons_succ, List.getElem?_cons_zero]; exact rfl
                      · intro l w'; rw [hSSs, hSSs]
                      · rfl
                      · intro w' hA; clear hA; go_simp; try with_reducible rfl
                      clear hCl hHeld
                      intro hCl hHeld
                      simp only [List.setIfInBounds_toArray, List.set_cons_zero, List.set_cons_succ] at hCl hHeld
                      try simp only [Act.put]
                      try simp only [List.setIfInBounds_toArray, List.set_cons_zero, List.set_cons_succ]
                      refine reg_takeG 3 ?_ ?_ ?_ (by kernel_rfl) (by kernel_rfl) (by kernel_rfl) (fun _ _ _ h => h) ?_ ?_ ?_ hCl hHeld ?_
                      rotate_left 2
                      · simp only [List.getElem?_toArray, List.getElem?_cons_succ, List.getElem?_cons_zero]; exact rfl
                      · intro l w'; rw [hSSs, hSSs]
                      · rfl
                      · intro w' hA; obtain ⟨l, hl, hi, hSl⟩ := hA; have hSl := (hSSs _ _).1 hSl; obtain ⟨hz0, hz1⟩ := hSl; go_simp; try with_reducible rfl
                      clear hCl hHeld
                      intro hCl hHeld
                      simp only [List.setIfInBounds_toArray, List.set_cons_zero, List.set_cons_succ] at hCl hHeld
                      try simp only [Act.put]
                      try simp only [List.setIfInBounds_toArray, List.set_cons_zero, List.set_cons_succ]
                      refine reg_takeG 4 ?_ ?_ ?_ (by kernel_rfl) (by kernel_rfl) (by kernel_rfl) (fun _ _ _ h => h) ?_ ?_ ?_ hCl hHeld ?_
                      rotate_left 2
                      · simp only [List.getElem?_toArray, List.getElem?_cons_succ, List.getElem?_cons_zero]; exact rfl
                      · intro l w'; rw [hSSs, hSSs]
                      · rfl
                      · intro w' hA; clear hA; go_simp; try with_reducible rfl
                      clear hCl hHeld
                      intro hCl hHeld
                      simp only [List.setIfInBounds_toArray, List.set_cons_zero, List.set_cons_succ] at hCl hHeld
                      try simp only [Act.put]
                      try simp only [List.setIfInBounds_toArray, List.set_cons_zero, List.set_cons_succ]
                      refine reg_takeG 5 ?_ ?_ ?_ (by kernel_rfl) (by kernel_rfl) (by kernel_rfl) (fun _ _ _ h => h) ?_ ?_ ?_ hCl hHeld ?_
                      rotate_left 2
                      · simp only [List.getElem?_toArray, List.getElem?_cons_succ, List.getElem?_cons_zero]; exact rfl
                      · intro l w'; rw [hSSs, hSSs]
                      · rfl
                      · intro w' hA; clear hA; go_simp; try with_reducible rfl
                      clear hCl hHeld
                      intro hCl hHeld
                      simp only [List.setIfInBounds_toArray, List.set_cons_zero, List.set_cons_succ] at hCl hHeld
                      try simp only [Act.put]
                      try simp only [List.setIfInBounds_toArray, List.set_cons_zero, List.set_cons_succ]
                      refine reg_takeG 6 ?_ ?_ ?_ (by kernel_rfl) (by kernel_rfl) (by kernel_rfl) (fun _ _ _ h => h) ?_ ?_ ?_ hCl hHeld ?_
                      rotate_left 2
                      · simp only [List.getElem?_toArray, List.getElem?_cons_succ, List.getElem?_cons_zero]; exact rfl
                      · intro l w'; rw [hSSs, hSSs]
                      · rfl
                      · intro w' hA; clear hA; go_simp; try with_reducible rfl
                      clear hCl hHeld
                      intro hCl hHeld
                      simp only [List.setIfInBounds_toArray, List.set_cons_zero, List.set_cons_succ] at hCl hHeld
                      try simp only [Act.put]
                      try simp only [List.setIfInBounds_toArray, List.set_cons_zero, List.set_cons_succ]
                      refine reg_takeG 7 ?_ ?_ ?_ (by kernel_rfl) (by kernel_rfl) (by kernel_rfl) (fun _ _ _ h => h) ?_ ?_ ?_ hCl hHeld ?_
                      rotate_left 2
                      · simp only [List.getElem?_toArray, List.getElem?_cons_succ, List.getElem?_cons_zero]; exact rfl
                      · intro l w'; rw [hSSs, hSSs]
                      · rfl
                      · intro w' hA; clear hA; go_simp; try with_reducible rfl
                      clear hCl hHeld
                      intro hCl hHeld
                      simp only [List.setIfInBounds_toArray, List.set_cons_zero, List.set_cons_succ] at hCl hHeld
                      try simp only [Act.put]
                      try simp only [List.setIfInBounds_toArray, List.set_cons_zero, List.set_cons_succ]
                      refine reg_takeG 8 ?_ ?_ ?_ (by kernel_rfl) (by kernel_rfl) (by kernel_rfl) (fun _ _ _ h => h) ?_ ?_ ?_ hCl hHeld ?_
                      rotate_left 2
                      · simp only [List.getElem?_toArray, List.getElem?_cons_succ, List.getElem?_cons_zero]; exact rfl
                      · intro l w'; rw [hSSs, hSSs]
                      · rfl
                      · intro w' hA; obtain ⟨l, hl, hi, hSl⟩ := hA; have hSl := (hSSs _ _).1 hSl; obtain ⟨hz0, hz1⟩ := hSl; go_simp; try with_reducible rfl
                      clear hCl hHeld
                      intro hCl hHeld
                      simp only [List.setIfInBounds_toArray, List.set_cons_zero, List.set_cons_succ] at hCl hHeld
                      try simp only [Act.put]
                      try simp only [List.setIfInBounds_toArray, List.set_cons_zero, List.set_cons_succ]
                      refine reg_takeG 9 ?_ ?_ ?_ (by kernel_rfl) (by kernel_rfl) (by kernel_rfl) (fun _ _ _ h => h) ?_ ?_ ?_ hCl hHeld ?_
                      rotate_left 2
                      · simp only [List.getElem?_toArray, List.getElem?_cons_succ, List.getElem?_cons_zero]; exact rfl
                      · intro l w'; rw [hSSs, hSSs]
                      · rfl
                      · intro w' hA; clear hA; go_simp; try with_reducible rfl
                      clear hCl hHeld
                      intro hCl hHeld
                      simp only [List.setIfInBounds_toArray, List.set_cons_zero, List.set_cons_succ] at hCl hHeld
                      try simp only [Act.put]
                      try simp only [List.setIfInBounds_toArray, List.set_cons_zero, List.set_cons_succ]
                      refine reg_takeG 10 ?_ ?_ ?_ (by kernel_rfl) (by kernel_rfl) (by kernel_rfl) (fun _ _ _ h => h) ?_ ?_ ?_ hCl hHeld ?_
                      rotate_left 2
                      · simp only [List.getElem?_toArray, List.getElem?_cons_succ, List.getElem?_cons_zero]; exact rfl
                      · intro l w'; rw [hSSs, hSSs]
                      · rfl
                      · intro w' hA; clear hA; go_simp; try with_reducible rfl
                      clear hCl hHeld
                      intro hCl hHeld
                      simp only [List.setIfInBounds_toArray, List.set_cons_zero, List.set_cons_succ] at hCl hHeld
                      try simp only [Act.put]
                      try simp only [List.setIfInBounds_toArray, List.set_cons_zero, List.set_cons_succ]
                      refine reg_takeG 11 ?_ ?_ ?_ (by kernel_rfl) (by kernel_rfl) (by kernel_rfl) (fun _ _ _ h => h) ?_ ?_ ?_ hCl hHeld ?_
                      rotate_left 2
                      · simp only [List.getElem?_toArray, List.getElem?_cons_succ, List.getElem?_cons_zero]; exact rfl
                      · intro l w'; rw [hSSs, hSSs]
                      · rfl
                      · intro w' hA; clear hA; go_simp; try with_reducible rfl
                      clear hCl hHeld
                      intro hCl hHeld
                      simp only [List.setIfInBounds_toArray, List.set_cons_zero, List.set_cons_succ] at hCl hHeld
                      try simp only [Act.put]
                      try simp only [List.setIfInBounds_toArray, List.set_cons_zero, List.set_cons_succ]
                      refine reg_takeG 12 ?_ ?_ ?_ (by kernel_rfl) (by kernel_rfl) (by kernel_rfl) (fun _ _ _ h => h) ?_ ?_ ?_ hCl hHeld ?_
                      rotate_left 2
                      · simp only [List.getElem?_toArray, List.getElem?_cons_succ, List.getElem?_cons_zero]; exact rfl
                      · intro l w'; rw [hSSs, hSSs]
                      · rfl
                      · intro w' hA; obtain ⟨l, hl, hi, hSl⟩ := hA; have hSl := (hSSs _ _).1 hSl; obtain ⟨hz0, hz1⟩ := hSl; go_simp; try with_reducible rfl
                      clear hCl hHeld
                      intro hCl hHeld
                      simp only [List.setIfInBounds_toArray, List.set_cons_zero, List.set_cons_succ] at hCl hHeld
                      try simp only [Act.put]
                      try simp only [List.setIfInBounds_toArray, List.set_cons_zero, List.set_cons_succ]
                      refine reg_takeG 13 ?_ ?_ ?_ (by kernel_rfl) (by kernel_rfl) (by kernel_rfl) (fun _ _ _ h => h) ?_ ?_ ?_ hCl hHeld ?_
                      rotate_left 2
                      · simp only [List.getElem?_toArray, List.getElem?_cons_succ, List.getElem?_cons_zero]; exact rfl
                      · intro l w'; rw [hSSs, hSSs]
                      · rfl
                      · intro w' hA; clear hA; go_simp; try with_reducible rfl
                      clear hCl hHeld
                      intro hCl hHeld
                      simp only [List.setIfInBounds_toArray, List.set_cons_zero, List.set_cons_succ] at hCl hHeld
                      try simp only [Act.put]
                      try simp only [List.setIfInBounds_toArray, List.set_cons_zero, List.set_cons_succ]
                      refine reg_takeG 14 ?_ ?_ ?_ (by kernel_rfl) (by kernel_rfl) (by kernel_rfl) (fun _ _ _ h => h) ?_ ?_ ?_ hCl hHeld ?_
                      rotate_left 2
                      · simp only [List.getElem?_toArray, List.getElem?_cons_succ, List.getElem?_cons_zero]; exact rfl
                      · intro l w'; rw [hSSs, hSSs]
                      · rfl
                      · intro w' hA; clear hA; go_simp; try with_reducible rfl
                      clear hCl hHeld
                      intro hCl hHeld
                      simp only [List.setIfInBounds_toArray, List.set_cons_zero, List.set_cons_succ] at hCl hHeld
                      try simp only [Act.put]
                      try simp only [List.setIfInBounds_toArray, List.set_cons_zero, List.set_cons_succ]
                      refine reg_takeG 15 ?_ ?_ ?_ (by kernel_rfl) (by kernel_rfl) (by kernel_rfl) (fun _ _ _ h => h) ?_ ?_ ?_ hCl hHeld ?_
                      rotate_left 2
                      · simp only [List.getElem?_toArray, List.getElem?_cons_succ, List.getElem?_cons_zero]; exact rfl
                      · intro l w'; rw [hSSs, hSSs]
                      · rfl
                      · intro w' hA; clear hA; go_simp; try with_reducible rfl
                      clear hCl hHeld
                      intro hCl hHeld
                      simp only [List.setIfInBounds_toArray, List.set_cons_zero, List.set_cons_succ] at hCl hHeld
                      try simp only [Act.put]
                      try simp only [List.setIfInBounds_toArray, List.set_cons_zero, List.set_cons_succ]
                      refine reg_takeG 16 ?_ ?_ ?_ (by kernel_rfl) (by kernel_rfl) (by kernel_rfl) (fun _ _ _ h => h) ?_ ?_ ?_ hCl hHeld ?_
                      rotate_left 2
                      · simp only [List.getElem?_toArray, List.getElem?_cons_succ, List.getElem?_cons_zero]; exact rfl
                      · intro l w'; rw [hSSs, hSSs]
                      · rfl
                      · intro w' hA; clear hA; go_simp; try with_reducible rfl
                      clear hCl hHeld
                      intro hCl hHeld
                      simp only [List.setIfInBounds_toArray, List.set_cons_zero, List.set_cons_succ] at hCl hHeld
                      try simp only [Act.put]
                      try simp only [List.setIfInBounds_toArray, List.set_cons_zero, List.set_cons_succ]
                      refine reg_takeG 17 ?_ ?_ ?_ (by kernel_rfl) (by kernel_rfl) (by kernel_rfl) (fun _ _ _ h => h) ?_ ?_ ?_ hCl hHeld ?_
                      rotate_left 2
                      · simp only [List.getElem?_toArray, List.getElem?_cons_succ, List.getElem?_cons_zero]; exact rfl
                      · intro l w'; rw [hSSs, hSSs]
                      · rfl
                      · intro w' hA; obtain ⟨l, hl, hi, hSl⟩ := hA; have hSl := (hSSs _ _).1 hSl; obtain ⟨hz0, hz1⟩ := hSl; go_simp; try with_reducible rfl
                      clear hCl hHeld
                      intro hCl hHeld
                      simp only [List.setIfInBounds_toArray, List.set_cons_zero, List.set_cons_succ] at hCl hHeld
                      try simp only [Act.put]
                      try simp only [List.setIfInBounds_toArray, List.set_cons_zero, List.set_cons_succ]
                      refine reg_takeG 18 ?_ ?_ ?_ (by kernel_rfl) (by kernel_rfl) (by kernel_rfl) (fun _ _ _ h => h) ?_ ?_ ?_ hCl hHeld ?_
                      rotate_left 2
                      · simp only [List.getElem?_toArray, List.getElem?_cons_succ, List.getElem?_cons_zero]; exact rfl
                      · intro l w'; rw [hSSs, hSSs]
                      · rfl
                      · intro w' hA; clear hA; go_simp; try with_reducible rfl
                      clear hCl hHeld
                      intro hCl hHeld
                      simp only [List.setIfInBounds_toArray, List.set_cons_zero, List.set_cons_succ] at hCl hHeld
                      try simp only [Act.put]
                      try simp only [List.setIfInBounds_toArray, List.set_cons_zero, List.set_cons_succ]
                      refine reg_takeG 19 ?_ ?_ ?_ (by kernel_rfl) (by kernel_rfl) (by kernel_rfl) (fun _ _ _ h => h) ?_ ?_ ?_ hCl hHeld ?_
                      rotate_left 2
                      · simp only [List.getElem?_toArray, List.getElem?_cons_succ, List.getElem?_cons_zero]; exact rfl
                      · intro l w'; rw [hSSs, hSSs]
                      · rfl
                      · intro w' hA; clear hA; go_simp; try with_reducible rfl
                      clear hCl hHeld
                      intro hCl hHeld
                      simp only [List.setIfInBounds_toArray, List.set_cons_zero, List.set_cons_succ] at hCl hHeld
                      try simp only [Act.put]
                      try simp only [List.setIfInBounds_toArray, List.set_cons_zero, List.set_cons_succ]
                      clear hCl hHeld
                      refine reg_callG 20 ?_ (by kernel_rfl) ?_ (fun K hK => ?_)
                      rotate_left 1
                      · simp only [List.getElem?_toArray, List.getElem?_cons_succ, List.getElem?_cons_zero]; exact rfl
                      go_simp
                      clear hx0 hx1 hup
                      refine hK.out _ _ ((hSSs _ _).2 ⟨hy0, hy1⟩) ?_
                      clear hK K
                      try simp only [Act.put]
                      try simp only [List.setIfInBounds_toArray, List.set_cons_zero, List.set_cons_succ]
                      refine wpAnyG_done (by kernel_rfl) ?_ _
                      refine NoPanic.normal ?_
                      clear hSSs SSs
                      go_wp2
                      have hnn := HNN.out
                      refine ⟨⟨_, _, _, _, _, _, _, _, _, _, _, _, _, _, _, _, _, _, _, _, _, _, _, _, _, _, _, _, _, _, _, _, _, _, ?_, rfl⟩, by simp [intOf]⟩
                      exact ⟨2 + 1, by omega, by go_num, congrArg (Value.int .i64) (by omega), ⟨_, FIN.out.1⟩, FIN.out.2.1, FIN.out.2.2⟩
                · obtain rfl : i = 3 := by omega
                  have FIN := Lib.hid (And.intro hF2 hbw)
                  clear hF2 hbw hbx
                  go_wp2
                  exact ⟨⟨j + 1, by omega, by go_num, congrArg (Value.int .i64) (by omega), ⟨_, FIN.out.1⟩, FIN.out.2⟩, by simp [intOf]; omega⟩
            · obtain rfl : j = 8 := by omega
              have hgl := HM.out.len
              obtain ⟨⟨ta, tb, tc⟩, h0⟩ : ∃ v, (gridT 2 2 bn)[0]? = some v := ⟨_, List.getElem?_eq_getElem (by omega)⟩
              have hz := HM.out.one _ (List.mem_of_getElem? h0)
              simp only [] at hz
              have hb7 : Below w7.heap.size w7 wr := by rw [HFB.out]; exact hbw
              have hpr : RowN wr (w.heap.size + 1) 26 2 (.slice (some ⟨gp, 0, none⟩) 9 gpc) 9 (ptsCells (gridP 2 2)) := (HROW.out.below HBT.out).below hb7
              have htr := HTR.out.below hb7
              have hbu := Build_any F (gridT 2 2 bn) ta tb tc fb gt 8 gtc gp 9 gpc (gridP 2 2) wr OK.out.good h0 hz (by omega) (by omega) OK.out.pts htr hF rfl (by omega) (by omega) HPS.out hpr.ptsC HM.out.some_ (by have := HM.out.few; omega) HM.out.ends
              have HBU := Lib.hid hbu; have HTRR := Lib.hid htr
              have HBWR := Lib.hid (HBW.out.trans ((HBT.out.trans (hb7.mono HBT.out.size)).mono HBW.out.size))
              have hgt := HGTL.out.1; have hsz5 := HBW.out.size
              clear hbu htr hpr hb7 hF hbw hz h0 hgl
              go_wp2_with fail
              refine HBU.out.mono ?_
              rintro e w9 ⟨mb, rfl, hbe, hb9⟩
              have hbs := HBWR.out.size
              have FIN := Lib.hid (And.intro (hbe.low hbs) (And.intro (HTRR.out.below hb9) (HBWR.out.trans (hb9.mono hbs))))
              clear hbe hb9
              go_wp2
              go_ret2
              exact ⟨mb, gt, gtc, F, rfl, FIN.out.1, FIN.out.2.1, by omega, FIN.out.2.2⟩
end Go.Proofs.Ytaedaknkpfeipaa
/- The statements' Grid, whatever it is asked: what comes. -/
namespace Go.Proofs.Ytaedaknkpfeipaa
open Go.RowKit Go.MagM
/-- What Grid leaves. -/
structure GridIs (w : World) (B mb pb pc tb tc g W H bn : Nat) (F : Int → Int → Bool) (Bd : List (Nat × Nat)) (S : List TriM) : Prop where
  mesh : MeshO 26 37 w B mb pb pc (.slice (some ⟨tb, 0, none⟩) S.length tc) (gridP W H) S
  pts : B ≤ pb
  built : Built (faF F) (gridT W H bn) Bd S
  tr : TrIn w g ((gridT W H bn).map realV)
  row : B ≤ g
  hW : W = 1 ∨ W = 2
  hH : H = 1 ∨ H = 2
  hb : bn < 16
theorem GridIs.below {w w' : World} {B mb pb pc tb tc g W H bn : Nat} {F : Int → Int → Bool} {Bd : List (Nat × Nat)} {S : List TriM} (h : GridIs w B mb pb pc tb tc g W H bn F Bd S) (hb : Below w.heap.size w w') : GridIs w' B mb pb pc tb tc g W H bn F Bd S :=
  ⟨h.mesh.below hb, h.pts, h.built, h.tr.below hb, h.row, h.hW, h.hH, h.hb⟩
theorem GridIs.drew {w : World} {B mb pb pc tb tc g W H bn : Nat} {F : Int → Int → Bool} {Bd : List (Nat × Nat)} {S : List TriM} (h : GridIs w B mb pb pc tb tc g W H bn F Bd S) : GridIs w.drew B mb pb pc tb tc g W H bn F Bd S := h.below (Below.refl _ _).drew'
theorem GridIs.read {w : World} {B mb pb pc tb tc g W H bn : Nat} {F : Int → Int → Bool} {Bd : List (Nat × Nat)} {S : List TriM} (h : GridIs w B mb pb pc tb tc g W H bn F Bd S) : MeshR w mb pb pc (some ⟨tb, 0, none⟩) tc (gridP W H) S := by
  obtain ⟨ta, tc', e, hr⟩ := h.mesh.read
  simp only [Value.slice.injEq] at e
  obtain ⟨rfl, -, rfl⟩ := e
  exact hr
theorem GridIs.sound {w : World} {B mb pb pc tb tc g W H bn : Nat} {F : Int → Int → Bool} {Bd : List (Nat × Nat)} {S : List TriM} (h : GridIs w B mb pb pc tb tc g W H bn F Bd S) : SoundIs (gridP W H) S true := by
  have ok := grid_ok h.hW h.hH h.hb
  exact built_sound h.built ok.turn ok.some_ ok.rim
theorem GridIs.inP {w : World} {B mb pb pc tb tc g W H bn : Nat} {F : Int → Int → Bool} {Bd : List (Nat × Nat)} {S : List TriM} (h : GridIs w B mb pb pc tb tc g W H bn F Bd S) : InPs (gridP W H) := grid_inPs h.hW h.hH
theorem GridIs.sizes {w : World} {B mb pb pc tb tc g W H bn : Nat} {F : Int → Int → Bool} {Bd : List (Nat × Nat)} {S : List TriM} (h : GridIs w B mb pb pc tb tc g W H bn F Bd S) : 4 ≤ (gridP W H).length ∧ (gridP W H).length ≤ 9 ∧ 4 ≤ S.length ∧ S.length ≤ 16 := by
  have ok := grid_ok h.hW h.hH h.hb
  have hm := grid_has h.hW h.hH h.hb
  have h1 := ok.many; have h2 := ok.few; have h3 := hm.few; have h4 := ok.four; have h5 := h.built.len; have h6 := h.built.perm.length_eq
  have h7 : 4 ≤ (W + 1) * (H + 1) ∧ (W + 1) * (H + 1) ≤ 9 := by
    rcases h.hW with e | e <;> rcases h.hH with e' | e' <;> rw [e, e'] <;> decide
  omega
theorem and_one (x : Int) : bits .and .i64 x 1 = 0 ∨ bits .and .i64 x 1 = 1 := by
  have h1 : (BitVec.ofInt 64 (1 : Int)).toNat = 1 := by decide
  have h2 : (BitVec.ofInt 64 x).toNat &&& 1 ≤ 1 := Nat.and_le_right
  have h3 : bits .and .i64 x 1 = (((BitVec.ofInt 64 x).toNat &&& 1 : Nat) : Int) := by
    show IntKind.i64.wrap ((BitVec.ofInt 64 x &&& BitVec.ofInt 64 (1 : Int)).toNat : Int) = _
    rw [BitVec.toNat_and, h1, IntKind.wrap_i64]
    omega
  rw [h3]; omega
theorem Grid_any (w0 h0 b f : Int) (w : World) :
    Calls Try.prog 20 #[.int .i64 w0, .int .i64 h0, .int .u32 b, .int .u32 f] w fun e w' => ∃ (mb pb pc tb tc g gn gc W H bn : Nat) (F : Int → Int → Bool) (Bd : List (Nat × Nat)) (S : List TriM), e = .returned (.tuple #[.pointer (some ⟨mb, 0, none⟩), .slice (some ⟨g, 0, none⟩) gn gc]) ∧ gn = (gridT W H bn).length ∧ GridIs w' w.heap.size mb pb pc tb tc g W H bn F Bd S ∧ Below w.heap.size w w' := by
  obtain ⟨bn, hbn, hbit⟩ := bits_of b
  have fin : ∀ {W H : Nat} (hW : W = 1 ∨ W = 2) (hH : H = 1 ∨ H = 2) {NT : Nat}, NT = 2 * (W * H) → (Calls Try.prog 20 #[.int .i64 w0, .int .i64 h0, .int .u32 b, .int .u32 f] w fun e w' => ∃ (mb g c : Nat) (F : Int → Int → Bool), e = .returned (.tuple #[.pointer (some ⟨mb, 0, none⟩), .slice (some ⟨g, 0, none⟩) NT c]) ∧ BuildEnd 26 37 F w.heap.size (gridP W H) (gridT W H bn) mb w' ∧ TrIn w' g ((gridT W H bn).map realV) ∧ w.heap.size ≤ g ∧ Below w.heap.size w w') →
      Calls Try.prog 20 #[.int .i64 w0, .int .i64 h0, .int .u32 b, .int .u32 f] w fun e w' => ∃ (mb pb pc tb tc g gn gc W H bn : Nat) (F : Int → Int → Bool) (Bd : List (Nat × Nat)) (S : List TriM), e = .returned (.tuple #[.pointer (some ⟨mb, 0, none⟩), .slice (some ⟨g, 0, none⟩) gn gc]) ∧ gn = (gridT W H bn).length ∧ GridIs w' w.heap.size mb pb pc tb tc g W H bn F Bd S ∧ Below w.heap.size w w' := by
    intro W H hW hH NT hNT hc
    refine hc.mono ?_
    rintro e w' ⟨mb, g, c, F, rfl, ⟨pb, pc, tv, S, Bd, hm, hpb, hp, hbs, hj⟩, htr, hg, hb⟩
    have ok := grid_ok hW hH hbn
    have hmo := grid_has hW hH hbn
    have hbu := Built.of ok.good ok.four hp hbs hj
    have h0 : 0 < S.length := by have := hbu.len; have := ok.four; have := hp.length_eq; omega
    obtain ⟨t, ht⟩ : ∃ t, S[0]? = some t := ⟨_, List.getElem?_eq_getElem h0⟩
    obtain ⟨tb, tc, rfl⟩ := hm.slot ht
    exact ⟨mb, pb, pc, tb, tc, g, _, c, W, H, bn, F, Bd, S, rfl, by rw [hmo.len]; exact hNT, ⟨hm, hpb, hbu, htr, hg, hW, hH, hbn⟩, hb⟩
  rcases and_one w0 with e1 | e1 <;> rcases and_one h0 with e2 | e2
  · exact fin (W := 1) (H := 1) (by omega) (by omega) rfl (Grid11_any w0 h0 b f bn hbn e1 e2 hbit w)
  · exact fin (W := 1) (H := 2) (by omega) (by omega) rfl (Grid12_any w0 h0 b f bn hbn e1 e2 hbit w)
  · exact fin (W := 2) (H := 1) (by omega) (by omega) rfl (Grid21_any w0 h0 b f bn hbn e1 e2 hbit w)
  · exact fin (W := 2) (H := 2) (by omega) (by omega) rfl (Grid22_any w0 h0 b f bn hbn e1 e2 hbit w)
end Go.Proofs.Ytaedaknkpfeipaa
/- Going round a point of a grid: each triangle that has it comes once. Over no program; written ahead of layer 9's code. -/
namespace Go.MagM
/-- The next one, to the left: it begins where this one ends. -/
def nextS (R : List (Nat × Nat)) (s : Nat × Nat) : Nat × Nat := (R.find? fun p => p.1 == s.2).getD (0, 0)
def walkS (R : List (Nat × Nat)) : Nat → Nat × Nat → List (Nat × Nat)
  | 0, _ => []
  | n + 1, s => s :: walkS R n (nextS R s)
def iterS (R : List (Nat × Nat)) : Nat → Nat × Nat → Nat × Nat
  | 0, s => s
  | n + 1, s => iterS R n (nextS R s)
/-- From each of them on all come, each once, and then the first one again. -/
def roundS (R : List (Nat × Nat)) : Bool := (R.map (·.1)).Nodup && (R.map (·.2)).Nodup && R.all fun s => (walkS R R.length s).Nodup && (walkS R R.length s).all (fun p => R.contains p) && iterS R R.length s == s && R.any (fun p => p.1 == s.2)
/-- As a proposition: what follows what hangs on the set of them alone. -/
structure Round (R : List (Nat × Nat)) : Prop where
  firsts : (R.map (·.1)).Nodup
  seconds : (R.map (·.2)).Nodup
  next : ∀ s, s ∈ R → ∃ p, p ∈ R ∧ p.1 = s.2
  walk : ∀ s, s ∈ R → (walkS R R.length s).Nodup ∧ (∀ p, p ∈ walkS R R.length s → p ∈ R) ∧ iterS R R.length s = s
theorem Round.of {R : List (Nat × Nat)} (h : roundS R = true) : Round R := by
  unfold roundS at h
  simp only [Bool.and_eq_true, decide_eq_true_eq, List.all_eq_true, List.contains_iff_mem, beq_iff_eq, List.any_eq_true] at h
  obtain ⟨⟨h1, h2⟩, h3⟩ := h
  exact ⟨h1, h2, fun s hs => by obtain ⟨p, hp, e⟩ := (h3 s hs).2; exact ⟨p, hp, e⟩, fun s hs => ⟨(h3 s hs).1.1.1, (h3 s hs).1.1.2, (h3 s hs).1.2⟩⟩
theorem walkS_len (R : List (Nat × Nat)) : ∀ n s, (walkS R n s).length = n
  | 0, _ => rfl
  | n + 1, s => by rw [walkS, List.length_cons, walkS_len R n]
/-- All come. -/
theorem subset_of_len {α : Type} [DecidableEq α] : ∀ {l R : List α}, l.Nodup → (∀ x, x ∈ l → x ∈ R) → R.length ≤ l.length → ∀ x, x ∈ R → x ∈ l
  | [], R, _, _, hl, x, hx => by
    have : R = [] := List.eq_nil_of_length_eq_zero (by simpa using hl)
    rw [this] at hx; cases hx
  | a :: t, R, hn, hs, hl, x, hx => by
    have hn' := List.nodup_cons.1 hn
    by_cases e : x = a
    · rw [e]; simp
    · refine List.mem_cons_of_mem _ (subset_of_len (R := R.erase a) hn'.2 (fun y hy => ?_) ?_ x ?_)
      · have hya : y ≠ a := fun e => hn'.1 (e ▸ hy)
        exact (List.mem_erase_of_ne hya).2 (hs y (List.mem_cons_of_mem _ hy))
      · rw [List.length_erase_of_mem (hs a (by simp))]
        simp at hl; omega
      · exact (List.mem_erase_of_ne e).2 hx
theorem Round.all {R : List (Nat × Nat)} (h : Round R) {s : Nat × Nat} (hs : s ∈ R) : ∀ p, p ∈ R → p ∈ walkS R R.length s := by
  obtain ⟨h1, h2, _⟩ := h.walk s hs
  exact subset_of_len h1 h2 (by rw [walkS_len]; exact Nat.le_refl _)
end Go.MagM
/- Going round a point of what the statements' Build has made: all triangles that have it come, each once. Pure. -/
namespace Go.MagM
/-- The points behind the k-th one. -/
def pairX (X : TriM) (k : Nat) : Int × Int := (X.v ((k + 1) % 3), X.v ((k + 2) % 3))
/-- Round, till the first one comes again. -/
def cutS (R : List (Nat × Nat)) (p0 : Nat × Nat) : Nat → Nat × Nat → List (Nat × Nat)
  | 0, _ => []
  | n + 1, p => p :: (if nextS R p = p0 then [] else cutS R p0 n (nextS R p))
theorem cutS_walk (R : List (Nat × Nat)) (p0 : Nat × Nat) : ∀ m n p, 1 ≤ m → m ≤ n → iterS R m p = p0 → (∀ j, 0 < j → j < m → iterS R j p ≠ p0) → cutS R p0 n p = walkS R m p
  | 0, _, _, h, _, _, _ => by omega
  | m + 1, 0, _, _, h, _, _ => by omega
  | m + 1, n + 1, p, _, hn, hi, hj => by
    rw [cutS, walkS]
    by_cases hm : m = 0
    · subst hm
      have : nextS R p = p0 := hi
      rw [if_pos this]; rfl
    · have h1 := hj 1 (by omega) (by omega)
      have h1' : nextS R p ≠ p0 := h1
      rw [if_neg h1', cutS_walk R p0 m n (nextS R p) (by omega) (by omega) hi (fun j h0 hlt => hj (j + 1) (by omega) (by omega))]
theorem walkS_get (R : List (Nat × Nat)) : ∀ n p j, j < n → (walkS R n p)[j]? = some (iterS R j p)
  | 0, _, _, h => by omega
  | n + 1, p, 0, _ => rfl
  | n + 1, p, j + 1, h => by
    rw [walkS, List.getElem?_cons_succ]
    exact walkS_get R n (nextS R p) j (by omega)
theorem Round.cut {R : List (Nat × Nat)} (h : Round R) {s : Nat × Nat} (hs : s ∈ R) {n : Nat} (hn : R.length ≤ n) : cutS R s n s = walkS R R.length s := by
  obtain ⟨h1, -, h3⟩ := h.walk s hs
  have hl : 1 ≤ R.length := List.length_pos_iff.2 (List.ne_nil_of_mem hs)
  refine cutS_walk R s R.length n s hl hn h3 fun j h0 hj e => ?_
  have e0 := walkS_get R R.length s 0 (by omega)
  have ej := walkS_get R R.length s j hj
  rw [e] at ej
  have := (List.getElem?_inj (by rw [walkS_len]; omega) h1).1 (e0.trans ej.symm)
  omega
section
variable {fa : Int → Int → Bool} {T : List (Nat × Nat × Nat)} {Bd : List (Nat × Nat)} {S : List TriM}
theorem Surf.points {V : List (Int × Int × Int)} (h : Surf fa V S) {t : Nat} {X : TriM} (hX : S[t]? = some X) : X.v1 ≠ X.v2 ∧ X.v2 ≠ X.v0 ∧ X.v0 ≠ X.v1 :=
  ⟨h.apart hX (i := 0) (by omega), h.apart hX (i := 1) (by omega), h.apart hX (i := 2) (by omega)⟩
theorem Surf.place {V : List (Int × Int × Int)} (h : Surf fa V S) {t k : Nat} {X : TriM} (hX : S[t]? = some X) (hk : k < 3) : placeT X (X.v k) = (k : Int) ∧ placeM S (t : Int) (X.v k) = (k : Int) := by
  obtain ⟨a, b, c⟩ := h.points hX
  have hp : placeT X (X.v k) = (k : Int) := by
    unfold placeT
    obtain rfl | rfl | rfl : k = 0 ∨ k = 1 ∨ k = 2 := by omega
    · rw [show X.v 0 = X.v0 from rfl, if_pos rfl]; rfl
    · rw [show X.v 1 = X.v1 from rfl, if_neg (fun e => c e.symm), if_pos rfl]; rfl
    · rw [show X.v 2 = X.v2 from rfl, if_neg b, if_neg (fun e => a e.symm), if_pos rfl]; rfl
  refine ⟨hp, ?_⟩
  unfold placeM
  rw [getT_nat, hX]
  simp only []
  rw [(h.alive hX).2, hp]; simp
/-- The next one begins where this one ends. -/
theorem Surf.next {V : List (Int × Int × Int)} (h : Surf fa V S) {t k : Nat} {X : TriM} (hX : S[t]? = some X) (hk : k < 3) : ∃ (u l : Nat) (Y : TriM), S[u]? = some Y ∧ l < 3 ∧ Y.v l = X.v k ∧ (pairX Y l).1 = (pairX X k).2 ∧ stepM S (X.v k) (t : Int) = (u : Int) := by
  obtain ⟨u, j, Y, hY, hj, he, hn, -⟩ := h.other hX (i := (k + 1) % 3) (by omega)
  have e1 : edgeV X ((k + 1) % 3) = ((pairX X k).2, X.v k) := by
    obtain rfl | rfl | rfl : k = 0 ∨ k = 1 ∨ k = 2 := by omega
    all_goals rfl
  rw [e1] at he
  simp only [] at he
  refine ⟨u, (j + 1) % 3, Y, hY, by omega, ?_, ?_, ?_⟩
  · obtain rfl | rfl | rfl : j = 0 ∨ j = 1 ∨ j = 2 := by omega
    all_goals exact congrArg Prod.fst he
  · obtain rfl | rfl | rfl : j = 0 ∨ j = 1 ∨ j = 2 := by omega
    all_goals exact congrArg Prod.snd he
  · unfold stepM
    rw [getT_nat, hX]
    simp only []
    rw [(h.place hX hk).1, Int.toNat_natCast, hn]
end
end Go.MagM
namespace Go.Proofs.Ytaedaknkpfeipaa
open Go.RowKit Go.MagM
end Go.Proofs.Ytaedaknkpfeipaa
/- Points can be looked for in the statements' grids. -/
namespace Go.Proofs.Ytaedaknkpfeipaa
open Go.RowKit Go.MagM
def inL (w h bits : Nat) : Bool := (gridT w h bits).all (fun x => decide (x.1 < (gridP w h).length) && decide (x.2.1 < (gridP w h).length) && decide (x.2.2 < (gridP w h).length)) && (borderT (gridT w h bits)).all (fun e => decide (e.1 < (gridP w h).length) && decide (e.2 < (gridP w h).length)) && decide (0 < (gridT w h bits).length)
def allInL : Bool := [1, 2].all fun w => [1, 2].all fun h => (List.range 16).all fun bits => inL w h bits
set_option maxRecDepth 100000 in
theorem all_inL : allInL = true := by decide +kernel
theorem grid_inL {w h : Nat} (hw : w = 1 ∨ w = 2) (hh : h = 1 ∨ h = 2) {bits : Nat} (hb : bits < 16) : inL w h bits = true := by
  have h0 := all_inL
  unfold allInL at h0
  have h1 := List.all_eq_true.1 h0 w (by rcases hw with rfl | rfl <;> simp)
  have h2 := List.all_eq_true.1 h1 h (by rcases hh with rfl | rfl <;> simp)
  exact List.all_eq_true.1 h2 bits (by simp; omega)
theorem grid_look {fa : Int → Int → Bool} {W H bn : Nat} {Bd : List (Nat × Nat)} {S : List TriM} (h : Built fa (gridT W H bn) Bd S) (hW : W = 1 ∨ W = 2) (hH : H = 1 ∨ H = 2) (hb : bn < 16) : LookIn (gridP W H) S := by
  have hi := grid_inL hW hH hb
  unfold inL at hi
  rw [Bool.and_eq_true, Bool.and_eq_true] at hi
  obtain ⟨⟨h1, h2⟩, -⟩ := hi
  intro t T hT
  rcases h.cases hT with ⟨x, hx, e0, e1, e2⟩ | ⟨k, e, he, hk, e0, e1, e2⟩
  · have hm := List.all_eq_true.1 h1 x (List.mem_of_getElem? hx)
    simp only [Bool.and_eq_true, decide_eq_true_eq] at hm
    refine ⟨fun _ i hi => ?_, fun k hk => ?_⟩
    · obtain rfl | rfl | rfl : i = 0 ∨ i = 1 ∨ i = 2 := by omega
      · exact ⟨by show 0 ≤ T.v0; omega, by show T.v0 < _; omega⟩
      · exact ⟨by show 0 ≤ T.v1; omega, by show T.v1 < _; omega⟩
      · exact ⟨by show 0 ≤ T.v2; omega, by show T.v2 < _; omega⟩
    · unfold placeT at hk
      rw [if_neg (by omega), if_neg (by omega), if_neg (by omega)] at hk
      omega
  · have hm := List.all_eq_true.1 h2 e (h.mem.1 (List.mem_of_getElem? hk))
    simp only [Bool.and_eq_true, decide_eq_true_eq] at hm
    refine ⟨fun hr => ?_, fun k' hk' => ?_⟩
    · unfold realT at hr
      have := of_decide_eq_true hr
      omega
    · unfold placeT at hk'
      rw [if_neg (by omega), if_neg (by omega), if_pos e2.symm] at hk'
      obtain rfl : k' = 2 := by omega
      exact ⟨⟨by show 0 ≤ T.v0; omega, by show T.v0 < _; omega⟩, ⟨by show 0 ≤ T.v1; omega, by show T.v1 < _; omega⟩⟩
end Go.Proofs.Ytaedaknkpfeipaa
/- Right's has. -/
namespace Go.MagM
open Go.RowKit
def hasT (T : TriM) (v : Int) : Bool := decide (T.v0 = v) || decide (T.v1 = v) || decide (T.v2 = v)
end Go.MagM
namespace Go.Proofs.Ytaedaknkpfeipaa
open Go.RowKit Go.MagM
set_option maxRecDepth 100000 in
set_option maxHeartbeats 4000000 in
theorem Right1_any (v : Int) (g : Nat) (T : TriM) (w : World) (h : Box w g T.cells) :
    Calls Try.prog 57 #[.int .i64 v, .pointer (some ⟨g, 0, none⟩)] w fun e w' => e = .returned (.bool (hasT T v)) ∧ w' = w := by
  obtain ⟨v0, v1, v2, n0, n1, n2, f0, f1, f2⟩ := T
  have d0 := h.c 0 _ rfl; have d1 := h.c 1 _ rfl; have d2 := h.c 2 _ rfl
  clear h
  obtain ⟨p, hpl⟩ : ∃ p, hasT ⟨v0, v1, v2, n0, n1, n2, f0, f1, f2⟩ v = p := ⟨_, rfl⟩
  rw [hpl]
  unfold hasT at hpl
  simp only [] at hpl
  by_cases e0 : v0 = v
  · have q0 : (v0 == v) = true := by simpa using e0
    have HP : p = true := by rw [← hpl, decide_eq_true e0]; rfl
    subst HP
    clear hpl e0
    go_enter Try.func57, Try.ntmps57
    go_wp2
    go_ret
    exact ⟨rfl, rfl⟩
  · have q0 : (v0 == v) = false := by simpa using e0
    rw [decide_eq_false e0, Bool.false_or] at hpl
    clear e0
    by_cases e1 : v1 = v
    · have q1 : (v1 == v) = true := by simpa using e1
      have HP : p = true := by rw [← hpl, decide_eq_true e1]; rfl
      subst HP
      clear hpl e1
      go_enter Try.func57, Try.ntmps57
      go_wp2
      go_ret
      exact ⟨rfl, rfl⟩
    · have q1 : (v1 == v) = false := by simpa using e1
      rw [decide_eq_false e1, Bool.false_or] at hpl
      clear e1
      by_cases e2 : v2 = v
      · have q2 : (v2 == v) = true := by simpa using e2
        have HP : p = true := by rw [← hpl, decide_eq_true e2]
        subst HP
        clear hpl e2
        go_enter Try.func57, Try.ntmps57
        go_wp2
        go_ret
        exact ⟨rfl, rfl⟩
      · have q2 : (v2 == v) = false := by simpa using e2
        have HP : p = false := by rw [← hpl, decide_eq_false e2]
        subst HP
        clear hpl e2
        go_enter Try.func57, Try.ntmps57
        go_wp2
        go_ret
        exact ⟨rfl, rfl⟩
end Go.Proofs.Ytaedaknkpfeipaa
/- Right: what it looks for, and that each walk in the statements' grids ends as it asks. Pure. -/
namespace Go.Proofs.Ytaedaknkpfeipaa
open Go.RowKit Go.MagM
/-- What Right has seen: a triangle that holds the point, a corner there, an edge on which it lies. -/
structure RS where
  ins : Bool
  at_ : Int
  e0 : Int
  e1 : Int
deriving DecidableEq
def onE (P : List (Int × Int)) (p : Int × Int) (T : TriM) (i : Nat) : Bool := decide (sideT P T i p = 0) && betP p (ptT P T ((i + 1) % 3)) (ptT P T ((i + 2) % 3))
def rsI (P : List (Int × Int)) (p : Int × Int) (T : TriM) (s : RS) (i : Nat) : RS :=
  ⟨s.ins, if ptT P T ((i + 1) % 3) = p then T.v ((i + 1) % 3) else s.at_,
    if onE P p T i = true then min (T.v ((i + 1) % 3)) (T.v ((i + 2) % 3)) else s.e0, if onE P p T i = true then max (T.v ((i + 1) % 3)) (T.v ((i + 2) % 3)) else s.e1⟩
def rsK (P : List (Int × Int)) (p : Int × Int) (T : TriM) (s : RS) : Nat → RS
  | 0 => s
  | i + 1 => rsI P p T (rsK P p T s i) i
def rsT (P : List (Int × Int)) (p : Int × Int) (s : RS) (T : TriM) : RS := ⟨s.ins || holdsT P T p, (rsK P p T s 3).at_, (rsK P p T s 3).e0, (rsK P p T s 3).e1⟩
def rs0 : RS := ⟨false, -1, 0, 0⟩
def rsL (P : List (Int × Int)) (p : Int × Int) (l : List (Nat × TriM)) : RS := l.foldl (fun s x => rsT P p s x.2) rs0
theorem rsL_snoc (P : List (Int × Int)) (p : Int × Int) (l : List (Nat × TriM)) (x : Nat × TriM) : rsL P p (l ++ [x]) = rsT P p (rsL P p l) x.2 := by unfold rsL; rw [List.foldl_append]; rfl
/-- The place of a point that some triangle holds. -/
def okIn (P : List (Int × Int)) (p : Int × Int) (s : RS) (T : TriM) (x : Int × Int × Int × Int) : Bool :=
  s.ins && realT T && (if 0 ≤ s.at_ then decide (x.1 = 2 ∧ x.2.2.1 = s.at_ ∧ x.2.2.2 = 0) && hasT T s.at_
    else if ¬ (s.e0 = 0 ∧ s.e1 = 0) then decide (x.1 = 1 ∧ x.2.2.1 = s.e0 ∧ x.2.2.2 = s.e1) && hasT T s.e0 && hasT T s.e1
    else decide (x.1 = 0 ∧ x.2.2.1 = 0 ∧ x.2.2.2 = 0) && (decide (0 < sideT P T 2 p) && decide (0 < sideT P T 0 p) && decide (0 < sideT P T 1 p)))
/-- A place is where a point lies. -/
def RightIs (P : List (Int × Int)) (S : List TriM) (p : Int × Int) (x : Int × Int × Int × Int) : Prop :=
  ∃ (t : Nat) (T : TriM), S[t]? = some T ∧ x.2.1 = (t : Int) ∧
    (okIn P p (rsL P p (realsK S S.length)) T x = true ∨
      ((rsL P p (realsK S S.length)).ins = false ∧ realT T = false ∧ x = (3, (t : Int), 0, 0) ∧ ∃ j, j < 3 ∧ T.v j = -1 ∧ 0 ≤ T.v ((j + 1) % 3) ∧ 0 ≤ T.v ((j + 2) % 3) ∧ 0 < sideT P T j p))
theorem rsL_ins (P : List (Int × Int)) (p : Int × Int) (l : List (Nat × TriM)) : (rsL P p l).ins = l.any (fun x => holdsT P x.2 p) := by
  have : ∀ (l : List (Nat × TriM)) (s : RS), (l.foldl (fun s x => rsT P p s x.2) s).ins = (s.ins || l.any (fun x => holdsT P x.2 p)) := by
    intro l
    induction l with
    | nil => intro s; simp
    | cons x r ih => intro s; rw [List.foldl_cons, ih]; show ((s.ins || holdsT P x.2 p) || _) = _; rw [List.any_cons, Bool.or_assoc]
  unfold rsL
  rw [this]; simp [rs0]
theorem realsK_mem {S : List TriM} {x : Nat × TriM} : ∀ {n : Nat}, x ∈ realsK S n → S[x.1]? = some x.2 ∧ realT x.2 = true
  | 0, h => by cases h
  | n + 1, h => by
    rw [realsK, List.mem_append] at h
    rcases h with h | h
    · exact realsK_mem h
    · cases hS : S[n]? with
      | none => rw [hS] at h; simp at h
      | some T =>
        rw [hS] at h
        simp only [] at h
        split at h
        · rename_i hr
          simp only [List.mem_cons, List.not_mem_nil, or_false] at h
          subst h
          exact ⟨hS, hr⟩
        · cases h
theorem getP_at (P : List (Int × Int)) (a : Nat) : getP P (a : Int) = P[a]? := by unfold getP; rw [if_pos (by omega)]; rfl
/-- A triangle of these corners. -/
def triN (x : Nat × Nat × Nat) : TriM := ⟨(x.1 : Int), (x.2.1 : Int), (x.2.2 : Int), -1, -1, -1, false, false, false⟩
/-- Triangles of the same corners. -/
def SameV (T U : TriM) : Prop := T.v0 = U.v0 ∧ T.v1 = U.v1 ∧ T.v2 = U.v2
theorem SameV.v {T U : TriM} (h : SameV T U) (k : Nat) : T.v k = U.v k := by
  obtain ⟨h0, h1, h2⟩ := h
  match k with
  | 0 => exact h0
  | 1 => exact h1
  | k + 2 => exact h2
theorem SameV.side {T U : TriM} (h : SameV T U) (P : List (Int × Int)) (i : Nat) (p : Int × Int) : sideT P T i p = sideT P U i p := by unfold sideT; rw [h.v, h.v]
theorem SameV.pt {T U : TriM} (h : SameV T U) (P : List (Int × Int)) (k : Nat) : ptT P T k = ptT P U k := by unfold ptT; rw [h.v]
theorem SameV.holds {T U : TriM} (h : SameV T U) (P : List (Int × Int)) (p : Int × Int) : holdsT P T p = holdsT P U p := by unfold holdsT; rw [h.side, h.side, h.side]
theorem SameV.rsIs {T U : TriM} (h : SameV T U) (P : List (Int × Int)) (p : Int × Int) (s : RS) (i : Nat) : rsI P p T s i = rsI P p U s i := by
  have e : onE P p T i = onE P p U i := by unfold onE; rw [h.side, h.pt, h.pt]
  unfold rsI
  rw [h.pt, h.v, h.v, e]
theorem SameV.rsTs {T U : TriM} (h : SameV T U) (P : List (Int × Int)) (p : Int × Int) (s : RS) : rsT P p s T = rsT P p s U := by
  have : ∀ n, rsK P p T s n = rsK P p U s n := by
    intro n
    induction n with
    | zero => rfl
    | succ n ih => rw [rsK, rsK, ih, h.rsIs]
  unfold rsT
  rw [this, h.holds]
theorem SameV.has {T U : TriM} (h : SameV T U) (v : Int) : hasT T v = hasT U v := by unfold hasT; rw [h.1, h.2.1, h.2.2]
theorem SameV.real {T U : TriM} (h : SameV T U) : realT T = realT U := by unfold realT; rw [h.1, h.2.1, h.2.2]
theorem SameV.okIns {T U : TriM} (h : SameV T U) (P : List (Int × Int)) (p : Int × Int) (s : RS) (x : Int × Int × Int × Int) : okIn P p s T x = okIn P p s U x := by
  unfold okIn; rw [h.real, h.has, h.has, h.has, h.side, h.side, h.side]
theorem SameV.within {T U : TriM} (h : SameV T U) (P : List (Int × Int)) (t : Nat) (p : Int × Int) : withinT P T t p = withinT P U t p := by
  have e : T.v = U.v := funext h.v
  have e2 : (fun k => decide (sideT P T k p = 0)) = (fun k => decide (sideT P U k p = 0)) := funext fun k => by rw [h.side]
  unfold withinT
  rw [e, e2]
theorem within_no (P : List (Int × Int)) (T : TriM) (t : Nat) (p : Int × Int) : (withinT P T t p).2.1 = (t : Int) ∧ (withinT P T t p).1 = (withinT P T 0 p).1 ∧ (withinT P T t p).2.2 = (withinT P T 0 p).2.2 := by
  unfold withinT
  split
  · exact ⟨rfl, rfl, rfl⟩
  · split <;> exact ⟨rfl, rfl, rfl⟩
theorem okIn_no {P : List (Int × Int)} {p : Int × Int} {s : RS} {T : TriM} {x y : Int × Int × Int × Int} (h1 : x.1 = y.1) (h2 : x.2.2 = y.2.2) : okIn P p s T x = okIn P p s T y := by
  unfold okIn; rw [h1, h2]
/-- Points made of corners' parts. -/
theorem bary_1 (u v w p : Int × Int) : crP v w p * u.1 + crP w u p * v.1 + crP u v p * w.1 = crP u v w * p.1 := by unfold crP crs; grind
theorem bary_2 (u v w p : Int × Int) : crP v w p * u.2 + crP w u p * v.2 + crP u v p * w.2 = crP u v w * p.2 := by unfold crP crs; grind
theorem bary_1s (u v w p : Int × Int) : crP v w p + crP w u p + crP u v p = crP u v w := by unfold crP crs; grind
theorem part_ge {a b c x y z d q m : Int} (ha : 0 ≤ a) (hb : 0 ≤ b) (hc : 0 ≤ c) (hd : 0 < d) (hs : a + b + c = d) (he : a * x + b * y + c * z = d * q) (hx : m ≤ x) (hy : m ≤ y) (hz : m ≤ z) : m ≤ q := by
  have h1 : a * m ≤ a * x := Int.mul_le_mul_of_nonneg_left hx ha
  have h2 : b * m ≤ b * y := Int.mul_le_mul_of_nonneg_left hy hb
  have h3 : c * m ≤ c * z := Int.mul_le_mul_of_nonneg_left hz hc
  have h4 : a * m + b * m + c * m = d * m := by rw [← hs]; grind
  refine Int.not_lt.1 fun hq => ?_
  have h5 : d * q < d * m := Int.mul_lt_mul_of_pos_left hq hd
  omega
theorem part_le {a b c x y z d q m : Int} (ha : 0 ≤ a) (hb : 0 ≤ b) (hc : 0 ≤ c) (hd : 0 < d) (hs : a + b + c = d) (he : a * x + b * y + c * z = d * q) (hx : x ≤ m) (hy : y ≤ m) (hz : z ≤ m) : q ≤ m := by
  have := part_ge (x := -x) (y := -y) (z := -z) (q := -q) (m := -m) ha hb hc hd hs (by rw [Int.mul_neg, Int.mul_neg, Int.mul_neg, Int.mul_neg]; omega) (by omega) (by omega) (by omega)
  omega
/-- The points of a grid's rectangle. -/
def boxG (w h : Nat) : List (Int × Int) := (List.range (2 * h + 1)).flatMap fun y : Nat => (List.range (2 * w + 1)).map fun x : Nat => ((x : Int), (y : Int))
def InBox (w h : Nat) (p : Int × Int) : Prop := 0 ≤ p.1 ∧ p.1 ≤ 2 * (w : Int) ∧ 0 ≤ p.2 ∧ p.2 ≤ 2 * (h : Int)
theorem boxG_mem {w h : Nat} {p : Int × Int} (hp : InBox w h p) : p ∈ boxG w h := by
  obtain ⟨h0, h1, h2, h3⟩ := hp
  unfold boxG
  rw [List.mem_flatMap]
  refine ⟨p.2.toNat, List.mem_range.2 (by omega), List.mem_map.2 ⟨p.1.toNat, List.mem_range.2 (by omega), ?_⟩⟩
  exact Prod.ext (by simp only []; omega) (by simp only []; omega)
def rsG (Q : List (Int × Int)) (p : Int × Int) (L : List TriM) : RS := L.foldl (rsT Q p) rs0
def rightG (w h bits : Nat) : Bool :=
  let Q := gridP w h
  let L := (gridT w h bits).map triN
  (boxG w h).all fun p =>
    let s := rsG Q p L
    L.any (fun T => holdsT Q T p) && L.all fun T => !holdsT Q T p || okIn Q p s T (withinT Q T 0 p)
def allRight : Bool := [1, 2].all fun w => [1, 2].all fun h => (List.range 16).all fun bits => rightG w h bits
set_option maxRecDepth 100000 in
theorem all_right : allRight = true := by decide +kernel
theorem grid_rightG {w h : Nat} (hw : w = 1 ∨ w = 2) (hh : h = 1 ∨ h = 2) {bits : Nat} (hb : bits < 16) : rightG w h bits = true := by
  have h0 := all_right
  unfold allRight at h0
  have h1 := List.all_eq_true.1 h0 w (by rcases hw with rfl | rfl <;> simp)
  have h2 := List.all_eq_true.1 h1 h (by rcases hh with rfl | rfl <;> simp)
  exact List.all_eq_true.1 h2 bits (by simp; omega)
/-- On which sides of the rectangle an edge of the border lies. -/
def sideG (w h : Nat) (e : Nat × Nat) : Bool :=
  let a := ptA (gridP w h) e.1
  let b := ptA (gridP w h) e.2
  (decide (a.1 = 0 ∧ b.1 = 0 ∧ b.2 < a.2)) || (decide (a.1 = 2 * (w : Int) ∧ b.1 = 2 * (w : Int) ∧ a.2 < b.2)) || (decide (a.2 = 0 ∧ b.2 = 0 ∧ a.1 < b.1)) || (decide (a.2 = 2 * (h : Int) ∧ b.2 = 2 * (h : Int) ∧ b.1 < a.1))
def edgeG (w h bits : Nat) : Bool :=
  let B := borderT (gridT w h bits)
  B.all (sideG w h) &&
  B.any (fun e => decide ((ptA (gridP w h) e.1).1 = 0 ∧ (ptA (gridP w h) e.2).1 = 0 ∧ (ptA (gridP w h) e.2).2 < (ptA (gridP w h) e.1).2)) &&
  B.any (fun e => decide ((ptA (gridP w h) e.1).1 = 2 * (w : Int) ∧ (ptA (gridP w h) e.2).1 = 2 * (w : Int) ∧ (ptA (gridP w h) e.1).2 < (ptA (gridP w h) e.2).2)) &&
  B.any (fun e => decide ((ptA (gridP w h) e.1).2 = 0 ∧ (ptA (gridP w h) e.2).2 = 0 ∧ (ptA (gridP w h) e.1).1 < (ptA (gridP w h) e.2).1)) &&
  B.any (fun e => decide ((ptA (gridP w h) e.1).2 = 2 * (h : Int) ∧ (ptA (gridP w h) e.2).2 = 2 * (h : Int) ∧ (ptA (gridP w h) e.2).1 < (ptA (gridP w h) e.1).1)) &&
  (gridP w h).all (fun q => decide (0 ≤ q.1 ∧ q.1 ≤ 2 * (w : Int) ∧ 0 ≤ q.2 ∧ q.2 ≤ 2 * (h : Int)))
def allEdgeG : Bool := [1, 2].all fun w => [1, 2].all fun h => (List.range 16).all fun bits => edgeG w h bits
set_option maxRecDepth 100000 in
theorem all_edgeG : allEdgeG = true := by decide +kernel
theorem grid_edgeG {w h : Nat} (hw : w = 1 ∨ w = 2) (hh : h = 1 ∨ h = 2) {bits : Nat} (hb : bits < 16) : edgeG w h bits = true := by
  have h0 := all_edgeG
  unfold allEdgeG at h0
  have h1 := List.all_eq_true.1 h0 w (by rcases hw with rfl | rfl <;> simp)
  have h2 := List.all_eq_true.1 h1 h (by rcases hh with rfl | rfl <;> simp)
  exact List.all_eq_true.1 h2 bits (by simp; omega)
theorem face_out {w h : Nat} {e : Nat × Nat} (hs : sideG w h e = true) {p : Int × Int} (hf : 0 < crP (ptA (gridP w h) e.2) (ptA (gridP w h) e.1) p) : ¬ InBox w h p := by
  unfold sideG at hs
  simp only [Bool.or_eq_true, decide_eq_true_eq] at hs
  unfold crP crs at hf
  rintro ⟨h0, h1, h2, h3⟩
  rcases hs with ((⟨a1, a2, a3⟩ | ⟨a1, a2, a3⟩) | ⟨a1, a2, a3⟩) | ⟨a1, a2, a3⟩
  · rw [a1, a2] at hf
    have := Int.mul_nonneg (show 0 ≤ (ptA (gridP w h) e.1).2 - (ptA (gridP w h) e.2).2 by omega) (show 0 ≤ p.1 - 0 by omega)
    rw [Int.sub_self, Int.zero_mul] at hf; omega
  · rw [a1, a2] at hf
    have := Int.mul_nonneg_of_nonpos_of_nonpos (show (ptA (gridP w h) e.1).2 - (ptA (gridP w h) e.2).2 ≤ 0 by omega) (show p.1 - 2 * (w : Int) ≤ 0 by omega)
    rw [Int.sub_self, Int.zero_mul] at hf; omega
  · rw [a1, a2] at hf
    have := Int.mul_nonpos_of_nonpos_of_nonneg (show (ptA (gridP w h) e.1).1 - (ptA (gridP w h) e.2).1 ≤ 0 by omega) (show 0 ≤ p.2 - 0 by omega)
    rw [Int.sub_self, Int.zero_mul] at hf; omega
  · rw [a1, a2] at hf
    have := Int.mul_nonpos_of_nonneg_of_nonpos (show 0 ≤ (ptA (gridP w h) e.1).1 - (ptA (gridP w h) e.2).1 by omega) (show p.2 - 2 * (h : Int) ≤ 0 by omega)
    rw [Int.sub_self, Int.zero_mul] at hf; omega
/-- A point outside lies beyond some edge of the border. -/
theorem out_face {w h bits : Nat} (hg : edgeG w h bits = true) {p : Int × Int} (hp : ¬ InBox w h p) : ∃ e, e ∈ borderT (gridT w h bits) ∧ 0 < crP (ptA (gridP w h) e.2) (ptA (gridP w h) e.1) p := by
  unfold edgeG at hg
  simp only [Bool.and_eq_true, List.any_eq_true, decide_eq_true_eq] at hg
  obtain ⟨⟨⟨⟨⟨-, ⟨e1, m1, a1, a2, a3⟩⟩, ⟨e2, m2, b1, b2, b3⟩⟩, ⟨e3, m3, c1, c2, c3⟩⟩, ⟨e4, m4, d1, d2, d3⟩⟩, -⟩ := hg
  by_cases h0 : p.1 < 0
  · refine ⟨e1, m1, ?_⟩
    unfold crP crs
    rw [a1, a2, Int.sub_self, Int.zero_mul]
    have := Int.mul_neg_of_pos_of_neg (show 0 < (ptA (gridP w h) e1.1).2 - (ptA (gridP w h) e1.2).2 by omega) (show p.1 - 0 < 0 by omega)
    omega
  by_cases h1 : 2 * (w : Int) < p.1
  · refine ⟨e2, m2, ?_⟩
    unfold crP crs
    rw [b1, b2, Int.sub_self, Int.zero_mul]
    have := Int.mul_neg_of_neg_of_pos (show (ptA (gridP w h) e2.1).2 - (ptA (gridP w h) e2.2).2 < 0 by omega) (show 0 < p.1 - 2 * (w : Int) by omega)
    omega
  by_cases h2 : p.2 < 0
  · refine ⟨e3, m3, ?_⟩
    unfold crP crs
    rw [c1, c2, Int.sub_self, Int.zero_mul]
    have := Int.mul_pos_of_neg_of_neg (show (ptA (gridP w h) e3.1).1 - (ptA (gridP w h) e3.2).1 < 0 by omega) (show p.2 - 0 < 0 by omega)
    omega
  by_cases h3 : 2 * (h : Int) < p.2
  · refine ⟨e4, m4, ?_⟩
    unfold crP crs
    rw [d1, d2, Int.sub_self, Int.zero_mul]
    have := Int.mul_pos (show 0 < (ptA (gridP w h) e4.1).1 - (ptA (gridP w h) e4.2).1 by omega) (show 0 < p.2 - 2 * (h : Int) by omega)
    omega
  exact absurd ⟨by omega, by omega, by omega, by omega⟩ hp
theorem grid_reals {fa : Int → Int → Bool} {W H bn : Nat} {Bd : List (Nat × Nat)} {S : List TriM} (h : Built fa (gridT W H bn) Bd S) : ∃ L : List (Nat × TriM), realsK S S.length = L ∧ ∀ (Q : List (Int × Int)) (p : Int × Int), rsL Q p L = rsG Q p ((gridT W H bn).map triN) := by
  refine ⟨_, rfl, fun Q p => ?_⟩
  have key : ∀ n, n ≤ (gridT W H bn).length → rsL Q p (realsK S n) = rsG Q p (((gridT W H bn).take n).map triN) := by
    intro n
    induction n with
    | zero => intro _; rfl
    | succ n ih =>
      intro hn
      obtain ⟨x, hx⟩ : ∃ x, (gridT W H bn)[n]? = some x := ⟨_, List.getElem?_eq_getElem (by omega)⟩
      obtain ⟨T, hT, e0, e1, e2⟩ := h.real hx
      have hr : realT T = true := by unfold realT; exact decide_eq_true (by omega)
      rw [realsK_yes hT hr, rsL_snoc, ih (by omega), List.take_add_one, hx]
      unfold rsG
      rw [List.map_append, List.foldl_append]
      exact SameV.rsTs (T := T) (U := triN x) ⟨e0, e1, e2⟩ Q p _
  have rest : ∀ k, realsK S ((gridT W H bn).length + k) = realsK S (gridT W H bn).length := by
    intro k
    induction k with
    | zero => rfl
    | succ k ih =>
      rw [← Nat.add_assoc, realsK, ih]
      cases hS : S[(gridT W H bn).length + k]? with
      | none => simp
      | some T =>
        have := h.real_iff ((gridT W H bn).length + k)
        unfold realM at this
        rw [getT_nat, hS] at this
        simp only [] at this ⊢
        rw [this, decide_eq_false (by omega)]; simp
  have hl : S.length = (gridT W H bn).length + (S.length - (gridT W H bn).length) := by have := h.len; omega
  rw [hl, rest, key _ (Nat.le_refl _), List.take_length]
section
variable {fa : Int → Int → Bool} {W H bn : Nat} {Bd : List (Nat × Nat)} {S : List TriM} (h : Built fa (gridT W H bn) Bd S) (hW : W = 1 ∨ W = 2) (hH : H = 1 ∨ H = 2) (hb : bn < 16)
include h hW hH hb
theorem grid_pt {k : Nat} {T : TriM} {t : Nat} (hT : S[t]? = some T) (hr : realT T = true) (hk : k < 3) : 0 ≤ (ptT (gridP W H) T k).1 ∧ (ptT (gridP W H) T k).1 ≤ 2 * (W : Int) ∧ 0 ≤ (ptT (gridP W H) T k).2 ∧ (ptT (gridP W H) T k).2 ≤ 2 * (H : Int) := by
  have hl := (grid_look h hW hH hb t T hT).1 hr k hk
  obtain ⟨a, ea, la, ga⟩ := hl.nat
  have hg := grid_edgeG hW hH hb
  unfold edgeG at hg
  simp only [Bool.and_eq_true, List.all_eq_true, decide_eq_true_eq] at hg
  exact hg.2 _ (List.mem_of_getElem? ga)
theorem grid_turn {T : TriM} {t : Nat} (hT : S[t]? = some T) (hr : realT T = true) : 0 < crP (ptT (gridP W H) T 0) (ptT (gridP W H) T 1) (ptT (gridP W H) T 2) := by
  rcases h.cases hT with ⟨x, hx, e0, e1, e2⟩ | ⟨k, e, he, hk, e0, e1, e2⟩
  · have ok := grid_ok hW hH hb
    have ht := ok.turn x (List.mem_of_getElem? hx)
    obtain ⟨p0, p1, p2⟩ := ok.pts x (List.mem_of_getElem? hx)
    unfold turnM at ht
    rw [show getP (gridP W H) (x.1 : Int) = some (ptA (gridP W H) x.1) from (getP_at _ _).trans (ptA_at p0), show getP (gridP W H) (x.2.1 : Int) = some (ptA (gridP W H) x.2.1) from (getP_at _ _).trans (ptA_at p1), show getP (gridP W H) (x.2.2 : Int) = some (ptA (gridP W H) x.2.2) from (getP_at _ _).trans (ptA_at p2)] at ht
    simp only [] at ht
    rw [sign_gt] at ht
    have q0 : ptT (gridP W H) T 0 = ptA (gridP W H) x.1 := by unfold ptT; rw [show T.v 0 = T.v0 from rfl, e0]; rfl
    have q1 : ptT (gridP W H) T 1 = ptA (gridP W H) x.2.1 := by unfold ptT; rw [show T.v 1 = T.v1 from rfl, e1]; rfl
    have q2 : ptT (gridP W H) T 2 = ptA (gridP W H) x.2.2 := by unfold ptT; rw [show T.v 2 = T.v2 from rfl, e2]; rfl
    rw [q0, q1, q2]; exact ht
  · unfold realT at hr
    have := of_decide_eq_true hr
    omega
theorem grid_held {p : Int × Int} {T : TriM} {t : Nat} (hT : S[t]? = some T) (hr : realT T = true) (hh : holdsT (gridP W H) T p = true) : InBox W H p := by
  have hc := holdsT_iff.1 hh
  have c0 := hc 0 (by omega); have c1 := hc 1 (by omega); have c2 := hc 2 (by omega)
  have hD := grid_turn h hW hH hb hT hr
  obtain ⟨a0, a1, a2, a3⟩ := grid_pt h hW hH hb (k := 0) hT hr (by omega)
  obtain ⟨b0, b1, b2, b3⟩ := grid_pt h hW hH hb (k := 1) hT hr (by omega)
  obtain ⟨d0, d1, d2, d3⟩ := grid_pt h hW hH hb (k := 2) hT hr (by omega)
  have s := bary_1s (ptT (gridP W H) T 0) (ptT (gridP W H) T 1) (ptT (gridP W H) T 2) p
  have e1 := bary_1 (ptT (gridP W H) T 0) (ptT (gridP W H) T 1) (ptT (gridP W H) T 2) p
  have e2 := bary_2 (ptT (gridP W H) T 0) (ptT (gridP W H) T 1) (ptT (gridP W H) T 2) p
  exact ⟨part_ge c0 c1 c2 hD s e1 a0 b0 d0, part_le c0 c1 c2 hD s e1 a1 b1 d1, part_ge c0 c1 c2 hD s e2 a2 b2 d2, part_le c0 c1 c2 hD s e2 a3 b3 d3⟩
theorem grid_out {p : Int × Int} (hp : ¬ InBox W H p) : (rsL (gridP W H) p (realsK S S.length)).ins = false := by
  rw [rsL_ins]
  refine Bool.eq_false_iff.2 fun hc => ?_
  rw [List.any_eq_true] at hc
  obtain ⟨x, hx, hh⟩ := hc
  obtain ⟨h1, h2⟩ := realsK_mem hx
  exact hp (grid_held h hW hH hb h1 h2 hh)
theorem grid_in {p : Int × Int} {T : TriM} {t : Nat} (hT : S[t]? = some T) (hr : realT T = true) (hh : holdsT (gridP W H) T p = true) : RightIs (gridP W H) S p (withinT (gridP W H) T t p) := by
  obtain ⟨n1, n2, n3⟩ := within_no (gridP W H) T t p
  refine ⟨t, T, hT, n1, .inl ?_⟩
  rw [okIn_no n2 n3]
  obtain ⟨L, hL, hLs⟩ := grid_reals h
  rw [hL, hLs]
  have hg := grid_rightG hW hH hb
  unfold rightG at hg
  have h1 := List.all_eq_true.1 hg p (boxG_mem (grid_held h hW hH hb hT hr hh))
  simp only [Bool.and_eq_true] at h1
  replace h1 := h1.2
  rcases h.cases hT with ⟨x, hx, e0, e1, e2⟩ | ⟨k, e, he, hk, e0, e1, e2⟩
  · have h2 := List.all_eq_true.1 h1 (triN x) (List.mem_map.2 ⟨x, List.mem_of_getElem? hx, rfl⟩)
    have sv : SameV T (triN x) := ⟨e0, e1, e2⟩
    rw [← sv.holds, hh] at h2
    rw [sv.okIns, sv.within]
    simpa using h2
  · unfold realT at hr
    have := of_decide_eq_true hr
    omega
/-- A ghost that has the point beyond. -/
theorem grid_ghost {p : Int × Int} {U : TriM} {u j : Nat} (hU : S[u]? = some U) (hr : realT U = false) (hj : j < 3) (v1 : 0 ≤ U.v ((j + 1) % 3)) (v2 : 0 ≤ U.v ((j + 2) % 3)) (hs : 0 < sideT (gridP W H) U j p) : RightIs (gridP W H) S p (3, (u : Int), 0, 0) := by
  rcases h.cases hU with ⟨x, hx, e0, e1, e2⟩ | ⟨k, e, he, hk, e0, e1, e2⟩
  · have : realT U = true := by unfold realT; exact decide_eq_true (by omega)
    rw [hr] at this; cases this
  · have hj2 : j = 2 := by
      obtain rfl | rfl | rfl : j = 0 ∨ j = 1 ∨ j = 2 := by omega
      · have : U.v 2 = U.v2 := rfl
        rw [show (0 + 2) % 3 = 2 from rfl, this] at v2; omega
      · have : U.v 2 = U.v2 := rfl
        rw [show (1 + 1) % 3 = 2 from rfl, this] at v1; omega
      · rfl
    subst hj2
    have hm := h.mem.1 (List.mem_of_getElem? hk)
    have hg := grid_edgeG hW hH hb
    unfold edgeG at hg
    simp only [Bool.and_eq_true] at hg
    have hsg := List.all_eq_true.1 hg.1.1.1.1.1 e hm
    have hs2 := hs
    rw [sideT_is, sign_gt] at hs2
    have q0 : ptT (gridP W H) U ((2 + 1) % 3) = ptA (gridP W H) e.2 := by unfold ptT; rw [show U.v ((2 + 1) % 3) = U.v0 from rfl, e0]; rfl
    have q1 : ptT (gridP W H) U ((2 + 2) % 3) = ptA (gridP W H) e.1 := by unfold ptT; rw [show U.v ((2 + 2) % 3) = U.v1 from rfl, e1]; rfl
    rw [q0, q1] at hs2
    exact ⟨u, U, hU, rfl, .inr ⟨grid_out h hW hH hb (face_out hsg hs2), hr, rfl, 2, by omega, e2, v1, v2, hs⟩⟩
theorem grid_look_right (p : Int × Int) : RightIs (gridP W H) S p (lookM (gridP W H) S p) := by
  by_cases hx : ∃ t, t < S.length ∧ heldAt (gridP W H) S p t = true
  · obtain ⟨t, ht, hh⟩ := hx
    cases hf : firstN (heldAt (gridP W H) S p) S.length with
    | none => exact absurd hf (firstN_some.firstN_ex hh ht)
    | some k =>
      obtain ⟨k1, k2, k3⟩ := firstN_some hf
      obtain ⟨T, hT⟩ : ∃ T, S[k]? = some T := ⟨_, List.getElem?_eq_getElem k1⟩
      have hk2 := k2
      unfold heldAt at hk2
      rw [hT] at hk2
      simp only [] at hk2
      rw [look_held hT hk2 k3]
      rw [Bool.and_eq_true] at hk2
      exact grid_in h hW hH hb hT hk2.1 hk2.2
  · have hno : ∀ j, j < S.length → heldAt (gridP W H) S p j = false := fun j hj => Bool.eq_false_iff.2 fun e => hx ⟨j, hj, e⟩
    have hp : ¬ InBox W H p := by
      intro hp
      have hg := grid_rightG hW hH hb
      unfold rightG at hg
      have h1 := List.all_eq_true.1 hg p (boxG_mem hp)
      simp only [Bool.and_eq_true] at h1
      obtain ⟨T, hT, hh⟩ := List.any_eq_true.1 h1.1
      obtain ⟨x, hx', rfl⟩ := List.mem_map.1 hT
      obtain ⟨i, hi⟩ := List.mem_iff_getElem?.1 hx'
      obtain ⟨X, hX, e0, e1, e2⟩ := h.real hi
      have sv : SameV X (triN x) := ⟨e0, e1, e2⟩
      have hne := hno i (List.getElem?_eq_some_iff.1 hX).1
      unfold heldAt at hne
      rw [hX] at hne
      simp only [] at hne
      rw [sv.holds, hh, show realT X = true by unfold realT; exact decide_eq_true (by omega)] at hne
      cases hne
    rw [look_out hno]
    obtain ⟨e, he, hf⟩ := out_face (grid_edgeG hW hH hb) hp
    obtain ⟨k, hk⟩ := List.mem_iff_getElem?.1 (h.mem.2 he)
    obtain ⟨U, hU, e0, e1, e2⟩ := h.ghost hk
    have hpl : placeT U (-1) = 2 := by unfold placeT; rw [if_neg (by omega), if_neg (by omega), if_pos e2.symm]
    have hfa : faceAt (gridP W H) S p ((gridT W H bn).length + k) = true := by
      unfold faceAt
      rw [hU]
      simp only []
      unfold facesT
      rw [hpl]
      have q0 : ptT (gridP W H) U ((2 + 1) % 3) = ptA (gridP W H) e.2 := by unfold ptT; rw [show U.v ((2 + 1) % 3) = U.v0 from rfl, e0]; rfl
      have q1 : ptT (gridP W H) U ((2 + 2) % 3) = ptA (gridP W H) e.1 := by unfold ptT; rw [show U.v ((2 + 2) % 3) = U.v1 from rfl, e1]; rfl
      have : 0 < sideT (gridP W H) U 2 p := by rw [sideT_is, sign_gt, q0, q1]; exact hf
      rw [Bool.and_eq_true, decide_eq_true_eq, decide_eq_true_eq]
      exact ⟨by omega, this⟩
    cases hff : firstN (faceAt (gridP W H) S p) S.length with
    | none => exact absurd hff (firstN_some.firstN_ex hfa (List.getElem?_eq_some_iff.1 hU).1)
    | some u =>
      obtain ⟨u1, u2, u3⟩ := firstN_some hff
      obtain ⟨V, hV⟩ : ∃ V, S[u]? = some V := ⟨_, List.getElem?_eq_getElem u1⟩
      unfold faceAt at u2
      rw [hV] at u2
      simp only [] at u2
      unfold facesT at u2
      rw [Bool.and_eq_true, decide_eq_true_eq, decide_eq_true_eq] at u2
      rcases h.cases hV with ⟨x, hx', f0, f1, f2⟩ | ⟨k', e', he', hk', f0, f1, f2⟩
      · exfalso
        have : placeT V (-1) = -1 := by unfold placeT; rw [if_neg (by omega), if_neg (by omega), if_neg (by omega)]
        omega
      · have hpv : placeT V (-1) = 2 := by unfold placeT; rw [if_neg (by omega), if_neg (by omega), if_pos f2.symm]
        rw [hpv] at u2
        have hr : realT V = false := by unfold realT; exact decide_eq_false (by omega)
        exact grid_ghost h hW hH hb hV hr (j := 2) (by omega) (by show 0 ≤ V.v0; omega) (by show 0 ≤ V.v1; omega) u2.2
end
end Go.Proofs.Ytaedaknkpfeipaa
/- The statements' grids: where they lie, where a walk begins. -/
namespace Go.MagM
open Go.RowKit
theorem begin_at {S : List TriM} {T : TriM} (h0 : S[0]? = some T) (hr : realT T = true) (fr : Int) : ∃ (t0 : Nat) (T0 : TriM), beginM S fr = (t0 : Int) ∧ S[t0]? = some T0 ∧ realT T0 = true := by
  unfold beginM
  by_cases h : realM S fr = true
  · obtain ⟨T0, hg, hr0⟩ := realM_some h
    obtain ⟨h1, -, h3⟩ := getT_some hg
    exact ⟨fr.toNat, T0, by rw [if_pos h]; omega, h3, hr0⟩
  · refine ⟨0, T, ?_, h0, hr⟩
    rw [if_neg h]
    have h1 : realsK S 1 = [(0, T)] := by rw [realsK_yes h0 hr]; rfl
    obtain ⟨rest, he⟩ := realsK_pre S S.length 1 (by have := (List.getElem?_eq_some_iff.1 h0).1; omega)
    rw [← he, h1]
    rfl
theorem MeshR.in_ {w : World} {mb pb pc : Nat} {ta : Option Addr} {tc : Nat} {P : List (Int × Int)} {S : List TriM} (h : MeshR w mb pb pc ta tc P S) (hP : 0 < P.length) (hS : 0 < S.length) : MeshIn (fun b => b < w.heap.size) mb pb ta := by
  refine ⟨World.block_lt_of_cell? w _ (h.box.c 0 _ rfl), ?_, fun b hb => ?_⟩
  · obtain ⟨⟨x, y⟩, hp⟩ : ∃ q, P[0]? = some q := ⟨_, List.getElem?_eq_getElem hP⟩
    exact World.block_lt_of_cell? w _ (h.pts 0 x y hp).1
  · obtain ⟨T, hT⟩ : ∃ T, S[0]? = some T := ⟨_, List.getElem?_eq_getElem hS⟩
    obtain ⟨tb, e, hl, -⟩ := h.tris.get hT
    rw [hb] at e
    cases e
    exact hl
end Go.MagM
namespace Go.Proofs.Ytaedaknkpfeipaa
open Go.RowKit Go.MagM
theorem grid_begin {fa : Int → Int → Bool} {W H bn : Nat} {Bd : List (Nat × Nat)} {S : List TriM} (h : Built fa (gridT W H bn) Bd S) (hW : W = 1 ∨ W = 2) (hH : H = 1 ∨ H = 2) (hb : bn < 16) (fr : Int) : ∃ (t0 : Nat) (T0 : TriM), beginM S fr = (t0 : Int) ∧ S[t0]? = some T0 ∧ realT T0 = true := by
  have hi := grid_inL hW hH hb
  unfold inL at hi
  rw [Bool.and_eq_true] at hi
  have h0 : 0 < (gridT W H bn).length := of_decide_eq_true hi.2
  have hr := h.real_iff 0
  rw [decide_eq_true h0] at hr
  obtain ⟨T, hg, hr0⟩ := realM_some hr
  rw [getT_nat] at hg
  exact begin_at hg hr0 fr
end Go.Proofs.Ytaedaknkpfeipaa
