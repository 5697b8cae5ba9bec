/- The statements' Grid, 1 by 2. -/
import Derived.Test.YtecnnpkpgbbfkaaPartf
import Derived.Test.YtecnnpkpgbbfkaaPartr
import Derived.Test.YtecnnpkpgbbfkaaParto
import Derived.Test.YtecnnpkpgbbfkaaPartq
import Derived.Test.YtecnnpkpgbbfkaaPartn
import Derived.RangeFuncNested
import Derived.RangeFuncBound
import Derived.RangeFuncCalls
import Derived.RangeFuncLeaves
namespace Go.Proofs.Ytecnnpkpgbbfkaa
open Go.RowKit Go.MagM
set_option maxRecDepth 100000 in
set_option maxHeartbeats 16000000 in
theorem Grid12_any (w0 h0 b f : Int) (bn : Nat) (hbn : bn < 16) (e1 : bits .and .i64 w0 1 = 0) (e2 : bits .and .i64 h0 1 = 1) (hbit : ∀ k : Nat, k < 4 → bitB b k = bn.testBit k) (w : World) :
  Calls Try.prog 6 #[.int .i64 w0, .int .i64 h0, .int .u32 b, .int .u32 f] w fun e w' => ∃ (mb g c : Nat) (F : Int → Int → Bool), e = .returned (.tuple #[.pointer (some ⟨mb, 0, none⟩), .slice (some ⟨g, 0, none⟩) 4 c]) ∧ BuildEnd 62 49 F w.heap.size (gridP 1 2) (gridT 1 2 bn) mb w' ∧ TrIn w' g ((gridT 1 2 bn).map realV) ∧ w.heap.size ≤ g ∧ Below w.heap.size w w' := by
 have ok := grid_ok (w := 1) (h := 2) (by omega) (by omega) hbn
 have hm := grid_has (w := 1) (h := 2) (by omega) (by omega) hbn
 have hps : InPs (gridP 1 2) := grid_inPs (by omega) (by omega)
 have OK := Lib.hid ok; have HM := Lib.hid hm; have HPS := Lib.hid hps; have HBIT := Lib.hid hbit
 clear ok hm hps hbit
 obtain ⟨i0, hi, hz0, hz1, hz2⟩ := info_parts infoPt
 have HI := Lib.hid hi; have HZ0 := Lib.hid hz0; have HZ1 := Lib.hid hz1; have HZ2 := Lib.hid hz2
 obtain ⟨j0, hj, hy0, hy1, hy2⟩ := info_parts infoE3
 have HJ := Lib.hid hj; have HY0 := Lib.hid hy0; have HY1 := Lib.hid hy1; have HY2 := Lib.hid hy2
 clear hi hz0 hz1 hz2 hj hy0 hy1 hy2
 obtain ⟨w1, hw1, pw0, hB1, hs1⟩ := new_box w _ rfl [.int .i64 w0] 3
 have sc := pw0.c 0 _ rfl; have sf := pw0.f 0 _ rfl
 obtain ⟨w2, hw2⟩ : ∃ w2, w1.setCell ⟨w.heap.size, 0, none⟩ (.int .i64 1) = w2 := ⟨_, rfl⟩
 have pw2 : Box w2 w.heap.size [.int .i64 1] := by rw [← hw2]; exact pw0.set 0 (.int .i64 1)
 have hB2 : Below w.heap.size w w2 := by rw [← hw2]; exact hB1.setCell (p := ⟨w.heap.size, 0, none⟩) (by simp only []; omega) _
 have hz2 : w.heap.size + 1 ≤ w2.heap.size := by have := pw2.lt; omega
 have PW2 := Lib.hid pw2; have HB2 := Lib.hid hB2; have HZS := Lib.hid hz2
 clear pw0 hB1 hs1 pw2 hB2 hz2
 go_enter Try.func6, Try.ntmps6
 go_wp2
 clear sc sf hw1 hw2
 go_loopw [10, 11, 12, 35] (fun pv _ _ iv wr => ∃ (y : Nat) (vv : Value), y ≤ 3 ∧ iv = .int .i64 (y : Int) ∧ vv = pv ∧ RowN wr (w.heap.size + 1) 62 2 vv (y * 2) (ptsCells ((gridP 1 2).take (y * 2))) ∧ Box wr w.heap.size [.int .i64 1] ∧ Below w.heap.size w wr ∧ w.heap.size + 1 ≤ wr.heap.size) (fun _ _ _ iv _ => 3 - (intOf iv).toNat)
 case atStart => exact ⟨0, _, Nat.zero_le _, rfl, rfl, RowN.nil _ _ _ _, PW2.out, HB2.out, HZS.out⟩
 case round =>
  obtain ⟨y, vv, hy, rfl, rfl, hrow, hbx, hbw, hsz⟩ := hrel
  by_cases hlt : y < 3
  ·have hyd : decide ((y : Int) < 3) = true := decide_eq_true (by omega)
   have cw := hbx.c 0 _ rfl
   have HROW := Lib.hid hrow; have HBX := Lib.hid hbx; have HBW := Lib.hid hbw; have HSZ := Lib.hid hsz
   clear hrow hbx hbw hsz
   go_wp2
   clear cw
   go_loopw [10, 12, 40] (fun pv _ iv wr => ∃ (x : Nat) (vv : Value), x ≤ 2 ∧ iv = .int .i64 (x : Int) ∧ vv = pv ∧ RowN wr (w.heap.size + 1) 62 2 vv (y * 2 + x) (ptsCells ((gridP 1 2).take (y * 2 + x))) ∧ Box wr w.heap.size [.int .i64 1] ∧ Below w.heap.size w wr ∧ w.heap.size + 1 ≤ wr.heap.size) (fun _ _ iv _ => 2 - (intOf iv).toNat)
   case atStart => exact ⟨0, _, Nat.zero_le _, rfl, rfl, HROW.out, HBX.out, HBW.out, HSZ.out⟩
   case round =>
    obtain ⟨x, vv, hx, rfl, rfl, hrow, hbx, hbw, hsz⟩ := hrel
    by_cases hlx : x < 2
    ·have hel := gridP_at (w := 1) (h := 2) (by omega) (by omega) (x := x) (y := y) (by omega) (by omega)
     have hx2 : IntKind.i64.wrap (2 * (x : Int)) = 2 * (x : Int) := by rw [IntKind.wrap_i64]; omega
     have hy2 : IntKind.i64.wrap (2 * (y : Int)) = 2 * (y : Int) := by rw [IntKind.wrap_i64]; omega
     obtain ⟨w3, hw3, hpn, hb3, hs3⟩ := new_box wr _ rfl [.int .i64 (2 * (x : Int)), .int .i64 (2 * (y : Int))] 62
     have hrow3 := hrow.below hb3
     have hbx3 := hbx.below hb3
     have hbw3 := hbw.trans (hb3.mono hbw.size)
     obtain ⟨v1, w4, hrun, rown, hgrow, hkept⟩ := run_append_row (P := Try.prog) w3 (w.heap.size + 1) 40 40 62 i0 (.agg #[.int .i64 0, .int .i64 0]) 2 16 (by kernel_rfl) HI.out HZ0.out HZ1.out HZ2.out rfl (noWordI2 _ _) _ (y * 2 + x) _ hrow3 ⟨wr.heap.size, 0, none⟩ 1 1 [.int .i64 (2 * (x : Int)), .int .i64 (2 * (y : Int))] (by omega) rfl hpn.news (by intro u hu; simp at hu; rcases hu with rfl | rfl <;> rfl) (noWordI2 _ _) (by unfold maxLen; omega) (by omega) (by omega)
     have hne : ∀ k, vv.ownBlock = some k → w.heap.size + 1 ≤ k := fun k hk => (hrow3.lt k hk).1
     have hbx4 := hbx3.grown hgrow (fun e => by have := hne _ e; omega) hbx3.lt
     have hbw4 : Below w.heap.size w w4 := hbw3.grown hgrow (by omega) (fun k hk => by have := hne k hk; omega)
     have htk : ptsCells ((gridP 1 2).take (y * 2 + x)) ++ [.int .i64 (2 * (x : Int)), .int .i64 (2 * (y : Int))] = ptsCells ((gridP 1 2).take (y * 2 + (x + 1))) := by
      rw [← Nat.add_assoc, List.take_add_one, hel, ptsCells_app]; rfl
     rw [htk] at rown
     have FIN := Lib.hid (And.intro rown (And.intro hbx4 (And.intro hbw4 (show w.heap.size + 1 ≤ w4.heap.size by have := hgrow.size; omega))))
     clear hrow hbx hbw hsz hpn hb3 hs3 hrow3 hbx3 hbw3 rown hgrow hkept hne hbx4 hbw4 htk hel
     go_wp2_with (refine wpList_append_row rfl _ _ 40 rfl rfl rfl hrun ?_)
     have FI := FIN.out
     exact ⟨⟨x + 1, _, by omega, by go_num, rfl, FI.1, FI.2.1, FI.2.2.1, FI.2.2.2⟩, by simp [intOf]; omega⟩
    ·obtain rfl : x = 2 := by omega
     have FIN := Lib.hid (And.intro hrow (And.intro hbx (And.intro hbw hsz)))
     clear hrow hbx hbw hsz
     go_wp2
     have FI := FIN.out
     have hrow := FI.1
     rw [show y * 2 + 2 = (y + 1) * 2 by omega] at hrow
     exact ⟨⟨y + 1, _, by omega, by go_num, rfl, hrow, FI.2.1, FI.2.2.1, FI.2.2.2⟩, by simp [intOf]; omega⟩
  ·obtain rfl : y = 3 := by omega
   have hpt : (gridP 1 2).take (3 * 2) = gridP 1 2 := rfl
   rw [hpt] at hrow
   obtain ⟨gp, gpc, hvv⟩ : ∃ g c, vv = .slice (some ⟨g, 0, none⟩) 6 c := by
    rcases hrow.2 with ⟨h1, h2⟩ | ⟨g, cap, cur, h1, h2, h3⟩
    ·omega
    ·exact ⟨g, cap, h1⟩
   subst hvv
   have hpl := hrow.lt gp rfl
   obtain ⟨w5, hw5⟩ : ∃ w5, w5 = wr := ⟨_, rfl⟩
   rw [← hw5] at hrow hbx hbw hsz hpl
   rw [← hw5]
   have HROW := Lib.hid hrow; have HBX := Lib.hid hbx; have HBW := Lib.hid hbw; have HSZ := Lib.hid hsz; have HPL := Lib.hid hpl
   clear hrow hbx hbw hsz hpl hw5
   go_wp2
   go_loopw [13, 15, 16, 17, 18, 19, 20, 21, 55] (fun tv kv _ _ _ _ _ _ iv wr => ∃ (y : Nat) (vv : Value), y ≤ 2 ∧ iv = .int .i64 (y : Int) ∧ kv = .int .i64 ((y * 1 : Nat) : Int) ∧ vv = tv ∧ RowN wr w5.heap.size 46 3 vv (2 * (y * 1)) (tr3Cells ((gridT 1 2 bn).take (2 * (y * 1)))) ∧ Below w5.heap.size w5 wr) (fun _ _ _ _ _ _ _ _ iv _ => 2 - (intOf iv).toNat)
   case atStart => exact ⟨0, _, Nat.zero_le _, rfl, rfl, rfl, RowN.nil _ _ _ _, Below.refl _ _⟩
   case round =>
    obtain ⟨y, vv, hy, rfl, rfl, rfl, hrow, hbw⟩ := hrel
    by_cases hlt : y < 2
    ·have hyd : decide ((y : Int) < 2) = true := decide_eq_true (by omega)
     have cw := (HBX.out.below hbw).c 0 _ rfl
     have HRW := Lib.hid hrow; have HBZ := Lib.hid hbw
     clear hrow hbw
     go_wp2
     clear cw
     go_loopw [13, 15, 17, 18, 19, 20, 21, 59] (fun tv kv _ _ _ _ _ iv wr => ∃ (x : Nat) (vv : Value), x ≤ 1 ∧ iv = .int .i64 (x : Int) ∧ kv = .int .i64 ((y * 1 + x : Nat) : Int) ∧ vv = tv ∧ RowN wr w5.heap.size 46 3 vv (2 * (y * 1 + x)) (tr3Cells ((gridT 1 2 bn).take (2 * (y * 1 + x)))) ∧ Below w5.heap.size w5 wr) (fun _ _ _ _ _ _ _ iv _ => 1 - (intOf iv).toNat)
     case atStart => exact ⟨0, _, Nat.zero_le _, rfl, by rw [Nat.add_zero], rfl, HRW.out, HBZ.out⟩
     case round =>
      obtain ⟨x, vv, hx, rfl, rfl, rfl, hrow, hbw⟩ := hrel
      by_cases hlx : x < 1
      ·have cw := (HBX.out.below hbw).c 0 _ rfl
       have hev := HM.out.even y x hlt hlx
       have hod := HM.out.odd y x hlt hlx
       have hbt := HBIT.out (y * 1 + x) (by omega)
       obtain ⟨q, hq⟩ : ∃ q, bn.testBit (y * 1 + x) = q := ⟨_, rfl⟩
       rw [hq] at hev hod hbt
       have a0 := gridNo_any w.heap.size 1 x y wr (by omega) (by omega) (by omega) cw ((y : Int) * 2 + (x : Int)) (by omega)
       have a1 := gridNo_any w.heap.size 1 (x + 1) y wr (by omega) (by omega) (by omega) cw ((y : Int) * 2 + ((x : Int) + 1)) (by omega)
       have a2 := gridNo_any w.heap.size 1 (x + 1) (y + 1) wr (by omega) (by omega) (by omega) cw (((y : Int) + 1) * 2 + ((x : Int) + 1)) (by omega)
       have a3 := gridNo_any w.heap.size 1 x (y + 1) wr (by omega) (by omega) (by omega) cw (((y : Int) + 1) * 2 + (x : Int)) (by omega)
       rw [show (((x + 1 : Nat)) : Int) = (x : Int) + 1 by omega] at a1 a2
       rw [show (((y + 1 : Nat)) : Int) = (y : Int) + 1 by omega] at a2 a3
       obtain ⟨ca, hca⟩ : ∃ c : Int, (y : Int) * 2 + (x : Int) = c := ⟨_, rfl⟩
       obtain ⟨cb, hcb⟩ : ∃ c : Int, (y : Int) * 2 + ((x : Int) + 1) = c := ⟨_, rfl⟩
       obtain ⟨cc, hcc⟩ : ∃ c : Int, ((y : Int) + 1) * 2 + ((x : Int) + 1) = c := ⟨_, rfl⟩
       obtain ⟨cd, hcd⟩ : ∃ c : Int, ((y : Int) + 1) * 2 + (x : Int) = c := ⟨_, rfl⟩
       rw [hca] at a0; rw [hcb] at a1; rw [hcc] at a2; rw [hcd] at a3
       have C0 := Lib.hid a0; have C1 := Lib.hid a1; have C2 := Lib.hid a2; have C3 := Lib.hid a3
       have HEV := Lib.hid hev; have HOD := Lib.hid hod; have HBT := Lib.hid hbt; have HRW2 := Lib.hid hrow; have HBZ2 := Lib.hid hbw
       have HCA := Lib.hid hca; have HCB := Lib.hid hcb; have HCC := Lib.hid hcc; have HCD := Lib.hid hcd
       obtain ⟨kk, hkk⟩ : ∃ kk : Nat, y * 1 + x = kk := ⟨_, rfl⟩
       have hkk4 : kk < 4 := by omega
       rw [hkk] at hbt
       unfold bitB at hbt
       have na : (((y * 2 + x : Nat)) : Int) = ca := by omega
       have nb : (((y * 2 + (x + 1) : Nat)) : Int) = cb := by omega
       have nc : ((((y + 1) * 2 + (x + 1) : Nat)) : Int) = cc := by omega
       have nd : ((((y + 1) * 2 + x : Nat)) : Int) = cd := by omega
       have HKK := Lib.hid hkk
       rw [hkk]
       have HNA := Lib.hid (And.intro na (And.intro nb (And.intro nc nd)))
       clear a0 a1 a2 a3 hev hod hrow hbw hca hcb hcc hcd cw hkk na nb nc nd hq
       cases q
       ·have hev' : (gridT 1 2 bn)[2 * (y * 1 + x)]? = some (y * 2 + (x + 1), (y + 1) * 2 + x, y * 2 + x) := HEV.out
        have hod' : (gridT 1 2 bn)[2 * (y * 1 + x) + 1]? = some ((y + 1) * 2 + x, y * 2 + (x + 1), (y + 1) * 2 + (x + 1)) := HOD.out
        have HEV' := Lib.hid hev'; have HOD' := Lib.hid hod'
        clear hev' hod'
        go_wp2_with fail
        refine C0.out.mono ?_
        rintro e w6 ⟨rfl, rfl⟩
        go_wp2_with fail
        refine C1.out.mono ?_
        rintro e w6 ⟨rfl, rfl⟩
        go_wp2_with fail
        refine C2.out.mono ?_
        rintro e w6 ⟨rfl, rfl⟩
        go_wp2_with fail
        refine C3.out.mono ?_
        rintro e w6 ⟨rfl, rfl⟩
        obtain ⟨w6, hw6, hpn, hb6, hs6⟩ := new_box wr _ rfl [.int .i64 cb, .int .i64 cd, .int .i64 ca, .int .i64 cd, .int .i64 cb, .int .i64 cc] 46
        have hrow6 := HRW2.out.below hb6
        have hbw6 := HBZ2.out.trans (hb6.mono HBZ2.out.size)
        obtain ⟨v1, w7, hrun, rown, hgrow, hkept⟩ := run_append_row (P := Try.prog) w6 w5.heap.size 26 26 46 j0 (.agg #[.int .i64 0, .int .i64 0, .int .i64 0]) 3 24 (by kernel_rfl) HJ.out HY0.out HY1.out HY2.out rfl (noWordI3 _ _ _) _ (2 * (y * 1 + x)) _ hrow6 ⟨wr.heap.size, 0, none⟩ 2 2 [.int .i64 cb, .int .i64 cd, .int .i64 ca, .int .i64 cd, .int .i64 cb, .int .i64 cc] (by omega) rfl hpn.news (by intro u hu; simp at hu; rcases hu with rfl | rfl | rfl | rfl | rfl | rfl <;> rfl) (noWordI6 _ _ _ _ _ _) (by unfold maxLen; omega) (by omega) (by have := hbw6.size; omega)
        have hbw7 : Below w5.heap.size w5 w7 := hbw6.grown hgrow (by have := hbw6.size; omega) (fun k hk => (hrow6.lt k hk).1)
        have htk : tr3Cells ((gridT 1 2 bn).take (2 * (y * 1 + x))) ++ [.int .i64 cb, .int .i64 cd, .int .i64 ca, .int .i64 cd, .int .i64 cb, .int .i64 cc] = tr3Cells ((gridT 1 2 bn).take (2 * (y * 1 + (x + 1)))) := by
         obtain ⟨na, nb, nc, nd⟩ := HNA.out
         rw [show 2 * (y * 1 + (x + 1)) = 2 * (y * 1 + x) + 1 + 1 by omega, List.take_add_one, List.take_add_one, HEV'.out, HOD'.out, tr3_app, tr3_app, List.append_assoc]
         simp only [Option.toList_some, tr3Cells, na, nb, nc, nd, List.cons_append, List.nil_append]
        rw [htk, show 2 * (y * 1 + x) + 2 = 2 * (y * 1 + (x + 1)) by omega] at rown
        have FIN := Lib.hid (And.intro rown hbw7)
        clear hpn hb6 hs6 hrow6 hbw6 rown hgrow hkept hbw7 htk
        go_wp2_with (refine wpList_append_row rfl _ _ 26 rfl rfl rfl hrun ?_)
        have hkk := HKK.out
        refine ⟨⟨_, _, _, _, _, _, _, _, _, _, _, _, _, _, _, _, _, _, _, _, _, _, _, _, _, _, _, _, _, _, _, _, _, _, _, _, _, _, _, _, _, _, _, _, _, _, _, _, _, _, _, _, _, _, _, _, _, _, _, _, ?_, rfl⟩, by simp [intOf]; omega⟩
        exact ⟨x + 1, _, by omega, by go_num, congrArg (Value.int .i64) (by omega), rfl, FIN.out.1, FIN.out.2⟩
       ·have hev' : (gridT 1 2 bn)[2 * (y * 1 + x)]? = some (y * 2 + x, y * 2 + (x + 1), (y + 1) * 2 + (x + 1)) := HEV.out
        have hod' : (gridT 1 2 bn)[2 * (y * 1 + x) + 1]? = some ((y + 1) * 2 + (x + 1), (y + 1) * 2 + x, y * 2 + x) := HOD.out
        have HEV' := Lib.hid hev'; have HOD' := Lib.hid hod'
        clear hev' hod'
        go_wp2_with fail
        refine C0.out.mono ?_
        rintro e w6 ⟨rfl, rfl⟩
        go_wp2_with fail
        refine C1.out.mono ?_
        rintro e w6 ⟨rfl, rfl⟩
        go_wp2_with fail
        refine C2.out.mono ?_
        rintro e w6 ⟨rfl, rfl⟩
        go_wp2_with fail
        refine C3.out.mono ?_
        rintro e w6 ⟨rfl, rfl⟩
        obtain ⟨w6, hw6, hpn, hb6, hs6⟩ := new_box wr _ rfl [.int .i64 ca, .int .i64 cb, .int .i64 cc, .int .i64 cc, .int .i64 cd, .int .i64 ca] 46
        have hrow6 := HRW2.out.below hb6
        have hbw6 := HBZ2.out.trans (hb6.mono HBZ2.out.size)
        obtain ⟨v1, w7, hrun, rown, hgrow, hkept⟩ := run_append_row (P := Try.prog) w6 w5.heap.size 26 26 46 j0 (.agg #[.int .i64 0, .int .i64 0, .int .i64 0]) 3 24 (by kernel_rfl) HJ.out HY0.out HY1.out HY2.out rfl (noWordI3 _ _ _) _ (2 * (y * 1 + x)) _ hrow6 ⟨wr.heap.size, 0, none⟩ 2 2 [.int .i64 ca, .int .i64 cb, .int .i64 cc, .int .i64 cc, .int .i64 cd, .int .i64 ca] (by omega) rfl hpn.news (by intro u hu; simp at hu; rcases hu with rfl | rfl | rfl | rfl | rfl | rfl <;> rfl) (noWordI6 _ _ _ _ _ _) (by unfold maxLen; omega) (by omega) (by have := hbw6.size; omega)
        have hbw7 : Below w5.heap.size w5 w7 := hbw6.grown hgrow (by have := hbw6.size; omega) (fun k hk => (hrow6.lt k hk).1)
        have htk : tr3Cells ((gridT 1 2 bn).take (2 * (y * 1 + x))) ++ [.int .i64 ca, .int .i64 cb, .int .i64 cc, .int .i64 cc, .int .i64 cd, .int .i64 ca] = tr3Cells ((gridT 1 2 bn).take (2 * (y * 1 + (x + 1)))) := by
         obtain ⟨na, nb, nc, nd⟩ := HNA.out
         rw [show 2 * (y * 1 + (x + 1)) = 2 * (y * 1 + x) + 1 + 1 by omega, List.take_add_one, List.take_add_one, HEV'.out, HOD'.out, tr3_app, tr3_app, List.append_assoc]
         simp only [Option.toList_some, tr3Cells, na, nb, nc, nd, List.cons_append, List.nil_append]
        rw [htk, show 2 * (y * 1 + x) + 2 = 2 * (y * 1 + (x + 1)) by omega] at rown
        have FIN := Lib.hid (And.intro rown hbw7)
        clear hpn hb6 hs6 hrow6 hbw6 rown hgrow hkept hbw7 htk
        go_wp2_with (refine wpList_append_row rfl _ _ 26 rfl rfl rfl hrun ?_)
        have hkk := HKK.out
        refine ⟨⟨_, _, _, _, _, _, _, _, _, _, _, _, _, _, _, _, _, _, _, _, _, _, _, _, _, _, _, _, _, _, _, _, _, _, _, _, _, _, _, _, _, _, _, _, _, _, _, _, _, _, _, _, _, _, _, _, _, _, _, _, ?_, rfl⟩, by simp [intOf]; omega⟩
        exact ⟨x + 1, _, by omega, by go_num, congrArg (Value.int .i64) (by omega), rfl, FIN.out.1, FIN.out.2⟩
      ·obtain rfl : x = 1 := by omega
       have FIN := Lib.hid (And.intro hrow hbw)
       clear hrow hbw
       go_wp2
       have hrow := FIN.out.1
       rw [show y * 1 + 1 = (y + 1) * 1 by omega] at hrow
       exact ⟨⟨y + 1, _, by omega, by go_num, congrArg (Value.int .i64) (by omega), rfl, hrow, FIN.out.2⟩, by simp [intOf]; omega⟩
    ·obtain rfl : y = 2 := by omega
     have hgl := HM.out.len
     have htt : (gridT 1 2 bn).take (2 * (2 * 1)) = gridT 1 2 bn := List.take_of_length_le (by rw [hgl]; omega)
     rw [htt] at hrow
     obtain ⟨gt, gtc, hvv⟩ : ∃ g c, vv = .slice (some ⟨g, 0, none⟩) 4 c := by
      rcases hrow.2 with ⟨h1, h2⟩ | ⟨g, cap, cur, h1, h2, h3⟩
      ·omega
      ·exact ⟨g, cap, h1⟩
     subst hvv
     have hgtl := hrow.lt gt rfl
     obtain ⟨w7, hw7⟩ : ∃ w7, w7 = wr := ⟨_, rfl⟩
     rw [← hw7] at hrow hbw hgtl
     rw [← hw7]
     clear hw7
     obtain ⟨fb, hfb⟩ : ∃ fb, w7.heap.size = fb := ⟨_, rfl⟩
     obtain ⟨hmk, hmp⟩ := run_new_map (P := Try.prog) w7 64 22
     obtain ⟨w8, hw8⟩ : ∃ w8, w7.alloc (.map #[] 0) = w8 := ⟨_, rfl⟩
     rw [hw8, hfb] at hmk hmp
     have hb8 : Below fb w7 w8 := by rw [← hw8, ← hfb]; exact (Below.refl _ _).alloc (Nat.le_refl _) _
     have htr := hrow.trIn
     have HRWT := Lib.hid hrow; have HBT := Lib.hid hbw; have HTR := Lib.hid htr; have HGTL := Lib.hid hgtl; have HFB := Lib.hid hfb; have HMP := Lib.hid (fault_new hmp); have HB8 := Lib.hid hb8
     clear hrow hbw htr hgtl hfb hmp hb8 hw8
     go_wp2
     clear hmk
     go_loopw [23, 25, 26, 116] (fun nv _ _ iv wr => ∃ j : Nat, j ≤ 4 ∧ iv = .int .i64 (j : Int) ∧ nv = .int .i64 ((3 * j : Nat) : Int) ∧ (∃ F, FaultMap Try.prog 22 wr fb F) ∧ Below fb w7 wr) (fun _ _ _ iv _ => 4 - (intOf iv).toNat)
     case atStart => exact ⟨0, Nat.zero_le _, rfl, rfl, ⟨_, HMP.out⟩, HB8.out⟩
     case round =>
      obtain ⟨j, hj, rfl, rfl, ⟨F, hF⟩, hbw⟩ := hrel
      by_cases hlt : j < 4
      ·have hyd : decide ((j : Int) < 4) = true := decide_eq_true (by omega)
       obtain ⟨⟨x, y, z⟩, hv⟩ : ∃ v, (gridT 1 2 bn)[j]? = some v := ⟨_, List.getElem?_eq_getElem (by have := HM.out.len; omega)⟩
       obtain ⟨px, py, pz⟩ := OK.out.pts _ (List.mem_of_getElem? hv)
       have hpl6 := OK.out.many
       simp only [] at px py pz
       have htk := HTR.out j (x : Int) (y : Int) (z : Int) (by rw [List.getElem?_map, hv]; rfl)
       have hfb := HFB.out
       have l1 := World.block_lt_of_cell? w7 _ htk.1
       simp only [] at l1
       have ka := (hbw.cell (p := ⟨gt, j * 3, none⟩) (by show gt < fb; omega)).trans htk.1
       have kb := (hbw.cell (p := ⟨gt, j * 3 + 1, none⟩) (by show gt < fb; omega)).trans htk.2.1
       have kc := (hbw.cell (p := ⟨gt, j * 3 + 2, none⟩) (by show gt < fb; omega)).trans htk.2.2
       obtain ⟨w9, hw9, hpv, hb9, hs9⟩ := new_box wr _ rfl [.int .i64 (x : Int), .int .i64 (y : Int), .int .i64 (z : Int)] 46
       have hF9 := hF.same (hb9.block fb hF.lt)
       have hfl := hF.lt
       have hbw9 : Below fb w7 w9 := hbw.trans (hb9.mono (by omega))
       obtain ⟨tb, htb⟩ : ∃ tb, wr.heap.size = tb := ⟨_, rfl⟩
       have htf : fb < tb := by omega
       rw [htb] at hpv
       have HF9 := Lib.hid hF9; have HBW9 := Lib.hid hbw9; have HPV := Lib.hid hpv
       have hxyz : x < 10 ∧ y < 10 ∧ z < 10 := by
        have : (gridP 1 2).length = 6 := rfl
        omega
       clear hv px py pz htk hfb l1 hb9 hs9 hF9 hbw9 hpv hF hbw hfl hpl6
       go_wp2
       clear ka kb kc hw9 htb
       go_loopw [23, 26, 120] (fun nv _ iv wr => ∃ i : Nat, i ≤ 3 ∧ iv = .int .i64 (i : Int) ∧ nv = .int .i64 ((3 * j + i : Nat) : Int) ∧ (∃ F, FaultMap Try.prog 22 wr fb F) ∧ Box wr tb [.int .i64 (x : Int), .int .i64 (y : Int), .int .i64 (z : Int)] ∧ Below fb w7 wr) (fun _ _ iv _ => 3 - (intOf iv).toNat)
       case atStart => exact ⟨0, Nat.zero_le _, rfl, rfl, ⟨_, HF9.out⟩, HPV.out, HBW9.out⟩
       case round =>
        obtain ⟨i, hi, rfl, rfl, ⟨F2, hF2⟩, hbx, hbw⟩ := hrel
        by_cases hli : i < 3
        ·obtain ⟨nn, hnn⟩ : ∃ nn : Nat, 3 * j + i = nn := ⟨_, rfl⟩
         have hnn24 : nn < 24 := by omega
         have HNN := Lib.hid hnn
         rw [hnn]
         clear hnn
         have HF2 := Lib.hid hF2; have HBX2 := Lib.hid hbx; have HBW2 := Lib.hid hbw
         clear hF2 hbx hbw
         obtain ⟨q, hq⟩ : ∃ q : Bool, (bits .and .u32 (f / 2 ^ (nn % 32)) 1 == 1) = q := ⟨_, rfl⟩
         have hfb2 := HF2.out.lt
         have hd3 := (HF2.out.same (w' := wr.drew) rfl)
         have hx3 := HBX2.out.drew
         have hw3 := HBW2.out.drew'
         have HF3 := Lib.hid hd3; have HBX3 := Lib.hid hx3; have HBW3 := Lib.hid hw3
         clear hd3 hx3 hw3
         cases q
         ·go_wp2
          have hnn := HNN.out
          exact ⟨⟨i + 1, by omega, by go_num, congrArg (Value.int .i64) (by omega), ⟨_, HF2.out⟩, HBX2.out, HBW2.out⟩, by simp [intOf]; omega⟩
         ·obtain rfl | rfl | rfl : i = 0 ∨ i = 1 ∨ i = 2 := by omega
          ·obtain ⟨mn, hmn⟩ : ∃ mn : Int, (if (y : Int) < (x : Int) then (y : Int) else (x : Int)) = mn := ⟨_, rfl⟩
           obtain ⟨mx, hmx⟩ : ∃ mx : Int, (if (y : Int) > (x : Int) then (y : Int) else (x : Int)) = mx := ⟨_, rfl⟩
           have bmn : -1000000 ≤ mn ∧ mn ≤ 1000000 := by rw [← hmn]; split <;> omega
           have bmx : -1000000 ≤ mx ∧ mx ≤ 1000000 := by rw [← hmx]; split <;> omega
           have hmin : ∀ w : World, Sem.run Try.prog (Builtin.min_ #[3, 3] 3 #[.int .i64 (x : Int), .int .i64 (y : Int)]) w = Result.ok (Value.int .i64 mn) w := fun w => by rw [run_min_int2, hmn]
           have hmax : ∀ w : World, Sem.run Try.prog (Builtin.max_ #[3, 3] 3 #[.int .i64 (x : Int), .int .i64 (y : Int)]) w = Result.ok (Value.int .i64 mx) w := fun w => by rw [run_max_int2, hmx]
           have hwk : (IntKind.i64.wrap 1).tmod 3 = 1 := by decide
           obtain ⟨wm, F4, hup, hT4, hF4⟩ := fault_store HF3.out bmn bmx
           have hx0 := HBX3.out.c 0 _ rfl; have hx1 := HBX3.out.c 1 _ rfl
           have hbx4 := HBX3.out.turned hT4 (by omega)
           have hbw4 : Below fb w7 wm := Below.turned HBW3.out hT4 (Nat.le_refl _)
           have hy0 := hbx4.c 0 _ rfl; have hy1 := hbx4.c 1 _ rfl
           have FIN := Lib.hid (And.intro hF4 (And.intro hbx4 hbw4))
           clear hmn hmx bmn bmx hT4 hF4 hbx4 hbw4
           go_wp2_with fail
           obtain ⟨SSs, hSSs⟩ : ∃ S : Array Bool → World → Prop, ∀ l w', S l w' ↔ ((w'.cell? ⟨tb, 0, none⟩ = some (.int .i64 (x : Int))) ∧ (w'.cell? ⟨tb, 1, none⟩ = some (.int .i64 (y : Int)))) := ⟨_, fun _ _ => Iff.rfl⟩
           refine wp_region_noPanic ?_
           refine wp_region_G SSs 21 #[false, false, false, false, false, false, false, false, false, false, false, false, false, false, false, false, false, false, false, false, false] (by kernel_rfl) (by kernel_rfl) (by kernel_rfl) ((hSSs _ _).2 ⟨hx0, hx1⟩) (fun hCl hHeld => ?_)
           generalize wr.drew = wd at *
           refine rG 0 ?_ ?_ ?_ ?_ ?_ ?_ hCl hHeld ?_;rotate_left 2
           ·simp only [gA,gZ]; exact rfl
           ·intro l w'; rw [hSSs, hSSs]
           ·rfl
           ·intro w' hA;clear hA;go_simp;try with_reducible rfl
           clear hCl hHeld
           intro hCl hHeld
           simp only [List.setIfInBounds_toArray, List.set_cons_zero] at hCl hHeld
           (try simp only [Act.put]);try simp only [sA,sZ,sS]
           refine rG 1 ?_ ?_ ?_ ?_ ?_ ?_ hCl hHeld ?_;rotate_left 2
           ·simp only [gA,gS,gZ]; exact rfl
           ·intro l w'; rw [hSSs, hSSs]
           ·rfl
           ·intro w' hA;clear hA;go_simp;try with_reducible rfl
           clear hCl hHeld
           intro hCl hHeld
           simp only [sA,sZ,sS] at hCl hHeld
           (try simp only [Act.put]);try simp only [sA,sZ,sS]
           refine rG 2 ?_ ?_ ?_ ?_ ?_ ?_ hCl hHeld ?_;rotate_left 2
           ·simp only [gA,gS,gZ]; exact rfl
           ·intro l w'; rw [hSSs, hSSs]
           ·rfl
           ·intro w' hA;clear hA;go_simp;try with_reducible rfl
           clear hCl hHeld
           intro hCl hHeld
           simp only [sA,sZ,sS] at hCl hHeld
           (try simp only [Act.put]);try simp only [sA,sZ,sS]
           refine rG 3 ?_ ?_ ?_ ?_ ?_ ?_ hCl hHeld ?_;rotate_left 2
           ·simp only [gA,gS,gZ]; exact rfl
           ·intro l w'; rw [hSSs, hSSs]
           ·rfl
           ·intro w' hA; obtain ⟨l, hl, hi, hSl⟩ := hA; have hSl := (hSSs _ _).1 hSl; obtain ⟨hz0, hz1⟩ := hSl; go_simp; try with_reducible rfl
           clear hCl hHeld
           intro hCl hHeld
           simp only [sA,sZ,sS] at hCl hHeld
           (try simp only [Act.put]);try simp only [sA,sZ,sS]
           refine rG 4 ?_ ?_ ?_ ?_ ?_ ?_ hCl hHeld ?_;rotate_left 2
           ·simp only [gA,gS,gZ]; exact rfl
           ·intro l w'; rw [hSSs, hSSs]
           ·rfl
           ·intro w' hA;clear hA;go_simp;try with_reducible rfl
           clear hCl hHeld
           intro hCl hHeld
           simp only [sA,sZ,sS] at hCl hHeld
           (try simp only [Act.put]);try simp only [sA,sZ,sS]
           refine rG 5 ?_ ?_ ?_ ?_ ?_ ?_ hCl hHeld ?_;rotate_left 2
           ·simp only [gA,gS,gZ]; exact rfl
           ·intro l w'; rw [hSSs, hSSs]
           ·rfl
           ·intro w' hA;clear hA;go_simp;try with_reducible rfl
           clear hCl hHeld
           intro hCl hHeld
           simp only [sA,sZ,sS] at hCl hHeld
           (try simp only [Act.put]);try simp only [sA,sZ,sS]
           refine rG 6 ?_ ?_ ?_ ?_ ?_ ?_ hCl hHeld ?_;rotate_left 2
           ·simp only [gA,gS,gZ]; exact rfl
           ·intro l w'; rw [hSSs, hSSs]
           ·rfl
           ·intro w' hA;clear hA;go_simp;try with_reducible rfl
           clear hCl hHeld
           intro hCl hHeld
           simp only [sA,sZ,sS] at hCl hHeld
           (try simp only [Act.put]);try simp only [sA,sZ,sS]
           refine rG 7 ?_ ?_ ?_ ?_ ?_ ?_ hCl hHeld ?_;rotate_left 2
           ·simp only [gA,gS,gZ]; exact rfl
           ·intro l w'; rw [hSSs, hSSs]
           ·rfl
           ·intro w' hA;clear hA;go_simp;try with_reducible rfl
           clear hCl hHeld
           intro hCl hHeld
           simp only [sA,sZ,sS] at hCl hHeld
           (try simp only [Act.put]);try simp only [sA,sZ,sS]
           refine rG 8 ?_ ?_ ?_ ?_ ?_ ?_ hCl hHeld ?_;rotate_left 2
           ·simp only [gA,gS,gZ]; exact rfl
           ·intro l w'; rw [hSSs, hSSs]
           ·rfl
           ·intro w' hA; obtain ⟨l, hl, hi, hSl⟩ := hA; have hSl := (hSSs _ _).1 hSl; obtain ⟨hz0, hz1⟩ := hSl; go_simp; try with_reducible rfl
           clear hCl hHeld
           intro hCl hHeld
           simp only [sA,sZ,sS] at hCl hHeld
           (try simp only [Act.put]);try simp only [sA,sZ,sS]
           refine rG 9 ?_ ?_ ?_ ?_ ?_ ?_ hCl hHeld ?_;rotate_left 2
           ·simp only [gA,gS,gZ]; exact rfl
           ·intro l w'; rw [hSSs, hSSs]
           ·rfl
           ·intro w' hA;clear hA;go_simp;try with_reducible rfl
           clear hCl hHeld
           intro hCl hHeld
           simp only [sA,sZ,sS] at hCl hHeld
           (try simp only [Act.put]);try simp only [sA,sZ,sS]
           refine rG 10 ?_ ?_ ?_ ?_ ?_ ?_ hCl hHeld ?_;rotate_left 2
           ·simp only [gA,gS,gZ]; exact rfl
           ·intro l w'; rw [hSSs, hSSs]
           ·rfl
           ·intro w' hA;clear hA;go_simp;try with_reducible rfl
           clear hCl hHeld
           intro hCl hHeld
           simp only [sA,sZ,sS] at hCl hHeld
           (try simp only [Act.put]);try simp only [sA,sZ,sS]
           refine rG 11 ?_ ?_ ?_ ?_ ?_ ?_ hCl hHeld ?_;rotate_left 2
           ·simp only [gA,gS,gZ]; exact rfl
           ·intro l w'; rw [hSSs, hSSs]
           ·rfl
           ·intro w' hA;clear hA;go_simp;try with_reducible rfl
           clear hCl hHeld
           intro hCl hHeld
           simp only [sA,sZ,sS] at hCl hHeld
           (try simp only [Act.put]);try simp only [sA,sZ,sS]
           refine rG 12 ?_ ?_ ?_ ?_ ?_ ?_ hCl hHeld ?_;rotate_left 2
           ·simp only [gA,gS,gZ]; exact rfl
           ·intro l w'; rw [hSSs, hSSs]
           ·rfl
           ·intro w' hA; obtain ⟨l, hl, hi, hSl⟩ := hA; have hSl := (hSSs _ _).1 hSl; obtain ⟨hz0, hz1⟩ := hSl; go_simp; try with_reducible rfl
           clear hCl hHeld
           intro hCl hHeld
           simp only [sA,sZ,sS] at hCl hHeld
           (try simp only [Act.put]);try simp only [sA,sZ,sS]
           refine rG 13 ?_ ?_ ?_ ?_ ?_ ?_ hCl hHeld ?_;rotate_left 2
           ·simp only [gA,gS,gZ]; exact rfl
           ·intro l w'; rw [hSSs, hSSs]
           ·rfl
           ·intro w' hA;clear hA;go_simp;try with_reducible rfl
           clear hCl hHeld
           intro hCl hHeld
           simp only [sA,sZ,sS] at hCl hHeld
           (try simp only [Act.put]);try simp only [sA,sZ,sS]
           refine rG 14 ?_ ?_ ?_ ?_ ?_ ?_ hCl hHeld ?_;rotate_left 2
           ·simp only [gA,gS,gZ]; exact rfl
           ·intro l w'; rw [hSSs, hSSs]
           ·rfl
           ·intro w' hA;clear hA;go_simp;try with_reducible rfl
           clear hCl hHeld
           intro hCl hHeld
           simp only [sA,sZ,sS] at hCl hHeld
           (try simp only [Act.put]);try simp only [sA,sZ,sS]
           refine rG 15 ?_ ?_ ?_ ?_ ?_ ?_ hCl hHeld ?_;rotate_left 2
           ·simp only [gA,gS,gZ]; exact rfl
           ·intro l w'; rw [hSSs, hSSs]
           ·rfl
           ·intro w' hA;clear hA;go_simp;try with_reducible rfl
           clear hCl hHeld
           intro hCl hHeld
           simp only [sA,sZ,sS] at hCl hHeld
           (try simp only [Act.put]);try simp only [sA,sZ,sS]
           refine rG 16 ?_ ?_ ?_ ?_ ?_ ?_ hCl hHeld ?_;rotate_left 2
           ·simp only [gA,gS,gZ]; exact rfl
           ·intro l w'; rw [hSSs, hSSs]
           ·rfl
           ·intro w' hA;clear hA;go_simp;try with_reducible rfl
           clear hCl hHeld
           intro hCl hHeld
           simp only [sA,sZ,sS] at hCl hHeld
           (try simp only [Act.put]);try simp only [sA,sZ,sS]
           refine rG 17 ?_ ?_ ?_ ?_ ?_ ?_ hCl hHeld ?_;rotate_left 2
           ·simp only [gA,gS,gZ]; exact rfl
           ·intro l w'; rw [hSSs, hSSs]
           ·rfl
           ·intro w' hA; obtain ⟨l, hl, hi, hSl⟩ := hA; have hSl := (hSSs _ _).1 hSl; obtain ⟨hz0, hz1⟩ := hSl; go_simp; try with_reducible rfl
           clear hCl hHeld
           intro hCl hHeld
           simp only [sA,sZ,sS] at hCl hHeld
           (try simp only [Act.put]);try simp only [sA,sZ,sS]
           refine rG 18 ?_ ?_ ?_ ?_ ?_ ?_ hCl hHeld ?_;rotate_left 2
           ·simp only [gA,gS,gZ]; exact rfl
           ·intro l w'; rw [hSSs, hSSs]
           ·rfl
           ·intro w' hA;clear hA;go_simp;try with_reducible rfl
           clear hCl hHeld
           intro hCl hHeld
           simp only [sA,sZ,sS] at hCl hHeld
           (try simp only [Act.put]);try simp only [sA,sZ,sS]
           refine rG 19 ?_ ?_ ?_ ?_ ?_ ?_ hCl hHeld ?_;rotate_left 2
           ·simp only [gA,gS,gZ]; exact rfl
           ·intro l w'; rw [hSSs, hSSs]
           ·rfl
           ·intro w' hA;clear hA;go_simp;try with_reducible rfl
           clear hCl hHeld
           intro hCl hHeld
           simp only [sA,sZ,sS] at hCl hHeld
           (try simp only [Act.put]);try simp only [sA,sZ,sS]
           clear hCl hHeld
           refine reg_callG 20 ?_ (by kernel_rfl) ?_ (fun K hK => ?_);rotate_left 1
           ·simp only [gA,gS,gZ]; exact rfl
           go_simp
           clear hx0 hx1 hup
           refine hK.out _ _ ((hSSs _ _).2 ⟨hy0, hy1⟩) ?_
           clear hK K
           (try simp only [Act.put]);try simp only [sA,sZ,sS]
           refine wpAnyG_done (by kernel_rfl) ?_ _
           refine NoPanic.normal ?_
           clear hSSs SSs
           go_wp2
           have hnn := HNN.out
           refine ⟨⟨_, _, _, _, _, _, _, _, _, _, _, _, _, _, _, _, _, _, _, _, _, _, _, _, _, _, _, _, _, _, _, _, _, _, ?_, rfl⟩, by simp [intOf]⟩
           exact ⟨0 + 1, by omega, by go_num, congrArg (Value.int .i64) (by omega), ⟨_, FIN.out.1⟩, FIN.out.2.1, FIN.out.2.2⟩
          ·obtain ⟨mn, hmn⟩ : ∃ mn : Int, (if (z : Int) < (y : Int) then (z : Int) else (y : Int)) = mn := ⟨_, rfl⟩
           obtain ⟨mx, hmx⟩ : ∃ mx : Int, (if (z : Int) > (y : Int) then (z : Int) else (y : Int)) = mx := ⟨_, rfl⟩
           have bmn : -1000000 ≤ mn ∧ mn ≤ 1000000 := by rw [← hmn]; split <;> omega
           have bmx : -1000000 ≤ mx ∧ mx ≤ 1000000 := by rw [← hmx]; split <;> omega
           have hmin : ∀ w : World, Sem.run Try.prog (Builtin.min_ #[3, 3] 3 #[.int .i64 (y : Int), .int .i64 (z : Int)]) w = Result.ok (Value.int .i64 mn) w := fun w => by rw [run_min_int2, hmn]
           have hmax : ∀ w : World, Sem.run Try.prog (Builtin.max_ #[3, 3] 3 #[.int .i64 (y : Int), .int .i64 (z : Int)]) w = Result.ok (Value.int .i64 mx) w := fun w => by rw [run_max_int2, hmx]
           have hwk : (IntKind.i64.wrap 2).tmod 3 = 2 := by decide
           obtain ⟨wm, F4, hup, hT4, hF4⟩ := fault_store HF3.out bmn bmx
           have hx0 := HBX3.out.c 1 _ rfl; have hx1 := HBX3.out.c 2 _ rfl
           have hbx4 := HBX3.out.turned hT4 (by omega)
           have hbw4 : Below fb w7 wm := Below.turned HBW3.out hT4 (Nat.le_refl _)
           have hy0 := hbx4.c 1 _ rfl; have hy1 := hbx4.c 2 _ rfl
           have FIN := Lib.hid (And.intro hF4 (And.intro hbx4 hbw4))
           clear hmn hmx bmn bmx hT4 hF4 hbx4 hbw4
           go_wp2_with fail
           obtain ⟨SSs, hSSs⟩ : ∃ S : Array Bool → World → Prop, ∀ l w', S l w' ↔ ((w'.cell? ⟨tb, 1, none⟩ = some (.int .i64 (y : Int))) ∧ (w'.cell? ⟨tb, 2, none⟩ = some (.int .i64 (z : Int)))) := ⟨_, fun _ _ => Iff.rfl⟩
           refine wp_region_noPanic ?_
           refine wp_region_G SSs 21 #[false, false, false, false, false, false, false, false, false, false, false, false, false, false, false, false, false, false, false, false, false] (by kernel_rfl) (by kernel_rfl) (by kernel_rfl) ((hSSs _ _).2 ⟨hx0, hx1⟩) (fun hCl hHeld => ?_)
           generalize wr.drew = wd at *
           refine rG 0 ?_ ?_ ?_ ?_ ?_ ?_ hCl hHeld ?_;rotate_left 2
           ·simp only [gA,gZ]; exact rfl
           ·intro l w'; rw [hSSs, hSSs]
           ·rfl
           ·intro w' hA;clear hA;go_simp;try with_reducible rfl
           clear hCl hHeld
           intro hCl hHeld
           simp only [List.setIfInBounds_toArray, List.set_cons_zero] at hCl hHeld
           (try simp only [Act.put]);try simp only [sA,sZ,sS]
           refine rG 1 ?_ ?_ ?_ ?_ ?_ ?_ hCl hHeld ?_;rotate_left 2
           ·simp only [gA,gS,gZ]; exact rfl
           ·intro l w'; rw [hSSs, hSSs]
           ·rfl
           ·intro w' hA;clear hA;go_simp;try with_reducible rfl
           clear hCl hHeld
           intro hCl hHeld
           simp only [sA,sZ,sS] at hCl hHeld
           (try simp only [Act.put]);try simp only [sA,sZ,sS]
           refine rG 2 ?_ ?_ ?_ ?_ ?_ ?_ hCl hHeld ?_;rotate_left 2
           ·simp only [gA,gS,gZ]; exact rfl
           ·intro l w'; rw [hSSs, hSSs]
           ·rfl
           ·intro w' hA;clear hA;go_simp;try with_reducible rfl
           clear hCl hHeld
           intro hCl hHeld
           simp only [sA,sZ,sS] at hCl hHeld
           (try simp only [Act.put]);try simp only [sA,sZ,sS]
           refine rG 3 ?_ ?_ ?_ ?_ ?_ ?_ hCl hHeld ?_;rotate_left 2
           ·simp only [gA,gS,gZ]; exact rfl
           ·intro l w'; rw [hSSs, hSSs]
           ·rfl
           ·intro w' hA; obtain ⟨l, hl, hi, hSl⟩ := hA; have hSl := (hSSs _ _).1 hSl; obtain ⟨hz0, hz1⟩ := hSl; go_simp; try with_reducible rfl
           clear hCl hHeld
           intro hCl hHeld
           simp only [sA,sZ,sS] at hCl hHeld
           (try simp only [Act.put]);try simp only [sA,sZ,sS]
           refine rG 4 ?_ ?_ ?_ ?_ ?_ ?_ hCl hHeld ?_;rotate_left 2
           ·simp only [gA,gS,gZ]; exact rfl
           ·intro l w'; rw [hSSs, hSSs]
           ·rfl
           ·intro w' hA;clear hA;go_simp;try with_reducible rfl
           clear hCl hHeld
           intro hCl hHeld
           simp only [sA,sZ,sS] at hCl hHeld
           (try simp only [Act.put]);try simp only [sA,sZ,sS]
           refine rG 5 ?_ ?_ ?_ ?_ ?_ ?_ hCl hHeld ?_;rotate_left 2
           ·simp only [gA,gS,gZ]; exact rfl
           ·intro l w'; rw [hSSs, hSSs]
           ·rfl
           ·intro w' hA;clear hA;go_simp;try with_reducible rfl
           clear hCl hHeld
           intro hCl hHeld
           simp only [sA,sZ,sS] at hCl hHeld
           (try simp only [Act.put]);try simp only [sA,sZ,sS]
           refine rG 6 ?_ ?_ ?_ ?_ ?_ ?_ hCl hHeld ?_;rotate_left 2
           ·simp only [gA,gS,gZ]; exact rfl
           ·intro l w'; rw [hSSs, hSSs]
           ·rfl
           ·intro w' hA;clear hA;go_simp;try with_reducible rfl
           clear hCl hHeld
           intro hCl hHeld
           simp only [sA,sZ,sS] at hCl hHeld
           (try simp only [Act.put]);try simp only [sA,sZ,sS]
           refine rG 7 ?_ ?_ ?_ ?_ ?_ ?_ hCl hHeld ?_;rotate_left 2
           ·simp only [gA,gS,gZ]; exact rfl
           ·intro l w'; rw [hSSs, hSSs]
           ·rfl
           ·intro w' hA;clear hA;go_simp;try with_reducible rfl
           clear hCl hHeld
           intro hCl hHeld
           simp only [sA,sZ,sS] at hCl hHeld
           (try simp only [Act.put]);try simp only [sA,sZ,sS]
           refine rG 8 ?_ ?_ ?_ ?_ ?_ ?_ hCl hHeld ?_;rotate_left 2
           ·simp only [gA,gS,gZ]; exact rfl
           ·intro l w'; rw [hSSs, hSSs]
           ·rfl
           ·intro w' hA; obtain ⟨l, hl, hi, hSl⟩ := hA; have hSl := (hSSs _ _).1 hSl; obtain ⟨hz0, hz1⟩ := hSl; go_simp; try with_reducible rfl
           clear hCl hHeld
           intro hCl hHeld
           simp only [sA,sZ,sS] at hCl hHeld
           (try simp only [Act.put]);try simp only [sA,sZ,sS]
           refine rG 9 ?_ ?_ ?_ ?_ ?_ ?_ hCl hHeld ?_;rotate_left 2
           ·simp only [gA,gS,gZ]; exact rfl
           ·intro l w'; rw [hSSs, hSSs]
           ·rfl
           ·intro w' hA;clear hA;go_simp;try with_reducible rfl
           clear hCl hHeld
           intro hCl hHeld
           simp only [sA,sZ,sS] at hCl hHeld
           (try simp only [Act.put]);try simp only [sA,sZ,sS]
           refine rG 10 ?_ ?_ ?_ ?_ ?_ ?_ hCl hHeld ?_;rotate_left 2
           ·simp only [gA,gS,gZ]; exact rfl
           ·intro l w'; rw [hSSs, hSSs]
           ·rfl
           ·intro w' hA;clear hA;go_simp;try with_reducible rfl
           clear hCl hHeld
           intro hCl hHeld
           simp only [sA,sZ,sS] at hCl hHeld
           (try simp only [Act.put]);try simp only [sA,sZ,sS]
           refine rG 11 ?_ ?_ ?_ ?_ ?_ ?_ hCl hHeld ?_;rotate_left 2
           ·simp only [gA,gS,gZ]; exact rfl
           ·intro l w'; rw [hSSs, hSSs]
           ·rfl
           ·intro w' hA;clear hA;go_simp;try with_reducible rfl
           clear hCl hHeld
           intro hCl hHeld
           simp only [sA,sZ,sS] at hCl hHeld
           (try simp only [Act.put]);try simp only [sA,sZ,sS]
           refine rG 12 ?_ ?_ ?_ ?_ ?_ ?_ hCl hHeld ?_;rotate_left 2
           ·simp only [gA,gS,gZ]; exact rfl
           ·intro l w'; rw [hSSs, hSSs]
           ·rfl
           ·intro w' hA; obtain ⟨l, hl, hi, hSl⟩ := hA; have hSl := (hSSs _ _).1 hSl; obtain ⟨hz0, hz1⟩ := hSl; go_simp; try with_reducible rfl
           clear hCl hHeld
           intro hCl hHeld
           simp only [sA,sZ,sS] at hCl hHeld
           (try simp only [Act.put]);try simp only [sA,sZ,sS]
           refine rG 13 ?_ ?_ ?_ ?_ ?_ ?_ hCl hHeld ?_;rotate_left 2
           ·simp only [gA,gS,gZ]; exact rfl
           ·intro l w'; rw [hSSs, hSSs]
           ·rfl
           ·intro w' hA;clear hA;go_simp;try with_reducible rfl
           clear hCl hHeld
           intro hCl hHeld
           simp only [sA,sZ,sS] at hCl hHeld
           (try simp only [Act.put]);try simp only [sA,sZ,sS]
           refine rG 14 ?_ ?_ ?_ ?_ ?_ ?_ hCl hHeld ?_;rotate_left 2
           ·simp only [gA,gS,gZ]; exact rfl
           ·intro l w'; rw [hSSs, hSSs]
           ·rfl
           ·intro w' hA;clear hA;go_simp;try with_reducible rfl
           clear hCl hHeld
           intro hCl hHeld
           simp only [sA,sZ,sS] at hCl hHeld
           (try simp only [Act.put]);try simp only [sA,sZ,sS]
           refine rG 15 ?_ ?_ ?_ ?_ ?_ ?_ hCl hHeld ?_;rotate_left 2
           ·simp only [gA,gS,gZ]; exact rfl
           ·intro l w'; rw [hSSs, hSSs]
           ·rfl
           ·intro w' hA;clear hA;go_simp;try with_reducible rfl
           clear hCl hHeld
           intro hCl hHeld
           simp only [sA,sZ,sS] at hCl hHeld
           (try simp only [Act.put]);try simp only [sA,sZ,sS]
           refine rG 16 ?_ ?_ ?_ ?_ ?_ ?_ hCl hHeld ?_;rotate_left 2
           ·simp only [gA,gS,gZ]; exact rfl
           ·intro l w'; rw [hSSs, hSSs]
           ·rfl
           ·intro w' hA;clear hA;go_simp;try with_reducible rfl
           clear hCl hHeld
           intro hCl hHeld
           simp only [sA,sZ,sS] at hCl hHeld
           (try simp only [Act.put]);try simp only [sA,sZ,sS]
           refine rG 17 ?_ ?_ ?_ ?_ ?_ ?_ hCl hHeld ?_;rotate_left 2
           ·simp only [gA,gS,gZ]; exact rfl
           ·intro l w'; rw [hSSs, hSSs]
           ·rfl
           ·intro w' hA; obtain ⟨l, hl, hi, hSl⟩ := hA; have hSl := (hSSs _ _).1 hSl; obtain ⟨hz0, hz1⟩ := hSl; go_simp; try with_reducible rfl
           clear hCl hHeld
           intro hCl hHeld
           simp only [sA,sZ,sS] at hCl hHeld
           (try simp only [Act.put]);try simp only [sA,sZ,sS]
           refine rG 18 ?_ ?_ ?_ ?_ ?_ ?_ hCl hHeld ?_;rotate_left 2
           ·simp only [gA,gS,gZ]; exact rfl
           ·intro l w'; rw [hSSs, hSSs]
           ·rfl
           ·intro w' hA;clear hA;go_simp;try with_reducible rfl
           clear hCl hHeld
           intro hCl hHeld
           simp only [sA,sZ,sS] at hCl hHeld
           (try simp only [Act.put]);try simp only [sA,sZ,sS]
           refine rG 19 ?_ ?_ ?_ ?_ ?_ ?_ hCl hHeld ?_;rotate_left 2
           ·simp only [gA,gS,gZ]; exact rfl
           ·intro l w'; rw [hSSs, hSSs]
           ·rfl
           ·intro w' hA;clear hA;go_simp;try with_reducible rfl
           clear hCl hHeld
           intro hCl hHeld
           simp only [sA,sZ,sS] at hCl hHeld
           (try simp only [Act.put]);try simp only [sA,sZ,sS]
           clear hCl hHeld
           refine reg_callG 20 ?_ (by kernel_rfl) ?_ (fun K hK => ?_);rotate_left 1
           ·simp only [gA,gS,gZ]; exact rfl
           go_simp
           clear hx0 hx1 hup
           refine hK.out _ _ ((hSSs _ _).2 ⟨hy0, hy1⟩) ?_
           clear hK K
           (try simp only [Act.put]);try simp only [sA,sZ,sS]
           refine wpAnyG_done (by kernel_rfl) ?_ _
           refine NoPanic.normal ?_
           clear hSSs SSs
           go_wp2
           have hnn := HNN.out
           refine ⟨⟨_, _, _, _, _, _, _, _, _, _, _, _, _, _, _, _, _, _, _, _, _, _, _, _, _, _, _, _, _, _, _, _, _, _, ?_, rfl⟩, by simp [intOf]⟩
           exact ⟨1 + 1, by omega, by go_num, congrArg (Value.int .i64) (by omega), ⟨_, FIN.out.1⟩, FIN.out.2.1, FIN.out.2.2⟩
          ·obtain ⟨mn, hmn⟩ : ∃ mn : Int, (if (x : Int) < (z : Int) then (x : Int) else (z : Int)) = mn := ⟨_, rfl⟩
           obtain ⟨mx, hmx⟩ : ∃ mx : Int, (if (x : Int) > (z : Int) then (x : Int) else (z : Int)) = mx := ⟨_, rfl⟩
           have bmn : -1000000 ≤ mn ∧ mn ≤ 1000000 := by rw [← hmn]; split <;> omega
           have bmx : -1000000 ≤ mx ∧ mx ≤ 1000000 := by rw [← hmx]; split <;> omega
           have hmin : ∀ w : World, Sem.run Try.prog (Builtin.min_ #[3, 3] 3 #[.int .i64 (z : Int), .int .i64 (x : Int)]) w = Result.ok (Value.int .i64 mn) w := fun w => by rw [run_min_int2, hmn]
           have hmax : ∀ w : World, Sem.run Try.prog (Builtin.max_ #[3, 3] 3 #[.int .i64 (z : Int), .int .i64 (x : Int)]) w = Result.ok (Value.int .i64 mx) w := fun w => by rw [run_max_int2, hmx]
           have hwk : (IntKind.i64.wrap 3).tmod 3 = 0 := by decide
           obtain ⟨wm, F4, hup, hT4, hF4⟩ := fault_store HF3.out bmn bmx
           have hx0 := HBX3.out.c 2 _ rfl; have hx1 := HBX3.out.c 0 _ rfl
           have hbx4 := HBX3.out.turned hT4 (by omega)
           have hbw4 : Below fb w7 wm := Below.turned HBW3.out hT4 (Nat.le_refl _)
           have hy0 := hbx4.c 2 _ rfl; have hy1 := hbx4.c 0 _ rfl
           have FIN := Lib.hid (And.intro hF4 (And.intro hbx4 hbw4))
           clear hmn hmx bmn bmx hT4 hF4 hbx4 hbw4
           go_wp2_with fail
           obtain ⟨SSs, hSSs⟩ : ∃ S : Array Bool → World → Prop, ∀ l w', S l w' ↔ ((w'.cell? ⟨tb, 2, none⟩ = some (.int .i64 (z : Int))) ∧ (w'.cell? ⟨tb, 0, none⟩ = some (.int .i64 (x : Int)))) := ⟨_, fun _ _ => Iff.rfl⟩
           refine wp_region_noPanic ?_
           refine wp_region_G SSs 21 #[false, false, false, false, false, false, false, false, false, false, false, false, false, false, false, false, false, false, false, false, false] (by kernel_rfl) (by kernel_rfl) (by kernel_rfl) ((hSSs _ _).2 ⟨hx0, hx1⟩) (fun hCl hHeld => ?_)
           generalize wr.drew = wd at *
           refine rG 0 ?_ ?_ ?_ ?_ ?_ ?_ hCl hHeld ?_;rotate_left 2
           ·simp only [gA,gZ]; exact rfl
           ·intro l w'; rw [hSSs, hSSs]
           ·rfl
           ·intro w' hA;clear hA;go_simp;try with_reducible rfl
           clear hCl hHeld
           intro hCl hHeld
           simp only [List.setIfInBounds_toArray, List.set_cons_zero] at hCl hHeld
           (try simp only [Act.put]);try simp only [sA,sZ,sS]
           refine rG 1 ?_ ?_ ?_ ?_ ?_ ?_ hCl hHeld ?_;rotate_left 2
           ·simp only [gA,gS,gZ]; exact rfl
           ·intro l w'; rw [hSSs, hSSs]
           ·rfl
           ·intro w' hA;clear hA;go_simp;try with_reducible rfl
           clear hCl hHeld
           intro hCl hHeld
           simp only [sA,sZ,sS] at hCl hHeld
           (try simp only [Act.put]);try simp only [sA,sZ,sS]
           refine rG 2 ?_ ?_ ?_ ?_ ?_ ?_ hCl hHeld ?_;rotate_left 2
           ·simp only [gA,gS,gZ]; exact rfl
           ·intro l w'; rw [hSSs, hSSs]
           ·rfl
           ·intro w' hA;clear hA;go_simp;try with_reducible rfl
           clear hCl hHeld
           intro hCl hHeld
           simp only [sA,sZ,sS] at hCl hHeld
           (try simp only [Act.put]);try simp only [sA,sZ,sS]
           refine rG 3 ?_ ?_ ?_ ?_ ?_ ?_ hCl hHeld ?_;rotate_left 2
           ·simp only [gA,gS,gZ]; exact rfl
           ·intro l w'; rw [hSSs, hSSs]
           ·rfl
           ·intro w' hA; obtain ⟨l, hl, hi, hSl⟩ := hA; have hSl := (hSSs _ _).1 hSl; obtain ⟨hz0, hz1⟩ := hSl; go_simp; try with_reducible rfl
           clear hCl hHeld
           intro hCl hHeld
           simp only [sA,sZ,sS] at hCl hHeld
           (try simp only [Act.put]);try simp only [sA,sZ,sS]
           refine rG 4 ?_ ?_ ?_ ?_ ?_ ?_ hCl hHeld ?_;rotate_left 2
           ·simp only [gA,gS,gZ]; exact rfl
           ·intro l w'; rw [hSSs, hSSs]
           ·rfl
           ·intro w' hA;clear hA;go_simp;try with_reducible rfl
           clear hCl hHeld
           intro hCl hHeld
           simp only [sA,sZ,sS] at hCl hHeld
           (try simp only [Act.put]);try simp only [sA,sZ,sS]
           refine rG 5 ?_ ?_ ?_ ?_ ?_ ?_ hCl hHeld ?_;rotate_left 2
           ·simp only [gA,gS,gZ]; exact rfl
           ·intro l w'; rw [hSSs, hSSs]
           ·rfl
           ·intro w' hA;clear hA;go_simp;try with_reducible rfl
           clear hCl hHeld
           intro hCl hHeld
           simp only [sA,sZ,sS] at hCl hHeld
           (try simp only [Act.put]);try simp only [sA,sZ,sS]
           refine rG 6 ?_ ?_ ?_ ?_ ?_ ?_ hCl hHeld ?_;rotate_left 2
           ·simp only [gA,gS,gZ]; exact rfl
           ·intro l w'; rw [hSSs, hSSs]
           ·rfl
           ·intro w' hA;clear hA;go_simp;try with_reducible rfl
           clear hCl hHeld
           intro hCl hHeld
           simp only [sA,sZ,sS] at hCl hHeld
           (try simp only [Act.put]);try simp only [sA,sZ,sS]
           refine rG 7 ?_ ?_ ?_ ?_ ?_ ?_ hCl hHeld ?_;rotate_left 2
           ·simp only [gA,gS,gZ]; exact rfl
           ·intro l w'; rw [hSSs, hSSs]
           ·rfl
           ·intro w' hA;clear hA;go_simp;try with_reducible rfl
           clear hCl hHeld
           intro hCl hHeld
           simp only [sA,sZ,sS] at hCl hHeld
           (try simp only [Act.put]);try simp only [sA,sZ,sS]
           refine rG 8 ?_ ?_ ?_ ?_ ?_ ?_ hCl hHeld ?_;rotate_left 2
           ·simp only [gA,gS,gZ]; exact rfl
           ·intro l w'; rw [hSSs, hSSs]
           ·rfl
           ·intro w' hA; obtain ⟨l, hl, hi, hSl⟩ := hA; have hSl := (hSSs _ _).1 hSl; obtain ⟨hz0, hz1⟩ := hSl; go_simp; try with_reducible rfl
           clear hCl hHeld
           intro hCl hHeld
           simp only [sA,sZ,sS] at hCl hHeld
           (try simp only [Act.put]);try simp only [sA,sZ,sS]
           refine rG 9 ?_ ?_ ?_ ?_ ?_ ?_ hCl hHeld ?_;rotate_left 2
           ·simp only [gA,gS,gZ]; exact rfl
           ·intro l w'; rw [hSSs, hSSs]
           ·rfl
           ·intro w' hA;clear hA;go_simp;try with_reducible rfl
           clear hCl hHeld
           intro hCl hHeld
           simp only [sA,sZ,sS] at hCl hHeld
           (try simp only [Act.put]);try simp only [sA,sZ,sS]
           refine rG 10 ?_ ?_ ?_ ?_ ?_ ?_ hCl hHeld ?_;rotate_left 2
           ·simp only [gA,gS,gZ]; exact rfl
           ·intro l w'; rw [hSSs, hSSs]
           ·rfl
           ·intro w' hA;clear hA;go_simp;try with_reducible rfl
           clear hCl hHeld
           intro hCl hHeld
           simp only [sA,sZ,sS] at hCl hHeld
           (try simp only [Act.put]);try simp only [sA,sZ,sS]
           refine rG 11 ?_ ?_ ?_ ?_ ?_ ?_ hCl hHeld ?_;rotate_left 2
           ·simp only [gA,gS,gZ]; exact rfl
           ·intro l w'; rw [hSSs, hSSs]
           ·rfl
           ·intro w' hA;clear hA;go_simp;try with_reducible rfl
           clear hCl hHeld
           intro hCl hHeld
           simp only [sA,sZ,sS] at hCl hHeld
           (try simp only [Act.put]);try simp only [sA,sZ,sS]
           refine rG 12 ?_ ?_ ?_ ?_ ?_ ?_ hCl hHeld ?_;rotate_left 2
           ·simp only [gA,gS,gZ]; exact rfl
           ·intro l w'; rw [hSSs, hSSs]
           ·rfl
           ·intro w' hA; obtain ⟨l, hl, hi, hSl⟩ := hA; have hSl := (hSSs _ _).1 hSl; obtain ⟨hz0, hz1⟩ := hSl; go_simp; try with_reducible rfl
           clear hCl hHeld
           intro hCl hHeld
           simp only [sA,sZ,sS] at hCl hHeld
           (try simp only [Act.put]);try simp only [sA,sZ,sS]
           refine rG 13 ?_ ?_ ?_ ?_ ?_ ?_ hCl hHeld ?_;rotate_left 2
           ·simp only [gA,gS,gZ]; exact rfl
           ·intro l w'; rw [hSSs, hSSs]
           ·rfl
           ·intro w' hA;clear hA;go_simp;try with_reducible rfl
           clear hCl hHeld
           intro hCl hHeld
           simp only [sA,sZ,sS] at hCl hHeld
           (try simp only [Act.put]);try simp only [sA,sZ,sS]
           refine rG 14 ?_ ?_ ?_ ?_ ?_ ?_ hCl hHeld ?_;rotate_left 2
           ·simp only [gA,gS,gZ]; exact rfl
           ·intro l w'; rw [hSSs, hSSs]
           ·rfl
           ·intro w' hA;clear hA;go_simp;try with_reducible rfl
           clear hCl hHeld
           intro hCl hHeld
           simp only [sA,sZ,sS] at hCl hHeld
           (try simp only [Act.put]);try simp only [sA,sZ,sS]
           refine rG 15 ?_ ?_ ?_ ?_ ?_ ?_ hCl hHeld ?_;rotate_left 2
           ·simp only [gA,gS,gZ]; exact rfl
           ·intro l w'; rw [hSSs, hSSs]
           ·rfl
           ·intro w' hA;clear hA;go_simp;try with_reducible rfl
           clear hCl hHeld
           intro hCl hHeld
           simp only [sA,sZ,sS] at hCl hHeld
           (try simp only [Act.put]);try simp only [sA,sZ,sS]
           refine rG 16 ?_ ?_ ?_ ?_ ?_ ?_ hCl hHeld ?_;rotate_left 2
           ·simp only [gA,gS,gZ]; exact rfl
           ·intro l w'; rw [hSSs, hSSs]
           ·rfl
           ·intro w' hA;clear hA;go_simp;try with_reducible rfl
           clear hCl hHeld
           intro hCl hHeld
           simp only [sA,sZ,sS] at hCl hHeld
           (try simp only [Act.put]);try simp only [sA,sZ,sS]
           refine rG 17 ?_ ?_ ?_ ?_ ?_ ?_ hCl hHeld ?_;rotate_left 2
           ·simp only [gA,gS,gZ]; exact rfl
           ·intro l w'; rw [hSSs, hSSs]
           ·rfl
           ·intro w' hA; obtain ⟨l, hl, hi, hSl⟩ := hA; have hSl := (hSSs _ _).1 hSl; obtain ⟨hz0, hz1⟩ := hSl; go_simp; try with_reducible rfl
           clear hCl hHeld
           intro hCl hHeld
           simp only [sA,sZ,sS] at hCl hHeld
           (try simp only [Act.put]);try simp only [sA,sZ,sS]
           refine rG 18 ?_ ?_ ?_ ?_ ?_ ?_ hCl hHeld ?_;rotate_left 2
           ·simp only [gA,gS,gZ]; exact rfl
           ·intro l w'; rw [hSSs, hSSs]
           ·rfl
           ·intro w' hA;clear hA;go_simp;try with_reducible rfl
           clear hCl hHeld
           intro hCl hHeld
           simp only [sA,sZ,sS] at hCl hHeld
           (try simp only [Act.put]);try simp only [sA,sZ,sS]
           refine rG 19 ?_ ?_ ?_ ?_ ?_ ?_ hCl hHeld ?_;rotate_left 2
           ·simp only [gA,gS,gZ]; exact rfl
           ·intro l w'; rw [hSSs, hSSs]
           ·rfl
           ·intro w' hA;clear hA;go_simp;try with_reducible rfl
           clear hCl hHeld
           intro hCl hHeld
           simp only [sA,sZ,sS] at hCl hHeld
           (try simp only [Act.put]);try simp only [sA,sZ,sS]
           clear hCl hHeld
           refine reg_callG 20 ?_ (by kernel_rfl) ?_ (fun K hK => ?_);rotate_left 1
           ·simp only [gA,gS,gZ]; exact rfl
           go_simp
           clear hx0 hx1 hup
           refine hK.out _ _ ((hSSs _ _).2 ⟨hy0, hy1⟩) ?_
           clear hK K
           (try simp only [Act.put]);try simp only [sA,sZ,sS]
           refine wpAnyG_done (by kernel_rfl) ?_ _
           refine NoPanic.normal ?_
           clear hSSs SSs
           go_wp2
           have hnn := HNN.out
           refine ⟨⟨_, _, _, _, _, _, _, _, _, _, _, _, _, _, _, _, _, _, _, _, _, _, _, _, _, _, _, _, _, _, _, _, _, _, ?_, rfl⟩, by simp [intOf]⟩
           exact ⟨2 + 1, by omega, by go_num, congrArg (Value.int .i64) (by omega), ⟨_, FIN.out.1⟩, FIN.out.2.1, FIN.out.2.2⟩
        ·obtain rfl : i = 3 := by omega
         have FIN := Lib.hid (And.intro hF2 hbw)
         clear hF2 hbw hbx
         go_wp2
         exact ⟨⟨j + 1, by omega, by go_num, congrArg (Value.int .i64) (by omega), ⟨_, FIN.out.1⟩, FIN.out.2⟩, by simp [intOf]; omega⟩
      ·obtain rfl : j = 4 := by omega
       have hgl := HM.out.len
       obtain ⟨⟨ta, tb, tc⟩, h0⟩ : ∃ v, (gridT 1 2 bn)[0]? = some v := ⟨_, List.getElem?_eq_getElem (by omega)⟩
       have hz := HM.out.one _ (List.mem_of_getElem? h0)
       simp only [] at hz
       have hb7 : Below w7.heap.size w7 wr := by rw [HFB.out]; exact hbw
       have hpr : RowN wr (w.heap.size + 1) 62 2 (.slice (some ⟨gp, 0, none⟩) 6 gpc) 6 (ptsCells (gridP 1 2)) := (HROW.out.below HBT.out).below hb7
       have htr := HTR.out.below hb7
       have hbu := Build_any F (gridT 1 2 bn) ta tb tc fb gt 4 gtc gp 6 gpc (gridP 1 2) wr OK.out.good h0 hz (by omega) (by omega) OK.out.pts htr hF rfl (by omega) (by omega) HPS.out hpr.ptsC HM.out.some_ (by have := HM.out.few; omega) HM.out.ends
       have HBU := Lib.hid hbu; have HTRR := Lib.hid htr
       have HBWR := Lib.hid (HBW.out.trans ((HBT.out.trans (hb7.mono HBT.out.size)).mono HBW.out.size))
       have hgt := HGTL.out.1; have hsz5 := HBW.out.size
       clear hbu htr hpr hb7 hF hbw hz h0 hgl
       go_wp2_with fail
       refine HBU.out.mono ?_
       rintro e w9 ⟨mb, rfl, hbe, hb9⟩
       have hbs := HBWR.out.size
       have FIN := Lib.hid (And.intro (hbe.low hbs) (And.intro (HTRR.out.below hb9) (HBWR.out.trans (hb9.mono hbs))))
       clear hbe hb9
       go_wp2
       go_ret2
       exact ⟨mb, gt, gtc, F, rfl, FIN.out.1, FIN.out.2.1, by omega, FIN.out.2.2⟩
end Go.Proofs.Ytecnnpkpgbbfkaa
/- The statements' Grid, 2 by 1. -/
namespace Go.Proofs.Ytecnnpkpgbbfkaa
open Go.RowKit Go.MagM
set_option maxRecDepth 100000 in
set_option maxHeartbeats 16000000 in
theorem Grid21_any (w0 h0 b f : Int) (bn : Nat) (hbn : bn < 16) (e1 : bits .and .i64 w0 1 = 1) (e2 : bits .and .i64 h0 1 = 0) (hbit : ∀ k : Nat, k < 4 → bitB b k = bn.testBit k) (w : World) :
  Calls Try.prog 6 #[.int .i64 w0, .int .i64 h0, .int .u32 b, .int .u32 f] w fun e w' => ∃ (mb g c : Nat) (F : Int → Int → Bool), e = .returned (.tuple #[.pointer (some ⟨mb, 0, none⟩), .slice (some ⟨g, 0, none⟩) 4 c]) ∧ BuildEnd 62 49 F w.heap.size (gridP 2 1) (gridT 2 1 bn) mb w' ∧ TrIn w' g ((gridT 2 1 bn).map realV) ∧ w.heap.size ≤ g ∧ Below w.heap.size w w' := by
 have ok := grid_ok (w := 2) (h := 1) (by omega) (by omega) hbn
 have hm := grid_has (w := 2) (h := 1) (by omega) (by omega) hbn
 have hps : InPs (gridP 2 1) := grid_inPs (by omega) (by omega)
 have OK := Lib.hid ok; have HM := Lib.hid hm; have HPS := Lib.hid hps; have HBIT := Lib.hid hbit
 clear ok hm hps hbit
 obtain ⟨i0, hi, hz0, hz1, hz2⟩ := info_parts infoPt
 have HI := Lib.hid hi; have HZ0 := Lib.hid hz0; have HZ1 := Lib.hid hz1; have HZ2 := Lib.hid hz2
 obtain ⟨j0, hj, hy0, hy1, hy2⟩ := info_parts infoE3
 have HJ := Lib.hid hj; have HY0 := Lib.hid hy0; have HY1 := Lib.hid hy1; have HY2 := Lib.hid hy2
 clear hi hz0 hz1 hz2 hj hy0 hy1 hy2
 obtain ⟨w1, hw1, pw0, hB1, hs1⟩ := new_box w _ rfl [.int .i64 w0] 3
 have sc := pw0.c 0 _ rfl; have sf := pw0.f 0 _ rfl
 obtain ⟨w2, hw2⟩ : ∃ w2, w1.setCell ⟨w.heap.size, 0, none⟩ (.int .i64 2) = w2 := ⟨_, rfl⟩
 have pw2 : Box w2 w.heap.size [.int .i64 2] := by rw [← hw2]; exact pw0.set 0 (.int .i64 2)
 have hB2 : Below w.heap.size w w2 := by rw [← hw2]; exact hB1.setCell (p := ⟨w.heap.size, 0, none⟩) (by simp only []; omega) _
 have hz2 : w.heap.size + 1 ≤ w2.heap.size := by have := pw2.lt; omega
 have PW2 := Lib.hid pw2; have HB2 := Lib.hid hB2; have HZS := Lib.hid hz2
 clear pw0 hB1 hs1 pw2 hB2 hz2
 go_enter Try.func6, Try.ntmps6
 go_wp2
 clear sc sf hw1 hw2
 go_loopw [10, 11, 12, 35] (fun pv _ _ iv wr => ∃ (y : Nat) (vv : Value), y ≤ 2 ∧ iv = .int .i64 (y : Int) ∧ vv = pv ∧ RowN wr (w.heap.size + 1) 62 2 vv (y * 3) (ptsCells ((gridP 2 1).take (y * 3))) ∧ Box wr w.heap.size [.int .i64 2] ∧ Below w.heap.size w wr ∧ w.heap.size + 1 ≤ wr.heap.size) (fun _ _ _ iv _ => 2 - (intOf iv).toNat)
 case atStart => exact ⟨0, _, Nat.zero_le _, rfl, rfl, RowN.nil _ _ _ _, PW2.out, HB2.out, HZS.out⟩
 case round =>
  obtain ⟨y, vv, hy, rfl, rfl, hrow, hbx, hbw, hsz⟩ := hrel
  by_cases hlt : y < 2
  ·have hyd : decide ((y : Int) < 2) = true := decide_eq_true (by omega)
   have cw := hbx.c 0 _ rfl
   have HROW := Lib.hid hrow; have HBX := Lib.hid hbx; have HBW := Lib.hid hbw; have HSZ := Lib.hid hsz
   clear hrow hbx hbw hsz
   go_wp2
   clear cw
   go_loopw [10, 12, 40] (fun pv _ iv wr => ∃ (x : Nat) (vv : Value), x ≤ 3 ∧ iv = .int .i64 (x : Int) ∧ vv = pv ∧ RowN wr (w.heap.size + 1) 62 2 vv (y * 3 + x) (ptsCells ((gridP 2 1).take (y * 3 + x))) ∧ Box wr w.heap.size [.int .i64 2] ∧ Below w.heap.size w wr ∧ w.heap.size + 1 ≤ wr.heap.size) (fun _ _ iv _ => 3 - (intOf iv).toNat)
   case atStart => exact ⟨0, _, Nat.zero_le _, rfl, rfl, HROW.out, HBX.out, HBW.out, HSZ.out⟩
   case round =>
    obtain ⟨x, vv, hx, rfl, rfl, hrow, hbx, hbw, hsz⟩ := hrel
    by_cases hlx : x < 3
    ·have hel := gridP_at (w := 2) (h := 1) (by omega) (by omega) (x := x) (y := y) (by omega) (by omega)
     have hx2 : IntKind.i64.wrap (2 * (x : Int)) = 2 * (x : Int) := by rw [IntKind.wrap_i64]; omega
     have hy2 : IntKind.i64.wrap (2 * (y : Int)) = 2 * (y : Int) := by rw [IntKind.wrap_i64]; omega
     obtain ⟨w3, hw3, hpn, hb3, hs3⟩ := new_box wr _ rfl [.int .i64 (2 * (x : Int)), .int .i64 (2 * (y : Int))] 62
     have hrow3 := hrow.below hb3
     have hbx3 := hbx.below hb3
     have hbw3 := hbw.trans (hb3.mono hbw.size)
     obtain ⟨v1, w4, hrun, rown, hgrow, hkept⟩ := run_append_row (P := Try.prog) w3 (w.heap.size + 1) 40 40 62 i0 (.agg #[.int .i64 0, .int .i64 0]) 2 16 (by kernel_rfl) HI.out HZ0.out HZ1.out HZ2.out rfl (noWordI2 _ _) _ (y * 3 + x) _ hrow3 ⟨wr.heap.size, 0, none⟩ 1 1 [.int .i64 (2 * (x : Int)), .int .i64 (2 * (y : Int))] (by omega) rfl hpn.news (by intro u hu; simp at hu; rcases hu with rfl | rfl <;> rfl) (noWordI2 _ _) (by unfold maxLen; omega) (by omega) (by omega)
     have hne : ∀ k, vv.ownBlock = some k → w.heap.size + 1 ≤ k := fun k hk => (hrow3.lt k hk).1
     have hbx4 := hbx3.grown hgrow (fun e => by have := hne _ e; omega) hbx3.lt
     have hbw4 : Below w.heap.size w w4 := hbw3.grown hgrow (by omega) (fun k hk => by have := hne k hk; omega)
     have htk : ptsCells ((gridP 2 1).take (y * 3 + x)) ++ [.int .i64 (2 * (x : Int)), .int .i64 (2 * (y : Int))] = ptsCells ((gridP 2 1).take (y * 3 + (x + 1))) := by
      rw [← Nat.add_assoc, List.take_add_one, hel, ptsCells_app]; rfl
     rw [htk] at rown
     have FIN := Lib.hid (And.intro rown (And.intro hbx4 (And.intro hbw4 (show w.heap.size + 1 ≤ w4.heap.size by have := hgrow.size; omega))))
     clear hrow hbx hbw hsz hpn hb3 hs3 hrow3 hbx3 hbw3 rown hgrow hkept hne hbx4 hbw4 htk hel
     go_wp2_with (refine wpList_append_row rfl _ _ 40 rfl rfl rfl hrun ?_)
     have FI := FIN.out
     exact ⟨⟨x + 1, _, by omega, by go_num, rfl, FI.1, FI.2.1, FI.2.2.1, FI.2.2.2⟩, by simp [intOf]; omega⟩
    ·obtain rfl : x = 3 := by omega
     have FIN := Lib.hid (And.intro hrow (And.intro hbx (And.intro hbw hsz)))
     clear hrow hbx hbw hsz
     go_wp2
     have FI := FIN.out
     have hrow := FI.1
     rw [show y * 3 + 3 = (y + 1) * 3 by omega] at hrow
     exact ⟨⟨y + 1, _, by omega, by go_num, rfl, hrow, FI.2.1, FI.2.2.1, FI.2.2.2⟩, by simp [intOf]; omega⟩
  ·obtain rfl : y = 2 := by omega
   have hpt : (gridP 2 1).take (2 * 3) = gridP 2 1 := rfl
   rw [hpt] at hrow
   obtain ⟨gp, gpc, hvv⟩ : ∃ g c, vv = .slice (some ⟨g, 0, none⟩) 6 c := by
    rcases hrow.2 with ⟨h1, h2⟩ | ⟨g, cap, cur, h1, h2, h3⟩
    ·omega
    ·exact ⟨g, cap, h1⟩
   subst hvv
   have hpl := hrow.lt gp rfl
   obtain ⟨w5, hw5⟩ : ∃ w5, w5 = wr := ⟨_, rfl⟩
   rw [← hw5] at hrow hbx hbw hsz hpl
   rw [← hw5]
   have HROW := Lib.hid hrow; have HBX := Lib.hid hbx; have HBW := Lib.hid hbw; have HSZ := Lib.hid hsz; have HPL := Lib.hid hpl
   clear hrow hbx hbw hsz hpl hw5
   go_wp2
   go_loopw [13, 15, 16, 17, 18, 19, 20, 21, 55] (fun tv kv _ _ _ _ _ _ iv wr => ∃ (y : Nat) (vv : Value), y ≤ 1 ∧ iv = .int .i64 (y : Int) ∧ kv = .int .i64 ((y * 2 : Nat) : Int) ∧ vv = tv ∧ RowN wr w5.heap.size 46 3 vv (2 * (y * 2)) (tr3Cells ((gridT 2 1 bn).take (2 * (y * 2)))) ∧ Below w5.heap.size w5 wr) (fun _ _ _ _ _ _ _ _ iv _ => 1 - (intOf iv).toNat)
   case atStart => exact ⟨0, _, Nat.zero_le _, rfl, rfl, rfl, RowN.nil _ _ _ _, Below.refl _ _⟩
   case round =>
    obtain ⟨y, vv, hy, rfl, rfl, rfl, hrow, hbw⟩ := hrel
    by_cases hlt : y < 1
    ·have hyd : decide ((y : Int) < 1) = true := decide_eq_true (by omega)
     have cw := (HBX.out.below hbw).c 0 _ rfl
     have HRW := Lib.hid hrow; have HBZ := Lib.hid hbw
     clear hrow hbw
     go_wp2
     clear cw
     go_loopw [13, 15, 17, 18, 19, 20, 21, 59] (fun tv kv _ _ _ _ _ iv wr => ∃ (x : Nat) (vv : Value), x ≤ 2 ∧ iv = .int .i64 (x : Int) ∧ kv = .int .i64 ((y * 2 + x : Nat) : Int) ∧ vv = tv ∧ RowN wr w5.heap.size 46 3 vv (2 * (y * 2 + x)) (tr3Cells ((gridT 2 1 bn).take (2 * (y * 2 + x)))) ∧ Below w5.heap.size w5 wr) (fun _ _ _ _ _ _ _ iv _ => 2 - (intOf iv).toNat)
     case atStart => exact ⟨0, _, Nat.zero_le _, rfl, by rw [Nat.add_zero], rfl, HRW.out, HBZ.out⟩
     case round =>
      obtain ⟨x, vv, hx, rfl, rfl, rfl, hrow, hbw⟩ := hrel
      by_cases hlx : x < 2
      ·have cw := (HBX.out.below hbw).c 0 _ rfl
       have hev := HM.out.even y x hlt hlx
       have hod := HM.out.odd y x hlt hlx
       have hbt := HBIT.out (y * 2 + x) (by omega)
       obtain ⟨q, hq⟩ : ∃ q, bn.testBit (y * 2 + x) = q := ⟨_, rfl⟩
       rw [hq] at hev hod hbt
       have a0 := gridNo_any w.heap.size 2 x y wr (by omega) (by omega) (by omega) cw ((y : Int) * 3 + (x : Int)) (by omega)
       have a1 := gridNo_any w.heap.size 2 (x + 1) y wr (by omega) (by omega) (by omega) cw ((y : Int) * 3 + ((x : Int) + 1)) (by omega)
       have a2 := gridNo_any w.heap.size 2 (x + 1) (y + 1) wr (by omega) (by omega) (by omega) cw (((y : Int) + 1) * 3 + ((x : Int) + 1)) (by omega)
       have a3 := gridNo_any w.heap.size 2 x (y + 1) wr (by omega) (by omega) (by omega) cw (((y : Int) + 1) * 3 + (x : Int)) (by omega)
       rw [show (((x + 1 : Nat)) : Int) = (x : Int) + 1 by omega] at a1 a2
       rw [show (((y + 1 : Nat)) : Int) = (y : Int) + 1 by omega] at a2 a3
       obtain ⟨ca, hca⟩ : ∃ c : Int, (y : Int) * 3 + (x : Int) = c := ⟨_, rfl⟩
       obtain ⟨cb, hcb⟩ : ∃ c : Int, (y : Int) * 3 + ((x : Int) + 1) = c := ⟨_, rfl⟩
       obtain ⟨cc, hcc⟩ : ∃ c : Int, ((y : Int) + 1) * 3 + ((x : Int) + 1) = c := ⟨_, rfl⟩
       obtain ⟨cd, hcd⟩ : ∃ c : Int, ((y : Int) + 1) * 3 + (x : Int) = c := ⟨_, rfl⟩
       rw [hca] at a0; rw [hcb] at a1; rw [hcc] at a2; rw [hcd] at a3
       have C0 := Lib.hid a0; have C1 := Lib.hid a1; have C2 := Lib.hid a2; have C3 := Lib.hid a3
       have HEV := Lib.hid hev; have HOD := Lib.hid hod; have HBT := Lib.hid hbt; have HRW2 := Lib.hid hrow; have HBZ2 := Lib.hid hbw
       have HCA := Lib.hid hca; have HCB := Lib.hid hcb; have HCC := Lib.hid hcc; have HCD := Lib.hid hcd
       obtain ⟨kk, hkk⟩ : ∃ kk : Nat, y * 2 + x = kk := ⟨_, rfl⟩
       have hkk4 : kk < 4 := by omega
       rw [hkk] at hbt
       unfold bitB at hbt
       have na : (((y * 3 + x : Nat)) : Int) = ca := by omega
       have nb : (((y * 3 + (x + 1) : Nat)) : Int) = cb := by omega
       have nc : ((((y + 1) * 3 + (x + 1) : Nat)) : Int) = cc := by omega
       have nd : ((((y + 1) * 3 + x : Nat)) : Int) = cd := by omega
       have HKK := Lib.hid hkk
       rw [hkk]
       have HNA := Lib.hid (And.intro na (And.intro nb (And.intro nc nd)))
       clear a0 a1 a2 a3 hev hod hrow hbw hca hcb hcc hcd cw hkk na nb nc nd hq
       cases q
       ·have hev' : (gridT 2 1 bn)[2 * (y * 2 + x)]? = some (y * 3 + (x + 1), (y + 1) * 3 + x, y * 3 + x) := HEV.out
        have hod' : (gridT 2 1 bn)[2 * (y * 2 + x) + 1]? = some ((y + 1) * 3 + x, y * 3 + (x + 1), (y + 1) * 3 + (x + 1)) := HOD.out
        have HEV' := Lib.hid hev'; have HOD' := Lib.hid hod'
        clear hev' hod'
        go_wp2_with fail
        refine C0.out.mono ?_
        rintro e w6 ⟨rfl, rfl⟩
        go_wp2_with fail
        refine C1.out.mono ?_
        rintro e w6 ⟨rfl, rfl⟩
        go_wp2_with fail
        refine C2.out.mono ?_
        rintro e w6 ⟨rfl, rfl⟩
        go_wp2_with fail
        refine C3.out.mono ?_
        rintro e w6 ⟨rfl, rfl⟩
        obtain ⟨w6, hw6, hpn, hb6, hs6⟩ := new_box wr _ rfl [.int .i64 cb, .int .i64 cd, .int .i64 ca, .int .i64 cd, .int .i64 cb, .int .i64 cc] 46
        have hrow6 := HRW2.out.below hb6
        have hbw6 := HBZ2.out.trans (hb6.mono HBZ2.out.size)
        obtain ⟨v1, w7, hrun, rown, hgrow, hkept⟩ := run_append_row (P := Try.prog) w6 w5.heap.size 26 26 46 j0 (.agg #[.int .i64 0, .int .i64 0, .int .i64 0]) 3 24 (by kernel_rfl) HJ.out HY0.out HY1.out HY2.out rfl (noWordI3 _ _ _) _ (2 * (y * 2 + x)) _ hrow6 ⟨wr.heap.size, 0, none⟩ 2 2 [.int .i64 cb, .int .i64 cd, .int .i64 ca, .int .i64 cd, .int .i64 cb, .int .i64 cc] (by omega) rfl hpn.news (by intro u hu; simp at hu; rcases hu with rfl | rfl | rfl | rfl | rfl | rfl <;> rfl) (noWordI6 _ _ _ _ _ _) (by unfold maxLen; omega) (by omega) (by have := hbw6.size; omega)
        have hbw7 : Below w5.heap.size w5 w7 := hbw6.grown hgrow (by have := hbw6.size; omega) (fun k hk => (hrow6.lt k hk).1)
        have htk : tr3Cells ((gridT 2 1 bn).take (2 * (y * 2 + x))) ++ [.int .i64 cb, .int .i64 cd, .int .i64 ca, .int .i64 cd, .int .i64 cb, .int .i64 cc] = tr3Cells ((gridT 2 1 bn).take (2 * (y * 2 + (x + 1)))) := by
         obtain ⟨na, nb, nc, nd⟩ := HNA.out
         rw [show 2 * (y * 2 + (x + 1)) = 2 * (y * 2 + x) + 1 + 1 by omega, List.take_add_one, List.take_add_one, HEV'.out, HOD'.out, tr3_app, tr3_app, List.append_assoc]
         simp only [Option.toList_some, tr3Cells, na, nb, nc, nd, List.cons_append, List.nil_append]
        rw [htk, show 2 * (y * 2 + x) + 2 = 2 * (y * 2 + (x + 1)) by omega] at rown
        have FIN := Lib.hid (And.intro rown hbw7)
        clear hpn hb6 hs6 hrow6 hbw6 rown hgrow hkept hbw7 htk
        go_wp2_with (refine wpList_append_row rfl _ _ 26 rfl rfl rfl hrun ?_)
        have hkk := HKK.out
        refine ⟨⟨_, _, _, _, _, _, _, _, _, _, _, _, _, _, _, _, _, _, _, _, _, _, _, _, _, _, _, _, _, _, _, _, _, _, _, _, _, _, _, _, _, _, _, _, _, _, _, _, _, _, _, _, _, _, _, _, _, _, _, _, ?_, rfl⟩, by simp [intOf]; omega⟩
        exact ⟨x + 1, _, by omega, by go_num, congrArg (Value.int .i64) (by omega), rfl, FIN.out.1, FIN.out.2⟩
       ·have hev' : (gridT 2 1 bn)[2 * (y * 2 + x)]? = some (y * 3 + x, y * 3 + (x + 1), (y + 1) * 3 + (x + 1)) := HEV.out
        have hod' : (gridT 2 1 bn)[2 * (y * 2 + x) + 1]? = some ((y + 1) * 3 + (x + 1), (y + 1) * 3 + x, y * 3 + x) := HOD.out
        have HEV' := Lib.hid hev'; have HOD' := Lib.hid hod'
        clear hev' hod'
        go_wp2_with fail
        refine C0.out.mono ?_
        rintro e w6 ⟨rfl, rfl⟩
        go_wp2_with fail
        refine C1.out.mono ?_
        rintro e w6 ⟨rfl, rfl⟩
        go_wp2_with fail
        refine C2.out.mono ?_
        rintro e w6 ⟨rfl, rfl⟩
        go_wp2_with fail
        refine C3.out.mono ?_
        rintro e w6 ⟨rfl, rfl⟩
        obtain ⟨w6, hw6, hpn, hb6, hs6⟩ := new_box wr _ rfl [.int .i64 ca, .int .i64 cb, .int .i64 cc, .int .i64 cc, .int .i64 cd, .int .i64 ca] 46
        have hrow6 := HRW2.out.below hb6
        have hbw6 := HBZ2.out.trans (hb6.mono HBZ2.out.size)
        obtain ⟨v1, w7, hrun, rown, hgrow, hkept⟩ := run_append_row (P := Try.prog) w6 w5.heap.size 26 26 46 j0 (.agg #[.int .i64 0, .int .i64 0, .int .i64 0]) 3 24 (by kernel_rfl) HJ.out HY0.out HY1.out HY2.out rfl (noWordI3 _ _ _) _ (2 * (y * 2 + x)) _ hrow6 ⟨wr.heap.size, 0, none⟩ 2 2 [.int .i64 ca, .int .i64 cb, .int .i64 cc, .int .i64 cc, .int .i64 cd, .int .i64 ca] (by omega) rfl hpn.news (by intro u hu; simp at hu; rcases hu with rfl | rfl | rfl | rfl | rfl | rfl <;> rfl) (noWordI6 _ _ _ _ _ _) (by unfold maxLen; omega) (by omega) (by have := hbw6.size; omega)
        have hbw7 : Below w5.heap.size w5 w7 := hbw6.grown hgrow (by have := hbw6.size; omega) (fun k hk => (hrow6.lt k hk).1)
        have htk : tr3Cells ((gridT 2 1 bn).take (2 * (y * 2 + x))) ++ [.int .i64 ca, .int .i64 cb, .int .i64 cc, .int .i64 cc, .int .i64 cd, .int .i64 ca] = tr3Cells ((gridT 2 1 bn).take (2 * (y * 2 + (x + 1)))) := by
         obtain ⟨na, nb, nc, nd⟩ := HNA.out
         rw [show 2 * (y * 2 + (x + 1)) = 2 * (y * 2 + x) + 1 + 1 by omega, List.take_add_one, List.take_add_one, HEV'.out, HOD'.out, tr3_app, tr3_app, List.append_assoc]
         simp only [Option.toList_some, tr3Cells, na, nb, nc, nd, List.cons_append, List.nil_append]
        rw [htk, show 2 * (y * 2 + x) + 2 = 2 * (y * 2 + (x + 1)) by omega] at rown
        have FIN := Lib.hid (And.intro rown hbw7)
        clear hpn hb6 hs6 hrow6 hbw6 rown hgrow hkept hbw7 htk
        go_wp2_with (refine wpList_append_row rfl _ _ 26 rfl rfl rfl hrun ?_)
        have hkk := HKK.out
        refine ⟨⟨_, _, _, _, _, _, _, _, _, _, _, _, _, _, _, _, _, _, _, _, _, _, _, _, _, _, _, _, _, _, _, _, _, _, _, _, _, _, _, _, _, _, _, _, _, _, _, _, _, _, _, _, _, _, _, _, _, _, _, _, ?_, rfl⟩, by simp [intOf]; omega⟩
        exact ⟨x + 1, _, by omega, by go_num, congrArg (Value.int .i64) (by omega), rfl, FIN.out.1, FIN.out.2⟩
      ·obtain rfl : x = 2 := by omega
       have FIN := Lib.hid (And.intro hrow hbw)
       clear hrow hbw
       go_wp2
       have hrow := FIN.out.1
       rw [show y * 2 + 2 = (y + 1) * 2 by omega] at hrow
       exact ⟨⟨y + 1, _, by omega, by go_num, congrArg (Value.int .i64) (by omega), rfl, hrow, FIN.out.2⟩, by simp [intOf]; omega⟩
    ·obtain rfl : y = 1 := by omega
     have hgl := HM.out.len
     have htt : (gridT 2 1 bn).take (2 * (1 * 2)) = gridT 2 1 bn := List.take_of_length_le (by rw [hgl]; omega)
     rw [htt] at hrow
     obtain ⟨gt, gtc, hvv⟩ : ∃ g c, vv = .slice (some ⟨g, 0, none⟩) 4 c := by
      rcases hrow.2 with ⟨h1, h2⟩ | ⟨g, cap, cur, h1, h2, h3⟩
      ·omega
      ·exact ⟨g, cap, h1⟩
     subst hvv
     have hgtl := hrow.lt gt rfl
     obtain ⟨w7, hw7⟩ : ∃ w7, w7 = wr := ⟨_, rfl⟩
     rw [← hw7] at hrow hbw hgtl
     rw [← hw7]
     clear hw7
     obtain ⟨fb, hfb⟩ : ∃ fb, w7.heap.size = fb := ⟨_, rfl⟩
     obtain ⟨hmk, hmp⟩ := run_new_map (P := Try.prog) w7 64 22
     obtain ⟨w8, hw8⟩ : ∃ w8, w7.alloc (.map #[] 0) = w8 := ⟨_, rfl⟩
     rw [hw8, hfb] at hmk hmp
     have hb8 : Below fb w7 w8 := by rw [← hw8, ← hfb]; exact (Below.refl _ _).alloc (Nat.le_refl _) _
     have htr := hrow.trIn
     have HRWT := Lib.hid hrow; have HBT := Lib.hid hbw; have HTR := Lib.hid htr; have HGTL := Lib.hid hgtl; have HFB := Lib.hid hfb; have HMP := Lib.hid (fault_new hmp); have HB8 := Lib.hid hb8
     clear hrow hbw htr hgtl hfb hmp hb8 hw8
     go_wp2
     clear hmk
     go_loopw [23, 25, 26, 116] (fun nv _ _ iv wr => ∃ j : Nat, j ≤ 4 ∧ iv = .int .i64 (j : Int) ∧ nv = .int .i64 ((3 * j : Nat) : Int) ∧ (∃ F, FaultMap Try.prog 22 wr fb F) ∧ Below fb w7 wr) (fun _ _ _ iv _ => 4 - (intOf iv).toNat)
     case atStart => exact ⟨0, Nat.zero_le _, rfl, rfl, ⟨_, HMP.out⟩, HB8.out⟩
     case round =>
      obtain ⟨j, hj, rfl, rfl, ⟨F, hF⟩, hbw⟩ := hrel
      by_cases hlt : j < 4
      ·have hyd : decide ((j : Int) < 4) = true := decide_eq_true (by omega)
       obtain ⟨⟨x, y, z⟩, hv⟩ : ∃ v, (gridT 2 1 bn)[j]? = some v := ⟨_, List.getElem?_eq_getElem (by have := HM.out.len; omega)⟩
       obtain ⟨px, py, pz⟩ := OK.out.pts _ (List.mem_of_getElem? hv)
       have hpl6 := OK.out.many
       simp only [] at px py pz
       have htk := HTR.out j (x : Int) (y : Int) (z : Int) (by rw [List.getElem?_map, hv]; rfl)
       have hfb := HFB.out
       have l1 := World.block_lt_of_cell? w7 _ htk.1
       simp only [] at l1
       have ka := (hbw.cell (p := ⟨gt, j * 3, none⟩) (by show gt < fb; omega)).trans htk.1
       have kb := (hbw.cell (p := ⟨gt, j * 3 + 1, none⟩) (by show gt < fb; omega)).trans htk.2.1
       have kc := (hbw.cell (p := ⟨gt, j * 3 + 2, none⟩) (by show gt < fb; omega)).trans htk.2.2
       obtain ⟨w9, hw9, hpv, hb9, hs9⟩ := new_box wr _ rfl [.int .i64 (x : Int), .int .i64 (y : Int), .int .i64 (z : Int)] 46
       have hF9 := hF.same (hb9.block fb hF.lt)
       have hfl := hF.lt
       have hbw9 : Below fb w7 w9 := hbw.trans (hb9.mono (by omega))
       obtain ⟨tb, htb⟩ : ∃ tb, wr.heap.size = tb := ⟨_, rfl⟩
       have htf : fb < tb := by omega
       rw [htb] at hpv
       have HF9 := Lib.hid hF9; have HBW9 := Lib.hid hbw9; have HPV := Lib.hid hpv
       have hxyz : x < 10 ∧ y < 10 ∧ z < 10 := by
        have : (gridP 2 1).length = 6 := rfl
        omega
       clear hv px py pz htk hfb l1 hb9 hs9 hF9 hbw9 hpv hF hbw hfl hpl6
       go_wp2
       clear ka kb kc hw9 htb
       go_loopw [23, 26, 120] (fun nv _ iv wr => ∃ i : Nat, i ≤ 3 ∧ iv = .int .i64 (i : Int) ∧ nv = .int .i64 ((3 * j + i : Nat) : Int) ∧ (∃ F, FaultMap Try.prog 22 wr fb F) ∧ Box wr tb [.int .i64 (x : Int), .int .i64 (y : Int), .int .i64 (z : Int)] ∧ Below fb w7 wr) (fun _ _ iv _ => 3 - (intOf iv).toNat)
       case atStart => exact ⟨0, Nat.zero_le _, rfl, rfl, ⟨_, HF9.out⟩, HPV.out, HBW9.out⟩
       case round =>
        obtain ⟨i, hi, rfl, rfl, ⟨F2, hF2⟩, hbx, hbw⟩ := hrel
        by_cases hli : i < 3
        ·obtain ⟨nn, hnn⟩ : ∃ nn : Nat, 3 * j + i = nn := ⟨_, rfl⟩
         have hnn24 : nn < 24 := by omega
         have HNN := Lib.hid hnn
         rw [hnn]
         clear hnn
         have HF2 := Lib.hid hF2; have HBX2 := Lib.hid hbx; have HBW2 := Lib.hid hbw
         clear hF2 hbx hbw
         obtain ⟨q, hq⟩ : ∃ q : Bool, (bits .and .u32 (f / 2 ^ (nn % 32)) 1 == 1) = q := ⟨_, rfl⟩
         have hfb2 := HF2.out.lt
         have hd3 := (HF2.out.same (w' := wr.drew) rfl)
         have hx3 := HBX2.out.drew
         have hw3 := HBW2.out.drew'
         have HF3 := Lib.hid hd3; have HBX3 := Lib.hid hx3; have HBW3 := Lib.hid hw3
         clear hd3 hx3 hw3
         cases q
         ·go_wp2
          have hnn := HNN.out
          exact ⟨⟨i + 1, by omega, by go_num, congrArg (Value.int .i64) (by omega), ⟨_, HF2.out⟩, HBX2.out, HBW2.out⟩, by simp [intOf]; omega⟩
         ·obtain rfl | rfl | rfl : i = 0 ∨ i = 1 ∨ i = 2 := by omega
          ·obtain ⟨mn, hmn⟩ : ∃ mn : Int, (if (y : Int) < (x : Int) then (y : Int) else (x : Int)) = mn := ⟨_, rfl⟩
           obtain ⟨mx, hmx⟩ : ∃ mx : Int, (if (y : Int) > (x : Int) then (y : Int) else (x : Int)) = mx := ⟨_, rfl⟩
           have bmn : -1000000 ≤ mn ∧ mn ≤ 1000000 := by rw [← hmn]; split <;> omega
           have bmx : -1000000 ≤ mx ∧ mx ≤ 1000000 := by rw [← hmx]; split <;> omega
           have hmin : ∀ w : World, Sem.run Try.prog (Builtin.min_ #[3, 3] 3 #[.int .i64 (x : Int), .int .i64 (y : Int)]) w = Result.ok (Value.int .i64 mn) w := fun w => by rw [run_min_int2, hmn]
           have hmax : ∀ w : World, Sem.run Try.prog (Builtin.max_ #[3, 3] 3 #[.int .i64 (x : Int), .int .i64 (y : Int)]) w = Result.ok (Value.int .i64 mx) w := fun w => by rw [run_max_int2, hmx]
           have hwk : (IntKind.i64.wrap 1).tmod 3 = 1 := by decide
           obtain ⟨wm, F4, hup, hT4, hF4⟩ := fault_store HF3.out bmn bmx
           have hx0 := HBX3.out.c 0 _ rfl; have hx1 := HBX3.out.c 1 _ rfl
           have hbx4 := HBX3.out.turned hT4 (by omega)
           have hbw4 : Below fb w7 wm := Below.turned HBW3.out hT4 (Nat.le_refl _)
           have hy0 := hbx4.c 0 _ rfl; have hy1 := hbx4.c 1 _ rfl
           have FIN := Lib.hid (And.intro hF4 (And.intro hbx4 hbw4))
           clear hmn hmx bmn bmx hT4 hF4 hbx4 hbw4
           go_wp2_with fail
           obtain ⟨SSs, hSSs⟩ : ∃ S : Array Bool → World → Prop, ∀ l w', S l w' ↔ ((w'.cell? ⟨tb, 0, none⟩ = some (.int .i64 (x : Int))) ∧ (w'.cell? ⟨tb, 1, none⟩ = some (.int .i64 (y : Int)))) := ⟨_, fun _ _ => Iff.rfl⟩
           refine wp_region_noPanic ?_
           refine wp_region_G SSs 21 #[false, false, false, false, false, false, false, false, false, false, false, false, false, false, false, false, false, false, false, false, false] (by kernel_rfl) (by kernel_rfl) (by kernel_rfl) ((hSSs _ _).2 ⟨hx0, hx1⟩) (fun hCl hHeld => ?_)
           generalize wr.drew = wd at *
           refine rG 0 ?_ ?_ ?_ ?_ ?_ ?_ hCl hHeld ?_;rotate_left 2
           ·simp only [gA,gZ]; exact rfl
           ·intro l w'; rw [hSSs, hSSs]
           ·rfl
           ·intro w' hA;clear hA;go_simp;try with_reducible rfl
           clear hCl hHeld
           intro hCl hHeld
           simp only [List.setIfInBounds_toArray, List.set_cons_zero] at hCl hHeld
           (try simp only [Act.put]);try simp only [sA,sZ,sS]
           refine rG 1 ?_ ?_ ?_ ?_ ?_ ?_ hCl hHeld ?_;rotate_left 2
           ·simp only [gA,gS,gZ]; exact rfl
           ·intro l w'; rw [hSSs, hSSs]
           ·rfl
           ·intro w' hA;clear hA;go_simp;try with_reducible rfl
           clear hCl hHeld
           intro hCl hHeld
           simp only [sA,sZ,sS] at hCl hHeld
           (try simp only [Act.put]);try simp only [sA,sZ,sS]
           refine rG 2 ?_ ?_ ?_ ?_ ?_ ?_ hCl hHeld ?_;rotate_left 2
           ·simp only [gA,gS,gZ]; exact rfl
           ·intro l w'; rw [hSSs, hSSs]
           ·rfl
           ·intro w' hA;clear hA;go_simp;try with_reducible rfl
           clear hCl hHeld
           intro hCl hHeld
           simp only [sA,sZ,sS] at hCl hHeld
           (try simp only [Act.put]);try simp only [sA,sZ,sS]
           refine rG 3 ?_ ?_ ?_ ?_ ?_ ?_ hCl hHeld ?_;rotate_left 2
           ·simp only [gA,gS,gZ]; exact rfl
           ·intro l w'; rw [hSSs, hSSs]
           ·rfl
           ·intro w' hA; obtain ⟨l, hl, hi, hSl⟩ := hA; have hSl := (hSSs _ _).1 hSl; obtain ⟨hz0, hz1⟩ := hSl; go_simp; try with_reducible rfl
           clear hCl hHeld
           intro hCl hHeld
           simp only [sA,sZ,sS] at hCl hHeld
           (try simp only [Act.put]);try simp only [sA,sZ,sS]
           refine rG 4 ?_ ?_ ?_ ?_ ?_ ?_ hCl hHeld ?_;rotate_left 2
           ·simp only [gA,gS,gZ]; exact rfl
           ·intro l w'; rw [hSSs, hSSs]
           ·rfl
           ·intro w' hA;clear hA;go_simp;try with_reducible rfl
           clear hCl hHeld
           intro hCl hHeld
           simp only [sA,sZ,sS] at hCl hHeld
           (try simp only [Act.put]);try simp only [sA,sZ,sS]
           refine rG 5 ?_ ?_ ?_ ?_ ?_ ?_ hCl hHeld ?_;rotate_left 2
           ·simp only [gA,gS,gZ]; exact rfl
           ·intro l w'; rw [hSSs, hSSs]
           ·rfl
           ·intro w' hA;clear hA;go_simp;try with_reducible rfl
           clear hCl hHeld
           intro hCl hHeld
           simp only [sA,sZ,sS] at hCl hHeld
           (try simp only [Act.put]);try simp only [sA,sZ,sS]
           refine rG 6 ?_ ?_ ?_ ?_ ?_ ?_ hCl hHeld ?_;rotate_left 2
           ·simp only [gA,gS,gZ]; exact rfl
           ·intro l w'; rw [hSSs, hSSs]
           ·rfl
           ·intro w' hA;clear hA;go_simp;try with_reducible rfl
           clear hCl hHeld
           intro hCl hHeld
           simp only [sA,sZ,sS] at hCl hHeld
           (try simp only [Act.put]);try simp only [sA,sZ,sS]
           refine rG 7 ?_ ?_ ?_ ?_ ?_ ?_ hCl hHeld ?_;rotate_left 2
           ·simp only [gA,gS,gZ]; exact rfl
           ·intro l w'; rw [hSSs, hSSs]
           ·rfl
           ·intro w' hA;clear hA;go_simp;try with_reducible rfl
           clear hCl hHeld
           intro hCl hHeld
           simp only [sA,sZ,sS] at hCl hHeld
           (try simp only [Act.put]);try simp only [sA,sZ,sS]
           refine rG 8 ?_ ?_ ?_ ?_ ?_ ?_ hCl hHeld ?_;rotate_left 2
           ·simp only [gA,gS,gZ]; exact rfl
           ·intro l w'; rw [hSSs, hSSs]
           ·rfl
           ·intro w' hA; obtain ⟨l, hl, hi, hSl⟩ := hA; have hSl := (hSSs _ _).1 hSl; obtain ⟨hz0, hz1⟩ := hSl; go_simp; try with_reducible rfl
           clear hCl hHeld
           intro hCl hHeld
           simp only [sA,sZ,sS] at hCl hHeld
           (try simp only [Act.put]);try simp only [sA,sZ,sS]
           refine rG 9 ?_ ?_ ?_ ?_ ?_ ?_ hCl hHeld ?_;rotate_left 2
           ·simp only [gA,gS,gZ]; exact rfl
           ·intro l w'; rw [hSSs, hSSs]
           ·rfl
           ·intro w' hA;clear hA;go_simp;try with_reducible rfl
           clear hCl hHeld
           intro hCl hHeld
           simp only [sA,sZ,sS] at hCl hHeld
           (try simp only [Act.put]);try simp only [sA,sZ,sS]
           refine rG 10 ?_ ?_ ?_ ?_ ?_ ?_ hCl hHeld ?_;rotate_left 2
           ·simp only [gA,gS,gZ]; exact rfl
           ·intro l w'; rw [hSSs, hSSs]
           ·rfl
           ·intro w' hA;clear hA;go_simp;try with_reducible rfl
           clear hCl hHeld
           intro hCl hHeld
           simp only [sA,sZ,sS] at hCl hHeld
           (try simp only [Act.put]);try simp only [sA,sZ,sS]
           refine rG 11 ?_ ?_ ?_ ?_ ?_ ?_ hCl hHeld ?_;rotate_left 2
           ·simp only [gA,gS,gZ]; exact rfl
           ·intro l w'; rw [hSSs, hSSs]
           ·rfl
           ·intro w' hA;clear hA;go_simp;try with_reducible rfl
           clear hCl hHeld
           intro hCl hHeld
           simp only [sA,sZ,sS] at hCl hHeld
           (try simp only [Act.put]);try simp only [sA,sZ,sS]
           refine rG 12 ?_ ?_ ?_ ?_ ?_ ?_ hCl hHeld ?_;rotate_left 2
           ·simp only [gA,gS,gZ]; exact rfl
           ·intro l w'; rw [hSSs, hSSs]
           ·rfl
           ·intro w' hA; obtain ⟨l, hl, hi, hSl⟩ := hA; have hSl := (hSSs _ _).1 hSl; obtain ⟨hz0, hz1⟩ := hSl; go_simp; try with_reducible rfl
           clear hCl hHeld
           intro hCl hHeld
           simp only [sA,sZ,sS] at hCl hHeld
           (try simp only [Act.put]);try simp only [sA,sZ,sS]
           refine rG 13 ?_ ?_ ?_ ?_ ?_ ?_ hCl hHeld ?_;rotate_left 2
           ·simp only [gA,gS,gZ]; exact rfl
           ·intro l w'; rw [hSSs, hSSs]
           ·rfl
           ·intro w' hA;clear hA;go_simp;try with_reducible rfl
           clear hCl hHeld
           intro hCl hHeld
           simp only [sA,sZ,sS] at hCl hHeld
           (try simp only [Act.put]);try simp only [sA,sZ,sS]
           refine rG 14 ?_ ?_ ?_ ?_ ?_ ?_ hCl hHeld ?_;rotate_left 2
           ·simp only [gA,gS,gZ]; exact rfl
           ·intro l w'; rw [hSSs, hSSs]
           ·rfl
           ·intro w' hA;clear hA;go_simp;try with_reducible rfl
           clear hCl hHeld
           intro hCl hHeld
           simp only [sA,sZ,sS] at hCl hHeld
           (try simp only [Act.put]);try simp only [sA,sZ,sS]
           refine rG 15 ?_ ?_ ?_ ?_ ?_ ?_ hCl hHeld ?_;rotate_left 2
           ·simp only [gA,gS,gZ]; exact rfl
           ·intro l w'; rw [hSSs, hSSs]
           ·rfl
           ·intro w' hA;clear hA;go_simp;try with_reducible rfl
           clear hCl hHeld
           intro hCl hHeld
           simp only [sA,sZ,sS] at hCl hHeld
           (try simp only [Act.put]);try simp only [sA,sZ,sS]
           refine rG 16 ?_ ?_ ?_ ?_ ?_ ?_ hCl hHeld ?_;rotate_left 2
           ·simp only [gA,gS,gZ]; exact rfl
           ·intro l w'; rw [hSSs, hSSs]
           ·rfl
           ·intro w' hA;clear hA;go_simp;try with_reducible rfl
           clear hCl hHeld
           intro hCl hHeld
           simp only [sA,sZ,sS] at hCl hHeld
           (try simp only [Act.put]);try simp only [sA,sZ,sS]
           refine rG 17 ?_ ?_ ?_ ?_ ?_ ?_ hCl hHeld ?_;rotate_left 2
           ·simp only [gA,gS,gZ]; exact rfl
           ·intro l w'; rw [hSSs, hSSs]
           ·rfl
           ·intro w' hA; obtain ⟨l, hl, hi, hSl⟩ := hA; have hSl := (hSSs _ _).1 hSl; obtain ⟨hz0, hz1⟩ := hSl; go_simp; try with_reducible rfl
           clear hCl hHeld
           intro hCl hHeld
           simp only [sA,sZ,sS] at hCl hHeld
           (try simp only [Act.put]);try simp only [sA,sZ,sS]
           refine rG 18 ?_ ?_ ?_ ?_ ?_ ?_ hCl hHeld ?_;rotate_left 2
           ·simp only [gA,gS,gZ]; exact rfl
           ·intro l w'; rw [hSSs, hSSs]
           ·rfl
           ·intro w' hA;clear hA;go_simp;try with_reducible rfl
           clear hCl hHeld
           intro hCl hHeld
           simp only [sA,sZ,sS] at hCl hHeld
           (try simp only [Act.put]);try simp only [sA,sZ,sS]
           refine rG 19 ?_ ?_ ?_ ?_ ?_ ?_ hCl hHeld ?_;rotate_left 2
           ·simp only [gA,gS,gZ]; exact rfl
           ·intro l w'; rw [hSSs, hSSs]
           ·rfl
           ·intro w' hA;clear hA;go_simp;try with_reducible rfl
           clear hCl hHeld
           intro hCl hHeld
           simp only [sA,sZ,sS] at hCl hHeld
           (try simp only [Act.put]);try simp only [sA,sZ,sS]
           clear hCl hHeld
           refine reg_callG 20 ?_ (by kernel_rfl) ?_ (fun K hK => ?_);rotate_left 1
           ·simp only [gA,gS,gZ]; exact rfl
           go_simp
           clear hx0 hx1 hup
           refine hK.out _ _ ((hSSs _ _).2 ⟨hy0, hy1⟩) ?_
           clear hK K
           (try simp only [Act.put]);try simp only [sA,sZ,sS]
           refine wpAnyG_done (by kernel_rfl) ?_ _
           refine NoPanic.normal ?_
           clear hSSs SSs
           go_wp2
           have hnn := HNN.out
           refine ⟨⟨_, _, _, _, _, _, _, _, _, _, _, _, _, _, _, _, _, _, _, _, _, _, _, _, _, _, _, _, _, _, _, _, _, _, ?_, rfl⟩, by simp [intOf]⟩
           exact ⟨0 + 1, by omega, by go_num, congrArg (Value.int .i64) (by omega), ⟨_, FIN.out.1⟩, FIN.out.2.1, FIN.out.2.2⟩
          ·obtain ⟨mn, hmn⟩ : ∃ mn : Int, (if (z : Int) < (y : Int) then (z : Int) else (y : Int)) = mn := ⟨_, rfl⟩
           obtain ⟨mx, hmx⟩ : ∃ mx : Int, (if (z : Int) > (y : Int) then (z : Int) else (y : Int)) = mx := ⟨_, rfl⟩
           have bmn : -1000000 ≤ mn ∧ mn ≤ 1000000 := by rw [← hmn]; split <;> omega
           have bmx : -1000000 ≤ mx ∧ mx ≤ 1000000 := by rw [← hmx]; split <;> omega
           have hmin : ∀ w : World, Sem.run Try.prog (Builtin.min_ #[3, 3] 3 #[.int .i64 (y : Int), .int .i64 (z : Int)]) w = Result.ok (Value.int .i64 mn) w := fun w => by rw [run_min_int2, hmn]
           have hmax : ∀ w : World, Sem.run Try.prog (Builtin.max_ #[3, 3] 3 #[.int .i64 (y : Int), .int .i64 (z : Int)]) w = Result.ok (Value.int .i64 mx) w := fun w => by rw [run_max_int2, hmx]
           have hwk : (IntKind.i64.wrap 2).tmod 3 = 2 := by decide
           obtain ⟨wm, F4, hup, hT4, hF4⟩ := fault_store HF3.out bmn bmx
           have hx0 := HBX3.out.c 1 _ rfl; have hx1 := HBX3.out.c 2 _ rfl
           have hbx4 := HBX3.out.turned hT4 (by omega)
           have hbw4 : Below fb w7 wm := Below.turned HBW3.out hT4 (Nat.le_refl _)
           have hy0 := hbx4.c 1 _ rfl; have hy1 := hbx4.c 2 _ rfl
           have FIN := Lib.hid (And.intro hF4 (And.intro hbx4 hbw4))
           clear hmn hmx bmn bmx hT4 hF4 hbx4 hbw4
           go_wp2_with fail
           obtain ⟨SSs, hSSs⟩ : ∃ S : Array Bool → World → Prop, ∀ l w', S l w' ↔ ((w'.cell? ⟨tb, 1, none⟩ = some (.int .i64 (y : Int))) ∧ (w'.cell? ⟨tb, 2, none⟩ = some (.int .i64 (z : Int)))) := ⟨_, fun _ _ => Iff.rfl⟩
           refine wp_region_noPanic ?_
           refine wp_region_G SSs 21 #[false, false, false, false, false, false, false, false, false, false, false, false, false, false, false, false, false, false, false, false, false] (by kernel_rfl) (by kernel_rfl) (by kernel_rfl) ((hSSs _ _).2 ⟨hx0, hx1⟩) (fun hCl hHeld => ?_)
           generalize wr.drew = wd at *
           refine rG 0 ?_ ?_ ?_ ?_ ?_ ?_ hCl hHeld ?_;rotate_left 2
           ·simp only [gA,gZ]; exact rfl
           ·intro l w'; rw [hSSs, hSSs]
           ·rfl
           ·intro w' hA;clear hA;go_simp;try with_reducible rfl
           clear hCl hHeld
           intro hCl hHeld
           simp only [List.setIfInBounds_toArray, List.set_cons_zero] at hCl hHeld
           (try simp only [Act.put]);try simp only [sA,sZ,sS]
           refine rG 1 ?_ ?_ ?_ ?_ ?_ ?_ hCl hHeld ?_;rotate_left 2
           ·simp only [gA,gS,gZ]; exact rfl
           ·intro l w'; rw [hSSs, hSSs]
           ·rfl
           ·intro w' hA;clear hA;go_simp;try with_reducible rfl
           clear hCl hHeld
           intro hCl hHeld
           simp only [sA,sZ,sS] at hCl hHeld
           (try simp only [Act.put]);try simp only [sA,sZ,sS]
           refine rG 2 ?_ ?_ ?_ ?_ ?_ ?_ hCl hHeld ?_;rotate_left 2
           ·simp only [gA,gS,gZ]; exact rfl
           ·intro l w'; rw [hSSs, hSSs]
           ·rfl
           ·intro w' hA;clear hA;go_simp;try with_reducible rfl
           clear hCl hHeld
           intro hCl hHeld
           simp only [sA,sZ,sS] at hCl hHeld
           (try simp only [Act.put]);try simp only [sA,sZ,sS]
           refine rG 3 ?_ ?_ ?_ ?_ ?_ ?_ hCl hHeld ?_;rotate_left 2
           ·simp only [gA,gS,gZ]; exact rfl
           ·intro l w'; rw [hSSs, hSSs]
           ·rfl
           ·intro w' hA; obtain ⟨l, hl, hi, hSl⟩ := hA; have hSl := (hSSs _ _).1 hSl; obtain ⟨hz0, hz1⟩ := hSl; go_simp; try with_reducible rfl
           clear hCl hHeld
           intro hCl hHeld
           simp only [sA,sZ,sS] at hCl hHeld
           (try simp only [Act.put]);try simp only [sA,sZ,sS]
           refine rG 4 ?_ ?_ ?_ ?_ ?_ ?_ hCl hHeld ?_;rotate_left 2
           ·simp only [gA,gS,gZ]; exact rfl
           ·intro l w'; rw [hSSs, hSSs]
           ·rfl
           ·intro w' hA;clear hA;go_simp;try with_reducible rfl
           clear hCl hHeld
           intro hCl hHeld
           simp only [sA,sZ,sS] at hCl hHeld
           (try simp only [Act.put]);try simp only [sA,sZ,sS]
           refine rG 5 ?_ ?_ ?_ ?_ ?_ ?_ hCl hHeld ?_;rotate_left 2
           ·simp only [gA,gS,gZ]; exact rfl
           ·intro l w'; rw [hSSs, hSSs]
           ·rfl
           ·intro w' hA;clear hA;go_simp;try with_reducible rfl
           clear hCl hHeld
           intro hCl hHeld
           simp only [sA,sZ,sS] at hCl hHeld
           (try simp only [Act.put]);try simp only [sA,sZ,sS]
           refine rG 6 ?_ ?_ ?_ ?_ ?_ ?_ hCl hHeld ?_;rotate_left 2
           ·simp only [gA,gS,gZ]; exact rfl
           ·intro l w'; rw [hSSs, hSSs]
           ·rfl
           ·intro w' hA;clear hA;go_simp;try with_reducible rfl
           clear hCl hHeld
           intro hCl hHeld
           simp only [sA,sZ,sS] at hCl hHeld
           (try simp only [Act.put]);try simp only [sA,sZ,sS]
           refine rG 7 ?_ ?_ ?_ ?_ ?_ ?_ hCl hHeld ?_;rotate_left 2
           ·simp only [gA,gS,gZ]; exact rfl
           ·intro l w'; rw [hSSs, hSSs]
           ·rfl
           ·intro w' hA;clear hA;go_simp;try with_reducible rfl
           clear hCl hHeld
           intro hCl hHeld
           simp only [sA,sZ,sS] at hCl hHeld
           (try simp only [Act.put]);try simp only [sA,sZ,sS]
           refine rG 8 ?_ ?_ ?_ ?_ ?_ ?_ hCl hHeld ?_;rotate_left 2
           ·simp only [gA,gS,gZ]; exact rfl
           ·intro l w'; rw [hSSs, hSSs]
           ·rfl
           ·intro w' hA; obtain ⟨l, hl, hi, hSl⟩ := hA; have hSl := (hSSs _ _).1 hSl; obtain ⟨hz0, hz1⟩ := hSl; go_simp; try with_reducible rfl
           clear hCl hHeld
           intro hCl hHeld
           simp only [sA,sZ,sS] at hCl hHeld
           (try simp only [Act.put]);try simp only [sA,sZ,sS]
           refine rG 9 ?_ ?_ ?_ ?_ ?_ ?_ hCl hHeld ?_;rotate_left 2
           ·simp only [gA,gS,gZ]; exact rfl
           ·intro l w'; rw [hSSs, hSSs]
           ·rfl
           ·intro w' hA;clear hA;go_simp;try with_reducible rfl
           clear hCl hHeld
           intro hCl hHeld
           simp only [sA,sZ,sS] at hCl hHeld
           (try simp only [Act.put]);try simp only [sA,sZ,sS]
           refine rG 10 ?_ ?_ ?_ ?_ ?_ ?_ hCl hHeld ?_;rotate_left 2
           ·simp only [gA,gS,gZ]; exact rfl
           ·intro l w'; rw [hSSs, hSSs]
           ·rfl
           ·intro w' hA;clear hA;go_simp;try with_reducible rfl
           clear hCl hHeld
           intro hCl hHeld
           simp only [sA,sZ,sS] at hCl hHeld
           (try simp only [Act.put]);try simp only [sA,sZ,sS]
           refine rG 11 ?_ ?_ ?_ ?_ ?_ ?_ hCl hHeld ?_;rotate_left 2
           ·simp only [gA,gS,gZ]; exact rfl
           ·intro l w'; rw [hSSs, hSSs]
           ·rfl
           ·intro w' hA;clear hA;go_simp;try with_reducible rfl
           clear hCl hHeld
           intro hCl hHeld
           simp only [sA,sZ,sS] at hCl hHeld
           (try simp only [Act.put]);try simp only [sA,sZ,sS]
           refine rG 12 ?_ ?_ ?_ ?_ ?_ ?_ hCl hHeld ?_;rotate_left 2
           ·simp only [gA,gS,gZ]; exact rfl
           ·intro l w'; rw [hSSs, hSSs]
           ·rfl
           ·intro w' hA; obtain ⟨l, hl, hi, hSl⟩ := hA; have hSl := (hSSs _ _).1 hSl; obtain ⟨hz0, hz1⟩ := hSl; go_simp; try with_reducible rfl
           clear hCl hHeld
           intro hCl hHeld
           simp only [sA,sZ,sS] at hCl hHeld
           (try simp only [Act.put]);try simp only [sA,sZ,sS]
           refine rG 13 ?_ ?_ ?_ ?_ ?_ ?_ hCl hHeld ?_;rotate_left 2
           ·simp only [gA,gS,gZ]; exact rfl
           ·intro l w'; rw [hSSs, hSSs]
           ·rfl
           ·intro w' hA;clear hA;go_simp;try with_reducible rfl
           clear hCl hHeld
           intro hCl hHeld
           simp only [sA,sZ,sS] at hCl hHeld
           (try simp only [Act.put]);try simp only [sA,sZ,sS]
           refine rG 14 ?_ ?_ ?_ ?_ ?_ ?_ hCl hHeld ?_;rotate_left 2
           ·simp only [gA,gS,gZ]; exact rfl
           ·intro l w'; rw [hSSs, hSSs]
           ·rfl
           ·intro w' hA;clear hA;go_simp;try with_reducible rfl
           clear hCl hHeld
           intro hCl hHeld
           simp only [sA,sZ,sS] at hCl hHeld
           (try simp only [Act.put]);try simp only [sA,sZ,sS]
           refine rG 15 ?_ ?_ ?_ ?_ ?_ ?_ hCl hHeld ?_;rotate_left 2
           ·simp only [gA,gS,gZ]; exact rfl
           ·intro l w'; rw [hSSs, hSSs]
           ·rfl
           ·intro w' hA;clear hA;go_simp;try with_reducible rfl
           clear hCl hHeld
           intro hCl hHeld
           simp only [sA,sZ,sS] at hCl hHeld
           (try simp only [Act.put]);try simp only [sA,sZ,sS]
           refine rG 16 ?_ ?_ ?_ ?_ ?_ ?_ hCl hHeld ?_;rotate_left 2
           ·simp only [gA,gS,gZ]; exact rfl
           ·intro l w'; rw [hSSs, hSSs]
           ·rfl
           ·intro w' hA;clear hA;go_simp;try with_reducible rfl
           clear hCl hHeld
           intro hCl hHeld
           simp only [sA,sZ,sS] at hCl hHeld
           (try simp only [Act.put]);try simp only [sA,sZ,sS]
           refine rG 17 ?_ ?_ ?_ ?_ ?_ ?_ hCl hHeld ?_;rotate_left 2
           ·simp only [gA,gS,gZ]; exact rfl
           ·intro l w'; rw [hSSs, hSSs]
           ·rfl
           ·intro w' hA; obtain ⟨l, hl, hi, hSl⟩ := hA; have hSl := (hSSs _ _).1 hSl; obtain ⟨hz0, hz1⟩ := hSl; go_simp; try with_reducible rfl
           clear hCl hHeld
           intro hCl hHeld
           simp only [sA,sZ,sS] at hCl hHeld
           (try simp only [Act.put]);try simp only [sA,sZ,sS]
           refine rG 18 ?_ ?_ ?_ ?_ ?_ ?_ hCl hHeld ?_;rotate_left 2
           ·simp only [gA,gS,gZ]; exact rfl
           ·intro l w'; rw [hSSs, hSSs]
           ·rfl
           ·intro w' hA;clear hA;go_simp;try with_reducible rfl
           clear hCl hHeld
           intro hCl hHeld
           simp only [sA,sZ,sS] at hCl hHeld
           (try simp only [Act.put]);try simp only [sA,sZ,sS]
           refine rG 19 ?_ ?_ ?_ ?_ ?_ ?_ hCl hHeld ?_;rotate_left 2
           ·simp only [gA,gS,gZ]; exact rfl
           ·intro l w'; rw [hSSs, hSSs]
           ·rfl
           ·intro w' hA;clear hA;go_simp;try with_reducible rfl
           clear hCl hHeld
           intro hCl hHeld
           simp only [sA,sZ,sS] at hCl hHeld
           (try simp only [Act.put]);try simp only [sA,sZ,sS]
           clear hCl hHeld
           refine reg_callG 20 ?_ (by kernel_rfl) ?_ (fun K hK => ?_);rotate_left 1
           ·simp only [gA,gS,gZ]; exact rfl
           go_simp
           clear hx0 hx1 hup
           refine hK.out _ _ ((hSSs _ _).2 ⟨hy0, hy1⟩) ?_
           clear hK K
           (try simp only [Act.put]);try simp only [sA,sZ,sS]
           refine wpAnyG_done (by kernel_rfl) ?_ _
           refine NoPanic.normal ?_
           clear hSSs SSs
           go_wp2
           have hnn := HNN.out
           refine ⟨⟨_, _, _, _, _, _, _, _, _, _, _, _, _, _, _, _, _, _, _, _, _, _, _, _, _, _, _, _, _, _, _, _, _, _, ?_, rfl⟩, by simp [intOf]⟩
           exact ⟨1 + 1, by omega, by go_num, congrArg (Value.int .i64) (by omega), ⟨_, FIN.out.1⟩, FIN.out.2.1, FIN.out.2.2⟩
          ·obtain ⟨mn, hmn⟩ : ∃ mn : Int, (if (x : Int) < (z : Int) then (x : Int) else (z : Int)) = mn := ⟨_, rfl⟩
           obtain ⟨mx, hmx⟩ : ∃ mx : Int, (if (x : Int) > (z : Int) then (x : Int) else (z : Int)) = mx := ⟨_, rfl⟩
           have bmn : -1000000 ≤ mn ∧ mn ≤ 1000000 := by rw [← hmn]; split <;> omega
           have bmx : -1000000 ≤ mx ∧ mx ≤ 1000000 := by rw [← hmx]; split <;> omega
           have hmin : ∀ w : World, Sem.run Try.prog (Builtin.min_ #[3, 3] 3 #[.int .i64 (z : Int), .int .i64 (x : Int)]) w = Result.ok (Value.int .i64 mn) w := fun w => by rw [run_min_int2, hmn]
           have hmax : ∀ w : World, Sem.run Try.prog (Builtin.max_ #[3, 3] 3 #[.int .i64 (z : Int), .int .i64 (x : Int)]) w = Result.ok (Value.int .i64 mx) w := fun w => by rw [run_max_int2, hmx]
           have hwk : (IntKind.i64.wrap 3).tmod 3 = 0 := by decide
           obtain ⟨wm, F4, hup, hT4, hF4⟩ := fault_store HF3.out bmn bmx
           have hx0 := HBX3.out.c 2 _ rfl; have hx1 := HBX3.out.c 0 _ rfl
           have hbx4 := HBX3.out.turned hT4 (by omega)
           have hbw4 : Below fb w7 wm := Below.turned HBW3.out hT4 (Nat.le_refl _)
           have hy0 := hbx4.c 2 _ rfl; have hy1 := hbx4.c 0 _ rfl
           have FIN := Lib.hid (And.intro hF4 (And.intro hbx4 hbw4))
           clear hmn hmx bmn bmx hT4 hF4 hbx4 hbw4
           go_wp2_with fail
           obtain ⟨SSs, hSSs⟩ : ∃ S : Array Bool → World → Prop, ∀ l w', S l w' ↔ ((w'.cell? ⟨tb, 2, none⟩ = some (.int .i64 (z : Int))) ∧ (w'.cell? ⟨tb, 0, none⟩ = some (.int .i64 (x : Int)))) := ⟨_, fun _ _ => Iff.rfl⟩
           refine wp_region_noPanic ?_
           refine wp_region_G SSs 21 #[false, false, false, false, false, false, false, false, false, false, false, false, false, false, false, false, false, false, false, false, false] (by kernel_rfl) (by kernel_rfl) (by kernel_rfl) ((hSSs _ _).2 ⟨hx0, hx1⟩) (fun hCl hHeld => ?_)
           generalize wr.drew = wd at *
           refine rG 0 ?_ ?_ ?_ ?_ ?_ ?_ hCl hHeld ?_;rotate_left 2
           ·simp only [gA,gZ]; exact rfl
           ·intro l w'; rw [hSSs, hSSs]
           ·rfl
           ·intro w' hA;clear hA;go_simp;try with_reducible rfl
           clear hCl hHeld
           intro hCl hHeld
           simp only [List.setIfInBounds_toArray, List.set_cons_zero] at hCl hHeld
           (try simp only [Act.put]);try simp only [sA,sZ,sS]
           refine rG 1 ?_ ?_ ?_ ?_ ?_ ?_ hCl hHeld ?_;rotate_left 2
           ·simp only [gA,gS,gZ]; exact rfl
           ·intro l w'; rw [hSSs, hSSs]
           ·rfl
           ·intro w' hA;clear hA;go_simp;try with_reducible rfl
           clear hCl hHeld
           intro hCl hHeld
           simp only [sA,sZ,sS] at hCl hHeld
           (try simp only [Act.put]);try simp only [sA,sZ,sS]
           refine rG 2 ?_ ?_ ?_ ?_ ?_ ?_ hCl hHeld ?_;rotate_left 2
           ·simp only [gA,gS,gZ]; exact rfl
           ·intro l w'; rw [hSSs, hSSs]
           ·rfl
           ·intro w' hA;clear hA;go_simp;try with_reducible rfl
           clear hCl hHeld
           intro hCl hHeld
           simp only [sA,sZ,sS] at hCl hHeld
           (try simp only [Act.put]);try simp only [sA,sZ,sS]
           refine rG 3 ?_ ?_ ?_ ?_ ?_ ?_ hCl hHeld ?_;rotate_left 2
           ·simp only [gA,gS,gZ]; exact rfl
           ·intro l w'; rw [hSSs, hSSs]
           ·rfl
           ·intro w' hA; obtain ⟨l, hl, hi, hSl⟩ := hA; have hSl := (hSSs _ _).1 hSl; obtain ⟨hz0, hz1⟩ := hSl; go_simp; try with_reducible rfl
           clear hCl hHeld
           intro hCl hHeld
           simp only [sA,sZ,sS] at hCl hHeld
           (try simp only [Act.put]);try simp only [sA,sZ,sS]
           refine rG 4 ?_ ?_ ?_ ?_ ?_ ?_ hCl hHeld ?_;rotate_left 2
           ·simp only [gA,gS,gZ]; exact rfl
           ·intro l w'; rw [hSSs, hSSs]
           ·rfl
           ·intro w' hA;clear hA;go_simp;try with_reducible rfl
           clear hCl hHeld
           intro hCl hHeld
           simp only [sA,sZ,sS] at hCl hHeld
           (try simp only [Act.put]);try simp only [sA,sZ,sS]
           refine rG 5 ?_ ?_ ?_ ?_ ?_ ?_ hCl hHeld ?_;rotate_left 2
           ·simp only [gA,gS,gZ]; exact rfl
           ·intro l w'; rw [hSSs, hSSs]
           ·rfl
           ·intro w' hA;clear hA;go_simp;try with_reducible rfl
           clear hCl hHeld
           intro hCl hHeld
           simp only [sA,sZ,sS] at hCl hHeld
           (try simp only [Act.put]);try simp only [sA,sZ,sS]
           refine rG 6 ?_ ?_ ?_ ?_ ?_ ?_ hCl hHeld ?_;rotate_left 2
           ·simp only [gA,gS,gZ]; exact rfl
           ·intro l w'; rw [hSSs, hSSs]
           ·rfl
           ·intro w' hA;clear hA;go_simp;try with_reducible rfl
           clear hCl hHeld
           intro hCl hHeld
           simp only [sA,sZ,sS] at hCl hHeld
           (try simp only [Act.put]);try simp only [sA,sZ,sS]
           refine rG 7 ?_ ?_ ?_ ?_ ?_ ?_ hCl hHeld ?_;rotate_left 2
           ·simp only [gA,gS,gZ]; exact rfl
           ·intro l w'; rw [hSSs, hSSs]
           ·rfl
           ·intro w' hA;clear hA;go_simp;try with_reducible rfl
           clear hCl hHeld
           intro hCl hHeld
           simp only [sA,sZ,sS] at hCl hHeld
           (try simp only [Act.put]);try simp only [sA,sZ,sS]
           refine rG 8 ?_ ?_ ?_ ?_ ?_ ?_ hCl hHeld ?_;rotate_left 2
           ·simp only [gA,gS,gZ]; exact rfl
           ·intro l w'; rw [hSSs, hSSs]
           ·rfl
           ·intro w' hA; obtain ⟨l, hl, hi, hSl⟩ := hA; have hSl := (hSSs _ _).1 hSl; obtain ⟨hz0, hz1⟩ := hSl; go_simp; try with_reducible rfl
           clear hCl hHeld
           intro hCl hHeld
           simp only [sA,sZ,sS] at hCl hHeld
           (try simp only [Act.put]);try simp only [sA,sZ,sS]
           refine rG 9 ?_ ?_ ?_ ?_ ?_ ?_ hCl hHeld ?_;rotate_left 2
           ·simp only [gA,gS,gZ]; exact rfl
           ·intro l w'; rw [hSSs, hSSs]
           ·rfl
           ·intro w' hA;clear hA;go_simp;try with_reducible rfl
           clear hCl hHeld
           intro hCl hHeld
           simp only [sA,sZ,sS] at hCl hHeld
           (try simp only [Act.put]);try simp only [sA,sZ,sS]
           refine rG 10 ?_ ?_ ?_ ?_ ?_ ?_ hCl hHeld ?_;rotate_left 2
           ·simp only [gA,gS,gZ]; exact rfl
           ·intro l w'; rw [hSSs, hSSs]
           ·rfl
           ·intro w' hA;clear hA;go_simp;try with_reducible rfl
           clear hCl hHeld
           intro hCl hHeld
           simp only [sA,sZ,sS] at hCl hHeld
           (try simp only [Act.put]);try simp only [sA,sZ,sS]
           refine rG 11 ?_ ?_ ?_ ?_ ?_ ?_ hCl hHeld ?_;rotate_left 2
           ·simp only [gA,gS,gZ]; exact rfl
           ·intro l w'; rw [hSSs, hSSs]
           ·rfl
           ·intro w' hA;clear hA;go_simp;try with_reducible rfl
           clear hCl hHeld
           intro hCl hHeld
           simp only [sA,sZ,sS] at hCl hHeld
           (try simp only [Act.put]);try simp only [sA,sZ,sS]
           refine rG 12 ?_ ?_ ?_ ?_ ?_ ?_ hCl hHeld ?_;rotate_left 2
           ·simp only [gA,gS,gZ]; exact rfl
           ·intro l w'; rw [hSSs, hSSs]
           ·rfl
           ·intro w' hA; obtain ⟨l, hl, hi, hSl⟩ := hA; have hSl := (hSSs _ _).1 hSl; obtain ⟨hz0, hz1⟩ := hSl; go_simp; try with_reducible rfl
           clear hCl hHeld
           intro hCl hHeld
           simp only [sA,sZ,sS] at hCl hHeld
           (try simp only [Act.put]);try simp only [sA,sZ,sS]
           refine rG 13 ?_ ?_ ?_ ?_ ?_ ?_ hCl hHeld ?_;rotate_left 2
           ·simp only [gA,gS,gZ]; exact rfl
           ·intro l w'; rw [hSSs, hSSs]
           ·rfl
           ·intro w' hA;clear hA;go_simp;try with_reducible rfl
           clear hCl hHeld
           intro hCl hHeld
           simp only [sA,sZ,sS] at hCl hHeld
           (try simp only [Act.put]);try simp only [sA,sZ,sS]
           refine rG 14 ?_ ?_ ?_ ?_ ?_ ?_ hCl hHeld ?_;rotate_left 2
           ·simp only [gA,gS,gZ]; exact rfl
           ·intro l w'; rw [hSSs, hSSs]
           ·rfl
           ·intro w' hA;clear hA;go_simp;try with_reducible rfl
           clear hCl hHeld
           intro hCl hHeld
           simp only [sA,sZ,sS] at hCl hHeld
           (try simp only [Act.put]);try simp only [sA,sZ,sS]
           refine rG 15 ?_ ?_ ?_ ?_ ?_ ?_ hCl hHeld ?_;rotate_left 2
           ·simp only [gA,gS,gZ]; exact rfl
           ·intro l w'; rw [hSSs, hSSs]
           ·rfl
           ·intro w' hA;clear hA;go_simp;try with_reducible rfl
           clear hCl hHeld
           intro hCl hHeld
           simp only [sA,sZ,sS] at hCl hHeld
           (try simp only [Act.put]);try simp only [sA,sZ,sS]
           refine rG 16 ?_ ?_ ?_ ?_ ?_ ?_ hCl hHeld ?_;rotate_left 2
           ·simp only [gA,gS,gZ]; exact rfl
           ·intro l w'; rw [hSSs, hSSs]
           ·rfl
           ·intro w' hA;clear hA;go_simp;try with_reducible rfl
           clear hCl hHeld
           intro hCl hHeld
           simp only [sA,sZ,sS] at hCl hHeld
           (try simp only [Act.put]);try simp only [sA,sZ,sS]
           refine rG 17 ?_ ?_ ?_ ?_ ?_ ?_ hCl hHeld ?_;rotate_left 2
           ·simp only [gA,gS,gZ]; exact rfl
           ·intro l w'; rw [hSSs, hSSs]
           ·rfl
           ·intro w' hA; obtain ⟨l, hl, hi, hSl⟩ := hA; have hSl := (hSSs _ _).1 hSl; obtain ⟨hz0, hz1⟩ := hSl; go_simp; try with_reducible rfl
           clear hCl hHeld
           intro hCl hHeld
           simp only [sA,sZ,sS] at hCl hHeld
           (try simp only [Act.put]);try simp only [sA,sZ,sS]
           refine rG 18 ?_ ?_ ?_ ?_ ?_ ?_ hCl hHeld ?_;rotate_left 2
           ·simp only [gA,gS,gZ]; exact rfl
           ·intro l w'; rw [hSSs, hSSs]
           ·rfl
           ·intro w' hA;clear hA;go_simp;try with_reducible rfl
           clear hCl hHeld
           intro hCl hHeld
           simp only [sA,sZ,sS] at hCl hHeld
           (try simp only [Act.put]);try simp only [sA,sZ,sS]
           refine rG 19 ?_ ?_ ?_ ?_ ?_ ?_ hCl hHeld ?_;rotate_left 2
           ·simp only [gA,gS,gZ]; exact rfl
           ·intro l w'; rw [hSSs, hSSs]
           ·rfl
           ·intro w' hA;clear hA;go_simp;try with_reducible rfl
           clear hCl hHeld
           intro hCl hHeld
           simp only [sA,sZ,sS] at hCl hHeld
           (try simp only [Act.put]);try simp only [sA,sZ,sS]
           clear hCl hHeld
           refine reg_callG 20 ?_ (by kernel_rfl) ?_ (fun K hK => ?_);rotate_left 1
           ·simp only [gA,gS,gZ]; exact rfl
           go_simp
           clear hx0 hx1 hup
           refine hK.out _ _ ((hSSs _ _).2 ⟨hy0, hy1⟩) ?_
           clear hK K
           (try simp only [Act.put]);try simp only [sA,sZ,sS]
           refine wpAnyG_done (by kernel_rfl) ?_ _
           refine NoPanic.normal ?_
           clear hSSs SSs
           go_wp2
           have hnn := HNN.out
           refine ⟨⟨_, _, _, _, _, _, _, _, _, _, _, _, _, _, _, _, _, _, _, _, _, _, _, _, _, _, _, _, _, _, _, _, _, _, ?_, rfl⟩, by simp [intOf]⟩
           exact ⟨2 + 1, by omega, by go_num, congrArg (Value.int .i64) (by omega), ⟨_, FIN.out.1⟩, FIN.out.2.1, FIN.out.2.2⟩
        ·obtain rfl : i = 3 := by omega
         have FIN := Lib.hid (And.intro hF2 hbw)
         clear hF2 hbw hbx
         go_wp2
         exact ⟨⟨j + 1, by omega, by go_num, congrArg (Value.int .i64) (by omega), ⟨_, FIN.out.1⟩, FIN.out.2⟩, by simp [intOf]; omega⟩
      ·obtain rfl : j = 4 := by omega
       have hgl := HM.out.len
       obtain ⟨⟨ta, tb, tc⟩, h0⟩ : ∃ v, (gridT 2 1 bn)[0]? = some v := ⟨_, List.getElem?_eq_getElem (by omega)⟩
       have hz := HM.out.one _ (List.mem_of_getElem? h0)
       simp only [] at hz
       have hb7 : Below w7.heap.size w7 wr := by rw [HFB.out]; exact hbw
       have hpr : RowN wr (w.heap.size + 1) 62 2 (.slice (some ⟨gp, 0, none⟩) 6 gpc) 6 (ptsCells (gridP 2 1)) := (HROW.out.below HBT.out).below hb7
       have htr := HTR.out.below hb7
       have hbu := Build_any F (gridT 2 1 bn) ta tb tc fb gt 4 gtc gp 6 gpc (gridP 2 1) wr OK.out.good h0 hz (by omega) (by omega) OK.out.pts htr hF rfl (by omega) (by omega) HPS.out hpr.ptsC HM.out.some_ (by have := HM.out.few; omega) HM.out.ends
       have HBU := Lib.hid hbu; have HTRR := Lib.hid htr
       have HBWR := Lib.hid (HBW.out.trans ((HBT.out.trans (hb7.mono HBT.out.size)).mono HBW.out.size))
       have hgt := HGTL.out.1; have hsz5 := HBW.out.size
       clear hbu htr hpr hb7 hF hbw hz h0 hgl
       go_wp2_with fail
       refine HBU.out.mono ?_
       rintro e w9 ⟨mb, rfl, hbe, hb9⟩
       have hbs := HBWR.out.size
       have FIN := Lib.hid (And.intro (hbe.low hbs) (And.intro (HTRR.out.below hb9) (HBWR.out.trans (hb9.mono hbs))))
       clear hbe hb9
       go_wp2
       go_ret2
       exact ⟨mb, gt, gtc, F, rfl, FIN.out.1, FIN.out.2.1, by omega, FIN.out.2.2⟩
end Go.Proofs.Ytecnnpkpgbbfkaa
/- The statements' Grid, 2 by 2. -/
namespace Go.Proofs.Ytecnnpkpgbbfkaa
open Go.RowKit Go.MagM
set_option maxRecDepth 100000 in
set_option maxHeartbeats 16000000 in
theorem Grid22_any (w0 h0 b f : Int) (bn : Nat) (hbn : bn < 16) (e1 : bits .and .i64 w0 1 = 1) (e2 : bits .and .i64 h0 1 = 1) (hbit : ∀ k : Nat, k < 4 → bitB b k = bn.testBit k) (w : World) :
  Calls Try.prog 6 #[.int .i64 w0, .int .i64 h0, .int .u32 b, .int .u32 f] w fun e w' => ∃ (mb g c : Nat) (F : Int → Int → Bool), e = .returned (.tuple #[.pointer (some ⟨mb, 0, none⟩), .slice (some ⟨g, 0, none⟩) 8 c]) ∧ BuildEnd 62 49 F w.heap.size (gridP 2 2) (gridT 2 2 bn) mb w' ∧ TrIn w' g ((gridT 2 2 bn).map realV) ∧ w.heap.size ≤ g ∧ Below w.heap.size w w' := by
 have ok := grid_ok (w := 2) (h := 2) (by omega) (by omega) hbn
 have hm := grid_has (w := 2) (h := 2) (by omega) (by omega) hbn
 have hps : InPs (gridP 2 2) := grid_inPs (by omega) (by omega)
 have OK := Lib.hid ok; have HM := Lib.hid hm; have HPS := Lib.hid hps; have HBIT := Lib.hid hbit
 clear ok hm hps hbit
 obtain ⟨i0, hi, hz0, hz1, hz2⟩ := info_parts infoPt
 have HI := Lib.hid hi; have HZ0 := Lib.hid hz0; have HZ1 := Lib.hid hz1; have HZ2 := Lib.hid hz2
 obtain ⟨j0, hj, hy0, hy1, hy2⟩ := info_parts infoE3
 have HJ := Lib.hid hj; have HY0 := Lib.hid hy0; have HY1 := Lib.hid hy1; have HY2 := Lib.hid hy2
 clear hi hz0 hz1 hz2 hj hy0 hy1 hy2
 obtain ⟨w1, hw1, pw0, hB1, hs1⟩ := new_box w _ rfl [.int .i64 w0] 3
 have sc := pw0.c 0 _ rfl; have sf := pw0.f 0 _ rfl
 obtain ⟨w2, hw2⟩ : ∃ w2, w1.setCell ⟨w.heap.size, 0, none⟩ (.int .i64 2) = w2 := ⟨_, rfl⟩
 have pw2 : Box w2 w.heap.size [.int .i64 2] := by rw [← hw2]; exact pw0.set 0 (.int .i64 2)
 have hB2 : Below w.heap.size w w2 := by rw [← hw2]; exact hB1.setCell (p := ⟨w.heap.size, 0, none⟩) (by simp only []; omega) _
 have hz2 : w.heap.size + 1 ≤ w2.heap.size := by have := pw2.lt; omega
 have PW2 := Lib.hid pw2; have HB2 := Lib.hid hB2; have HZS := Lib.hid hz2
 clear pw0 hB1 hs1 pw2 hB2 hz2
 go_enter Try.func6, Try.ntmps6
 go_wp2
 clear sc sf hw1 hw2
 go_loopw [10, 11, 12, 35] (fun pv _ _ iv wr => ∃ (y : Nat) (vv : Value), y ≤ 3 ∧ iv = .int .i64 (y : Int) ∧ vv = pv ∧ RowN wr (w.heap.size + 1) 62 2 vv (y * 3) (ptsCells ((gridP 2 2).take (y * 3))) ∧ Box wr w.heap.size [.int .i64 2] ∧ Below w.heap.size w wr ∧ w.heap.size + 1 ≤ wr.heap.size) (fun _ _ _ iv _ => 3 - (intOf iv).toNat)
 case atStart => exact ⟨0, _, Nat.zero_le _, rfl, rfl, RowN.nil _ _ _ _, PW2.out, HB2.out, HZS.out⟩
 case round =>
  obtain ⟨y, vv, hy, rfl, rfl, hrow, hbx, hbw, hsz⟩ := hrel
  by_cases hlt : y < 3
  ·have hyd : decide ((y : Int) < 3) = true := decide_eq_true (by omega)
   have cw := hbx.c 0 _ rfl
   have HROW := Lib.hid hrow; have HBX := Lib.hid hbx; have HBW := Lib.hid hbw; have HSZ := Lib.hid hsz
   clear hrow hbx hbw hsz
   go_wp2
   clear cw
   go_loopw [10, 12, 40] (fun pv _ iv wr => ∃ (x : Nat) (vv : Value), x ≤ 3 ∧ iv = .int .i64 (x : Int) ∧ vv = pv ∧ RowN wr (w.heap.size + 1) 62 2 vv (y * 3 + x) (ptsCells ((gridP 2 2).take (y * 3 + x))) ∧ Box wr w.heap.size [.int .i64 2] ∧ Below w.heap.size w wr ∧ w.heap.size + 1 ≤ wr.heap.size) (fun _ _ iv _ => 3 - (intOf iv).toNat)
   case atStart => exact ⟨0, _, Nat.zero_le _, rfl, rfl, HROW.out, HBX.out, HBW.out, HSZ.out⟩
   case round =>
    obtain ⟨x, vv, hx, rfl, rfl, hrow, hbx, hbw, hsz⟩ := hrel
    by_cases hlx : x < 3
    ·have hel := gridP_at (w := 2) (h := 2) (by omega) (by omega) (x := x) (y := y) (by omega) (by omega)
     have hx2 : IntKind.i64.wrap (2 * (x : Int)) = 2 * (x : Int) := by rw [IntKind.wrap_i64]; omega
     have hy2 : IntKind.i64.wrap (2 * (y : Int)) = 2 * (y : Int) := by rw [IntKind.wrap_i64]; omega
     obtain ⟨w3, hw3, hpn, hb3, hs3⟩ := new_box wr _ rfl [.int .i64 (2 * (x : Int)), .int .i64 (2 * (y : Int))] 62
     have hrow3 := hrow.below hb3
     have hbx3 := hbx.below hb3
     have hbw3 := hbw.trans (hb3.mono hbw.size)
     obtain ⟨v1, w4, hrun, rown, hgrow, hkept⟩ := run_append_row (P := Try.prog) w3 (w.heap.size + 1) 40 40 62 i0 (.agg #[.int .i64 0, .int .i64 0]) 2 16 (by kernel_rfl) HI.out HZ0.out HZ1.out HZ2.out rfl (noWordI2 _ _) _ (y * 3 + x) _ hrow3 ⟨wr.heap.size, 0, none⟩ 1 1 [.int .i64 (2 * (x : Int)), .int .i64 (2 * (y : Int))] (by omega) rfl hpn.news (by intro u hu; simp at hu; rcases hu with rfl | rfl <;> rfl) (noWordI2 _ _) (by unfold maxLen; omega) (by omega) (by omega)
     have hne : ∀ k, vv.ownBlock = some k → w.heap.size + 1 ≤ k := fun k hk => (hrow3.lt k hk).1
     have hbx4 := hbx3.grown hgrow (fun e => by have := hne _ e; omega) hbx3.lt
     have hbw4 : Below w.heap.size w w4 := hbw3.grown hgrow (by omega) (fun k hk => by have := hne k hk; omega)
     have htk : ptsCells ((gridP 2 2).take (y * 3 + x)) ++ [.int .i64 (2 * (x : Int)), .int .i64 (2 * (y : Int))] = ptsCells ((gridP 2 2).take (y * 3 + (x + 1))) := by
      rw [← Nat.add_assoc, List.take_add_one, hel, ptsCells_app]; rfl
     rw [htk] at rown
     have FIN := Lib.hid (And.intro rown (And.intro hbx4 (And.intro hbw4 (show w.heap.size + 1 ≤ w4.heap.size by have := hgrow.size; omega))))
     clear hrow hbx hbw hsz hpn hb3 hs3 hrow3 hbx3 hbw3 rown hgrow hkept hne hbx4 hbw4 htk hel
     go_wp2_with (refine wpList_append_row rfl _ _ 40 rfl rfl rfl hrun ?_)
     have FI := FIN.out
     exact ⟨⟨x + 1, _, by omega, by go_num, rfl, FI.1, FI.2.1, FI.2.2.1, FI.2.2.2⟩, by simp [intOf]; omega⟩
    ·obtain rfl : x = 3 := by omega
     have FIN := Lib.hid (And.intro hrow (And.intro hbx (And.intro hbw hsz)))
     clear hrow hbx hbw hsz
     go_wp2
     have FI := FIN.out
     have hrow := FI.1
     rw [show y * 3 + 3 = (y + 1) * 3 by omega] at hrow
     exact ⟨⟨y + 1, _, by omega, by go_num, rfl, hrow, FI.2.1, FI.2.2.1, FI.2.2.2⟩, by simp [intOf]; omega⟩
  ·obtain rfl : y = 3 := by omega
   have hpt : (gridP 2 2).take (3 * 3) = gridP 2 2 := rfl
   rw [hpt] at hrow
   obtain ⟨gp, gpc, hvv⟩ : ∃ g c, vv = .slice (some ⟨g, 0, none⟩) 9 c := by
    rcases hrow.2 with ⟨h1, h2⟩ | ⟨g, cap, cur, h1, h2, h3⟩
    ·omega
    ·exact ⟨g, cap, h1⟩
   subst hvv
   have hpl := hrow.lt gp rfl
   obtain ⟨w5, hw5⟩ : ∃ w5, w5 = wr := ⟨_, rfl⟩
   rw [← hw5] at hrow hbx hbw hsz hpl
   rw [← hw5]
   have HROW := Lib.hid hrow; have HBX := Lib.hid hbx; have HBW := Lib.hid hbw; have HSZ := Lib.hid hsz; have HPL := Lib.hid hpl
   clear hrow hbx hbw hsz hpl hw5
   go_wp2
   go_loopw [13, 15, 16, 17, 18, 19, 20, 21, 55] (fun tv kv _ _ _ _ _ _ iv wr => ∃ (y : Nat) (vv : Value), y ≤ 2 ∧ iv = .int .i64 (y : Int) ∧ kv = .int .i64 ((y * 2 : Nat) : Int) ∧ vv = tv ∧ RowN wr w5.heap.size 46 3 vv (2 * (y * 2)) (tr3Cells ((gridT 2 2 bn).take (2 * (y * 2)))) ∧ Below w5.heap.size w5 wr) (fun _ _ _ _ _ _ _ _ iv _ => 2 - (intOf iv).toNat)
   case atStart => exact ⟨0, _, Nat.zero_le _, rfl, rfl, rfl, RowN.nil _ _ _ _, Below.refl _ _⟩
   case round =>
    obtain ⟨y, vv, hy, rfl, rfl, rfl, hrow, hbw⟩ := hrel
    by_cases hlt : y < 2
    ·have hyd : decide ((y : Int) < 2) = true := decide_eq_true (by omega)
     have cw := (HBX.out.below hbw).c 0 _ rfl
     have HRW := Lib.hid hrow; have HBZ := Lib.hid hbw
     clear hrow hbw
     go_wp2
     clear cw
     go_loopw [13, 15, 17, 18, 19, 20, 21, 59] (fun tv kv _ _ _ _ _ iv wr => ∃ (x : Nat) (vv : Value), x ≤ 2 ∧ iv = .int .i64 (x : Int) ∧ kv = .int .i64 ((y * 2 + x : Nat) : Int) ∧ vv = tv ∧ RowN wr w5.heap.size 46 3 vv (2 * (y * 2 + x)) (tr3Cells ((gridT 2 2 bn).take (2 * (y * 2 + x)))) ∧ Below w5.heap.size w5 wr) (fun _ _ _ _ _ _ _ iv _ => 2 - (intOf iv).toNat)
     case atStart => exact ⟨0, _, Nat.zero_le _, rfl, by rw [Nat.add_zero], rfl, HRW.out, HBZ.out⟩
     case round =>
      obtain ⟨x, vv, hx, rfl, rfl, rfl, hrow, hbw⟩ := hrel
      by_cases hlx : x < 2
      ·have cw := (HBX.out.below hbw).c 0 _ rfl
       have hev := HM.out.even y x hlt hlx
       have hod := HM.out.odd y x hlt hlx
       have hbt := HBIT.out (y * 2 + x) (by omega)
       obtain ⟨q, hq⟩ : ∃ q, bn.testBit (y * 2 + x) = q := ⟨_, rfl⟩
       rw [hq] at hev hod hbt
       have a0 := gridNo_any w.heap.size 2 x y wr (by omega) (by omega) (by omega) cw ((y : Int) * 3 + (x : Int)) (by omega)
       have a1 := gridNo_any w.heap.size 2 (x + 1) y wr (by omega) (by omega) (by omega) cw ((y : Int) * 3 + ((x : Int) + 1)) (by omega)
       have a2 := gridNo_any w.heap.size 2 (x + 1) (y + 1) wr (by omega) (by omega) (by omega) cw (((y : Int) + 1) * 3 + ((x : Int) + 1)) (by omega)
       have a3 := gridNo_any w.heap.size 2 x (y + 1) wr (by omega) (by omega) (by omega) cw (((y : Int) + 1) * 3 + (x : Int)) (by omega)
       rw [show (((x + 1 : Nat)) : Int) = (x : Int) + 1 by omega] at a1 a2
       rw [show (((y + 1 : Nat)) : Int) = (y : Int) + 1 by omega] at a2 a3
       obtain ⟨ca, hca⟩ : ∃ c : Int, (y : Int) * 3 + (x : Int) = c := ⟨_, rfl⟩
       obtain ⟨cb, hcb⟩ : ∃ c : Int, (y : Int) * 3 + ((x : Int) + 1) = c := ⟨_, rfl⟩
       obtain ⟨cc, hcc⟩ : ∃ c : Int, ((y : Int) + 1) * 3 + ((x : Int) + 1) = c := ⟨_, rfl⟩
       obtain ⟨cd, hcd⟩ : ∃ c : Int, ((y : Int) + 1) * 3 + (x : Int) = c := ⟨_, rfl⟩
       rw [hca] at a0; rw [hcb] at a1; rw [hcc] at a2; rw [hcd] at a3
       have C0 := Lib.hid a0; have C1 := Lib.hid a1; have C2 := Lib.hid a2; have C3 := Lib.hid a3
       have HEV := Lib.hid hev; have HOD := Lib.hid hod; have HBT := Lib.hid hbt; have HRW2 := Lib.hid hrow; have HBZ2 := Lib.hid hbw
       have HCA := Lib.hid hca; have HCB := Lib.hid hcb; have HCC := Lib.hid hcc; have HCD := Lib.hid hcd
       obtain ⟨kk, hkk⟩ : ∃ kk : Nat, y * 2 + x = kk := ⟨_, rfl⟩
       have hkk4 : kk < 4 := by omega
       rw [hkk] at hbt
       unfold bitB at hbt
       have na : (((y * 3 + x : Nat)) : Int) = ca := by omega
       have nb : (((y * 3 + (x + 1) : Nat)) : Int) = cb := by omega
       have nc : ((((y + 1) * 3 + (x + 1) : Nat)) : Int) = cc := by omega
       have nd : ((((y + 1) * 3 + x : Nat)) : Int) = cd := by omega
       have HKK := Lib.hid hkk
       rw [hkk]
       have HNA := Lib.hid (And.intro na (And.intro nb (And.intro nc nd)))
       clear a0 a1 a2 a3 hev hod hrow hbw hca hcb hcc hcd cw hkk na nb nc nd hq
       cases q
       ·have hev' : (gridT 2 2 bn)[2 * (y * 2 + x)]? = some (y * 3 + (x + 1), (y + 1) * 3 + x, y * 3 + x) := HEV.out
        have hod' : (gridT 2 2 bn)[2 * (y * 2 + x) + 1]? = some ((y + 1) * 3 + x, y * 3 + (x + 1), (y + 1) * 3 + (x + 1)) := HOD.out
        have HEV' := Lib.hid hev'; have HOD' := Lib.hid hod'
        clear hev' hod'
        go_wp2_with fail
        refine C0.out.mono ?_
        rintro e w6 ⟨rfl, rfl⟩
        go_wp2_with fail
        refine C1.out.mono ?_
        rintro e w6 ⟨rfl, rfl⟩
        go_wp2_with fail
        refine C2.out.mono ?_
        rintro e w6 ⟨rfl, rfl⟩
        go_wp2_with fail
        refine C3.out.mono ?_
        rintro e w6 ⟨rfl, rfl⟩
        obtain ⟨w6, hw6, hpn, hb6, hs6⟩ := new_box wr _ rfl [.int .i64 cb, .int .i64 cd, .int .i64 ca, .int .i64 cd, .int .i64 cb, .int .i64 cc] 46
        have hrow6 := HRW2.out.below hb6
        have hbw6 := HBZ2.out.trans (hb6.mono HBZ2.out.size)
        obtain ⟨v1, w7, hrun, rown, hgrow, hkept⟩ := run_append_row (P := Try.prog) w6 w5.heap.size 26 26 46 j0 (.agg #[.int .i64 0, .int .i64 0, .int .i64 0]) 3 24 (by kernel_rfl) HJ.out HY0.out HY1.out HY2.out rfl (noWordI3 _ _ _) _ (2 * (y * 2 + x)) _ hrow6 ⟨wr.heap.size, 0, none⟩ 2 2 [.int .i64 cb, .int .i64 cd, .int .i64 ca, .int .i64 cd, .int .i64 cb, .int .i64 cc] (by omega) rfl hpn.news (by intro u hu; simp at hu; rcases hu with rfl | rfl | rfl | rfl | rfl | rfl <;> rfl) (noWordI6 _ _ _ _ _ _) (by unfold maxLen; omega) (by omega) (by have := hbw6.size; omega)
        have hbw7 : Below w5.heap.size w5 w7 := hbw6.grown hgrow (by have := hbw6.size; omega) (fun k hk => (hrow6.lt k hk).1)
        have htk : tr3Cells ((gridT 2 2 bn).take (2 * (y * 2 + x))) ++ [.int .i64 cb, .int .i64 cd, .int .i64 ca, .int .i64 cd, .int .i64 cb, .int .i64 cc] = tr3Cells ((gridT 2 2 bn).take (2 * (y * 2 + (x + 1)))) := by
         obtain ⟨na, nb, nc, nd⟩ := HNA.out
         rw [show 2 * (y * 2 + (x + 1)) = 2 * (y * 2 + x) + 1 + 1 by omega, List.take_add_one, List.take_add_one, HEV'.out, HOD'.out, tr3_app, tr3_app, List.append_assoc]
         simp only [Option.toList_some, tr3Cells, na, nb, nc, nd, List.cons_append, List.nil_append]
        rw [htk, show 2 * (y * 2 + x) + 2 = 2 * (y * 2 + (x + 1)) by omega] at rown
        have FIN := Lib.hid (And.intro rown hbw7)
        clear hpn hb6 hs6 hrow6 hbw6 rown hgrow hkept hbw7 htk
        go_wp2_with (refine wpList_append_row rfl _ _ 26 rfl rfl rfl hrun ?_)
        have hkk := HKK.out
        refine ⟨⟨_, _, _, _, _, _, _, _, _, _, _, _, _, _, _, _, _, _, _, _, _, _, _, _, _, _, _, _, _, _, _, _, _, _, _, _, _, _, _, _, _, _, _, _, _, _, _, _, _, _, _, _, _, _, _, _, _, _, _, _, ?_, rfl⟩, by simp [intOf]; omega⟩
        exact ⟨x + 1, _, by omega, by go_num, congrArg (Value.int .i64) (by omega), rfl, FIN.out.1, FIN.out.2⟩
       ·have hev' : (gridT 2 2 bn)[2 * (y * 2 + x)]? = some (y * 3 + x, y * 3 + (x + 1), (y + 1) * 3 + (x + 1)) := HEV.out
        have hod' : (gridT 2 2 bn)[2 * (y * 2 + x) + 1]? = some ((y + 1) * 3 + (x + 1), (y + 1) * 3 + x, y * 3 + x) := HOD.out
        have HEV' := Lib.hid hev'; have HOD' := Lib.hid hod'
        clear hev' hod'
        go_wp2_with fail
        refine C0.out.mono ?_
        rintro e w6 ⟨rfl, rfl⟩
        go_wp2_with fail
        refine C1.out.mono ?_
        rintro e w6 ⟨rfl, rfl⟩
        go_wp2_with fail
        refine C2.out.mono ?_
        rintro e w6 ⟨rfl, rfl⟩
        go_wp2_with fail
        refine C3.out.mono ?_
        rintro e w6 ⟨rfl, rfl⟩
        obtain ⟨w6, hw6, hpn, hb6, hs6⟩ := new_box wr _ rfl [.int .i64 ca, .int .i64 cb, .int .i64 cc, .int .i64 cc, .int .i64 cd, .int .i64 ca] 46
        have hrow6 := HRW2.out.below hb6
        have hbw6 := HBZ2.out.trans (hb6.mono HBZ2.out.size)
        obtain ⟨v1, w7, hrun, rown, hgrow, hkept⟩ := run_append_row (P := Try.prog) w6 w5.heap.size 26 26 46 j0 (.agg #[.int .i64 0, .int .i64 0, .int .i64 0]) 3 24 (by kernel_rfl) HJ.out HY0.out HY1.out HY2.out rfl (noWordI3 _ _ _) _ (2 * (y * 2 + x)) _ hrow6 ⟨wr.heap.size, 0, none⟩ 2 2 [.int .i64 ca, .int .i64 cb, .int .i64 cc, .int .i64 cc, .int .i64 cd, .int .i64 ca] (by omega) rfl hpn.news (by intro u hu; simp at hu; rcases hu with rfl | rfl | rfl | rfl | rfl | rfl <;> rfl) (noWordI6 _ _ _ _ _ _) (by unfold maxLen; omega) (by omega) (by have := hbw6.size; omega)
        have hbw7 : Below w5.heap.size w5 w7 := hbw6.grown hgrow (by have := hbw6.size; omega) (fun k hk => (hrow6.lt k hk).1)
        have htk : tr3Cells ((gridT 2 2 bn).take (2 * (y * 2 + x))) ++ [.int .i64 ca, .int .i64 cb, .int .i64 cc, .int .i64 cc, .int .i64 cd, .int .i64 ca] = tr3Cells ((gridT 2 2 bn).take (2 * (y * 2 + (x + 1)))) := by
         obtain ⟨na, nb, nc, nd⟩ := HNA.out
         rw [show 2 * (y * 2 + (x + 1)) = 2 * (y * 2 + x) + 1 + 1 by omega, List.take_add_one, List.take_add_one, HEV'.out, HOD'.out, tr3_app, tr3_app, List.append_assoc]
         simp only [Option.toList_some, tr3Cells, na, nb, nc, nd, List.cons_append, List.nil_append]
        rw [htk, show 2 * (y * 2 + x) + 2 = 2 * (y * 2 + (x + 1)) by omega] at rown
        have FIN := Lib.hid (And.intro rown hbw7)
        clear hpn hb6 hs6 hrow6 hbw6 rown hgrow hkept hbw7 htk
        go_wp2_with (refine wpList_append_row rfl _ _ 26 rfl rfl rfl hrun ?_)
        have hkk := HKK.out
        refine ⟨⟨_, _, _, _, _, _, _, _, _, _, _, _, _, _, _, _, _, _, _, _, _, _, _, _, _, _, _, _, _, _, _, _, _, _, _, _, _, _, _, _, _, _, _, _, _, _, _, _, _, _, _, _, _, _, _, _, _, _, _, _, ?_, rfl⟩, by simp [intOf]; omega⟩
        exact ⟨x + 1, _, by omega, by go_num, congrArg (Value.int .i64) (by omega), rfl, FIN.out.1, FIN.out.2⟩
      ·obtain rfl : x = 2 := by omega
       have FIN := Lib.hid (And.intro hrow hbw)
       clear hrow hbw
       go_wp2
       have hrow := FIN.out.1
       rw [show y * 2 + 2 = (y + 1) * 2 by omega] at hrow
       exact ⟨⟨y + 1, _, by omega, by go_num, congrArg (Value.int .i64) (by omega), rfl, hrow, FIN.out.2⟩, by simp [intOf]; omega⟩
    ·obtain rfl : y = 2 := by omega
     have hgl := HM.out.len
     have htt : (gridT 2 2 bn).take (2 * (2 * 2)) = gridT 2 2 bn := List.take_of_length_le (by rw [hgl]; omega)
     rw [htt] at hrow
     obtain ⟨gt, gtc, hvv⟩ : ∃ g c, vv = .slice (some ⟨g, 0, none⟩) 8 c := by
      rcases hrow.2 with ⟨h1, h2⟩ | ⟨g, cap, cur, h1, h2, h3⟩
      ·omega
      ·exact ⟨g, cap, h1⟩
     subst hvv
     have hgtl := hrow.lt gt rfl
     obtain ⟨w7, hw7⟩ : ∃ w7, w7 = wr := ⟨_, rfl⟩
     rw [← hw7] at hrow hbw hgtl
     rw [← hw7]
     clear hw7
     obtain ⟨fb, hfb⟩ : ∃ fb, w7.heap.size = fb := ⟨_, rfl⟩
     obtain ⟨hmk, hmp⟩ := run_new_map (P := Try.prog) w7 64 22
     obtain ⟨w8, hw8⟩ : ∃ w8, w7.alloc (.map #[] 0) = w8 := ⟨_, rfl⟩
     rw [hw8, hfb] at hmk hmp
     have hb8 : Below fb w7 w8 := by rw [← hw8, ← hfb]; exact (Below.refl _ _).alloc (Nat.le_refl _) _
     have htr := hrow.trIn
     have HRWT := Lib.hid hrow; have HBT := Lib.hid hbw; have HTR := Lib.hid htr; have HGTL := Lib.hid hgtl; have HFB := Lib.hid hfb; have HMP := Lib.hid (fault_new hmp); have HB8 := Lib.hid hb8
     clear hrow hbw htr hgtl hfb hmp hb8 hw8
     go_wp2
     clear hmk
     go_loopw [23, 25, 26, 116] (fun nv _ _ iv wr => ∃ j : Nat, j ≤ 8 ∧ iv = .int .i64 (j : Int) ∧ nv = .int .i64 ((3 * j : Nat) : Int) ∧ (∃ F, FaultMap Try.prog 22 wr fb F) ∧ Below fb w7 wr) (fun _ _ _ iv _ => 8 - (intOf iv).toNat)
     case atStart => exact ⟨0, Nat.zero_le _, rfl, rfl, ⟨_, HMP.out⟩, HB8.out⟩
     case round =>
      obtain ⟨j, hj, rfl, rfl, ⟨F, hF⟩, hbw⟩ := hrel
      by_cases hlt : j < 8
      ·have hyd : decide ((j : Int) < 8) = true := decide_eq_true (by omega)
       obtain ⟨⟨x, y, z⟩, hv⟩ : ∃ v, (gridT 2 2 bn)[j]? = some v := ⟨_, List.getElem?_eq_getElem (by have := HM.out.len; omega)⟩
       obtain ⟨px, py, pz⟩ := OK.out.pts _ (List.mem_of_getElem? hv)
       have hpl6 := OK.out.many
       simp only [] at px py pz
       have htk := HTR.out j (x : Int) (y : Int) (z : Int) (by rw [List.getElem?_map, hv]; rfl)
       have hfb := HFB.out
       have l1 := World.block_lt_of_cell? w7 _ htk.1
       simp only [] at l1
       have ka := (hbw.cell (p := ⟨gt, j * 3, none⟩) (by show gt < fb; omega)).trans htk.1
       have kb := (hbw.cell (p := ⟨gt, j * 3 + 1, none⟩) (by show gt < fb; omega)).trans htk.2.1
       have kc := (hbw.cell (p := ⟨gt, j * 3 + 2, none⟩) (by show gt < fb; omega)).trans htk.2.2
       obtain ⟨w9, hw9, hpv, hb9, hs9⟩ := new_box wr _ rfl [.int .i64 (x : Int), .int .i64 (y : Int), .int .i64 (z : Int)] 46
       have hF9 := hF.same (hb9.block fb hF.lt)
       have hfl := hF.lt
       have hbw9 : Below fb w7 w9 := hbw.trans (hb9.mono (by omega))
       obtain ⟨tb, htb⟩ : ∃ tb, wr.heap.size = tb := ⟨_, rfl⟩
       have htf : fb < tb := by omega
       rw [htb] at hpv
       have HF9 := Lib.hid hF9; have HBW9 := Lib.hid hbw9; have HPV := Lib.hid hpv
       have hxyz : x < 10 ∧ y < 10 ∧ z < 10 := by
        have : (gridP 2 2).length = 9 := rfl
        omega
       clear hv px py pz htk hfb l1 hb9 hs9 hF9 hbw9 hpv hF hbw hfl hpl6
       go_wp2
       clear ka kb kc hw9 htb
       go_loopw [23, 26, 120] (fun nv _ iv wr => ∃ i : Nat, i ≤ 3 ∧ iv = .int .i64 (i : Int) ∧ nv = .int .i64 ((3 * j + i : Nat) : Int) ∧ (∃ F, FaultMap Try.prog 22 wr fb F) ∧ Box wr tb [.int .i64 (x : Int), .int .i64 (y : Int), .int .i64 (z : Int)] ∧ Below fb w7 wr) (fun _ _ iv _ => 3 - (intOf iv).toNat)
       case atStart => exact ⟨0, Nat.zero_le _, rfl, rfl, ⟨_, HF9.out⟩, HPV.out, HBW9.out⟩
       case round =>
        obtain ⟨i, hi, rfl, rfl, ⟨F2, hF2⟩, hbx, hbw⟩ := hrel
        by_cases hli : i < 3
        ·obtain ⟨nn, hnn⟩ : ∃ nn : Nat, 3 * j + i = nn := ⟨_, rfl⟩
         have hnn24 : nn < 24 := by omega
         have HNN := Lib.hid hnn
         rw [hnn]
         clear hnn
         have HF2 := Lib.hid hF2; have HBX2 := Lib.hid hbx; have HBW2 := Lib.hid hbw
         clear hF2 hbx hbw
         obtain ⟨q, hq⟩ : ∃ q : Bool, (bits .and .u32 (f / 2 ^ (nn % 32)) 1 == 1) = q := ⟨_, rfl⟩
         have hfb2 := HF2.out.lt
         have hd3 := (HF2.out.same (w' := wr.drew) rfl)
         have hx3 := HBX2.out.drew
         have hw3 := HBW2.out.drew'
         have HF3 := Lib.hid hd3; have HBX3 := Lib.hid hx3; have HBW3 := Lib.hid hw3
         clear hd3 hx3 hw3
         cases q
         ·go_wp2
          have hnn := HNN.out
          exact ⟨⟨i + 1, by omega, by go_num, congrArg (Value.int .i64) (by omega), ⟨_, HF2.out⟩, HBX2.out, HBW2.out⟩, by simp [intOf]; omega⟩
         ·obtain rfl | rfl | rfl : i = 0 ∨ i = 1 ∨ i = 2 := by omega
          ·obtain ⟨mn, hmn⟩ : ∃ mn : Int, (if (y : Int) < (x : Int) then (y : Int) else (x : Int)) = mn := ⟨_, rfl⟩
           obtain ⟨mx, hmx⟩ : ∃ mx : Int, (if (y : Int) > (x : Int) then (y : Int) else (x : Int)) = mx := ⟨_, rfl⟩
           have bmn : -1000000 ≤ mn ∧ mn ≤ 1000000 := by rw [← hmn]; split <;> omega
           have bmx : -1000000 ≤ mx ∧ mx ≤ 1000000 := by rw [← hmx]; split <;> omega
           have hmin : ∀ w : World, Sem.run Try.prog (Builtin.min_ #[3, 3] 3 #[.int .i64 (x : Int), .int .i64 (y : Int)]) w = Result.ok (Value.int .i64 mn) w := fun w => by rw [run_min_int2, hmn]
           have hmax : ∀ w : World, Sem.run Try.prog (Builtin.max_ #[3, 3] 3 #[.int .i64 (x : Int), .int .i64 (y : Int)]) w = Result.ok (Value.int .i64 mx) w := fun w => by rw [run_max_int2, hmx]
           have hwk : (IntKind.i64.wrap 1).tmod 3 = 1 := by decide
           obtain ⟨wm, F4, hup, hT4, hF4⟩ := fault_store HF3.out bmn bmx
           have hx0 := HBX3.out.c 0 _ rfl; have hx1 := HBX3.out.c 1 _ rfl
           have hbx4 := HBX3.out.turned hT4 (by omega)
           have hbw4 : Below fb w7 wm := Below.turned HBW3.out hT4 (Nat.le_refl _)
           have hy0 := hbx4.c 0 _ rfl; have hy1 := hbx4.c 1 _ rfl
           have FIN := Lib.hid (And.intro hF4 (And.intro hbx4 hbw4))
           clear hmn hmx bmn bmx hT4 hF4 hbx4 hbw4
           go_wp2_with fail
           obtain ⟨SSs, hSSs⟩ : ∃ S : Array Bool → World → Prop, ∀ l w', S l w' ↔ ((w'.cell? ⟨tb, 0, none⟩ = some (.int .i64 (x : Int))) ∧ (w'.cell? ⟨tb, 1, none⟩ = some (.int .i64 (y : Int)))) := ⟨_, fun _ _ => Iff.rfl⟩
           refine wp_region_noPanic ?_
           refine wp_region_G SSs 21 #[false, false, false, false, false, false, false, false, false, false, false, false, false, false, false, false, false, false, false, false, false] (by kernel_rfl) (by kernel_rfl) (by kernel_rfl) ((hSSs _ _).2 ⟨hx0, hx1⟩) (fun hCl hHeld => ?_)
           generalize wr.drew = wd at *
           refine rG 0 ?_ ?_ ?_ ?_ ?_ ?_ hCl hHeld ?_;rotate_left 2
           ·simp only [gA,gZ]; exact rfl
           ·intro l w'; rw [hSSs, hSSs]
           ·rfl
           ·intro w' hA;clear hA;go_simp;try with_reducible rfl
           clear hCl hHeld
           intro hCl hHeld
           simp only [List.setIfInBounds_toArray, List.set_cons_zero] at hCl hHeld
           (try simp only [Act.put]);try simp only [sA,sZ,sS]
           refine rG 1 ?_ ?_ ?_ ?_ ?_ ?_ hCl hHeld ?_;rotate_left 2
           ·simp only [gA,gS,gZ]; exact rfl
           ·intro l w'; rw [hSSs, hSSs]
           ·rfl
           ·intro w' hA;clear hA;go_simp;try with_reducible rfl
           clear hCl hHeld
           intro hCl hHeld
           simp only [sA,sZ,sS] at hCl hHeld
           (try simp only [Act.put]);try simp only [sA,sZ,sS]
           refine rG 2 ?_ ?_ ?_ ?_ ?_ ?_ hCl hHeld ?_;rotate_left 2
           ·simp only [gA,gS,gZ]; exact rfl
           ·intro l w'; rw [hSSs, hSSs]
           ·rfl
           ·intro w' hA;clear hA;go_simp;try with_reducible rfl
           clear hCl hHeld
           intro hCl hHeld
           simp only [sA,sZ,sS] at hCl hHeld
           (try simp only [Act.put]);try simp only [sA,sZ,sS]
           refine rG 3 ?_ ?_ ?_ ?_ ?_ ?_ hCl hHeld ?_;rotate_left 2
           ·simp only [gA,gS,gZ]; exact rfl
           ·intro l w'; rw [hSSs, hSSs]
           ·rfl
           ·intro w' hA; obtain ⟨l, hl, hi, hSl⟩ := hA; have hSl := (hSSs _ _).1 hSl; obtain ⟨hz0, hz1⟩ := hSl; go_simp; try with_reducible rfl
           clear hCl hHeld
           intro hCl hHeld
           simp only [sA,sZ,sS] at hCl hHeld
           (try simp only [Act.put]);try simp only [sA,sZ,sS]
           refine rG 4 ?_ ?_ ?_ ?_ ?_ ?_ hCl hHeld ?_;rotate_left 2
           ·simp only [gA,gS,gZ]; exact rfl
           ·intro l w'; rw [hSSs, hSSs]
           ·rfl
           ·intro w' hA;clear hA;go_simp;try with_reducible rfl
           clear hCl hHeld
           intro hCl hHeld
           simp only [sA,sZ,sS] at hCl hHeld
           (try simp only [Act.put]);try simp only [sA,sZ,sS]
           refine rG 5 ?_ ?_ ?_ ?_ ?_ ?_ hCl hHeld ?_;rotate_left 2
           ·simp only [gA,gS,gZ]; exact rfl
           ·intro l w'; rw [hSSs, hSSs]
           ·rfl
           ·intro w' hA;clear hA;go_simp;try with_reducible rfl
           clear hCl hHeld
           intro hCl hHeld
           simp only [sA,sZ,sS] at hCl hHeld
           (try simp only [Act.put]);try simp only [sA,sZ,sS]
           refine rG 6 ?_ ?_ ?_ ?_ ?_ ?_ hCl hHeld ?_;rotate_left 2
           ·simp only [gA,gS,gZ]; exact rfl
           ·intro l w'; rw [hSSs, hSSs]
           ·rfl
           ·intro w' hA;clear hA;go_simp;try with_reducible rfl
           clear hCl hHeld
           intro hCl hHeld
           simp only [sA,sZ,sS] at hCl hHeld
           (try simp only [Act.put]);try simp only [sA,sZ,sS]
           refine rG 7 ?_ ?_ ?_ ?_ ?_ ?_ hCl hHeld ?_;rotate_left 2
           ·simp only [gA,gS,gZ]; exact rfl
           ·intro l w'; rw [hSSs, hSSs]
           ·rfl
           ·intro w' hA;clear hA;go_simp;try with_reducible rfl
           clear hCl hHeld
           intro hCl hHeld
           simp only [sA,sZ,sS] at hCl hHeld
           (try simp only [Act.put]);try simp only [sA,sZ,sS]
           refine rG 8 ?_ ?_ ?_ ?_ ?_ ?_ hCl hHeld ?_;rotate_left 2
           ·simp only [gA,gS,gZ]; exact rfl
           ·intro l w'; rw [hSSs, hSSs]
           ·rfl
           ·intro w' hA; obtain ⟨l, hl, hi, hSl⟩ := hA; have hSl := (hSSs _ _).1 hSl; obtain ⟨hz0, hz1⟩ := hSl; go_simp; try with_reducible rfl
           clear hCl hHeld
           intro hCl hHeld
           simp only [sA,sZ,sS] at hCl hHeld
           (try simp only [Act.put]);try simp only [sA,sZ,sS]
           refine rG 9 ?_ ?_ ?_ ?_ ?_ ?_ hCl hHeld ?_;rotate_left 2
           ·simp only [gA,gS,gZ]; exact rfl
           ·intro l w'; rw [hSSs, hSSs]
           ·rfl
           ·intro w' hA;clear hA;go_simp;try with_reducible rfl
           clear hCl hHeld
           intro hCl hHeld
           simp only [sA,sZ,sS] at hCl hHeld
           (try simp only [Act.put]);try simp only [sA,sZ,sS]
           refine rG 10 ?_ ?_ ?_ ?_ ?_ ?_ hCl hHeld ?_;rotate_left 2
           ·simp only [gA,gS,gZ]; exact rfl
           ·intro l w'; rw [hSSs, hSSs]
           ·rfl
           ·intro w' hA;clear hA;go_simp;try with_reducible rfl
           clear hCl hHeld
           intro hCl hHeld
           simp only [sA,sZ,sS] at hCl hHeld
           (try simp only [Act.put]);try simp only [sA,sZ,sS]
           refine rG 11 ?_ ?_ ?_ ?_ ?_ ?_ hCl hHeld ?_;rotate_left 2
           ·simp only [gA,gS,gZ]; exact rfl
           ·intro l w'; rw [hSSs, hSSs]
           ·rfl
           ·intro w' hA;clear hA;go_simp;try with_reducible rfl
           clear hCl hHeld
           intro hCl hHeld
           simp only [sA,sZ,sS] at hCl hHeld
           (try simp only [Act.put]);try simp only [sA,sZ,sS]
           refine rG 12 ?_ ?_ ?_ ?_ ?_ ?_ hCl hHeld ?_;rotate_left 2
           ·simp only [gA,gS,gZ]; exact rfl
           ·intro l w'; rw [hSSs, hSSs]
           ·rfl
           ·intro w' hA; obtain ⟨l, hl, hi, hSl⟩ := hA; have hSl := (hSSs _ _).1 hSl; obtain ⟨hz0, hz1⟩ := hSl; go_simp; try with_reducible rfl
           clear hCl hHeld
           intro hCl hHeld
           simp only [sA,sZ,sS] at hCl hHeld
           (try simp only [Act.put]);try simp only [sA,sZ,sS]
           refine rG 13 ?_ ?_ ?_ ?_ ?_ ?_ hCl hHeld ?_;rotate_left 2
           ·simp only [gA,gS,gZ]; exact rfl
           ·intro l w'; rw [hSSs, hSSs]
           ·rfl
           ·intro w' hA;clear hA;go_simp;try with_reducible rfl
           clear hCl hHeld
           intro hCl hHeld
           simp only [sA,sZ,sS] at hCl hHeld
           (try simp only [Act.put]);try simp only [sA,sZ,sS]
           refine rG 14 ?_ ?_ ?_ ?_ ?_ ?_ hCl hHeld ?_;rotate_left 2
           ·simp only [gA,gS,gZ]; exact rfl
           ·intro l w'; rw [hSSs, hSSs]
           ·rfl
           ·intro w' hA;clear hA;go_simp;try with_reducible rfl
           clear hCl hHeld
           intro hCl hHeld
           simp only [sA,sZ,sS] at hCl hHeld
           (try simp only [Act.put]);try simp only [sA,sZ,sS]
           refine rG 15 ?_ ?_ ?_ ?_ ?_ ?_ hCl hHeld ?_;rotate_left 2
           ·simp only [gA,gS,gZ]; exact rfl
           ·intro l w'; rw [hSSs, hSSs]
           ·rfl
           ·intro w' hA;clear hA;go_simp;try with_reducible rfl
           clear hCl hHeld
           intro hCl hHeld
           simp only [sA,sZ,sS] at hCl hHeld
           (try simp only [Act.put]);try simp only [sA,sZ,sS]
           refine rG 16 ?_ ?_ ?_ ?_ ?_ ?_ hCl hHeld ?_;rotate_left 2
           ·simp only [gA,gS,gZ]; exact rfl
           ·intro l w'; rw [hSSs, hSSs]
           ·rfl
           ·intro w' hA;clear hA;go_simp;try with_reducible rfl
           clear hCl hHeld
           intro hCl hHeld
           simp only [sA,sZ,sS] at hCl hHeld
           (try simp only [Act.put]);try simp only [sA,sZ,sS]
           refine rG 17 ?_ ?_ ?_ ?_ ?_ ?_ hCl hHeld ?_;rotate_left 2
           ·simp only [gA,gS,gZ]; exact rfl
           ·intro l w'; rw [hSSs, hSSs]
           ·rfl
           ·intro w' hA; obtain ⟨l, hl, hi, hSl⟩ := hA; have hSl := (hSSs _ _).1 hSl; obtain ⟨hz0, hz1⟩ := hSl; go_simp; try with_reducible rfl
           clear hCl hHeld
           intro hCl hHeld
           simp only [sA,sZ,sS] at hCl hHeld
           (try simp only [Act.put]);try simp only [sA,sZ,sS]
           refine rG 18 ?_ ?_ ?_ ?_ ?_ ?_ hCl hHeld ?_;rotate_left 2
           ·simp only [gA,gS,gZ]; exact rfl
           ·intro l w'; rw [hSSs, hSSs]
           ·rfl
           ·intro w' hA;clear hA;go_simp;try with_reducible rfl
           clear hCl hHeld
           intro hCl hHeld
           simp only [sA,sZ,sS] at hCl hHeld
           (try simp only [Act.put]);try simp only [sA,sZ,sS]
           refine rG 19 ?_ ?_ ?_ ?_ ?_ ?_ hCl hHeld ?_;rotate_left 2
           ·simp only [gA,gS,gZ]; exact rfl
           ·intro l w'; rw [hSSs, hSSs]
           ·rfl
           ·intro w' hA;clear hA;go_simp;try with_reducible rfl
           clear hCl hHeld
           intro hCl hHeld
           simp only [sA,sZ,sS] at hCl hHeld
           (try simp only [Act.put]);try simp only [sA,sZ,sS]
           clear hCl hHeld
           refine reg_callG 20 ?_ (by kernel_rfl) ?_ (fun K hK => ?_);rotate_left 1
           ·simp only [gA,gS,gZ]; exact rfl
           go_simp
           clear hx0 hx1 hup
           refine hK.out _ _ ((hSSs _ _).2 ⟨hy0, hy1⟩) ?_
           clear hK K
           (try simp only [Act.put]);try simp only [sA,sZ,sS]
           refine wpAnyG_done (by kernel_rfl) ?_ _
           refine NoPanic.normal ?_
           clear hSSs SSs
           go_wp2
           have hnn := HNN.out
           refine ⟨⟨_, _, _, _, _, _, _, _, _, _, _, _, _, _, _, _, _, _, _, _, _, _, _, _, _, _, _, _, _, _, _, _, _, _, ?_, rfl⟩, by simp [intOf]⟩
           exact ⟨0 + 1, by omega, by go_num, congrArg (Value.int .i64) (by omega), ⟨_, FIN.out.1⟩, FIN.out.2.1, FIN.out.2.2⟩
          ·obtain ⟨mn, hmn⟩ : ∃ mn : Int, (if (z : Int) < (y : Int) then (z : Int) else (y : Int)) = mn := ⟨_, rfl⟩
           obtain ⟨mx, hmx⟩ : ∃ mx : Int, (if (z : Int) > (y : Int) then (z : Int) else (y : Int)) = mx := ⟨_, rfl⟩
           have bmn : -1000000 ≤ mn ∧ mn ≤ 1000000 := by rw [← hmn]; split <;> omega
           have bmx : -1000000 ≤ mx ∧ mx ≤ 1000000 := by rw [← hmx]; split <;> omega
           have hmin : ∀ w : World, Sem.run Try.prog (Builtin.min_ #[3, 3] 3 #[.int .i64 (y : Int), .int .i64 (z : Int)]) w = Result.ok (Value.int .i64 mn) w := fun w => by rw [run_min_int2, hmn]
           have hmax : ∀ w : World, Sem.run Try.prog (Builtin.max_ #[3, 3] 3 #[.int .i64 (y : Int), .int .i64 (z : Int)]) w = Result.ok (Value.int .i64 mx) w := fun w => by rw [run_max_int2, hmx]
           have hwk : (IntKind.i64.wrap 2).tmod 3 = 2 := by decide
           obtain ⟨wm, F4, hup, hT4, hF4⟩ := fault_store HF3.out bmn bmx
           have hx0 := HBX3.out.c 1 _ rfl; have hx1 := HBX3.out.c 2 _ rfl
           have hbx4 := HBX3.out.turned hT4 (by omega)
           have hbw4 : Below fb w7 wm := Below.turned HBW3.out hT4 (Nat.le_refl _)
           have hy0 := hbx4.c 1 _ rfl; have hy1 := hbx4.c 2 _ rfl
           have FIN := Lib.hid (And.intro hF4 (And.intro hbx4 hbw4))
           clear hmn hmx bmn bmx hT4 hF4 hbx4 hbw4
           go_wp2_with fail
           obtain ⟨SSs, hSSs⟩ : ∃ S : Array Bool → World → Prop, ∀ l w', S l w' ↔ ((w'.cell? ⟨tb, 1, none⟩ = some (.int .i64 (y : Int))) ∧ (w'.cell? ⟨tb, 2, none⟩ = some (.int .i64 (z : Int)))) := ⟨_, fun _ _ => Iff.rfl⟩
           refine wp_region_noPanic ?_
           refine wp_region_G SSs 21 #[false, false, false, false, false, false, false, false, false, false, false, false, false, false, false, false, false, false, false, false, false] (by kernel_rfl) (by kernel_rfl) (by kernel_rfl) ((hSSs _ _).2 ⟨hx0, hx1⟩) (fun hCl hHeld => ?_)
           generalize wr.drew = wd at *
           refine rG 0 ?_ ?_ ?_ ?_ ?_ ?_ hCl hHeld ?_;rotate_left 2
           ·simp only [gA,gZ]; exact rfl
           ·intro l w'; rw [hSSs, hSSs]
           ·rfl
           ·intro w' hA;clear hA;go_simp;try with_reducible rfl
           clear hCl hHeld
           intro hCl hHeld
           simp only [List.setIfInBounds_toArray, List.set_cons_zero] at hCl hHeld
           (try simp only [Act.put]);try simp only [sA,sZ,sS]
           refine rG 1 ?_ ?_ ?_ ?_ ?_ ?_ hCl hHeld ?_;rotate_left 2
           ·simp only [gA,gS,gZ]; exact rfl
           ·intro l w'; rw [hSSs, hSSs]
           ·rfl
           ·intro w' hA;clear hA;go_simp;try with_reducible rfl
           clear hCl hHeld
           intro hCl hHeld
           simp only [sA,sZ,sS] at hCl hHeld
           (try simp only [Act.put]);try simp only [sA,sZ,sS]
           refine rG 2 ?_ ?_ ?_ ?_ ?_ ?_ hCl hHeld ?_;rotate_left 2
           ·simp only [gA,gS,gZ]; exact rfl
           ·intro l w'; rw [hSSs, hSSs]
           ·rfl
           ·intro w' hA;clear hA;go_simp;try with_reducible rfl
           clear hCl hHeld
           intro hCl hHeld
           simp only [sA,sZ,sS] at hCl hHeld
           (try simp only [Act.put]);try simp only [sA,sZ,sS]
           refine rG 3 ?_ ?_ ?_ ?_ ?_ ?_ hCl hHeld ?_;rotate_left 2
           ·simp only [gA,gS,gZ]; exact rfl
           ·intro l w'; rw [hSSs, hSSs]
           ·rfl
           ·intro w' hA; obtain ⟨l, hl, hi, hSl⟩ := hA; have hSl := (hSSs _ _).1 hSl; obtain ⟨hz0, hz1⟩ := hSl; go_simp; try with_reducible rfl
           clear hCl hHeld
           intro hCl hHeld
           simp only [sA,sZ,sS] at hCl hHeld
           (try simp only [Act.put]);try simp only [sA,sZ,sS]
           refine rG 4 ?_ ?_ ?_ ?_ ?_ ?_ hCl hHeld ?_;rotate_left 2
           ·simp only [gA,gS,gZ]; exact rfl
           ·intro l w'; rw [hSSs, hSSs]
           ·rfl
           ·intro w' hA;clear hA;go_simp;try with_reducible rfl
           clear hCl hHeld
           intro hCl hHeld
           simp only [sA,sZ,sS] at hCl hHeld
           (try simp only [Act.put]);try simp only [sA,sZ,sS]
           refine rG 5 ?_ ?_ ?_ ?_ ?_ ?_ hCl hHeld ?_;rotate_left 2
           ·simp only [gA,gS,gZ]; exact rfl
           ·intro l w'; rw [hSSs, hSSs]
           ·rfl
           ·intro w' hA;clear hA;go_simp;try with_reducible rfl
           clear hCl hHeld
           intro hCl hHeld
           simp only [sA,sZ,sS] at hCl hHeld
           (try simp only [Act.put]);try simp only [sA,sZ,sS]
           refine rG 6 ?_ ?_ ?_ ?_ ?_ ?_ hCl hHeld ?_;rotate_left 2
           ·simp only [gA,gS,gZ]; exact rfl
           ·intro l w'; rw [hSSs, hSSs]
           ·rfl
           ·intro w' hA;clear hA;go_simp;try with_reducible rfl
           clear hCl hHeld
           intro hCl hHeld
           simp only [sA,sZ,sS] at hCl hHeld
           (try simp only [Act.put]);try simp only [sA,sZ,sS]
           refine rG 7 ?_ ?_ ?_ ?_ ?_ ?_ hCl hHeld ?_;rotate_left 2
           ·simp only [gA,gS,gZ]; exact rfl
           ·intro l w'; rw [hSSs, hSSs]
           ·rfl
           ·intro w' hA;clear hA;go_simp;try with_reducible rfl
           clear hCl hHeld
           intro hCl hHeld
           simp only [sA,sZ,sS] at hCl hHeld
           (try simp only [Act.put]);try simp only [sA,sZ,sS]
           refine rG 8 ?_ ?_ ?_ ?_ ?_ ?_ hCl hHeld ?_;rotate_left 2
           ·simp only [gA,gS,gZ]; exact rfl
           ·intro l w'; rw [hSSs, hSSs]
           ·rfl
           ·intro w' hA; obtain ⟨l, hl, hi, hSl⟩ := hA; have hSl := (hSSs _ _).1 hSl; obtain ⟨hz0, hz1⟩ := hSl; go_simp; try with_reducible rfl
           clear hCl hHeld
           intro hCl hHeld
           simp only [sA,sZ,sS] at hCl hHeld
           (try simp only [Act.put]);try simp only [sA,sZ,sS]
           refine rG 9 ?_ ?_ ?_ ?_ ?_ ?_ hCl hHeld ?_;rotate_left 2
           ·simp only [gA,gS,gZ]; exact rfl
           ·intro l w'; rw [hSSs, hSSs]
           ·rfl
           ·intro w' hA;clear hA;go_simp;try with_reducible rfl
           clear hCl hHeld
           intro hCl hHeld
           simp only [sA,sZ,sS] at hCl hHeld
           (try simp only [Act.put]);try simp only [sA,sZ,sS]
           refine rG 10 ?_ ?_ ?_ ?_ ?_ ?_ hCl hHeld ?_;rotate_left 2
           ·simp only [gA,gS,gZ]; exact rfl
           ·intro l w'; rw [hSSs, hSSs]
           ·rfl
           ·intro w' hA;clear hA;go_simp;try with_reducible rfl
           clear hCl hHeld
           intro hCl hHeld
           simp only [sA,sZ,sS] at hCl hHeld
           (try simp only [Act.put]);try simp only [sA,sZ,sS]
           refine rG 11 ?_ ?_ ?_ ?_ ?_ ?_ hCl hHeld ?_;rotate_left 2
           ·simp only [gA,gS,gZ]; exact rfl
           ·intro l w'; rw [hSSs, hSSs]
           ·rfl
           ·intro w' hA;clear hA;go_simp;try with_reducible rfl
           clear hCl hHeld
           intro hCl hHeld
           simp only [sA,sZ,sS] at hCl hHeld
           (try simp only [Act.put]);try simp only [sA,sZ,sS]
           refine rG 12 ?_ ?_ ?_ ?_ ?_ ?_ hCl hHeld ?_;rotate_left 2
           ·simp only [gA,gS,gZ]; exact rfl
           ·intro l w'; rw [hSSs, hSSs]
           ·rfl
           ·intro w' hA; obtain ⟨l, hl, hi, hSl⟩ := hA; have hSl := (hSSs _ _).1 hSl; obtain ⟨hz0, hz1⟩ := hSl; go_simp; try with_reducible rfl
           clear hCl hHeld
           intro hCl hHeld
           simp only [sA,sZ,sS] at hCl hHeld
           (try simp only [Act.put]);try simp only [sA,sZ,sS]
           refine rG 13 ?_ ?_ ?_ ?_ ?_ ?_ hCl hHeld ?_;rotate_left 2
           ·simp only [gA,gS,gZ]; exact rfl
           ·intro l w'; rw [hSSs, hSSs]
           ·rfl
           ·intro w' hA;clear hA;go_simp;try with_reducible rfl
           clear hCl hHeld
           intro hCl hHeld
           simp only [sA,sZ,sS] at hCl hHeld
           (try simp only [Act.put]);try simp only [sA,sZ,sS]
           refine rG 14 ?_ ?_ ?_ ?_ ?_ ?_ hCl hHeld ?_;rotate_left 2
           ·simp only [gA,gS,gZ]; exact rfl
           ·intro l w'; rw [hSSs, hSSs]
           ·rfl
           ·intro w' hA;clear hA;go_simp;try with_reducible rfl
           clear hCl hHeld
           intro hCl hHeld
           simp only [sA,sZ,sS] at hCl hHeld
           (try simp only [Act.put]);try simp only [sA,sZ,sS]
           refine rG 15 ?_ ?_ ?_ ?_ ?_ ?_ hCl hHeld ?_;rotate_left 2
           ·simp only [gA,gS,gZ]; exact rfl
           ·intro l w'; rw [hSSs, hSSs]
           ·rfl
           ·intro w' hA;clear hA;go_simp;try with_reducible rfl
           clear hCl hHeld
           intro hCl hHeld
           simp only [sA,sZ,sS] at hCl hHeld
           (try simp only [Act.put]);try simp only [sA,sZ,sS]
           refine rG 16 ?_ ?_ ?_ ?_ ?_ ?_ hCl hHeld ?_;rotate_left 2
           ·simp only [gA,gS,gZ]; exact rfl
           ·intro l w'; rw [hSSs, hSSs]
           ·rfl
           ·intro w' hA;clear hA;go_simp;try with_reducible rfl
           clear hCl hHeld
           intro hCl hHeld
           simp only [sA,sZ,sS] at hCl hHeld
           (try simp only [Act.put]);try simp only [sA,sZ,sS]
           refine rG 17 ?_ ?_ ?_ ?_ ?_ ?_ hCl hHeld ?_;rotate_left 2
           ·simp only [gA,gS,gZ]; exact rfl
           ·intro l w'; rw [hSSs, hSSs]
           ·rfl
           ·intro w' hA; obtain ⟨l, hl, hi, hSl⟩ := hA; have hSl := (hSSs _ _).1 hSl; obtain ⟨hz0, hz1⟩ := hSl; go_simp; try with_reducible rfl
           clear hCl hHeld
           intro hCl hHeld
           simp only [sA,sZ,sS] at hCl hHeld
           (try simp only [Act.put]);try simp only [sA,sZ,sS]
           refine rG 18 ?_ ?_ ?_ ?_ ?_ ?_ hCl hHeld ?_;rotate_left 2
           ·simp only [gA,gS,gZ]; exact rfl
           ·intro l w'; rw [hSSs, hSSs]
           ·rfl
           ·intro w' hA;clear hA;go_simp;try with_reducible rfl
           clear hCl hHeld
           intro hCl hHeld
           simp only [sA,sZ,sS] at hCl hHeld
           (try simp only [Act.put]);try simp only [sA,sZ,sS]
           refine rG 19 ?_ ?_ ?_ ?_ ?_ ?_ hCl hHeld ?_;rotate_left 2
           ·simp only [gA,gS,gZ]; exact rfl
           ·intro l w'; rw [hSSs, hSSs]
           ·rfl
           ·intro w' hA;clear hA;go_simp;try with_reducible rfl
           clear hCl hHeld
           intro hCl hHeld
           simp only [sA,sZ,sS] at hCl hHeld
           (try simp only [Act.put]);try simp only [sA,sZ,sS]
           clear hCl hHeld
           refine reg_callG 20 ?_ (by kernel_rfl) ?_ (fun K hK => ?_);rotate_left 1
           ·simp only [gA,gS,gZ]; exact rfl
           go_simp
           clear hx0 hx1 hup
           refine hK.out _ _ ((hSSs _ _).2 ⟨hy0, hy1⟩) ?_
           clear hK K
           (try simp only [Act.put]);try simp only [sA,sZ,sS]
           refine wpAnyG_done (by kernel_rfl) ?_ _
           refine NoPanic.normal ?_
           clear hSSs SSs
           go_wp2
           have hnn := HNN.out
           refine ⟨⟨_, _, _, _, _, _, _, _, _, _, _, _, _, _, _, _, _, _, _, _, _, _, _, _, _, _, _, _, _, _, _, _, _, _, ?_, rfl⟩, by simp [intOf]⟩
           exact ⟨1 + 1, by omega, by go_num, congrArg (Value.int .i64) (by omega), ⟨_, FIN.out.1⟩, FIN.out.2.1, FIN.out.2.2⟩
          ·obtain ⟨mn, hmn⟩ : ∃ mn : Int, (if (x : Int) < (z : Int) then (x : Int) else (z : Int)) = mn := ⟨_, rfl⟩
           obtain ⟨mx, hmx⟩ : ∃ mx : Int, (if (x : Int) > (z : Int) then (x : Int) else (z : Int)) = mx := ⟨_, rfl⟩
           have bmn : -1000000 ≤ mn ∧ mn ≤ 1000000 := by rw [← hmn]; split <;> omega
           have bmx : -1000000 ≤ mx ∧ mx ≤ 1000000 := by rw [← hmx]; split <;> omega
           have hmin : ∀ w : World, Sem.run Try.prog (Builtin.min_ #[3, 3] 3 #[.int .i64 (z : Int), .int .i64 (x : Int)]) w = Result.ok (Value.int .i64 mn) w := fun w => by rw [run_min_int2, hmn]
           have hmax : ∀ w : World, Sem.run Try.prog (Builtin.max_ #[3, 3] 3 #[.int .i64 (z : Int), .int .i64 (x : Int)]) w = Result.ok (Value.int .i64 mx) w := fun w => by rw [run_max_int2, hmx]
           have hwk : (IntKind.i64.wrap 3).tmod 3 = 0 := by decide
           obtain ⟨wm, F4, hup, hT4, hF4⟩ := fault_store HF3.out bmn bmx
           have hx0 := HBX3.out.c 2 _ rfl; have hx1 := HBX3.out.c 0 _ rfl
           have hbx4 := HBX3.out.turned hT4 (by omega)
           have hbw4 : Below fb w7 wm := Below.turned HBW3.out hT4 (Nat.le_refl _)
           have hy0 := hbx4.c 2 _ rfl; have hy1 := hbx4.c 0 _ rfl
           have FIN := Lib.hid (And.intro hF4 (And.intro hbx4 hbw4))
           clear hmn hmx bmn bmx hT4 hF4 hbx4 hbw4
           go_wp2_with fail
           obtain ⟨SSs, hSSs⟩ : ∃ S : Array Bool → World → Prop, ∀ l w', S l w' ↔ ((w'.cell? ⟨tb, 2, none⟩ = some (.int .i64 (z : Int))) ∧ (w'.cell? ⟨tb, 0, none⟩ = some (.int .i64 (x : Int)))) := ⟨_, fun _ _ => Iff.rfl⟩
           refine wp_region_noPanic ?_
           refine wp_region_G SSs 21 #[false, false, false, false, false, false, false, false, false, false, false, false, false, false, false, false, false, false, false, false, false] (by kernel_rfl) (by kernel_rfl) (by kernel_rfl) ((hSSs _ _).2 ⟨hx0, hx1⟩) (fun hCl hHeld => ?_)
           generalize wr.drew = wd at *
           refine rG 0 ?_ ?_ ?_ ?_ ?_ ?_ hCl hHeld ?_;rotate_left 2
           ·simp only [gA,gZ]; exact rfl
           ·intro l w'; rw [hSSs, hSSs]
           ·rfl
           ·intro w' hA;clear hA;go_simp;try with_reducible rfl
           clear hCl hHeld
           intro hCl hHeld
           simp only [List.setIfInBounds_toArray, List.set_cons_zero] at hCl hHeld
           (try simp only [Act.put]);try simp only [sA,sZ,sS]
           refine rG 1 ?_ ?_ ?_ ?_ ?_ ?_ hCl hHeld ?_;rotate_left 2
           ·simp only [gA,gS,gZ]; exact rfl
           ·intro l w'; rw [hSSs, hSSs]
           ·rfl
           ·intro w' hA;clear hA;go_simp;try with_reducible rfl
           clear hCl hHeld
           intro hCl hHeld
           simp only [sA,sZ,sS] at hCl hHeld
           (try simp only [Act.put]);try simp only [sA,sZ,sS]
           refine rG 2 ?_ ?_ ?_ ?_ ?_ ?_ hCl hHeld ?_;rotate_left 2
           ·simp only [gA,gS,gZ]; exact rfl
           ·intro l w'; rw [hSSs, hSSs]
           ·rfl
           ·intro w' hA;clear hA;go_simp;try with_reducible rfl
           clear hCl hHeld
           intro hCl hHeld
           simp only [sA,sZ,sS] at hCl hHeld
           (try simp only [Act.put]);try simp only [sA,sZ,sS]
           refine rG 3 ?_ ?_ ?_ ?_ ?_ ?_ hCl hHeld ?_;rotate_left 2
           ·simp only [gA,gS,gZ]; exact rfl
           ·intro l w'; rw [hSSs, hSSs]
           ·rfl
           ·intro w' hA; obtain ⟨l, hl, hi, hSl⟩ := hA; have hSl := (hSSs _ _).1 hSl; obtain ⟨hz0, hz1⟩ := hSl; go_simp; try with_reducible rfl
           clear hCl hHeld
           intro hCl hHeld
           simp only [sA,sZ,sS] at hCl hHeld
           (try simp only [Act.put]);try simp only [sA,sZ,sS]
           refine rG 4 ?_ ?_ ?_ ?_ ?_ ?_ hCl hHeld ?_;rotate_left 2
           ·simp only [gA,gS,gZ]; exact rfl
           ·intro l w'; rw [hSSs, hSSs]
           ·rfl
           ·intro w' hA;clear hA;go_simp;try with_reducible rfl
           clear hCl hHeld
           intro hCl hHeld
           simp only [sA,sZ,sS] at hCl hHeld
           (try simp only [Act.put]);try simp only [sA,sZ,sS]
           refine rG 5 ?_ ?_ ?_ ?_ ?_ ?_ hCl hHeld ?_;rotate_left 2
           ·simp only [gA,gS,gZ]; exact rfl
           ·intro l w'; rw [hSSs, hSSs]
           ·rfl
           ·intro w' hA;clear hA;go_simp;try with_reducible rfl
           clear hCl hHeld
           intro hCl hHeld
           simp only [sA,sZ,sS] at hCl hHeld
           (try simp only [Act.put]);try simp only [sA,sZ,sS]
           refine rG 6 ?_ ?_ ?_ ?_ ?_ ?_ hCl hHeld ?_;rotate_left 2
           ·simp only [gA,gS,gZ]; exact rfl
           ·intro l w'; rw [hSSs, hSSs]
           ·rfl
           ·intro w' hA;clear hA;go_simp;try with_reducible rfl
           clear hCl hHeld
           intro hCl hHeld
           simp only [sA,sZ,sS] at hCl hHeld
           (try simp only [Act.put]);try simp only [sA,sZ,sS]
           refine rG 7 ?_ ?_ ?_ ?_ ?_ ?_ hCl hHeld ?_;rotate_left 2
           ·simp only [gA,gS,gZ]; exact rfl
           ·intro l w'; rw [hSSs, hSSs]
           ·rfl
           ·intro w' hA;clear hA;go_simp;try with_reducible rfl
           clear hCl hHeld
           intro hCl hHeld
           simp only [sA,sZ,sS] at hCl hHeld
           (try simp only [Act.put]);try simp only [sA,sZ,sS]
           refine rG 8 ?_ ?_ ?_ ?_ ?_ ?_ hCl hHeld ?_;rotate_left 2
           ·simp only [gA,gS,gZ]; exact rfl
           ·intro l w'; rw [hSSs, hSSs]
           ·rfl
           ·intro w' hA; obtain ⟨l, hl, hi, hSl⟩ := hA; have hSl := (hSSs _ _).1 hSl; obtain ⟨hz0, hz1⟩ := hSl; go_simp; try with_reducible rfl
           clear hCl hHeld
           intro hCl hHeld
           simp only [sA,sZ,sS] at hCl hHeld
           (try simp only [Act.put]);try simp only [sA,sZ,sS]
           refine rG 9 ?_ ?_ ?_ ?_ ?_ ?_ hCl hHeld ?_;rotate_left 2
           ·simp only [gA,gS,gZ]; exact rfl
           ·intro l w'; rw [hSSs, hSSs]
           ·rfl
           ·intro w' hA;clear hA;go_simp;try with_reducible rfl
           clear hCl hHeld
           intro hCl hHeld
           simp only [sA,sZ,sS] at hCl hHeld
           (try simp only [Act.put]);try simp only [sA,sZ,sS]
           refine rG 10 ?_ ?_ ?_ ?_ ?_ ?_ hCl hHeld ?_;rotate_left 2
           ·simp only [gA,gS,gZ]; exact rfl
           ·intro l w'; rw [hSSs, hSSs]
           ·rfl
           ·intro w' hA;clear hA;go_simp;try with_reducible rfl
           clear hCl hHeld
           intro hCl hHeld
           simp only [sA,sZ,sS] at hCl hHeld
           (try simp only [Act.put]);try simp only [sA,sZ,sS]
           refine rG 11 ?_ ?_ ?_ ?_ ?_ ?_ hCl hHeld ?_;rotate_left 2
           ·simp only [gA,gS,gZ]; exact rfl
           ·intro l w'; rw [hSSs, hSSs]
           ·rfl
           ·intro w' hA;clear hA;go_simp;try with_reducible rfl
           clear hCl hHeld
           intro hCl hHeld
           simp only [sA,sZ,sS] at hCl hHeld
           (try simp only [Act.put]);try simp only [sA,sZ,sS]
           refine rG 12 ?_ ?_ ?_ ?_ ?_ ?_ hCl hHeld ?_;rotate_left 2
           ·simp only [gA,gS,gZ]; exact rfl
           ·intro l w'; rw [hSSs, hSSs]
           ·rfl
           ·intro w' hA; obtain ⟨l, hl, hi, hSl⟩ := hA; have hSl := (hSSs _ _).1 hSl; obtain ⟨hz0, hz1⟩ := hSl; go_simp; try with_reducible rfl
           clear hCl hHeld
           intro hCl hHeld
           simp only [sA,sZ,sS] at hCl hHeld
           (try simp only [Act.put]);try simp only [sA,sZ,sS]
           refine rG 13 ?_ ?_ ?_ ?_ ?_ ?_ hCl hHeld ?_;rotate_left 2
           ·simp only [gA,gS,gZ]; exact rfl
           ·intro l w'; rw [hSSs, hSSs]
           ·rfl
           ·intro w' hA;clear hA;go_simp;try with_reducible rfl
           clear hCl hHeld
           intro hCl hHeld
           simp only [sA,sZ,sS] at hCl hHeld
           (try simp only [Act.put]);try simp only [sA,sZ,sS]
           refine rG 14 ?_ ?_ ?_ ?_ ?_ ?_ hCl hHeld ?_;rotate_left 2
           ·simp only [gA,gS,gZ]; exact rfl
           ·intro l w'; rw [hSSs, hSSs]
           ·rfl
           ·intro w' hA;clear hA;go_simp;try with_reducible rfl
           clear hCl hHeld
           intro hCl hHeld
           simp only [sA,sZ,sS] at hCl hHeld
           (try simp only [Act.put]);try simp only [sA,sZ,sS]
           refine rG 15 ?_ ?_ ?_ ?_ ?_ ?_ hCl hHeld ?_;rotate_left 2
           ·simp only [gA,gS,gZ]; exact rfl
           ·intro l w'; rw [hSSs, hSSs]
           ·rfl
           ·intro w' hA;clear hA;go_simp;try with_reducible rfl
           clear hCl hHeld
           intro hCl hHeld
           simp only [sA,sZ,sS] at hCl hHeld
           (try simp only [Act.put]);try simp only [sA,sZ,sS]
           refine rG 16 ?_ ?_ ?_ ?_ ?_ ?_ hCl hHeld ?_;rotate_left 2
           ·simp only [gA,gS,gZ]; exact rfl
           ·intro l w'; rw [hSSs, hSSs]
           ·rfl
           ·intro w' hA;clear hA;go_simp;try with_reducible rfl
           clear hCl hHeld
           intro hCl hHeld
           simp only [sA,sZ,sS] at hCl hHeld
           (try simp only [Act.put]);try simp only [sA,sZ,sS]
           refine rG 17 ?_ ?_ ?_ ?_ ?_ ?_ hCl hHeld ?_;rotate_left 2
           ·simp only [gA,gS,gZ]; exact rfl
           ·intro l w'; rw [hSSs, hSSs]
           ·rfl
           ·intro w' hA; obtain ⟨l, hl, hi, hSl⟩ := hA; have hSl := (hSSs _ _).1 hSl; obtain ⟨hz0, hz1⟩ := hSl; go_simp; try with_reducible rfl
           clear hCl hHeld
           intro hCl hHeld
           simp only [sA,sZ,sS] at hCl hHeld
           (try simp only [Act.put]);try simp only [sA,sZ,sS]
           refine rG 18 ?_ ?_ ?_ ?_ ?_ ?_ hCl hHeld ?_;rotate_left 2
           ·simp only [gA,gS,gZ]; exact rfl
           ·intro l w'; rw [hSSs, hSSs]
           ·rfl
           ·intro w' hA;clear hA;go_simp;try with_reducible rfl
           clear hCl hHeld
           intro hCl hHeld
           simp only [sA,sZ,sS] at hCl hHeld
           (try simp only [Act.put]);try simp only [sA,sZ,sS]
           refine rG 19 ?_ ?_ ?_ ?_ ?_ ?_ hCl hHeld ?_;rotate_left 2
           ·simp only [gA,gS,gZ]; exact rfl
           ·intro l w'; rw [hSSs, hSSs]
           ·rfl
           ·intro w' hA;clear hA;go_simp;try with_reducible rfl
           clear hCl hHeld
           intro hCl hHeld
           simp only [sA,sZ,sS] at hCl hHeld
           (try simp only [Act.put]);try simp only [sA,sZ,sS]
           clear hCl hHeld
           refine reg_callG 20 ?_ (by kernel_rfl) ?_ (fun K hK => ?_);rotate_left 1
           ·simp only [gA,gS,gZ]; exact rfl
           go_simp
           clear hx0 hx1 hup
           refine hK.out _ _ ((hSSs _ _).2 ⟨hy0, hy1⟩) ?_
           clear hK K
           (try simp only [Act.put]);try simp only [sA,sZ,sS]
           refine wpAnyG_done (by kernel_rfl) ?_ _
           refine NoPanic.normal ?_
           clear hSSs SSs
           go_wp2
           have hnn := HNN.out
           refine ⟨⟨_, _, _, _, _, _, _, _, _, _, _, _, _, _, _, _, _, _, _, _, _, _, _, _, _, _, _, _, _, _, _, _, _, _, ?_, rfl⟩, by simp [intOf]⟩
           exact ⟨2 + 1, by omega, by go_num, congrArg (Value.int .i64) (by omega), ⟨_, FIN.out.1⟩, FIN.out.2.1, FIN.out.2.2⟩
        ·obtain rfl : i = 3 := by omega
         have FIN := Lib.hid (And.intro hF2 hbw)
         clear hF2 hbw hbx
         go_wp2
         exact ⟨⟨j + 1, by omega, by go_num, congrArg (Value.int .i64) (by omega), ⟨_, FIN.out.1⟩, FIN.out.2⟩, by simp [intOf]; omega⟩
      ·obtain rfl : j = 8 := by omega
       have hgl := HM.out.len
       obtain ⟨⟨ta, tb, tc⟩, h0⟩ : ∃ v, (gridT 2 2 bn)[0]? = some v := ⟨_, List.getElem?_eq_getElem (by omega)⟩
       have hz := HM.out.one _ (List.mem_of_getElem? h0)
       simp only [] at hz
       have hb7 : Below w7.heap.size w7 wr := by rw [HFB.out]; exact hbw
       have hpr : RowN wr (w.heap.size + 1) 62 2 (.slice (some ⟨gp, 0, none⟩) 9 gpc) 9 (ptsCells (gridP 2 2)) := (HROW.out.below HBT.out).below hb7
       have htr := HTR.out.below hb7
       have hbu := Build_any F (gridT 2 2 bn) ta tb tc fb gt 8 gtc gp 9 gpc (gridP 2 2) wr OK.out.good h0 hz (by omega) (by omega) OK.out.pts htr hF rfl (by omega) (by omega) HPS.out hpr.ptsC HM.out.some_ (by have := HM.out.few; omega) HM.out.ends
       have HBU := Lib.hid hbu; have HTRR := Lib.hid htr
       have HBWR := Lib.hid (HBW.out.trans ((HBT.out.trans (hb7.mono HBT.out.size)).mono HBW.out.size))
       have hgt := HGTL.out.1; have hsz5 := HBW.out.size
       clear hbu htr hpr hb7 hF hbw hz h0 hgl
       go_wp2_with fail
       refine HBU.out.mono ?_
       rintro e w9 ⟨mb, rfl, hbe, hb9⟩
       have hbs := HBWR.out.size
       have FIN := Lib.hid (And.intro (hbe.low hbs) (And.intro (HTRR.out.below hb9) (HBWR.out.trans (hb9.mono hbs))))
       clear hbe hb9
       go_wp2
       go_ret2
       exact ⟨mb, gt, gtc, F, rfl, FIN.out.1, FIN.out.2.1, by omega, FIN.out.2.2⟩
end Go.Proofs.Ytecnnpkpgbbfkaa
/- The statements' Grid, whatever it is asked: what comes. -/
namespace Go.Proofs.Ytecnnpkpgbbfkaa
open Go.RowKit Go.MagM
/-- What Grid leaves. -/
structure GridIs (w : World) (B mb pb pc tb tc g W H bn : Nat) (F : Int → Int → Bool) (Bd : List (Nat × Nat)) (S : List TriM) : Prop where
 mesh : MeshO 62 49 w B mb pb pc (.slice (some ⟨tb, 0, none⟩) S.length tc) (gridP W H) S
 pts : B ≤ pb
 built : Built (faF F) (gridT W H bn) Bd S
 tr : TrIn w g ((gridT W H bn).map realV)
 row : B ≤ g
 hW : W = 1 ∨ W = 2
 hH : H = 1 ∨ H = 2
 hb : bn < 16
theorem GridIs.below {w w' : World} {B mb pb pc tb tc g W H bn : Nat} {F : Int → Int → Bool} {Bd : List (Nat × Nat)} {S : List TriM} (h : GridIs w B mb pb pc tb tc g W H bn F Bd S) (hb : Below w.heap.size w w') : GridIs w' B mb pb pc tb tc g W H bn F Bd S :=
 ⟨h.mesh.below hb, h.pts, h.built, h.tr.below hb, h.row, h.hW, h.hH, h.hb⟩
theorem GridIs.drew {w : World} {B mb pb pc tb tc g W H bn : Nat} {F : Int → Int → Bool} {Bd : List (Nat × Nat)} {S : List TriM} (h : GridIs w B mb pb pc tb tc g W H bn F Bd S) : GridIs w.drew B mb pb pc tb tc g W H bn F Bd S := h.below (Below.refl _ _).drew'
theorem GridIs.read {w : World} {B mb pb pc tb tc g W H bn : Nat} {F : Int → Int → Bool} {Bd : List (Nat × Nat)} {S : List TriM} (h : GridIs w B mb pb pc tb tc g W H bn F Bd S) : MeshR w mb pb pc (some ⟨tb, 0, none⟩) tc (gridP W H) S := by
 obtain ⟨ta, tc', e, hr⟩ := h.mesh.read
 simp only [Value.slice.injEq] at e
 obtain ⟨rfl, -, rfl⟩ := e
 exact hr
theorem GridIs.sound {w : World} {B mb pb pc tb tc g W H bn : Nat} {F : Int → Int → Bool} {Bd : List (Nat × Nat)} {S : List TriM} (h : GridIs w B mb pb pc tb tc g W H bn F Bd S) : SoundIs (gridP W H) S true := by
 have ok := grid_ok h.hW h.hH h.hb
 exact built_sound h.built ok.turn ok.some_ ok.rim
theorem GridIs.inP {w : World} {B mb pb pc tb tc g W H bn : Nat} {F : Int → Int → Bool} {Bd : List (Nat × Nat)} {S : List TriM} (h : GridIs w B mb pb pc tb tc g W H bn F Bd S) : InPs (gridP W H) := grid_inPs h.hW h.hH
theorem GridIs.sizes {w : World} {B mb pb pc tb tc g W H bn : Nat} {F : Int → Int → Bool} {Bd : List (Nat × Nat)} {S : List TriM} (h : GridIs w B mb pb pc tb tc g W H bn F Bd S) : 4 ≤ (gridP W H).length ∧ (gridP W H).length ≤ 9 ∧ 4 ≤ S.length ∧ S.length ≤ 16 := by
 have ok := grid_ok h.hW h.hH h.hb
 have hm := grid_has h.hW h.hH h.hb
 have h1 := ok.many; have h2 := ok.few; have h3 := hm.few; have h4 := ok.four; have h5 := h.built.len; have h6 := h.built.perm.length_eq
 have h7 : 4 ≤ (W + 1) * (H + 1) ∧ (W + 1) * (H + 1) ≤ 9 := by
  rcases h.hW with e | e <;> rcases h.hH with e' | e' <;> rw [e, e'] <;> decide
 omega
theorem and_one (x : Int) : bits .and .i64 x 1 = 0 ∨ bits .and .i64 x 1 = 1 := by
 have h1 : (BitVec.ofInt 64 (1 : Int)).toNat = 1 := by decide
 have h2 : (BitVec.ofInt 64 x).toNat &&& 1 ≤ 1 := Nat.and_le_right
 have h3 : bits .and .i64 x 1 = (((BitVec.ofInt 64 x).toNat &&& 1 : Nat) : Int) := by
  show IntKind.i64.wrap ((BitVec.ofInt 64 x &&& BitVec.ofInt 64 (1 : Int)).toNat : Int) = _
  rw [BitVec.toNat_and, h1, IntKind.wrap_i64]
  omega
 rw [h3]; omega
theorem Grid_any (w0 h0 b f : Int) (w : World) :
  Calls Try.prog 6 #[.int .i64 w0, .int .i64 h0, .int .u32 b, .int .u32 f] w fun e w' => ∃ (mb pb pc tb tc g gn gc W H bn : Nat) (F : Int → Int → Bool) (Bd : List (Nat × Nat)) (S : List TriM), e = .returned (.tuple #[.pointer (some ⟨mb, 0, none⟩), .slice (some ⟨g, 0, none⟩) gn gc]) ∧ gn = (gridT W H bn).length ∧ GridIs w' w.heap.size mb pb pc tb tc g W H bn F Bd S ∧ Below w.heap.size w w' := by
 obtain ⟨bn, hbn, hbit⟩ := bits_of b
 have fin : ∀ {W H : Nat} (hW : W = 1 ∨ W = 2) (hH : H = 1 ∨ H = 2) {NT : Nat}, NT = 2 * (W * H) → (Calls Try.prog 6 #[.int .i64 w0, .int .i64 h0, .int .u32 b, .int .u32 f] w fun e w' => ∃ (mb g c : Nat) (F : Int → Int → Bool), e = .returned (.tuple #[.pointer (some ⟨mb, 0, none⟩), .slice (some ⟨g, 0, none⟩) NT c]) ∧ BuildEnd 62 49 F w.heap.size (gridP W H) (gridT W H bn) mb w' ∧ TrIn w' g ((gridT W H bn).map realV) ∧ w.heap.size ≤ g ∧ Below w.heap.size w w') →
   Calls Try.prog 6 #[.int .i64 w0, .int .i64 h0, .int .u32 b, .int .u32 f] w fun e w' => ∃ (mb pb pc tb tc g gn gc W H bn : Nat) (F : Int → Int → Bool) (Bd : List (Nat × Nat)) (S : List TriM), e = .returned (.tuple #[.pointer (some ⟨mb, 0, none⟩), .slice (some ⟨g, 0, none⟩) gn gc]) ∧ gn = (gridT W H bn).length ∧ GridIs w' w.heap.size mb pb pc tb tc g W H bn F Bd S ∧ Below w.heap.size w w' := by
  intro W H hW hH NT hNT hc
  refine hc.mono ?_
  rintro e w' ⟨mb, g, c, F, rfl, ⟨pb, pc, tv, S, Bd, hm, hpb, hp, hbs, hj⟩, htr, hg, hb⟩
  have ok := grid_ok hW hH hbn
  have hmo := grid_has hW hH hbn
  have hbu := Built.of ok.good ok.four hp hbs hj
  have h0 : 0 < S.length := by have := hbu.len; have := ok.four; have := hp.length_eq; omega
  obtain ⟨t, ht⟩ : ∃ t, S[0]? = some t := ⟨_, List.getElem?_eq_getElem h0⟩
  obtain ⟨tb, tc, rfl⟩ := hm.slot ht
  exact ⟨mb, pb, pc, tb, tc, g, _, c, W, H, bn, F, Bd, S, rfl, by rw [hmo.len]; exact hNT, ⟨hm, hpb, hbu, htr, hg, hW, hH, hbn⟩, hb⟩
 rcases and_one w0 with e1 | e1 <;> rcases and_one h0 with e2 | e2
 ·exact fin (W := 1) (H := 1) (by omega) (by omega) rfl (Grid11_any w0 h0 b f bn hbn e1 e2 hbit w)
 ·exact fin (W := 1) (H := 2) (by omega) (by omega) rfl (Grid12_any w0 h0 b f bn hbn e1 e2 hbit w)
 ·exact fin (W := 2) (H := 1) (by omega) (by omega) rfl (Grid21_any w0 h0 b f bn hbn e1 e2 hbit w)
 ·exact fin (W := 2) (H := 2) (by omega) (by omega) rfl (Grid22_any w0 h0 b f bn hbn e1 e2 hbit w)
end Go.Proofs.Ytecnnpkpgbbfkaa
/- What a grid's edges are. Pure. -/
namespace Go.MagM
/-- Two points, the lesser first. -/
def keyE (T : List (Nat × Nat × Nat)) (e : Nat × Nat) : List (Nat × Nat × Bool) :=
 if (!(edgesT T).contains (e.2, e.1)) || decide (e.1 < e.2) then [(min e.1 e.2, max e.1 e.2, !(edgesT T).contains (e.2, e.1))] else []
def keysT (T : List (Nat × Nat × Nat)) : List (Nat × Nat × Bool) := T.flatMap fun t => keyE T (t.2.1, t.2.2) ++ keyE T (t.2.2, t.1) ++ keyE T (t.1, t.2.1)
def castK (k : Nat × Nat × Bool) : Int × Int × Bool := ((k.1 : Int), (k.2.1 : Int), k.2.2)
def keyM (e : EdgeM) : Int × Int × Bool := (e.a, e.b, e.h)
section
variable {fa : Int → Int → Bool} {T : List (Nat × Nat × Nat)} {Bd : List (Nat × Nat)} {S : List TriM}
theorem Built.hull (h : Built fa T Bd S) {t i : Nat} {X : TriM} (hX : S[t]? = some X) (hi : i < 3) {a b : Nat} (he : edgeV X i = ((a : Int), (b : Int))) : hullT S X i = !(edgesT T).contains (b, a) := by
 obtain ⟨u, j, U, hU, hj, hE, hn, -⟩ := h.surf.other hX hi
 rw [he] at hE
 unfold hullT
 rw [hn, h.real_iff]
 congr 1
 rw [Bool.eq_iff_iff, decide_eq_true_eq, List.contains_iff_mem]
 constructor
 ·intro hu
  obtain ⟨x, hx⟩ : ∃ x, T[u]? = some x := ⟨_, List.getElem?_eq_getElem hu⟩
  obtain ⟨Y, hY, y0, y1, y2⟩ := h.real hx
  rw [hU] at hY; cases hY
  refine List.mem_flatMap.2 ⟨x, List.mem_of_getElem? hx, ?_⟩
  obtain rfl | rfl | rfl : j = 0 ∨ j = 1 ∨ j = 2 := by omega
  all_goals (simp only [edgeV, y0, y1, y2, Prod.mk.injEq] at hE)
  ·rw [show b = x.2.1 by omega, show a = x.2.2 by omega]; simp
  ·rw [show b = x.2.2 by omega, show a = x.1 by omega]; simp
  ·rw [show b = x.1 by omega, show a = x.2.1 by omega]; simp
 ·intro hm
  obtain ⟨x, hx, hm⟩ := List.mem_flatMap.1 hm
  obtain ⟨k, hk⟩ := List.getElem?_of_mem hx
  obtain ⟨Y, hY, y0, y1, y2⟩ := h.real hk
  have hkl := (List.getElem?_eq_some_iff.1 hk).1
  have : ∃ j', j' < 3 ∧ edgeV Y j' = ((b : Int), (a : Int)) := by
   simp only [List.mem_cons, List.not_mem_nil, or_false, Prod.mk.injEq] at hm
   rcases hm with ⟨rfl, rfl⟩ | ⟨rfl, rfl⟩ | ⟨rfl, rfl⟩
   ·exact ⟨0, by omega, by show (Y.v1, Y.v2) = _; rw [y1, y2]⟩
   ·exact ⟨1, by omega, by show (Y.v2, Y.v0) = _; rw [y2, y0]⟩
   ·exact ⟨2, by omega, by show (Y.v0, Y.v1) = _; rw [y0, y1]⟩
  obtain ⟨j', hj', he'⟩ := this
  have := (h.surf.once hU hY hj hj' (by rw [hE, he'])).1
  omega
theorem Built.reals (h : Built fa T Bd S) : ∀ n, n ≤ T.length → (realsK S n).map (fun x => (x.2.v0, x.2.v1, x.2.v2)) = (T.take n).map realV
 | 0, _ => rfl
 | n + 1, hn => by
  have ih := h.reals n (by omega)
  obtain ⟨x, hx⟩ : ∃ x, T[n]? = some x := ⟨_, List.getElem?_eq_getElem (by omega)⟩
  obtain ⟨Y, hY, y0, y1, y2⟩ := h.real hx
  rw [realsK_yes hY (by unfold realT; exact decide_eq_true (by omega)), List.map_append, ih, List.take_add_one, hx, List.map_append]
  simp [realV, y0, y1, y2]
theorem Built.reals_past (h : Built fa T Bd S) : ∀ n, T.length ≤ n → realsK S n = realsK S T.length
 | 0, hn => by rw [show T.length = 0 by omega]
 | n + 1, hn => by
  by_cases e : T.length = n + 1
  ·rw [e]
  ·have ih := h.reals_past n (by omega)
   rw [← ih]
   cases hX : S[n]? with
   | none => rw [realsK, hX]; simp
   | some X =>
    refine realsK_no hX ?_
    have h1 := h.real_iff n
    unfold realM at h1
    rw [getT_nat, hX] at h1
    simp only [] at h1
    rw [h1]
    exact decide_eq_false (by omega)
theorem Built.reals_all (h : Built fa T Bd S) : (realsK S S.length).map (fun x => (x.2.v0, x.2.v1, x.2.v2)) = T.map realV := by
 rw [h.reals_past _ (by have := h.len; omega), h.reals _ (Nat.le_refl _), List.take_length]
theorem Built.reals_len (h : Built fa T Bd S) : (realsK S S.length).length = T.length := by
 have := congrArg List.length h.reals_all
 simpa using this
theorem reals_mem {S : List TriM} : ∀ (n : Nat) (x : Nat × TriM), x ∈ realsK S n → S[x.1]? = some x.2 ∧ realT x.2 = true
 | n + 1, x, hx => by
  rw [realsK] at hx
  rcases List.mem_append.1 hx with h | h
  ·exact reals_mem n x h
  ·cases hS : S[n]? with
   | none => rw [hS] at h; simp at h
   | some X =>
    rw [hS] at h
    simp only [] at h
    split at h
    ·rename_i hr
     rw [List.mem_singleton] at h
     subst h
     exact ⟨hS, hr⟩
    ·simp at h
theorem Built.keys_one (h : Built fa T Bd S) {t i : Nat} {X : TriM} (hX : S[t]? = some X) (hi : i < 3) {a b : Nat} (he : edgeV X i = ((a : Int), (b : Int))) :
  ((if (hullT S X i || decide ((edgeV X i).1 < (edgeV X i).2)) = true then [edgeE S X i] else []).map keyM) = (keyE T (a, b)).map castK := by
 have hh := h.hull hX hi he
 unfold keyE edgeE
 rw [hh, he]
 have e1 : decide ((a : Int) < (b : Int)) = decide (a < b) := by apply decide_eq_decide.2; omega
 simp only [e1]
 split
 ·simp only [List.map_cons, List.map_nil, keyM, castK]
  congr 3
  ·omega
  ·congr 1; omega
 ·rfl
theorem Built.keys (h : Built fa T Bd S) : (rawE S (realsK S S.length)).map keyM = (keysT T).map castK := by
 have key : ∀ (l : List (Nat × TriM)) (L : List (Nat × Nat × Nat)), (∀ x, x ∈ l → S[x.1]? = some x.2) → l.map (fun x => (x.2.v0, x.2.v1, x.2.v2)) = L.map realV → (rawE S l).map keyM = (L.flatMap fun t => keyE T (t.2.1, t.2.2) ++ keyE T (t.2.2, t.1) ++ keyE T (t.1, t.2.1)).map castK := by
  intro l
  induction l with
  | nil => intro L _ hl; cases L with
   | nil => rfl
   | cons _ _ => simp at hl
  | cons x l ih =>
   intro L hm hl
   cases L with
   | nil => simp at hl
   | cons y L =>
    rw [List.map_cons, List.map_cons] at hl
    obtain ⟨h1, h2⟩ := List.cons.inj hl
    have hx := hm x List.mem_cons_self
    simp only [realV, Prod.mk.injEq] at h1
    obtain ⟨y0, y1, y2⟩ := h1
    show (edgesI S x.2 3 ++ rawE S l).map keyM = ((keyE T (y.2.1, y.2.2) ++ keyE T (y.2.2, y.1) ++ keyE T (y.1, y.2.1)) ++ (L.flatMap _)).map castK
    rw [List.map_append, List.map_append, ih L (fun z hz => hm z (List.mem_cons_of_mem _ hz)) h2]
    congr 1
    rw [edgesI, edgesI, edgesI, edgesI, List.nil_append]
    simp only [List.map_append]
    rw [h.keys_one hx (i := 0) (by omega) (a := y.2.1) (b := y.2.2) (by show (x.2.v1, x.2.v2) = _; rw [y1, y2]),
     h.keys_one hx (i := 1) (by omega) (a := y.2.2) (b := y.1) (by show (x.2.v2, x.2.v0) = _; rw [y2, y0]),
     h.keys_one hx (i := 2) (by omega) (a := y.1) (b := y.2.1) (by show (x.2.v0, x.2.v1) = _; rw [y0, y1])]
 exact key _ T (fun x hx => (reals_mem _ x hx).1) h.reals_all
/-- What is known of an edge that is told. -/
def EdgeOk (S : List TriM) (e : EdgeM) : Prop := ∃ (t u : Nat) (i j : Nat) (X U : TriM), S[t]? = some X ∧ S[u]? = some U ∧ i < 3 ∧ j < 3 ∧ findM S e.a e.b = some (t, (i : Int)) ∧ findM S e.b e.a = some (u, (j : Int)) ∧ X.f i = e.f ∧ U.f j = e.f ∧ e.h = (!realM S (t : Int) || !realM S (u : Int)) ∧ e.a < e.b
theorem Built.edge_ok (h : Built fa T Bd S) (hfa : ∀ a b, fa a b = fa b a) {e : EdgeM} (he : e ∈ rawE S (realsK S S.length)) : EdgeOk S e := by
 obtain ⟨x, hx, he⟩ := List.mem_flatMap.1 he
 obtain ⟨hX, hr⟩ := reals_mem _ x hx
 have hrm : realM S (x.1 : Int) = true := by unfold realM; rw [getT_nat, hX]; exact hr
 have : ∃ i, i < 3 ∧ e = edgeE S x.2 i := by
  have key : ∀ n, n ≤ 3 → e ∈ edgesI S x.2 n → ∃ i, i < 3 ∧ e = edgeE S x.2 i := by
   intro n
   induction n with
   | zero => intro _ h; simp [edgesI] at h
   | succ n ih =>
    intro hn h
    rw [edgesI] at h
    rcases List.mem_append.1 h with h | h
    ·exact ih (by omega) h
    ·split at h
     ·rw [List.mem_singleton] at h; exact ⟨n, by omega, h⟩
     ·simp at h
  exact key 3 (Nat.le_refl _) he
 obtain ⟨i, hi, rfl⟩ := this
 obtain ⟨u, j, U, hU, hj, hE, hn, hf, hn2, hf2⟩ := h.surf.other hX hi
 have hap := h.surf.apart hX hi
 have hff : U.f j = x.2.f i := by rw [hf, hf2, hfa]
 obtain ⟨a, b, hab⟩ : ∃ a b, edgeV x.2 i = (a, b) := ⟨_, _, rfl⟩
 have f1 := h.surf.find hX hi hab
 rw [hab] at hE hap
 have f2 := h.surf.find hU hj hE
 unfold EdgeOk edgeE hullT
 rw [hab, hn]
 dsimp only at hap ⊢
 rcases Int.lt_or_gt_of_ne hap with g | g
 ·rw [Int.min_eq_left (by omega), Int.max_eq_right (by omega)]
  exact ⟨x.1, u, i, j, x.2, U, hX, hU, hi, hj, f1, f2, rfl, hff, by rw [hrm]; rfl, g⟩
 ·rw [Int.min_eq_right (by omega), Int.max_eq_left (by omega)]
  exact ⟨u, x.1, j, i, U, x.2, hU, hX, hj, hi, f2, f1, hff, rfl, by rw [hrm]; simp, g⟩
/-- What is known of a place of the border. -/
def RimOk (S : List TriM) (a b : Int) : Prop := ∃ (t u : Nat) (i j : Int), findM S a b = some (t, i) ∧ findM S b a = some (u, j) ∧ realM S (t : Int) = true ∧ realM S (u : Int) = false
theorem Built.rim_ok (h : Built fa T Bd S) {e : Nat × Nat} (he : e ∈ borderT T) : RimOk S (e.1 : Int) (e.2 : Int) := by
 obtain ⟨k, hk⟩ := List.getElem?_of_mem (h.mem.2 he)
 obtain ⟨X, hX, x0, x1, x2⟩ := h.ghost hk
 obtain ⟨u, j, U, hU, hj, hE, hn, -⟩ := h.surf.other hX (i := 2) (by omega)
 have hX2 : edgeV X 2 = ((e.2 : Int), (e.1 : Int)) := by show (X.v0, X.v1) = _; rw [x0, x1]
 rw [hX2] at hE
 have f1 := h.surf.find hU hj hE
 have f2 := h.surf.find hX (i := 2) (by omega) hX2
 have hr := h.rest hk hX
 have hn' : X.n2 = (u : Int) := hn
 rw [hn'] at hr
 exact ⟨u, T.length + k, _, _, f1, f2, hr, by rw [h.real_iff]; exact decide_eq_false (by omega)⟩
end
end Go.MagM
namespace Go.Proofs.Ytecnnpkpgbbfkaa
open Go.MagM
def rimG (w h bits : Nat) (e0 : Nat × Nat) : List Int := hullL ((rimB (borderT (gridT w h bits)) ((gridT w h bits).length + (borderT (gridT w h bits)).length) e0).map (fun v : Nat => (v : Int)))
def edgeG (w h bits : Nat) : Bool :=
 decide (((keysT (gridT w h bits)).map (fun k => (k.1, k.2.1))).Nodup) &&
 decide ((gridP w h).length + (gridT w h bits).length = (keysT (gridT w h bits)).length + 1) &&
 decide (((keysT (gridT w h bits)).filter (fun k => k.2.2)).length = (borderT (gridT w h bits)).length) && !(keysT (gridT w h bits)).isEmpty &&
 (borderT (gridT w h bits)).all (fun e0 => decide ((rimG w h bits e0).length = (borderT (gridT w h bits)).length) && decide ((rimG w h bits e0)[0]? = some 0) &&
  (List.range (rimG w h bits e0).length).all fun i => (borderT (gridT w h bits)).any fun e => decide ((rimG w h bits e0)[i]? = some (e.1 : Int)) && decide ((rimG w h bits e0)[(i + 1) % (rimG w h bits e0).length]? = some (e.2 : Int)))
def allEdges : Bool := [1, 2].all fun w => [1, 2].all fun h => (List.range 16).all fun bits => edgeG w h bits
set_option maxRecDepth 100000 in
theorem all_edges : allEdges = true := by decide +kernel
theorem grid_edgeG {w h : Nat} (hw : w = 1 ∨ w = 2) (hh : h = 1 ∨ h = 2) {bits : Nat} (hb : bits < 16) : edgeG w h bits = true := by
 have := all_edges
 unfold allEdges at this
 rw [List.all_eq_true] at this
 have h1 := this w (by rcases hw with rfl | rfl <;> simp)
 rw [List.all_eq_true] at h1
 have h2 := h1 h (by rcases hh with rfl | rfl <;> simp)
 rw [List.all_eq_true] at h2
 exact h2 bits (List.mem_range.2 hb)
/-- What MeshGrids asks of a grid. -/
structure GridEdges (S : List TriM) (np nt : Nat) : Prop where
 count : (realsK S S.length).length = nt
 some_ : rawE S (realsK S S.length) ≠ []
 euler : np + nt = (rawE S (realsK S S.length)).length + 1
 edge : ∀ E, EdgesAre S E → (∀ e, e ∈ E → EdgeOk S e) ∧ (E.filter (fun e => e.h)).length = (borderM S).length ∧ ∀ (i : Nat) (x y : EdgeM), E[i]? = some x → E[i + 1]? = some y → ltE x y = true
 rimL : borderM S ≠ []
 head : (hullL (borderM S))[0]? = some 0
 rim : ∀ (i : Nat) (a b : Int), i < (borderM S).length → (hullL (borderM S))[i]? = some a → (hullL (borderM S))[(i + 1) % (borderM S).length]? = some b → RimOk S a b
theorem GridIs.edges {w : World} {B mb pb pc tb tc g W H bn : Nat} {F : Int → Int → Bool} {Bd : List (Nat × Nat)} {S : List TriM} (h : GridIs w B mb pb pc tb tc g W H bn F Bd S) : GridEdges S (gridP W H).length (gridT W H bn).length := by
 have s := grid_edgeG h.hW h.hH h.hb
 unfold edgeG at s
 simp only [Bool.and_eq_true, decide_eq_true_eq, Bool.not_eq_true', List.isEmpty_eq_false_iff] at s
 obtain ⟨⟨⟨⟨s1, s2⟩, s3⟩, s4⟩, s5⟩ := s
 rw [List.all_eq_true] at s5
 have hk := h.built.keys
 have hkl : (rawE S (realsK S S.length)).length = (keysT (gridT W H bn)).length := by have := congrArg List.length hk; simpa using this
 have ok := grid_ok h.hW h.hH h.hb
 have hbl : 0 < (borderT (gridT W H bn)).length := List.length_pos_iff.2 ok.some_
 have hBl := h.built.perm.length_eq
 obtain ⟨e0, he0⟩ : ∃ e0, Bd[0]? = some e0 := ⟨_, List.getElem?_eq_getElem (by omega)⟩
 have s6 := s5 e0 (h.built.mem.1 (List.mem_of_getElem? he0))
 simp only [Bool.and_eq_true, decide_eq_true_eq, List.all_eq_true, List.any_eq_true, List.mem_range] at s6
 obtain ⟨⟨c1, c2⟩, c3⟩ := s6
 have hbo := h.built.border he0
 have hru : hullL (borderM S) = rimG W H bn e0 := by rw [hbo]; rfl
 have hbl2 : (borderM S).length = (borderT (gridT W H bn)).length := by rw [← hullL_len, hru, c1]
 refine ⟨h.built.reals_len, fun e => ?_, by rw [hkl]; exact s2, fun E hE => ⟨fun e he => h.built.edge_ok (faF_comm F) (hE.1.mem_iff.1 he), ?_, ?_⟩, fun e => ?_, by rw [hru]; exact c2, ?_⟩
 ·rw [e] at hkl
  exact s4 (List.length_eq_zero_iff.1 hkl.symm)
 ·rw [(hE.1.filter _).length_eq, hbl2, ← s3]
  have := congrArg (fun l => (l.filter (fun k : Int × Int × Bool => k.2.2)).length) hk
  simpa [List.filter_map, Function.comp_def, keyM, castK] using this
 ·intro i x y hx hy
  have h1 := hE.2 i (i + 1) x y (by omega) hx hy
  have hnd : (E.map (fun e => (e.a, e.b))).Nodup := by
   have hp : (E.map (fun e => (e.a, e.b))).Perm ((rawE S (realsK S S.length)).map (fun e => (e.a, e.b))) := hE.1.map _
   refine hp.nodup_iff.2 ?_
   have e1 : (rawE S (realsK S S.length)).map (fun e => (e.a, e.b)) = ((keysT (gridT W H bn)).map (fun k => (k.1, k.2.1))).map (fun k => ((k.1 : Int), (k.2 : Int))) := by
    have := congrArg (fun l => l.map (fun k : Int × Int × Bool => (k.1, k.2.1))) hk
    simpa [Function.comp_def, keyM, castK] using this
   rw [e1]
   refine List.pairwise_map.2 (s1.imp ?_)
   intro p q hpq e
   simp only [Prod.mk.injEq] at e
   exact hpq (Prod.ext (by omega) (by omega))
  have hne : (x.a, x.b) ≠ (y.a, y.b) := by
   intro e
   have hi1 := (List.getElem?_eq_some_iff.1 hx)
   have hi2 := (List.getElem?_eq_some_iff.1 hy)
   obtain ⟨l1, q1⟩ := hi1
   obtain ⟨l2, q2⟩ := hi2
   have := (List.pairwise_iff_getElem.1 hnd) i (i + 1) (by simpa using l1) (by simpa using l2) (by omega)
   rw [List.getElem_map, List.getElem_map, q1, q2] at this
   exact this e
  unfold ltE at h1 ⊢
  have h1 := of_decide_eq_false h1
  refine decide_eq_true ?_
  have : ¬ (x.a = y.a ∧ x.b = y.b) := fun ⟨p, q⟩ => hne (by rw [p, q])
  omega
 ·have := congrArg List.length e
  rw [hbl2, List.length_nil] at this
  omega
 ·intro i a b hi ha hb
  rw [hbl2, ← c1] at hi hb
  rw [hru] at ha hb
  obtain ⟨e, he, q1, q2⟩ := c3 i hi
  rw [q1] at ha; rw [q2] at hb
  cases ha; cases hb
  exact h.built.rim_ok he
end Go.Proofs.Ytecnnpkpgbbfkaa
/- The statements' fit (layer 9). -/
namespace Go.Proofs.Ytecnnpkpgbbfkaa
open Go.RowKit Go.MagM
theorem MeshO.sl {p e : TypeId} {w : World} {lo mb pb pc : Nat} {tv : Value} {P : List (Int × Int)} {S : List TriM} (h : MeshO p e w lo mb pb pc tv P S) (h0 : 0 < S.length) : ∃ tb tc, tv = .slice (some ⟨tb, 0, none⟩) S.length tc ∧ MeshR w mb pb pc (some ⟨tb, 0, none⟩) tc P S := by
 obtain ⟨t, ht⟩ : ∃ t, S[0]? = some t := ⟨_, List.getElem?_eq_getElem h0⟩
 obtain ⟨tb, tc, rfl⟩ := h.slot ht
 obtain ⟨ta, tc', e, hr⟩ := h.read
 simp only [Value.slice.injEq] at e
 obtain ⟨rfl, -, rfl⟩ := e
 exact ⟨tb, tc, rfl, hr⟩
set_option maxRecDepth 100000 in
set_option maxHeartbeats 16000000 in
theorem fit9_any (w : World) : Calls Try.prog 5 #[] w fun e w' => e = .returned (.bool true) ∧ Below w.heap.size w w' := by
 obtain ⟨w1, hw1, pp, hb1, hs1⟩ := new_box w _ rfl [.int .i64 0, .int .i64 0, .int .i64 1, .int .i64 0, .int .i64 0, .int .i64 1] 62
 have hP : InPs [(0, 0), (1, 0), (0, 1)] := by
  intro p hp
  simp at hp
  rcases hp with rfl | rfl | rfl <;> (unfold InP; omega)
 have hnew := New_yes (some ⟨w.heap.size, 0, none⟩) w.heap.size 3 3 [(0, 0), (1, 0), (0, 1)] w1 rfl (by omega) (by omega) hP rfl (fun j u hj => by rw [Nat.zero_add]; exact pp.c j u hj) 0 1 2 (by rfl)
 have hnew' : Calls Try.prog 16 #[.slice (some ⟨w.heap.size, 0, none⟩) 3 3, .int .i64 0, .int .i64 1, .int .i64 2] w1 fun e w' => ∃ mb pb pc tv, e = .returned (.tuple #[.pointer (some ⟨mb, 0, none⟩), .bool true]) ∧ MeshO 62 49 w' w1.heap.size mb pb pc tv [(0, 0), (1, 0), (0, 1)] (newM ((0 : Nat) : Int) ((1 : Nat) : Int) ((2 : Nat) : Int)) ∧ w1.heap.size ≤ pb ∧ Below w1.heap.size w1 w' := hnew
 have HN := Lib.hid hnew'; have HP := Lib.hid hP
 have hB1 : Below w.heap.size w w1 := hb1
 have HB1 := Lib.hid hB1
 clear pp hb1 hs1 hnew hnew' hP hB1
 go_enter Try.func5, Try.ntmps5
 go_wp2_with fail
 refine HN.out.mono ?_
 rintro e w2 ⟨mb, pb, pc, tv, rfl, hm, hpb, hb2⟩
 obtain ⟨tb, tc, rfl, hr⟩ := MeshO.sl hm (by show 0 < 4; omega)
 have hB2 := HB1.out.trans (hb2.mono HB1.out.size)
 have hso := Sound_any true w2 hr HP.out (by simp) (newM_sound (a := 0) (b := 1) (c := 2) (P := [(0, 0), (1, 0), (0, 1)]) (by decide) (by decide) (by decide) (by decide))
 have c1 := hr.box.c 1 _ rfl
 have HR := Lib.hid hr; have HB2 := Lib.hid hB2; have HSO := Lib.hid hso
 clear hm hpb hb2 hr hB2 hso
 obtain ⟨S, hS⟩ : ∃ S, newM ((0 : Nat) : Int) ((1 : Nat) : Int) ((2 : Nat) : Int) = S := ⟨_, rfl⟩
 have hr0 : realM S ((0 : Nat) : Int) = true := by rw [← hS]; decide
 have hr1 : ∀ k : Nat, 1 ≤ k → k < 4 → realM S (k : Int) = false := by
  intro k h1 h4
  rw [← hS]
  obtain rfl | rfl | rfl : k = 1 ∨ k = 2 ∨ k = 3 := by omega
  all_goals decide
 have hl : S.length = 4 := by rw [← hS]; rfl
 rw [hS] at HR c1
 rw [hl] at c1
 go_wp2_with fail
 refine HSO.out.mono ?_
 rintro e w3 ⟨rfl, hb3⟩
 have hB3 := HB2.out.trans (hb3.mono HB2.out.size)
 have hr3 := HR.out.below hb3
 have HR3 := Lib.hid hr3; have HB3 := Lib.hid hB3; have HR0 := Lib.hid hr0; have HR1 := Lib.hid hr1
 have c2 := hr3.box.c 1 _ rfl
 rw [hl] at c2
 clear hr3 hB3 hb3 c1 hr0 hr1
 go_wp2
 clear c2
 go_loopw [3, 4, 37] (fun nv _ iv wr => ∃ k : Nat, k ≤ 4 ∧ iv = .int .i64 (k : Int) ∧ nv = .int .i64 ((if k = 0 then 0 else 1 : Nat) : Int) ∧ Below w3.heap.size w3 wr) (fun _ _ iv _ => 4 - (intOf iv).toNat)
 case atStart => exact ⟨0, by omega, rfl, rfl, Below.refl _ _⟩
 case round =>
  obtain ⟨k, hk, rfl, rfl, hbw⟩ := hrel
  by_cases hlt : k < 4
  ·have hre := Real_any (k : Int) wr (HR3.out.below hbw)
   have HBW := Lib.hid hbw
   by_cases h0 : k = 0
   ·subst h0
    rw [HR0.out] at hre
    have HRE := Lib.hid hre
    clear hre hbw
    go_wp2_with fail
    refine HRE.out.mono ?_
    rintro e w4 ⟨rfl, hd4⟩
    have FIN := Lib.hid (HBW.out.trans (hd4.below.mono HBW.out.size))
    clear hd4
    go_wp2
    exact ⟨⟨1, by omega, by go_num, rfl, FIN.out⟩, by simp [intOf]⟩
   ·rw [HR1.out k (by omega) hlt] at hre
    have HRE := Lib.hid hre
    have hn1 : (if k = 0 then 0 else 1 : Nat) = 1 := if_neg h0
    rw [hn1]
    have H0 := Lib.hid h0
    clear hre hbw h0 hn1
    go_wp2_with fail
    refine HRE.out.mono ?_
    rintro e w4 ⟨rfl, hd4⟩
    have FIN := Lib.hid (HBW.out.trans (hd4.below.mono HBW.out.size))
    clear hd4
    go_wp2
    exact ⟨⟨k + 1, by omega, by go_num, by rw [if_neg (by omega)]; rfl, FIN.out⟩, by simp [intOf]; omega⟩
  ·obtain rfl : k = 4 := by omega
   have FIN := Lib.hid (HB3.out.trans (hbw.mono HB3.out.size))
   clear hbw
   go_wp2
   go_ret
   exact ⟨rfl, FIN.out⟩
end Go.Proofs.Ytecnnpkpgbbfkaa
/- Maps from ints to 1 (sets of numbers); bytes in a row; slots of which some are gone. -/
namespace Go.MagM
open Go.RowKit Go.Maps
/-- Bytes that come in. -/
def BytesAt (w : World) (ao : Option Addr) (l : List Int) : Prop :=
 ∀ i x, l[i]? = some x → ∃ b o, ao = some ⟨b, o, none⟩ ∧ w.cell? ⟨b, o + i, none⟩ = some (.int .u8 x) ∧ 0 ≤ x ∧ x < 256
theorem BytesAt.below {w w' : World} {ao : Option Addr} {l : List Int} (h : BytesAt w ao l) (hb : Below w.heap.size w w') : BytesAt w' ao l := by
 intro i x hi
 obtain ⟨b, o, h0, h1, h2⟩ := h i x hi
 have hlt := World.block_lt_of_cell? w _ h1
 exact ⟨b, o, h0, (hb.cell (p := ⟨b, o + i, none⟩) hlt).trans h1, h2⟩
/-- Of n slots those of D are gone. -/
structure SlotsD (n : Nat) (S : List TriM) (D : List Nat) : Prop where
 len : S.length = n
 gone : ∀ (t : Nat) (T : TriM), S[t]? = some T → (goneB T = true ↔ t ∈ D)
 lt : ∀ t, t ∈ D → t < n
theorem goneTri_gone : goneB goneTri = true := by decide
theorem SlotsD.drop {n : Nat} {S : List TriM} {D : List Nat} (h : SlotsD n S D) {t : Nat} (ht : t < n) : SlotsD n (S.set t goneTri) (D ++ [t]) := by
 refine ⟨by rw [List.length_set]; exact h.len, fun u T hu => ?_, fun u hu => ?_⟩
 ·rw [List.getElem?_set] at hu
  split at hu
  ·rename_i e; subst e
   split at hu
   ·cases hu; rw [goneTri_gone]; simp
   ·cases hu
  ·rename_i e
   rw [h.gone u T hu, List.mem_append, List.mem_singleton]
   exact ⟨.inl, fun hx => hx.elim id fun hx => absurd hx.symm e⟩
 ·rcases List.mem_append.1 hu with h1 | h1
  ·exact h.lt u h1
  ·simp at h1; omega
theorem SlotsD.alive {n : Nat} {S : List TriM} {D : List Nat} (h : SlotsD n S D) {t : Nat} {T : TriM} (hT : S[t]? = some T) (ht : t ∉ D) : goneB T = false := by
 cases hg : goneB T with
 | false => rfl
 | true => exact absurd ((h.gone t T hT).1 hg) ht
theorem SlotsD.free_none {n : Nat} {S : List TriM} (h : SlotsD n S []) : freeK S = none := by
 unfold freeK
 rw [List.findIdx?_eq_none_iff]
 intro T hT
 obtain ⟨j, hj⟩ := List.mem_iff_getElem?.1 hT
 exact h.alive hj (by simp)
theorem newT_alive : goneB (newT 0 1 2) = false := by decide
theorem SlotsD.make {n : Nat} {S : List TriM} {D D' : List Nat} (h : SlotsD n S D) {k : Nat} (hD : ∀ x, x ∈ D' ↔ x ∈ D ∧ x ≠ k) : SlotsD n (S.set k (newT 0 1 2)) D' := by
 refine ⟨by rw [List.length_set]; exact h.len, fun u T hu => ?_, fun u hu => h.lt u ((hD u).1 hu).1⟩
 rw [List.getElem?_set] at hu
 split at hu
 ·rename_i e; subst e
  split at hu
  ·cases hu; rw [newT_alive, hD]; simp
  ·cases hu
 ·rename_i e
  rw [h.gone u T hu, hD]
  simp only [ne_eq, iff_self_and]
  intro _ e'; exact e e'.symm
end Go.MagM
namespace Go.Proofs.Ytecnnpkpgbbfkaa
open Go.RowKit Go.MagM Go.Maps
end Go.Proofs.Ytecnnpkpgbbfkaa
/- Going round a point of a grid: each triangle that has it comes once. Over no program; written ahead of layer 9's code. -/
namespace Go.MagM
/-- The next one, to the left: it begins where this one ends. -/
def nextS (R : List (Nat × Nat)) (s : Nat × Nat) : Nat × Nat := (R.find? fun p => p.1 == s.2).getD (0, 0)
def walkS (R : List (Nat × Nat)) : Nat → Nat × Nat → List (Nat × Nat)
 | 0, _ => []
 | n + 1, s => s :: walkS R n (nextS R s)
def iterS (R : List (Nat × Nat)) : Nat → Nat × Nat → Nat × Nat
 | 0, s => s
 | n + 1, s => iterS R n (nextS R s)
/-- From each of them on all come, each once, and then the first one again. -/
def roundS (R : List (Nat × Nat)) : Bool := (R.map (·.1)).Nodup && (R.map (·.2)).Nodup && R.all fun s => (walkS R R.length s).Nodup && (walkS R R.length s).all (fun p => R.contains p) && iterS R R.length s == s && R.any (fun p => p.1 == s.2)
/-- As a proposition: what follows what hangs on the set of them alone. -/
structure Round (R : List (Nat × Nat)) : Prop where
 firsts : (R.map (·.1)).Nodup
 seconds : (R.map (·.2)).Nodup
 next : ∀ s, s ∈ R → ∃ p, p ∈ R ∧ p.1 = s.2
 walk : ∀ s, s ∈ R → (walkS R R.length s).Nodup ∧ (∀ p, p ∈ walkS R R.length s → p ∈ R) ∧ iterS R R.length s = s
theorem Round.of {R : List (Nat × Nat)} (h : roundS R = true) : Round R := by
 unfold roundS at h
 simp only [Bool.and_eq_true, decide_eq_true_eq, List.all_eq_true, List.contains_iff_mem, beq_iff_eq, List.any_eq_true] at h
 obtain ⟨⟨h1, h2⟩, h3⟩ := h
 exact ⟨h1, h2, fun s hs => by obtain ⟨p, hp, e⟩ := (h3 s hs).2; exact ⟨p, hp, e⟩, fun s hs => ⟨(h3 s hs).1.1.1, (h3 s hs).1.1.2, (h3 s hs).1.2⟩⟩
theorem walkS_len (R : List (Nat × Nat)) : ∀ n s, (walkS R n s).length = n
 | 0, _ => rfl
 | n + 1, s => by rw [walkS, List.length_cons, walkS_len R n]
/-- All come. -/
theorem subset_of_len {α : Type} [DecidableEq α] : ∀ {l R : List α}, l.Nodup → (∀ x, x ∈ l → x ∈ R) → R.length ≤ l.length → ∀ x, x ∈ R → x ∈ l
 | [], R, _, _, hl, x, hx => by
  have : R = [] := List.eq_nil_of_length_eq_zero (by simpa using hl)
  rw [this] at hx; cases hx
 | a :: t, R, hn, hs, hl, x, hx => by
  have hn' := List.nodup_cons.1 hn
  by_cases e : x = a
  ·rw [e]; simp
  ·refine List.mem_cons_of_mem _ (subset_of_len (R := R.erase a) hn'.2 (fun y hy => ?_) ?_ x ?_)
   ·have hya : y ≠ a := fun e => hn'.1 (e ▸ hy)
    exact (List.mem_erase_of_ne hya).2 (hs y (List.mem_cons_of_mem _ hy))
   ·rw [List.length_erase_of_mem (hs a (by simp))]
    simp at hl; omega
   ·exact (List.mem_erase_of_ne e).2 hx
theorem Round.all {R : List (Nat × Nat)} (h : Round R) {s : Nat × Nat} (hs : s ∈ R) : ∀ p, p ∈ R → p ∈ walkS R R.length s := by
 obtain ⟨h1, h2, _⟩ := h.walk s hs
 exact subset_of_len h1 h2 (by rw [walkS_len]; exact Nat.le_refl _)
end Go.MagM
/- Going round a point of what the statements' Build has made: all triangles that have it come, each once. Pure. -/
namespace Go.MagM
/-- The points behind the k-th one. -/
def pairX (X : TriM) (k : Nat) : Int × Int := (X.v ((k + 1) % 3), X.v ((k + 2) % 3))
/-- Round, till the first one comes again. -/
def cutS (R : List (Nat × Nat)) (p0 : Nat × Nat) : Nat → Nat × Nat → List (Nat × Nat)
 | 0, _ => []
 | n + 1, p => p :: (if nextS R p = p0 then [] else cutS R p0 n (nextS R p))
theorem cutS_walk (R : List (Nat × Nat)) (p0 : Nat × Nat) : ∀ m n p, 1 ≤ m → m ≤ n → iterS R m p = p0 → (∀ j, 0 < j → j < m → iterS R j p ≠ p0) → cutS R p0 n p = walkS R m p
 | 0, _, _, h, _, _, _ => by omega
 | m + 1, 0, _, _, h, _, _ => by omega
 | m + 1, n + 1, p, _, hn, hi, hj => by
  rw [cutS, walkS]
  by_cases hm : m = 0
  ·subst hm
   have : nextS R p = p0 := hi
   rw [if_pos this]; rfl
  ·have h1 := hj 1 (by omega) (by omega)
   have h1' : nextS R p ≠ p0 := h1
   rw [if_neg h1', cutS_walk R p0 m n (nextS R p) (by omega) (by omega) hi (fun j h0 hlt => hj (j + 1) (by omega) (by omega))]
theorem walkS_get (R : List (Nat × Nat)) : ∀ n p j, j < n → (walkS R n p)[j]? = some (iterS R j p)
 | 0, _, _, h => by omega
 | n + 1, p, 0, _ => rfl
 | n + 1, p, j + 1, h => by
  rw [walkS, List.getElem?_cons_succ]
  exact walkS_get R n (nextS R p) j (by omega)
theorem Round.cut {R : List (Nat × Nat)} (h : Round R) {s : Nat × Nat} (hs : s ∈ R) {n : Nat} (hn : R.length ≤ n) : cutS R s n s = walkS R R.length s := by
 obtain ⟨h1, -, h3⟩ := h.walk s hs
 have hl : 1 ≤ R.length := List.length_pos_iff.2 (List.ne_nil_of_mem hs)
 refine cutS_walk R s R.length n s hl hn h3 fun j h0 hj e => ?_
 have e0 := walkS_get R R.length s 0 (by omega)
 have ej := walkS_get R R.length s j hj
 rw [e] at ej
 have := (List.getElem?_inj (by rw [walkS_len]; omega) h1).1 (e0.trans ej.symm)
 omega
section
variable {fa : Int → Int → Bool} {T : List (Nat × Nat × Nat)} {Bd : List (Nat × Nat)} {S : List TriM}
theorem Surf.points {V : List (Int × Int × Int)} (h : Surf fa V S) {t : Nat} {X : TriM} (hX : S[t]? = some X) : X.v1 ≠ X.v2 ∧ X.v2 ≠ X.v0 ∧ X.v0 ≠ X.v1 :=
 ⟨h.apart hX (i := 0) (by omega), h.apart hX (i := 1) (by omega), h.apart hX (i := 2) (by omega)⟩
theorem Surf.place {V : List (Int × Int × Int)} (h : Surf fa V S) {t k : Nat} {X : TriM} (hX : S[t]? = some X) (hk : k < 3) : placeT X (X.v k) = (k : Int) ∧ placeM S (t : Int) (X.v k) = (k : Int) := by
 obtain ⟨a, b, c⟩ := h.points hX
 have hp : placeT X (X.v k) = (k : Int) := by
  unfold placeT
  obtain rfl | rfl | rfl : k = 0 ∨ k = 1 ∨ k = 2 := by omega
  ·rw [show X.v 0 = X.v0 from rfl, if_pos rfl]; rfl
  ·rw [show X.v 1 = X.v1 from rfl, if_neg (fun e => c e.symm), if_pos rfl]; rfl
  ·rw [show X.v 2 = X.v2 from rfl, if_neg b, if_neg (fun e => a e.symm), if_pos rfl]; rfl
 refine ⟨hp, ?_⟩
 unfold placeM
 rw [getT_nat, hX]
 simp only []
 rw [(h.alive hX).2, hp]; simp
/-- The next one begins where this one ends. -/
theorem Surf.next {V : List (Int × Int × Int)} (h : Surf fa V S) {t k : Nat} {X : TriM} (hX : S[t]? = some X) (hk : k < 3) : ∃ (u l : Nat) (Y : TriM), S[u]? = some Y ∧ l < 3 ∧ Y.v l = X.v k ∧ (pairX Y l).1 = (pairX X k).2 ∧ stepM S (X.v k) (t : Int) = (u : Int) := by
 obtain ⟨u, j, Y, hY, hj, he, hn, -⟩ := h.other hX (i := (k + 1) % 3) (by omega)
 have e1 : edgeV X ((k + 1) % 3) = ((pairX X k).2, X.v k) := by
  obtain rfl | rfl | rfl : k = 0 ∨ k = 1 ∨ k = 2 := by omega
  all_goals rfl
 rw [e1] at he
 simp only [] at he
 refine ⟨u, (j + 1) % 3, Y, hY, by omega, ?_, ?_, ?_⟩
 ·obtain rfl | rfl | rfl : j = 0 ∨ j = 1 ∨ j = 2 := by omega
  all_goals exact congrArg Prod.fst he
 ·obtain rfl | rfl | rfl : j = 0 ∨ j = 1 ∨ j = 2 := by omega
  all_goals exact congrArg Prod.snd he
 ·unfold stepM
  rw [getT_nat, hX]
  simp only []
  rw [(h.place hX hk).1, Int.toNat_natCast, hn]
end
end Go.MagM
namespace Go.Proofs.Ytecnnpkpgbbfkaa
open Go.RowKit Go.MagM
end Go.Proofs.Ytecnnpkpgbbfkaa
/- mesh's Hull. Written by tools/mesh16.py. -/
namespace Go.Proofs.Ytecnnpkpgbbfkaa
open Go.RowKit Go.MagM Go.Shelf
theorem intCells_app (l k : List Int) : intCells (l ++ k) = intCells l ++ intCells k := by unfold intCells; rw [List.map_append]
theorem intCells_get {l : List Int} {j : Nat} {z : Int} (h : l[j]? = some z) : (intCells l)[j]? = some (.int .i64 z) := by unfold intCells; rw [List.getElem?_map, h]; rfl
theorem border_le (S : List TriM) : (borderM S).length ≤ S.length := by
 unfold borderM
 rw [List.length_reverse]
 unfold rimZ
 rw [List.length_map]
 exact walkM_len _ _ _ _ _
set_option maxRecDepth 100000 in
set_option maxHeartbeats 8000000 in
theorem Hull_any {mb pb pc : Nat} {ta : Option Addr} {tc : Nat} {P : List (Int × Int)} {S : List TriM} (w : World) (h : MeshR w mb pb pc ta tc P S) (hP0 : P ≠ []) (hne : borderM S ≠ []) :
  Calls Try.prog 10 #[.pointer (some ⟨mb, 0, none⟩)] w fun e w' => ∃ g c, e = .returned (.slice (some ⟨g, 0, none⟩) (borderM S).length c) ∧ Box w' g (intCells (hullL (borderM S))) ∧ w.heap.size ≤ g ∧ g < w'.heap.size ∧ Below w.heap.size w w' := by
 have hbo := border_room w h hP0 hne
 have hble := border_le S
 have hsh := h.short.2
 obtain ⟨L, hL⟩ : ∃ L, borderM S = L := ⟨_, rfl⟩
 rw [hL] at hbo hne hble ⊢
 obtain ⟨n, hn⟩ : ∃ n, L.length = n := ⟨_, rfl⟩
 rw [hn] at hbo hble
 have h0 : 0 < n := by
  rw [← hn]
  exact List.length_pos_iff.2 hne
 have h9 : n ≤ 1000000 := by omega
 have HBO := Lib.hid hbo; have HN := Lib.hid hn; have HN9 := Lib.hid h9
 obtain ⟨k, hk, hkn⟩ := idxZ_mem (minZ_mem (zs := L) (by omega) L.length (Nat.le_refl _))
 have hhl : hullL L = L.drop k ++ L.take k := by unfold hullL; rw [hk, Int.toNat_natCast]
 rw [hn] at hk hkn ⊢
 rw [hhl]
 have HK := Lib.hid hk
 clear hbo hn h9 hne hble hsh hL h hP0 hhl hk
 have e0 : ((n : Int) == 0) = false := by simp; omega
 have e00 : (n == 0) = false := by simp; omega
 go_enter Try.func10, Try.ntmps10
 go_wp2_with fail
 refine HBO.out.mono ?_
 rintro e w1 ⟨g, c, rfl, hcap, hbx, hg1, hg2, hb1⟩
 have hcz : ∀ j v, L[j]? = some v → w1.cell? ⟨g, j, none⟩ = some (.int .i64 v) := fun j v hj => hbx.c j _ (intCells_get hj)
 have HMI := Lib.hid (minI_any g n c L w1 HN.out h0 HN9.out hcz)
 have HIX := Lib.hid (index_any g 0 n c L (minZ L n) w1 HN.out HN9.out (fun j v hj => by rw [Nat.zero_add]; exact hcz j v hj))
 rw [HK.out] at HIX
 have HC1 := Lib.hid (show ∀ j u, (intCells (L.drop k))[j]? = some u → w1.cell? ((⟨g, k, none⟩ : Addr).add j) = some u from fun j u hj => by
  rw [addr_add]
  unfold intCells at hj
  rw [List.getElem?_map, List.getElem?_drop] at hj
  cases hz : L[k + j]? with
  | none => rw [hz] at hj; cases hj
  | some z => rw [hz] at hj; simp at hj; subst hj; exact hcz _ _ hz)
 have HC2 := Lib.hid (show ∀ j u, (intCells (L.take k))[j]? = some u → w1.cell? ((⟨g, 0, none⟩ : Addr).add j) = some u from fun j u hj => by
  rw [addr_add, Nat.zero_add]
  unfold intCells at hj
  rw [List.getElem?_map, List.getElem?_take] at hj
  split at hj
  ·cases hz : L[j]? with
   | none => rw [hz] at hj; cases hj
   | some z => rw [hz] at hj; simp at hj; subst hj; exact hcz _ _ hz
  ·cases hj)
 have HB1 := Lib.hid hb1; have HGL := Lib.hid hg2; have HG1 := Lib.hid hg1
 have s1 : ∀ w : World, (Instr.slice 38 (.slice (some ⟨g, 0, none⟩) n c) (some (.int .i64 (k : Int))) none none).run Try.prog w = .ok (.slice (some ⟨g, k, none⟩) (n - k) (c - k)) w := by
  intro w
  have h3 : ¬ c = k := by omega
  have h4 : k ≤ n := by omega
  simp [Instr.slice, Instr.sliceBounds, Instr.sliceBound, go_sem, h3, h4, Addr.add]
  exact fun h => h.symm
 have s2 : ∀ w : World, (Instr.slice 38 (.slice (some ⟨g, 0, none⟩) n c) none (some (.int .i64 (k : Int))) none).run Try.prog w = .ok (.slice (some ⟨g, 0, none⟩) k c) w := by
  intro w
  have h2 : ¬ c < k := by omega
  simp [Instr.slice, Instr.sliceBounds, Instr.sliceBound, go_sem, h2, Addr.add]
 clear hbx hcz hb1 hg1 hg2
 go_wp2_with fail
 refine HMI.out.mono ?_
 rintro e w' ⟨rfl, rfl⟩
 go_wp2_with fail
 refine HIX.out.mono ?_
 rintro e w' ⟨rfl, rfl⟩
 go_wp2
 refine wp_region_noPanic ?_
 refine wp_region_held_drew (S := fun w' => True) (by kernel_rfl) (trivial) (fun hHeld => ?_)
 refine rU 0 _ _ ?_
 (try simp only [Act.put]);try simp only [sA,sZ,sS]
 refine rU 1 _ _ ?_
 (try simp only [Act.put]);try simp only [sA,sZ,sS]
 refine rU 2 _ _ ?_
 (try simp only [Act.put]);try simp only [sA,sZ,sS]
 refine rU 3 _ _ ?_
 (try simp only [Act.put]);try simp only [sA,sZ,sS]
 refine rU 4 _ _ ?_
 (try simp only [Act.put]);try simp only [sA,sZ,sS]
 refine rU 5 _ _ ?_
 (try simp only [Act.put]);try simp only [sA,sZ,sS]
 refine reg_call 6 ?_ (by kernel_rfl) ?_ (fun K hK => ?_);rotate_left 1
 ·simp only [gA,gS,gZ]; exact rfl
 obtain ⟨w3, hw3, pz, hb3, hs3⟩ := new_box w1.drew _ rfl [.slice (some ⟨g, k, none⟩) (n - k) (c - k), .slice (some ⟨g, 0, none⟩) k c] 38
 go_simp
 try rw [hw3]
 refine hK.out _ _ (trivial) (fun hHeld => ?_)
 clear hK K
 (try simp only [Act.put]);try simp only [sA,sZ,sS]
 refine reg_call 7 ?_ (by kernel_rfl) ?_ (fun K hK => ?_);rotate_left 1
 ·simp only [gA,gS,gZ]; exact rfl
 have hb13 := ((Below.refl w1.heap.size w1).drew').trans (hb3.mono (Nat.le_refl _))
 have HCO := Lib.hid (concatI_any w1.drew.heap.size 2 (n - k) (c - k) k c ⟨g, k, none⟩ ⟨g, 0, none⟩ (intCells (L.drop k)) (intCells (L.take k)) w3 (by omega) (by have := HN9.out; omega) (by rw [intCells_len, List.length_drop, HN.out]) (by rw [intCells_len, List.length_take, HN.out]; omega) pz (fun j u hj => by have h1 := HC1.out j u hj; rw [addr_add] at h1 ⊢; exact (hb13.cell (p := ⟨g, k + j, none⟩) HGL.out).trans h1) (fun j u hj => by have h1 := HC2.out j u hj; rw [addr_add] at h1 ⊢; exact (hb13.cell (p := ⟨g, 0 + j, none⟩) HGL.out).trans h1) (fun u hu => by rcases List.mem_append.1 hu with h | h <;> (unfold intCells at h; obtain ⟨z, -, rfl⟩ := List.mem_map.1 h; exact ⟨z, rfl⟩)))
 go_simp
 refine HCO.out.mono ?_
 rintro e w4 ⟨g4, c4, rfl, hrow, hb4⟩
 have hb14 := hb13.trans (hb4.mono hb13.size)
 have FIN := Lib.hid (And.intro hrow (And.intro hb4.size (HB1.out.trans (hb14.mono HB1.out.size))))
 have HSZ := Lib.hid hb13.size
 clear hrow hb4 hb14 hb13
 go_wp2_with fail
 refine hK.out _ _ (trivial) (fun hHeld => ?_)
 clear hK K
 (try simp only [Act.put]);try simp only [sA,sZ,sS]
 refine rU 8 _ _ ?_
 (try simp only [Act.put]);try simp only [sA,sZ,sS]
 refine wpAnyH_done (by kernel_rfl) ?_ _
 refine NoPanic.normal ?_
 go_wp2
 go_ret
 have hrow := FIN.out.1
 have hlt := hrow.lt g4 rfl
 have hsz := HSZ.out
 have hb1s := HB1.out.size
 rw [show n - k + k = n by omega, ← intCells_app] at hrow
 have hbx := owns_box hrow.own
 refine ⟨g4, c4, ?_, hbx, by omega, hlt.2, FIN.out.2.2⟩
 rw [show n - k + k = n by omega]; rfl
end Go.Proofs.Ytecnnpkpgbbfkaa
/- What one triangle's mesh has; what a range keeps. -/
namespace Go.MagM
open Go.RowKit Go.Shelf
theorem range_start9 {F : Fence} {n : Nat} {P : Program} {g : Operand} {ps : Array Tmp} {assign body : Code} {Q : Exit → Act → World → Prop} {a : Act} {w : World} (h : ∀ a0, a0 = a → (Code.rangeFunc g ps assign body).wpIn F n P Q a0 w) : (Code.rangeFunc g ps assign body).wpIn F n P Q a w := h a rfl
theorem keepB_set9 {Pb : Nat → Prop} {A B : World} (h : KeepB Pb A B) {g i : Nat} (hg : ¬ Pb g) (v : Value) : KeepB Pb A (B.setCell ⟨g, i, none⟩ v) := fun b hb => by
  rw [heap_set_far _ _ _ _ _ (fun e => hg (by rw [← e]; exact hb))]; exact h b hb
section
variable {a b c : Nat}
end
end Go.MagM
/- Going round a point: what MeshArounds' range remembers; marks of ranges that a loop leaves. -/
namespace Go.MagM
open Go.RowKit Go.Shelf
/-- Marks that a loop's ranges have left: their blocks, shut no more than once each. -/
inductive MarksOk (W : World) : List Deferred → Prop
 | nil : MarksOk W []
 | cons {r : Nat} {ds : List Deferred} (h : W.heap[r]? = some (.deferred (some []))) (hn : ∀ d, d ∈ ds → d.target ≠ .collected r) (t : MarksOk W ds) : MarksOk W ({ target := .collected r, args := #[] } :: ds)
theorem MarksOk.keep {W W' : World} {ds : List Deferred} (h : MarksOk W ds) (hb : Below W.heap.size W W') : MarksOk W' ds := by
 induction h with
 | nil => exact .nil
 | cons h hn t ih => exact .cons ((hb.block _ (Array.getElem?_eq_some_iff.1 h).1).trans h) hn ih
theorem MarksOk.old {W : World} {ds : List Deferred} (h : MarksOk W ds) {r : Nat} (hr : W.heap.size ≤ r) : ∀ d, d ∈ ds → d.target ≠ .collected r := by
 induction h with
 | nil => intro d hd; cases hd
 | cons h hn t ih =>
  intro d hd
  rcases List.mem_cons.1 hd with rfl | hd
  ·intro e
   have := (Array.getElem?_eq_some_iff.1 h).1
   simp only [Target.collected.injEq] at e
   omega
  ·exact ih d hd
theorem MarksOk.put {W : World} {ds : List Deferred} {r : Nat} (h : MarksOk W ds) (hn : ∀ d, d ∈ ds → d.target ≠ .collected r) (o : Obj) : MarksOk (W.putObj r o) ds := by
 induction h with
 | nil => exact .nil
 | @cons r2 ds h hn2 t ih =>
  refine .cons ((World.putObj_heap_other (fun e => ?_)).trans h) hn2 (ih fun d hd => hn d (List.mem_cons_of_mem _ hd))
  exact hn _ (List.mem_cons_self ..) (by rw [e])
end Go.MagM
/- Around, for a range over it; what a function leaves whose loop has left marks. -/
namespace Go.MagM
open Go.RowKit Go.Shelf
theorem leaves_marks {F : Fence} {n : Nat} {P : Program} {fn : Func} {tmps : Array Value} {R : Ending → World → Prop} : ∀ (ds : List Deferred) (W : World), MarksOk W ds →
  (∀ W' : World, W'.os = W.os → W'.tape = W.tape → W'.output = W.output → W'.heap.size = W.heap.size → (∀ k, (∀ d, d ∈ ds → d.target ≠ .collected k) → W'.heap[k]? = W.heap[k]?) → LeavesInM F n P fn tmps R [] .returning W') →
  LeavesInM F n P fn tmps R ds .returning W
 | [], W, _, h => h W rfl rfl rfl rfl (fun _ _ => rfl)
 | d :: ds, W, hm, h => by
  cases hm with
  | @cons r _ hr hn t =>
   refine ⟨by simp, .inl ⟨_, _, rfl, run_takeDeferred hr, ?_⟩⟩
   refine leaves_marks ds _ (t.put hn _) (fun W' e1 e2 e3 e4 e5 => h W' e1 e2 e3 (by rw [e4]; simp [World.putObj]) (fun k hk => ?_))
   refine (e5 k fun d hd => hk d (List.mem_cons_of_mem _ hd)).trans (World.putObj_heap_other (fun e => ?_))
   exact hk _ (List.mem_cons_self ..) (by rw [e])
end Go.MagM
namespace Go.Proofs.Ytecnnpkpgbbfkaa
open Go.RowKit Go.MagM Go.Shelf
attribute [local go_sem] Oper.semAt_some
end Go.Proofs.Ytecnnpkpgbbfkaa
