/- The statements' Grid, 2 by 2. -/
import Derived.Test.YtnabdopnlinklaaGreatParth
import Derived.Test.YtnabdopnlinklaaGreatPartr
import Derived.Test.YtnabdopnlinklaaGreatParts
import Derived.Test.YtnabdopnlinklaaGreatPartq
import Derived.Test.YtnabdopnlinklaaGreatPartm
import Derived.Test.YtnabdopnlinklaaGreatPartp
import Derived.RangeFuncNested
import Derived.RangeFuncBound
import Derived.RangeFuncCalls
import Derived.RangeFuncLeaves
import Derived.Test.YtnabdopnlinklaaGreatPartg
import Derived.WalkMore
namespace Go.Proofs.YtnabdopnlinklaaGreat
open Go.RowKit Go.MagM
set_option maxRecDepth 100000 in
set_option maxHeartbeats 16000000 in
theorem Grid22_any (w0 h0 b f : Int) (bn : Nat) (hbn : bn < 16) (e1 : bits .and .i64 w0 1 = 1) (e2 : bits .and .i64 h0 1 = 1) (hbit : ∀ k : Nat, k < 4 → bitB b k = bn.testBit k) (w : World) :
  Calls Tryz.prog 34 #[.int .i64 w0, .int .i64 h0, .int .u32 b, .int .u32 f] w fun e w' => ∃ (mb g c : Nat) (F : Int → Int → Bool), e = .returned (.tuple #[.pointer (some ⟨mb, 0, none⟩), .slice (some ⟨g, 0, none⟩) 8 c]) ∧ BuildEnd 24 37 F w.heap.size (gridP 2 2) (gridT 2 2 bn) mb w' ∧ TrIn w' g ((gridT 2 2 bn).map realV) ∧ w.heap.size ≤ g ∧ Below w.heap.size w w' := by
 have ok := grid_ok (w := 2) (h := 2) (by omega) (by omega) hbn
 have hm := grid_has (w := 2) (h := 2) (by omega) (by omega) hbn
 have hps : InPs (gridP 2 2) := grid_inPs (by omega) (by omega)
 have OK := Lib.hid ok; have HM := Lib.hid hm; have HPS := Lib.hid hps; have HBIT := Lib.hid hbit
 clear ok hm hps hbit
 obtain ⟨i0, hi, hz0, hz1, hz2⟩ := info_parts infoPt
 have HI := Lib.hid hi; have HZ0 := Lib.hid hz0; have HZ1 := Lib.hid hz1; have HZ2 := Lib.hid hz2
 obtain ⟨j0, hj, hy0, hy1, hy2⟩ := info_parts infoE3
 have HJ := Lib.hid hj; have HY0 := Lib.hid hy0; have HY1 := Lib.hid hy1; have HY2 := Lib.hid hy2
 clear hi hz0 hz1 hz2 hj hy0 hy1 hy2
 obtain ⟨w1, hw1, pw0, hB1, hs1⟩ := new_box w _ rfl [.int .i64 w0] 3
 have sc := pw0.c 0 _ rfl; have sf := pw0.f 0 _ rfl
 obtain ⟨w2, hw2⟩ : ∃ w2, w1.setCell ⟨w.heap.size, 0, none⟩ (.int .i64 2) = w2 := ⟨_, rfl⟩
 have pw2 : Box w2 w.heap.size [.int .i64 2] := by rw [← hw2]; exact pw0.set 0 (.int .i64 2)
 have hB2 : Below w.heap.size w w2 := by rw [← hw2]; exact hB1.setCell (p := ⟨w.heap.size, 0, none⟩) (by simp only []; omega) _
 have hz2 : w.heap.size + 1 ≤ w2.heap.size := by have := pw2.lt; omega
 have PW2 := Lib.hid pw2; have HB2 := Lib.hid hB2; have HZS := Lib.hid hz2
 clear pw0 hB1 hs1 pw2 hB2 hz2
 go_enter Tryz.func34, Tryz.ntmps34
 go_wp2
 clear sc sf hw1 hw2
 go_loopw [10, 11, 12, 35] (fun pv _ _ iv wr => ∃ (y : Nat) (vv : Value), y ≤ 3 ∧ iv = .int .i64 (y : Int) ∧ vv = pv ∧ RowN wr (w.heap.size + 1) 24 2 vv (y * 3) (ptsCells ((gridP 2 2).take (y * 3))) ∧ Box wr w.heap.size [.int .i64 2] ∧ Below w.heap.size w wr ∧ w.heap.size + 1 ≤ wr.heap.size) (fun _ _ _ iv _ => 3 - (intOf iv).toNat)
 case atStart => exact ⟨0, _, Nat.zero_le _, rfl, rfl, RowN.nil _ _ _ _, PW2.out, HB2.out, HZS.out⟩
 case round =>
  obtain ⟨y, vv, hy, rfl, rfl, hrow, hbx, hbw, hsz⟩ := hrel
  by_cases hlt : y < 3
  ·have hyd : decide ((y : Int) < 3) = true := decide_eq_true (by omega)
   have cw := hbx.c 0 _ rfl
   have HROW := Lib.hid hrow; have HBX := Lib.hid hbx; have HBW := Lib.hid hbw; have HSZ := Lib.hid hsz
   clear hrow hbx hbw hsz
   go_wp2
   clear cw
   go_loopw [10, 12, 40] (fun pv _ iv wr => ∃ (x : Nat) (vv : Value), x ≤ 3 ∧ iv = .int .i64 (x : Int) ∧ vv = pv ∧ RowN wr (w.heap.size + 1) 24 2 vv (y * 3 + x) (ptsCells ((gridP 2 2).take (y * 3 + x))) ∧ Box wr w.heap.size [.int .i64 2] ∧ Below w.heap.size w wr ∧ w.heap.size + 1 ≤ wr.heap.size) (fun _ _ iv _ => 3 - (intOf iv).toNat)
   case atStart => exact ⟨0, _, Nat.zero_le _, rfl, rfl, HROW.out, HBX.out, HBW.out, HSZ.out⟩
   case round =>
    obtain ⟨x, vv, hx, rfl, rfl, hrow, hbx, hbw, hsz⟩ := hrel
    by_cases hlx : x < 3
    ·have hel := gridP_at (w := 2) (h := 2) (by omega) (by omega) (x := x) (y := y) (by omega) (by omega)
     have hx2 : IntKind.i64.wrap (2 * (x : Int)) = 2 * (x : Int) := by rw [IntKind.wrap_i64]; omega
     have hy2 : IntKind.i64.wrap (2 * (y : Int)) = 2 * (y : Int) := by rw [IntKind.wrap_i64]; omega
     obtain ⟨w3, hw3, hpn, hb3, hs3⟩ := new_box wr _ rfl [.int .i64 (2 * (x : Int)), .int .i64 (2 * (y : Int))] 24
     have hrow3 := hrow.below hb3
     have hbx3 := hbx.below hb3
     have hbw3 := hbw.trans (hb3.mono hbw.size)
     obtain ⟨v1, w4, hrun, rown, hgrow, hkept⟩ := run_append_row (P := Tryz.prog) w3 (w.heap.size + 1) 38 38 24 i0 (.agg #[.int .i64 0, .int .i64 0]) 2 16 (by kernel_rfl) HI.out HZ0.out HZ1.out HZ2.out rfl (noWordI2 _ _) _ (y * 3 + x) _ hrow3 ⟨wr.heap.size, 0, none⟩ 1 1 [.int .i64 (2 * (x : Int)), .int .i64 (2 * (y : Int))] (by omega) rfl hpn.news (by intro u hu; simp at hu; rcases hu with rfl | rfl <;> rfl) (noWordI2 _ _) (by unfold maxLen; omega) (by omega) (by omega)
     have hne : ∀ k, vv.ownBlock = some k → w.heap.size + 1 ≤ k := fun k hk => (hrow3.lt k hk).1
     have hbx4 := hbx3.grown hgrow (fun e => by have := hne _ e; omega) hbx3.lt
     have hbw4 : Below w.heap.size w w4 := hbw3.grown hgrow (by omega) (fun k hk => by have := hne k hk; omega)
     have htk : ptsCells ((gridP 2 2).take (y * 3 + x)) ++ [.int .i64 (2 * (x : Int)), .int .i64 (2 * (y : Int))] = ptsCells ((gridP 2 2).take (y * 3 + (x + 1))) := by
      rw [← Nat.add_assoc, List.take_add_one, hel, ptsCells_app]; rfl
     rw [htk] at rown
     have FIN := Lib.hid (And.intro rown (And.intro hbx4 (And.intro hbw4 (show w.heap.size + 1 ≤ w4.heap.size by have := hgrow.size; omega))))
     clear hrow hbx hbw hsz hpn hb3 hs3 hrow3 hbx3 hbw3 rown hgrow hkept hne hbx4 hbw4 htk hel
     go_wp2_with (refine wpList_append_row rfl _ _ 38 rfl rfl rfl hrun ?_)
     have FI := FIN.out
     exact ⟨⟨x + 1, _, by omega, by go_num, rfl, FI.1, FI.2.1, FI.2.2.1, FI.2.2.2⟩, by simp [intOf]; omega⟩
    ·obtain rfl : x = 3 := by omega
     have FIN := Lib.hid (And.intro hrow (And.intro hbx (And.intro hbw hsz)))
     clear hrow hbx hbw hsz
     go_wp2
     have FI := FIN.out
     have hrow := FI.1
     rw [show y * 3 + 3 = (y + 1) * 3 by omega] at hrow
     exact ⟨⟨y + 1, _, by omega, by go_num, rfl, hrow, FI.2.1, FI.2.2.1, FI.2.2.2⟩, by simp [intOf]; omega⟩
  ·obtain rfl : y = 3 := by omega
   have hpt : (gridP 2 2).take (3 * 3) = gridP 2 2 := rfl
   rw [hpt] at hrow
   obtain ⟨gp, gpc, hvv⟩ : ∃ g c, vv = .slice (some ⟨g, 0, none⟩) 9 c := by
    rcases hrow.2 with ⟨h1, h2⟩ | ⟨g, cap, cur, h1, h2, h3⟩
    ·omega
    ·exact ⟨g, cap, h1⟩
   subst hvv
   have hpl := hrow.lt gp rfl
   obtain ⟨w5, hw5⟩ : ∃ w5, w5 = wr := ⟨_, rfl⟩
   rw [← hw5] at hrow hbx hbw hsz hpl
   rw [← hw5]
   have HROW := Lib.hid hrow; have HBX := Lib.hid hbx; have HBW := Lib.hid hbw; have HSZ := Lib.hid hsz; have HPL := Lib.hid hpl
   clear hrow hbx hbw hsz hpl hw5
   go_wp2
   go_loopw [13, 15, 16, 17, 18, 19, 20, 21, 55] (fun tv kv _ _ _ _ _ _ iv wr => ∃ (y : Nat) (vv : Value), y ≤ 2 ∧ iv = .int .i64 (y : Int) ∧ kv = .int .i64 ((y * 2 : Nat) : Int) ∧ vv = tv ∧ RowN wr w5.heap.size 34 3 vv (2 * (y * 2)) (tr3Cells ((gridT 2 2 bn).take (2 * (y * 2)))) ∧ Below w5.heap.size w5 wr) (fun _ _ _ _ _ _ _ _ iv _ => 2 - (intOf iv).toNat)
   case atStart => exact ⟨0, _, Nat.zero_le _, rfl, rfl, rfl, RowN.nil _ _ _ _, Below.refl _ _⟩
   case round =>
    obtain ⟨y, vv, hy, rfl, rfl, rfl, hrow, hbw⟩ := hrel
    by_cases hlt : y < 2
    ·have hyd : decide ((y : Int) < 2) = true := decide_eq_true (by omega)
     have cw := (HBX.out.below hbw).c 0 _ rfl
     have HRW := Lib.hid hrow; have HBZ := Lib.hid hbw
     clear hrow hbw
     go_wp2
     clear cw
     go_loopw [13, 15, 17, 18, 19, 20, 21, 59] (fun tv kv _ _ _ _ _ iv wr => ∃ (x : Nat) (vv : Value), x ≤ 2 ∧ iv = .int .i64 (x : Int) ∧ kv = .int .i64 ((y * 2 + x : Nat) : Int) ∧ vv = tv ∧ RowN wr w5.heap.size 34 3 vv (2 * (y * 2 + x)) (tr3Cells ((gridT 2 2 bn).take (2 * (y * 2 + x)))) ∧ Below w5.heap.size w5 wr) (fun _ _ _ _ _ _ _ iv _ => 2 - (intOf iv).toNat)
     case atStart => exact ⟨0, _, Nat.zero_le _, rfl, by rw [Nat.add_zero], rfl, HRW.out, HBZ.out⟩
     case round =>
      obtain ⟨x, vv, hx, rfl, rfl, rfl, hrow, hbw⟩ := hrel
      by_cases hlx : x < 2
      ·have cw := (HBX.out.below hbw).c 0 _ rfl
       have hev := HM.out.even y x hlt hlx
       have hod := HM.out.odd y x hlt hlx
       have hbt := HBIT.out (y * 2 + x) (by omega)
       obtain ⟨q, hq⟩ : ∃ q, bn.testBit (y * 2 + x) = q := ⟨_, rfl⟩
       rw [hq] at hev hod hbt
       have a0 := gridNo_any w.heap.size 2 x y wr (by omega) (by omega) (by omega) cw ((y : Int) * 3 + (x : Int)) (by omega)
       have a1 := gridNo_any w.heap.size 2 (x + 1) y wr (by omega) (by omega) (by omega) cw ((y : Int) * 3 + ((x : Int) + 1)) (by omega)
       have a2 := gridNo_any w.heap.size 2 (x + 1) (y + 1) wr (by omega) (by omega) (by omega) cw (((y : Int) + 1) * 3 + ((x : Int) + 1)) (by omega)
       have a3 := gridNo_any w.heap.size 2 x (y + 1) wr (by omega) (by omega) (by omega) cw (((y : Int) + 1) * 3 + (x : Int)) (by omega)
       rw [show (((x + 1 : Nat)) : Int) = (x : Int) + 1 by omega] at a1 a2
       rw [show (((y + 1 : Nat)) : Int) = (y : Int) + 1 by omega] at a2 a3
       obtain ⟨ca, hca⟩ : ∃ c : Int, (y : Int) * 3 + (x : Int) = c := ⟨_, rfl⟩
       obtain ⟨cb, hcb⟩ : ∃ c : Int, (y : Int) * 3 + ((x : Int) + 1) = c := ⟨_, rfl⟩
       obtain ⟨cc, hcc⟩ : ∃ c : Int, ((y : Int) + 1) * 3 + ((x : Int) + 1) = c := ⟨_, rfl⟩
       obtain ⟨cd, hcd⟩ : ∃ c : Int, ((y : Int) + 1) * 3 + (x : Int) = c := ⟨_, rfl⟩
       rw [hca] at a0; rw [hcb] at a1; rw [hcc] at a2; rw [hcd] at a3
       have C0 := Lib.hid a0; have C1 := Lib.hid a1; have C2 := Lib.hid a2; have C3 := Lib.hid a3
       have HEV := Lib.hid hev; have HOD := Lib.hid hod; have HBT := Lib.hid hbt; have HRW2 := Lib.hid hrow; have HBZ2 := Lib.hid hbw
       have HCA := Lib.hid hca; have HCB := Lib.hid hcb; have HCC := Lib.hid hcc; have HCD := Lib.hid hcd
       obtain ⟨kk, hkk⟩ : ∃ kk : Nat, y * 2 + x = kk := ⟨_, rfl⟩
       have hkk4 : kk < 4 := by omega
       rw [hkk] at hbt
       unfold bitB at hbt
       have na : (((y * 3 + x : Nat)) : Int) = ca := by omega
       have nb : (((y * 3 + (x + 1) : Nat)) : Int) = cb := by omega
       have nc : ((((y + 1) * 3 + (x + 1) : Nat)) : Int) = cc := by omega
       have nd : ((((y + 1) * 3 + x : Nat)) : Int) = cd := by omega
       have HKK := Lib.hid hkk
       rw [hkk]
       have HNA := Lib.hid (And.intro na (And.intro nb (And.intro nc nd)))
       clear a0 a1 a2 a3 hev hod hrow hbw hca hcb hcc hcd cw hkk na nb nc nd hq
       cases q
       ·have hev' : (gridT 2 2 bn)[2 * (y * 2 + x)]? = some (y * 3 + (x + 1), (y + 1) * 3 + x, y * 3 + x) := HEV.out
        have hod' : (gridT 2 2 bn)[2 * (y * 2 + x) + 1]? = some ((y + 1) * 3 + x, y * 3 + (x + 1), (y + 1) * 3 + (x + 1)) := HOD.out
        have HEV' := Lib.hid hev'; have HOD' := Lib.hid hod'
        clear hev' hod'
        go_wp2_with fail
        refine C0.out.mono ?_
        rintro e w6 ⟨rfl, rfl⟩
        go_wp2_with fail
        refine C1.out.mono ?_
        rintro e w6 ⟨rfl, rfl⟩
        go_wp2_with fail
        refine C2.out.mono ?_
        rintro e w6 ⟨rfl, rfl⟩
        go_wp2_with fail
        refine C3.out.mono ?_
        rintro e w6 ⟨rfl, rfl⟩
        obtain ⟨w6, hw6, hpn, hb6, hs6⟩ := new_box wr _ rfl [.int .i64 cb, .int .i64 cd, .int .i64 ca, .int .i64 cd, .int .i64 cb, .int .i64 cc] 34
        have hrow6 := HRW2.out.below hb6
        have hbw6 := HBZ2.out.trans (hb6.mono HBZ2.out.size)
        obtain ⟨v1, w7, hrun, rown, hgrow, hkept⟩ := run_append_row (P := Tryz.prog) w6 w5.heap.size 78 78 34 j0 (.agg #[.int .i64 0, .int .i64 0, .int .i64 0]) 3 24 (by kernel_rfl) HJ.out HY0.out HY1.out HY2.out rfl (noWordI3 _ _ _) _ (2 * (y * 2 + x)) _ hrow6 ⟨wr.heap.size, 0, none⟩ 2 2 [.int .i64 cb, .int .i64 cd, .int .i64 ca, .int .i64 cd, .int .i64 cb, .int .i64 cc] (by omega) rfl hpn.news (by intro u hu; simp at hu; rcases hu with rfl | rfl | rfl | rfl | rfl | rfl <;> rfl) (noWordI6 _ _ _ _ _ _) (by unfold maxLen; omega) (by omega) (by have := hbw6.size; omega)
        have hbw7 : Below w5.heap.size w5 w7 := hbw6.grown hgrow (by have := hbw6.size; omega) (fun k hk => (hrow6.lt k hk).1)
        have htk : tr3Cells ((gridT 2 2 bn).take (2 * (y * 2 + x))) ++ [.int .i64 cb, .int .i64 cd, .int .i64 ca, .int .i64 cd, .int .i64 cb, .int .i64 cc] = tr3Cells ((gridT 2 2 bn).take (2 * (y * 2 + (x + 1)))) := by
         obtain ⟨na, nb, nc, nd⟩ := HNA.out
         rw [show 2 * (y * 2 + (x + 1)) = 2 * (y * 2 + x) + 1 + 1 by omega, List.take_add_one, List.take_add_one, HEV'.out, HOD'.out, tr3_app, tr3_app, List.append_assoc]
         simp only [Option.toList_some, tr3Cells, na, nb, nc, nd, List.cons_append, List.nil_append]
        rw [htk, show 2 * (y * 2 + x) + 2 = 2 * (y * 2 + (x + 1)) by omega] at rown
        have FIN := Lib.hid (And.intro rown hbw7)
        clear hpn hb6 hs6 hrow6 hbw6 rown hgrow hkept hbw7 htk
        go_wp2_with (refine wpList_append_row rfl _ _ 78 rfl rfl rfl hrun ?_)
        have hkk := HKK.out
        refine ⟨⟨_, _, _, _, _, _, _, _, _, _, _, _, _, _, _, _, _, _, _, _, _, _, _, _, _, _, _, _, _, _, _, _, _, _, _, _, _, _, _, _, _, _, _, _, _, _, _, _, _, _, _, _, _, _, _, _, _, _, _, _, ?_, rfl⟩, by simp [intOf]; omega⟩
        exact ⟨x + 1, _, by omega, by go_num, congrArg (Value.int .i64) (by omega), rfl, FIN.out.1, FIN.out.2⟩
       ·have hev' : (gridT 2 2 bn)[2 * (y * 2 + x)]? = some (y * 3 + x, y * 3 + (x + 1), (y + 1) * 3 + (x + 1)) := HEV.out
        have hod' : (gridT 2 2 bn)[2 * (y * 2 + x) + 1]? = some ((y + 1) * 3 + (x + 1), (y + 1) * 3 + x, y * 3 + x) := HOD.out
        have HEV' := Lib.hid hev'; have HOD' := Lib.hid hod'
        clear hev' hod'
        go_wp2_with fail
        refine C0.out.mono ?_
        rintro e w6 ⟨rfl, rfl⟩
        go_wp2_with fail
        refine C1.out.mono ?_
        rintro e w6 ⟨rfl, rfl⟩
        go_wp2_with fail
        refine C2.out.mono ?_
        rintro e w6 ⟨rfl, rfl⟩
        go_wp2_with fail
        refine C3.out.mono ?_
        rintro e w6 ⟨rfl, rfl⟩
        obtain ⟨w6, hw6, hpn, hb6, hs6⟩ := new_box wr _ rfl [.int .i64 ca, .int .i64 cb, .int .i64 cc, .int .i64 cc, .int .i64 cd, .int .i64 ca] 34
        have hrow6 := HRW2.out.below hb6
        have hbw6 := HBZ2.out.trans (hb6.mono HBZ2.out.size)
        obtain ⟨v1, w7, hrun, rown, hgrow, hkept⟩ := run_append_row (P := Tryz.prog) w6 w5.heap.size 78 78 34 j0 (.agg #[.int .i64 0, .int .i64 0, .int .i64 0]) 3 24 (by kernel_rfl) HJ.out HY0.out HY1.out HY2.out rfl (noWordI3 _ _ _) _ (2 * (y * 2 + x)) _ hrow6 ⟨wr.heap.size, 0, none⟩ 2 2 [.int .i64 ca, .int .i64 cb, .int .i64 cc, .int .i64 cc, .int .i64 cd, .int .i64 ca] (by omega) rfl hpn.news (by intro u hu; simp at hu; rcases hu with rfl | rfl | rfl | rfl | rfl | rfl <;> rfl) (noWordI6 _ _ _ _ _ _) (by unfold maxLen; omega) (by omega) (by have := hbw6.size; omega)
        have hbw7 : Below w5.heap.size w5 w7 := hbw6.grown hgrow (by have := hbw6.size; omega) (fun k hk => (hrow6.lt k hk).1)
        have htk : tr3Cells ((gridT 2 2 bn).take (2 * (y * 2 + x))) ++ [.int .i64 ca, .int .i64 cb, .int .i64 cc, .int .i64 cc, .int .i64 cd, .int .i64 ca] = tr3Cells ((gridT 2 2 bn).take (2 * (y * 2 + (x + 1)))) := by
         obtain ⟨na, nb, nc, nd⟩ := HNA.out
         rw [show 2 * (y * 2 + (x + 1)) = 2 * (y * 2 + x) + 1 + 1 by omega, List.take_add_one, List.take_add_one, HEV'.out, HOD'.out, tr3_app, tr3_app, List.append_assoc]
         simp only [Option.toList_some, tr3Cells, na, nb, nc, nd, List.cons_append, List.nil_append]
        rw [htk, show 2 * (y * 2 + x) + 2 = 2 * (y * 2 + (x + 1)) by omega] at rown
        have FIN := Lib.hid (And.intro rown hbw7)
        clear hpn hb6 hs6 hrow6 hbw6 rown hgrow hkept hbw7 htk
        go_wp2_with (refine wpList_append_row rfl _ _ 78 rfl rfl rfl hrun ?_)
        have hkk := HKK.out
        refine ⟨⟨_, _, _, _, _, _, _, _, _, _, _, _, _, _, _, _, _, _, _, _, _, _, _, _, _, _, _, _, _, _, _, _, _, _, _, _, _, _, _, _, _, _, _, _, _, _, _, _, _, _, _, _, _, _, _, _, _, _, _, _, ?_, rfl⟩, by simp [intOf]; omega⟩
        exact ⟨x + 1, _, by omega, by go_num, congrArg (Value.int .i64) (by omega), rfl, FIN.out.1, FIN.out.2⟩
      ·obtain rfl : x = 2 := by omega
       have FIN := Lib.hid (And.intro hrow hbw)
       clear hrow hbw
       go_wp2
       have hrow := FIN.out.1
       rw [show y * 2 + 2 = (y + 1) * 2 by omega] at hrow
       exact ⟨⟨y + 1, _, by omega, by go_num, congrArg (Value.int .i64) (by omega), rfl, hrow, FIN.out.2⟩, by simp [intOf]; omega⟩
    ·obtain rfl : y = 2 := by omega
     have hgl := HM.out.len
     have htt : (gridT 2 2 bn).take (2 * (2 * 2)) = gridT 2 2 bn := List.take_of_length_le (by rw [hgl]; omega)
     rw [htt] at hrow
     obtain ⟨gt, gtc, hvv⟩ : ∃ g c, vv = .slice (some ⟨g, 0, none⟩) 8 c := by
      rcases hrow.2 with ⟨h1, h2⟩ | ⟨g, cap, cur, h1, h2, h3⟩
      ·omega
      ·exact ⟨g, cap, h1⟩
     subst hvv
     have hgtl := hrow.lt gt rfl
     obtain ⟨w7, hw7⟩ : ∃ w7, w7 = wr := ⟨_, rfl⟩
     rw [← hw7] at hrow hbw hgtl
     rw [← hw7]
     clear hw7
     obtain ⟨fb, hfb⟩ : ∃ fb, w7.heap.size = fb := ⟨_, rfl⟩
     obtain ⟨hmk, hmp⟩ := run_new_map (P := Tryz.prog) w7 137 138
     obtain ⟨w8, hw8⟩ : ∃ w8, w7.alloc (.map #[] 0) = w8 := ⟨_, rfl⟩
     rw [hw8, hfb] at hmk hmp
     have hb8 : Below fb w7 w8 := by rw [← hw8, ← hfb]; exact (Below.refl _ _).alloc (Nat.le_refl _) _
     have htr := hrow.trIn
     have HRWT := Lib.hid hrow; have HBT := Lib.hid hbw; have HTR := Lib.hid htr; have HGTL := Lib.hid hgtl; have HFB := Lib.hid hfb; have HMP := Lib.hid (fault_new hmp); have HB8 := Lib.hid hb8
     clear hrow hbw htr hgtl hfb hmp hb8 hw8
     go_wp2
     clear hmk
     go_loopw [23, 25, 26, 116] (fun nv _ _ iv wr => ∃ j : Nat, j ≤ 8 ∧ iv = .int .i64 (j : Int) ∧ nv = .int .i64 ((3 * j : Nat) : Int) ∧ (∃ F, FaultMap Tryz.prog 138 wr fb F) ∧ Below fb w7 wr) (fun _ _ _ iv _ => 8 - (intOf iv).toNat)
     case atStart => exact ⟨0, Nat.zero_le _, rfl, rfl, ⟨_, HMP.out⟩, HB8.out⟩
     case round =>
      obtain ⟨j, hj, rfl, rfl, ⟨F, hF⟩, hbw⟩ := hrel
      by_cases hlt : j < 8
      ·have hyd : decide ((j : Int) < 8) = true := decide_eq_true (by omega)
       obtain ⟨⟨x, y, z⟩, hv⟩ : ∃ v, (gridT 2 2 bn)[j]? = some v := ⟨_, List.getElem?_eq_getElem (by have := HM.out.len; omega)⟩
       obtain ⟨px, py, pz⟩ := OK.out.pts _ (List.mem_of_getElem? hv)
       have hpl6 := OK.out.many
       simp only [] at px py pz
       have htk := HTR.out j (x : Int) (y : Int) (z : Int) (by rw [List.getElem?_map, hv]; rfl)
       have hfb := HFB.out
       have l1 := World.block_lt_of_cell? w7 _ htk.1
       simp only [] at l1
       have ka := (hbw.cell (p := ⟨gt, j * 3, none⟩) (by show gt < fb; omega)).trans htk.1
       have kb := (hbw.cell (p := ⟨gt, j * 3 + 1, none⟩) (by show gt < fb; omega)).trans htk.2.1
       have kc := (hbw.cell (p := ⟨gt, j * 3 + 2, none⟩) (by show gt < fb; omega)).trans htk.2.2
       obtain ⟨w9, hw9, hpv, hb9, hs9⟩ := new_box wr _ rfl [.int .i64 (x : Int), .int .i64 (y : Int), .int .i64 (z : Int)] 34
       have hF9 := hF.same (hb9.block fb hF.lt)
       have hfl := hF.lt
       have hbw9 : Below fb w7 w9 := hbw.trans (hb9.mono (by omega))
       obtain ⟨tb, htb⟩ : ∃ tb, wr.heap.size = tb := ⟨_, rfl⟩
       have htf : fb < tb := by omega
       rw [htb] at hpv
       have HF9 := Lib.hid hF9; have HBW9 := Lib.hid hbw9; have HPV := Lib.hid hpv
       have hxyz : x < 10 ∧ y < 10 ∧ z < 10 := by
        have : (gridP 2 2).length = 9 := rfl
        omega
       clear hv px py pz htk hfb l1 hb9 hs9 hF9 hbw9 hpv hF hbw hfl hpl6
       go_wp2
       clear ka kb kc hw9 htb
       go_loopw [23, 26, 120] (fun nv _ iv wr => ∃ i : Nat, i ≤ 3 ∧ iv = .int .i64 (i : Int) ∧ nv = .int .i64 ((3 * j + i : Nat) : Int) ∧ (∃ F, FaultMap Tryz.prog 138 wr fb F) ∧ Box wr tb [.int .i64 (x : Int), .int .i64 (y : Int), .int .i64 (z : Int)] ∧ Below fb w7 wr) (fun _ _ iv _ => 3 - (intOf iv).toNat)
       case atStart => exact ⟨0, Nat.zero_le _, rfl, rfl, ⟨_, HF9.out⟩, HPV.out, HBW9.out⟩
       case round =>
        obtain ⟨i, hi, rfl, rfl, ⟨F2, hF2⟩, hbx, hbw⟩ := hrel
        by_cases hli : i < 3
        ·obtain ⟨nn, hnn⟩ : ∃ nn : Nat, 3 * j + i = nn := ⟨_, rfl⟩
         have hnn24 : nn < 24 := by omega
         have HNN := Lib.hid hnn
         rw [hnn]
         clear hnn
         have HF2 := Lib.hid hF2; have HBX2 := Lib.hid hbx; have HBW2 := Lib.hid hbw
         clear hF2 hbx hbw
         obtain ⟨q, hq⟩ : ∃ q : Bool, (bits .and .u32 (f / 2 ^ (nn % 32)) 1 == 1) = q := ⟨_, rfl⟩
         have hfb2 := HF2.out.lt
         have hd3 := (HF2.out.same (w' := wr.drew) rfl)
         have hx3 := HBX2.out.drew
         have hw3 := HBW2.out.drew'
         have HF3 := Lib.hid hd3; have HBX3 := Lib.hid hx3; have HBW3 := Lib.hid hw3
         clear hd3 hx3 hw3
         cases q
         ·go_wp2
          have hnn := HNN.out
          exact ⟨⟨i + 1, by omega, by go_num, congrArg (Value.int .i64) (by omega), ⟨_, HF2.out⟩, HBX2.out, HBW2.out⟩, by simp [intOf]; omega⟩
         ·obtain rfl | rfl | rfl : i = 0 ∨ i = 1 ∨ i = 2 := by omega
          ·obtain ⟨mn, hmn⟩ : ∃ mn : Int, (if (y : Int) < (x : Int) then (y : Int) else (x : Int)) = mn := ⟨_, rfl⟩
           obtain ⟨mx, hmx⟩ : ∃ mx : Int, (if (y : Int) > (x : Int) then (y : Int) else (x : Int)) = mx := ⟨_, rfl⟩
           have bmn : -1000000 ≤ mn ∧ mn ≤ 1000000 := by rw [← hmn]; split <;> omega
           have bmx : -1000000 ≤ mx ∧ mx ≤ 1000000 := by rw [← hmx]; split <;> omega
           have hmin : ∀ w : World, Sem.run Tryz.prog (Builtin.min_ #[3, 3] 3 #[.int .i64 (x : Int), .int .i64 (y : Int)]) w = Result.ok (Value.int .i64 mn) w := fun w => by rw [run_min_int2, hmn]
           have hmax : ∀ w : World, Sem.run Tryz.prog (Builtin.max_ #[3, 3] 3 #[.int .i64 (x : Int), .int .i64 (y : Int)]) w = Result.ok (Value.int .i64 mx) w := fun w => by rw [run_max_int2, hmx]
           have hwk : (IntKind.i64.wrap 1).tmod 3 = 1 := by decide
           obtain ⟨wm, F4, hup, hT4, hF4⟩ := fault_store HF3.out bmn bmx
           have hx0 := HBX3.out.c 0 _ rfl; have hx1 := HBX3.out.c 1 _ rfl
           have hbx4 := HBX3.out.turned hT4 (by omega)
           have hbw4 : Below fb w7 wm := Below.turned HBW3.out hT4 (Nat.le_refl _)
           have hy0 := hbx4.c 0 _ rfl; have hy1 := hbx4.c 1 _ rfl
           have FIN := Lib.hid (And.intro hF4 (And.intro hbx4 hbw4))
           clear hmn hmx bmn bmx hT4 hF4 hbx4 hbw4
           go_wp2_with fail
           obtain ⟨SSs, hSSs⟩ : ∃ S : Array Bool → World → Prop, ∀ l w', S l w' ↔ ((w'.cell? ⟨tb, 0, none⟩ = some (.int .i64 (x : Int))) ∧ (w'.cell? ⟨tb, 1, none⟩ = some (.int .i64 (y : Int)))) := ⟨_, fun _ _ => Iff.rfl⟩
           refine wp_region_noPanic ?_
           refine wp_region_G SSs 21 #[false, false, false, false, false, false, false, false, false, false, false, false, false, false, false, false, false, false, false, false, false] (by kernel_rfl) (by kernel_rfl) (by kernel_rfl) ((hSSs _ _).2 ⟨hx0, hx1⟩) (fun hCl hHeld => ?_)
           generalize wr.drew = wd at *
           refine rG 0 ?_ ?_ ?_ ?_ ?_ ?_ hCl hHeld ?_;rotate_left 2
           ·simp only [gA,gZ]; exact rfl
           ·intro l w'; rw [hSSs, hSSs]
           ·rfl
           ·intro w' hA;clear hA;go_simp;try with_reducible rfl
           clear hCl hHeld
           intro hCl hHeld
           simp only [List.setIfInBounds_toArray, List.set_cons_zero] at hCl hHeld
           (try simp only [Act.put]);try simp only [sA,sZ,sS]
           refine rG 1 ?_ ?_ ?_ ?_ ?_ ?_ hCl hHeld ?_;rotate_left 2
           ·simp only [gA,gS,gZ]; exact rfl
           ·intro l w'; rw [hSSs, hSSs]
           ·rfl
           ·intro w' hA;clear hA;go_simp;try with_reducible rfl
           clear hCl hHeld
           intro hCl hHeld
           simp only [sA,sZ,sS] at hCl hHeld
           (try simp only [Act.put]);try simp only [sA,sZ,sS]
           refine rG 2 ?_ ?_ ?_ ?_ ?_ ?_ hCl hHeld ?_;rotate_left 2
           ·simp only [gA,gS,gZ]; exact rfl
           ·intro l w'; rw [hSSs, hSSs]
           ·rfl
           ·intro w' hA;clear hA;go_simp;try with_reducible rfl
           clear hCl hHeld
           intro hCl hHeld
           simp only [sA,sZ,sS] at hCl hHeld
           (try simp only [Act.put]);try simp only [sA,sZ,sS]
           refine rG 3 ?_ ?_ ?_ ?_ ?_ ?_ hCl hHeld ?_;rotate_left 2
           ·simp only [gA,gS,gZ]; exact rfl
           ·intro l w'; rw [hSSs, hSSs]
           ·rfl
           ·intro w' hA; obtain ⟨l, hl, hi, hSl⟩ := hA; have hSl := (hSSs _ _).1 hSl; obtain ⟨hz0, hz1⟩ := hSl; go_simp; try with_reducible rfl
           clear hCl hHeld
           intro hCl hHeld
           simp only [sA,sZ,sS] at hCl hHeld
           (try simp only [Act.put]);try simp only [sA,sZ,sS]
           refine rG 4 ?_ ?_ ?_ ?_ ?_ ?_ hCl hHeld ?_;rotate_left 2
           ·simp only [gA,gS,gZ]; exact rfl
           ·intro l w'; rw [hSSs, hSSs]
           ·rfl
           ·intro w' hA;clear hA;go_simp;try with_reducible rfl
           clear hCl hHeld
           intro hCl hHeld
           simp only [sA,sZ,sS] at hCl hHeld
           (try simp only [Act.put]);try simp only [sA,sZ,sS]
           refine rG 5 ?_ ?_ ?_ ?_ ?_ ?_ hCl hHeld ?_;rotate_left 2
           ·simp only [gA,gS,gZ]; exact rfl
           ·intro l w'; rw [hSSs, hSSs]
           ·rfl
           ·intro w' hA;clear hA;go_simp;try with_reducible rfl
           clear hCl hHeld
           intro hCl hHeld
           simp only [sA,sZ,sS] at hCl hHeld
           (try simp only [Act.put]);try simp only [sA,sZ,sS]
           refine rG 6 ?_ ?_ ?_ ?_ ?_ ?_ hCl hHeld ?_;rotate_left 2
           ·simp only [gA,gS,gZ]; exact rfl
           ·intro l w'; rw [hSSs, hSSs]
           ·rfl
           ·intro w' hA;clear hA;go_simp;try with_reducible rfl
           clear hCl hHeld
           intro hCl hHeld
           simp only [sA,sZ,sS] at hCl hHeld
           (try simp only [Act.put]);try simp only [sA,sZ,sS]
           refine rG 7 ?_ ?_ ?_ ?_ ?_ ?_ hCl hHeld ?_;rotate_left 2
           ·simp only [gA,gS,gZ]; exact rfl
           ·intro l w'; rw [hSSs, hSSs]
           ·rfl
           ·intro w' hA;clear hA;go_simp;try with_reducible rfl
           clear hCl hHeld
           intro hCl hHeld
           simp only [sA,sZ,sS] at hCl hHeld
           (try simp only [Act.put]);try simp only [sA,sZ,sS]
           refine rG 8 ?_ ?_ ?_ ?_ ?_ ?_ hCl hHeld ?_;rotate_left 2
           ·simp only [gA,gS,gZ]; exact rfl
           ·intro l w'; rw [hSSs, hSSs]
           ·rfl
           ·intro w' hA; obtain ⟨l, hl, hi, hSl⟩ := hA; have hSl := (hSSs _ _).1 hSl; obtain ⟨hz0, hz1⟩ := hSl; go_simp; try with_reducible rfl
           clear hCl hHeld
           intro hCl hHeld
           simp only [sA,sZ,sS] at hCl hHeld
           (try simp only [Act.put]);try simp only [sA,sZ,sS]
           refine rG 9 ?_ ?_ ?_ ?_ ?_ ?_ hCl hHeld ?_;rotate_left 2
           ·simp only [gA,gS,gZ]; exact rfl
           ·intro l w'; rw [hSSs, hSSs]
           ·rfl
           ·intro w' hA;clear hA;go_simp;try with_reducible rfl
           clear hCl hHeld
           intro hCl hHeld
           simp only [sA,sZ,sS] at hCl hHeld
           (try simp only [Act.put]);try simp only [sA,sZ,sS]
           refine rG 10 ?_ ?_ ?_ ?_ ?_ ?_ hCl hHeld ?_;rotate_left 2
           ·simp only [gA,gS,gZ]; exact rfl
           ·intro l w'; rw [hSSs, hSSs]
           ·rfl
           ·intro w' hA;clear hA;go_simp;try with_reducible rfl
           clear hCl hHeld
           intro hCl hHeld
           simp only [sA,sZ,sS] at hCl hHeld
           (try simp only [Act.put]);try simp only [sA,sZ,sS]
           refine rG 11 ?_ ?_ ?_ ?_ ?_ ?_ hCl hHeld ?_;rotate_left 2
           ·simp only [gA,gS,gZ]; exact rfl
           ·intro l w'; rw [hSSs, hSSs]
           ·rfl
           ·intro w' hA;clear hA;go_simp;try with_reducible rfl
           clear hCl hHeld
           intro hCl hHeld
           simp only [sA,sZ,sS] at hCl hHeld
           (try simp only [Act.put]);try simp only [sA,sZ,sS]
           refine rG 12 ?_ ?_ ?_ ?_ ?_ ?_ hCl hHeld ?_;rotate_left 2
           ·simp only [gA,gS,gZ]; exact rfl
           ·intro l w'; rw [hSSs, hSSs]
           ·rfl
           ·intro w' hA; obtain ⟨l, hl, hi, hSl⟩ := hA; have hSl := (hSSs _ _).1 hSl; obtain ⟨hz0, hz1⟩ := hSl; go_simp; try with_reducible rfl
           clear hCl hHeld
           intro hCl hHeld
           simp only [sA,sZ,sS] at hCl hHeld
           (try simp only [Act.put]);try simp only [sA,sZ,sS]
           refine rG 13 ?_ ?_ ?_ ?_ ?_ ?_ hCl hHeld ?_;rotate_left 2
           ·simp only [gA,gS,gZ]; exact rfl
           ·intro l w'; rw [hSSs, hSSs]
           ·rfl
           ·intro w' hA;clear hA;go_simp;try with_reducible rfl
           clear hCl hHeld
           intro hCl hHeld
           simp only [sA,sZ,sS] at hCl hHeld
           (try simp only [Act.put]);try simp only [sA,sZ,sS]
           refine rG 14 ?_ ?_ ?_ ?_ ?_ ?_ hCl hHeld ?_;rotate_left 2
           ·simp only [gA,gS,gZ]; exact rfl
           ·intro l w'; rw [hSSs, hSSs]
           ·rfl
           ·intro w' hA;clear hA;go_simp;try with_reducible rfl
           clear hCl hHeld
           intro hCl hHeld
           simp only [sA,sZ,sS] at hCl hHeld
           (try simp only [Act.put]);try simp only [sA,sZ,sS]
           refine rG 15 ?_ ?_ ?_ ?_ ?_ ?_ hCl hHeld ?_;rotate_left 2
           ·simp only [gA,gS,gZ]; exact rfl
           ·intro l w'; rw [hSSs, hSSs]
           ·rfl
           ·intro w' hA;clear hA;go_simp;try with_reducible rfl
           clear hCl hHeld
           intro hCl hHeld
           simp only [sA,sZ,sS] at hCl hHeld
           (try simp only [Act.put]);try simp only [sA,sZ,sS]
           refine rG 16 ?_ ?_ ?_ ?_ ?_ ?_ hCl hHeld ?_;rotate_left 2
           ·simp only [gA,gS,gZ]; exact rfl
           ·intro l w'; rw [hSSs, hSSs]
           ·rfl
           ·intro w' hA;clear hA;go_simp;try with_reducible rfl
           clear hCl hHeld
           intro hCl hHeld
           simp only [sA,sZ,sS] at hCl hHeld
           (try simp only [Act.put]);try simp only [sA,sZ,sS]
           refine rG 17 ?_ ?_ ?_ ?_ ?_ ?_ hCl hHeld ?_;rotate_left 2
           ·simp only [gA,gS,gZ]; exact rfl
           ·intro l w'; rw [hSSs, hSSs]
           ·rfl
           ·intro w' hA; obtain ⟨l, hl, hi, hSl⟩ := hA; have hSl := (hSSs _ _).1 hSl; obtain ⟨hz0, hz1⟩ := hSl; go_simp; try with_reducible rfl
           clear hCl hHeld
           intro hCl hHeld
           simp only [sA,sZ,sS] at hCl hHeld
           (try simp only [Act.put]);try simp only [sA,sZ,sS]
           refine rG 18 ?_ ?_ ?_ ?_ ?_ ?_ hCl hHeld ?_;rotate_left 2
           ·simp only [gA,gS,gZ]; exact rfl
           ·intro l w'; rw [hSSs, hSSs]
           ·rfl
           ·intro w' hA;clear hA;go_simp;try with_reducible rfl
           clear hCl hHeld
           intro hCl hHeld
           simp only [sA,sZ,sS] at hCl hHeld
           (try simp only [Act.put]);try simp only [sA,sZ,sS]
           refine rG 19 ?_ ?_ ?_ ?_ ?_ ?_ hCl hHeld ?_;rotate_left 2
           ·simp only [gA,gS,gZ]; exact rfl
           ·intro l w'; rw [hSSs, hSSs]
           ·rfl
           ·intro w' hA;clear hA;go_simp;try with_reducible rfl
           clear hCl hHeld
           intro hCl hHeld
           simp only [sA,sZ,sS] at hCl hHeld
           (try simp only [Act.put]);try simp only [sA,sZ,sS]
           clear hCl hHeld
           refine reg_callG 20 ?_ (by kernel_rfl) ?_ (fun K hK => ?_);rotate_left 1
           ·simp only [gA,gS,gZ]; exact rfl
           go_simp
           clear hx0 hx1 hup
           refine hK.out _ _ ((hSSs _ _).2 ⟨hy0, hy1⟩) ?_
           clear hK K
           (try simp only [Act.put]);try simp only [sA,sZ,sS]
           refine wpAnyG_done (by kernel_rfl) ?_ _
           refine NoPanic.normal ?_
           clear hSSs SSs
           go_wp2
           have hnn := HNN.out
           refine ⟨⟨_, _, _, _, _, _, _, _, _, _, _, _, _, _, _, _, _, _, _, _, _, _, _, _, _, _, _, _, _, _, _, _, _, _, ?_, rfl⟩, by simp [intOf]⟩
           exact ⟨0 + 1, by omega, by go_num, congrArg (Value.int .i64) (by omega), ⟨_, FIN.out.1⟩, FIN.out.2.1, FIN.out.2.2⟩
          ·obtain ⟨mn, hmn⟩ : ∃ mn : Int, (if (z : Int) < (y : Int) then (z : Int) else (y : Int)) = mn := ⟨_, rfl⟩
           obtain ⟨mx, hmx⟩ : ∃ mx : Int, (if (z : Int) > (y : Int) then (z : Int) else (y : Int)) = mx := ⟨_, rfl⟩
           have bmn : -1000000 ≤ mn ∧ mn ≤ 1000000 := by rw [← hmn]; split <;> omega
           have bmx : -1000000 ≤ mx ∧ mx ≤ 1000000 := by rw [← hmx]; split <;> omega
           have hmin : ∀ w : World, Sem.run Tryz.prog (Builtin.min_ #[3, 3] 3 #[.int .i64 (y : Int), .int .i64 (z : Int)]) w = Result.ok (Value.int .i64 mn) w := fun w => by rw [run_min_int2, hmn]
           have hmax : ∀ w : World, Sem.run Tryz.prog (Builtin.max_ #[3, 3] 3 #[.int .i64 (y : Int), .int .i64 (z : Int)]) w = Result.ok (Value.int .i64 mx) w := fun w => by rw [run_max_int2, hmx]
           have hwk : (IntKind.i64.wrap 2).tmod 3 = 2 := by decide
           obtain ⟨wm, F4, hup, hT4, hF4⟩ := fault_store HF3.out bmn bmx
           have hx0 := HBX3.out.c 1 _ rfl; have hx1 := HBX3.out.c 2 _ rfl
           have hbx4 := HBX3.out.turned hT4 (by omega)
           have hbw4 : Below fb w7 wm := Below.turned HBW3.out hT4 (Nat.le_refl _)
           have hy0 := hbx4.c 1 _ rfl; have hy1 := hbx4.c 2 _ rfl
           have FIN := Lib.hid (And.intro hF4 (And.intro hbx4 hbw4))
           clear hmn hmx bmn bmx hT4 hF4 hbx4 hbw4
           go_wp2_with fail
           obtain ⟨SSs, hSSs⟩ : ∃ S : Array Bool → World → Prop, ∀ l w', S l w' ↔ ((w'.cell? ⟨tb, 1, none⟩ = some (.int .i64 (y : Int))) ∧ (w'.cell? ⟨tb, 2, none⟩ = some (.int .i64 (z : Int)))) := ⟨_, fun _ _ => Iff.rfl⟩
           refine wp_region_noPanic ?_
           refine wp_region_G SSs 21 #[false, false, false, false, false, false, false, false, false, false, false, false, false, false, false, false, false, false, false, false, false] (by kernel_rfl) (by kernel_rfl) (by kernel_rfl) ((hSSs _ _).2 ⟨hx0, hx1⟩) (fun hCl hHeld => ?_)
           generalize wr.drew = wd at *
           refine rG 0 ?_ ?_ ?_ ?_ ?_ ?_ hCl hHeld ?_;rotate_left 2
           ·simp only [gA,gZ]; exact rfl
           ·intro l w'; rw [hSSs, hSSs]
           ·rfl
           ·intro w' hA;clear hA;go_simp;try with_reducible rfl
           clear hCl hHeld
           intro hCl hHeld
           simp only [List.setIfInBounds_toArray, List.set_cons_zero] at hCl hHeld
           (try simp only [Act.put]);try simp only [sA,sZ,sS]
           refine rG 1 ?_ ?_ ?_ ?_ ?_ ?_ hCl hHeld ?_;rotate_left 2
           ·simp only [gA,gS,gZ]; exact rfl
           ·intro l w'; rw [hSSs, hSSs]
           ·rfl
           ·intro w' hA;clear hA;go_simp;try with_reducible rfl
           clear hCl hHeld
           intro hCl hHeld
           simp only [sA,sZ,sS] at hCl hHeld
           (try simp only [Act.put]);try simp only [sA,sZ,sS]
           refine rG 2 ?_ ?_ ?_ ?_ ?_ ?_ hCl hHeld ?_;rotate_left 2
           ·simp only [gA,gS,gZ]; exact rfl
           ·intro l w'; rw [hSSs, hSSs]
           ·rfl
           ·intro w' hA;clear hA;go_simp;try with_reducible rfl
           clear hCl hHeld
           intro hCl hHeld
           simp only [sA,sZ,sS] at hCl hHeld
           (try simp only [Act.put]);try simp only [sA,sZ,sS]
           refine rG 3 ?_ ?_ ?_ ?_ ?_ ?_ hCl hHeld ?_;rotate_left 2
           ·simp only [gA,gS,gZ]; exact rfl
           ·intro l w'; rw [hSSs, hSSs]
           ·rfl
           ·intro w' hA; obtain ⟨l, hl, hi, hSl⟩ := hA; have hSl := (hSSs _ _).1 hSl; obtain ⟨hz0, hz1⟩ := hSl; go_simp; try with_reducible rfl
           clear hCl hHeld
           intro hCl hHeld
           simp only [sA,sZ,sS] at hCl hHeld
           (try simp only [Act.put]);try simp only [sA,sZ,sS]
           refine rG 4 ?_ ?_ ?_ ?_ ?_ ?_ hCl hHeld ?_;rotate_left 2
           ·simp only [gA,gS,gZ]; exact rfl
           ·intro l w'; rw [hSSs, hSSs]
           ·rfl
           ·intro w' hA;clear hA;go_simp;try with_reducible rfl
           clear hCl hHeld
           intro hCl hHeld
           simp only [sA,sZ,sS] at hCl hHeld
           (try simp only [Act.put]);try simp only [sA,sZ,sS]
           refine rG 5 ?_ ?_ ?_ ?_ ?_ ?_ hCl hHeld ?_;rotate_left 2
           ·simp only [gA,gS,gZ]; exact rfl
           ·intro l w'; rw [hSSs, hSSs]
           ·rfl
           ·intro w' hA;clear hA;go_simp;try with_reducible rfl
           clear hCl hHeld
           intro hCl hHeld
           simp only [sA,sZ,sS] at hCl hHeld
           (try simp only [Act.put]);try simp only [sA,sZ,sS]
           refine rG 6 ?_ ?_ ?_ ?_ ?_ ?_ hCl hHeld ?_;rotate_left 2
           ·simp only [gA,gS,gZ]; exact rfl
           ·intro l w'; rw [hSSs, hSSs]
           ·rfl
           ·intro w' hA;clear hA;go_simp;try with_reducible rfl
           clear hCl hHeld
           intro hCl hHeld
           simp only [sA,sZ,sS] at hCl hHeld
           (try simp only [Act.put]);try simp only [sA,sZ,sS]
           refine rG 7 ?_ ?_ ?_ ?_ ?_ ?_ hCl hHeld ?_;rotate_left 2
           ·simp only [gA,gS,gZ]; exact rfl
           ·intro l w'; rw [hSSs, hSSs]
           ·rfl
           ·intro w' hA;clear hA;go_simp;try with_reducible rfl
           clear hCl hHeld
           intro hCl hHeld
           simp only [sA,sZ,sS] at hCl hHeld
           (try simp only [Act.put]);try simp only [sA,sZ,sS]
           refine rG 8 ?_ ?_ ?_ ?_ ?_ ?_ hCl hHeld ?_;rotate_left 2
           ·simp only [gA,gS,gZ]; exact rfl
           ·intro l w'; rw [hSSs, hSSs]
           ·rfl
           ·intro w' hA; obtain ⟨l, hl, hi, hSl⟩ := hA; have hSl := (hSSs _ _).1 hSl; obtain ⟨hz0, hz1⟩ := hSl; go_simp; try with_reducible rfl
           clear hCl hHeld
           intro hCl hHeld
           simp only [sA,sZ,sS] at hCl hHeld
           (try simp only [Act.put]);try simp only [sA,sZ,sS]
           refine rG 9 ?_ ?_ ?_ ?_ ?_ ?_ hCl hHeld ?_;rotate_left 2
           ·simp only [gA,gS,gZ]; exact rfl
           ·intro l w'; rw [hSSs, hSSs]
           ·rfl
           ·intro w' hA;clear hA;go_simp;try with_reducible rfl
           clear hCl hHeld
           intro hCl hHeld
           simp only [sA,sZ,sS] at hCl hHeld
           (try simp only [Act.put]);try simp only [sA,sZ,sS]
           refine rG 10 ?_ ?_ ?_ ?_ ?_ ?_ hCl hHeld ?_;rotate_left 2
           ·simp only [gA,gS,gZ]; exact rfl
           ·intro l w'; rw [hSSs, hSSs]
           ·rfl
           ·intro w' hA;clear hA;go_simp;try with_reducible rfl
           clear hCl hHeld
           intro hCl hHeld
           simp only [sA,sZ,sS] at hCl hHeld
           (try simp only [Act.put]);try simp only [sA,sZ,sS]
           refine rG 11 ?_ ?_ ?_ ?_ ?_ ?_ hCl hHeld ?_;rotate_left 2
           ·simp only [gA,gS,gZ]; exact rfl
           ·intro l w'; rw [hSSs, hSSs]
           ·rfl
           ·intro w' hA;clear hA;go_simp;try with_reducible rfl
           clear hCl hHeld
           intro hCl hHeld
           simp only [sA,sZ,sS] at hCl hHeld
           (try simp only [Act.put]);try simp only [sA,sZ,sS]
           refine rG 12 ?_ ?_ ?_ ?_ ?_ ?_ hCl hHeld ?_;rotate_left 2
           ·simp only [gA,gS,gZ]; exact rfl
           ·intro l w'; rw [hSSs, hSSs]
           ·rfl
           ·intro w' hA; obtain ⟨l, hl, hi, hSl⟩ := hA; have hSl := (hSSs _ _).1 hSl; obtain ⟨hz0, hz1⟩ := hSl; go_simp; try with_reducible rfl
           clear hCl hHeld
           intro hCl hHeld
           simp only [sA,sZ,sS] at hCl hHeld
           (try simp only [Act.put]);try simp only [sA,sZ,sS]
           refine rG 13 ?_ ?_ ?_ ?_ ?_ ?_ hCl hHeld ?_;rotate_left 2
           ·simp only [gA,gS,gZ]; exact rfl
           ·intro l w'; rw [hSSs, hSSs]
           ·rfl
           ·intro w' hA;clear hA;go_simp;try with_reducible rfl
           clear hCl hHeld
           intro hCl hHeld
           simp only [sA,sZ,sS] at hCl hHeld
           (try simp only [Act.put]);try simp only [sA,sZ,sS]
           refine rG 14 ?_ ?_ ?_ ?_ ?_ ?_ hCl hHeld ?_;rotate_left 2
           ·simp only [gA,gS,gZ]; exact rfl
           ·intro l w'; rw [hSSs, hSSs]
           ·rfl
           ·intro w' hA;clear hA;go_simp;try with_reducible rfl
           clear hCl hHeld
           intro hCl hHeld
           simp only [sA,sZ,sS] at hCl hHeld
           (try simp only [Act.put]);try simp only [sA,sZ,sS]
           refine rG 15 ?_ ?_ ?_ ?_ ?_ ?_ hCl hHeld ?_;rotate_left 2
           ·simp only [gA,gS,gZ]; exact rfl
           ·intro l w'; rw [hSSs, hSSs]
           ·rfl
           ·intro w' hA;clear hA;go_simp;try with_reducible rfl
           clear hCl hHeld
           intro hCl hHeld
           simp only [sA,sZ,sS] at hCl hHeld
           (try simp only [Act.put]);try simp only [sA,sZ,sS]
           refine rG 16 ?_ ?_ ?_ ?_ ?_ ?_ hCl hHeld ?_;rotate_left 2
           ·simp only [gA,gS,gZ]; exact rfl
           ·intro l w'; rw [hSSs, hSSs]
           ·rfl
           ·intro w' hA;clear hA;go_simp;try with_reducible rfl
           clear hCl hHeld
           intro hCl hHeld
           simp only [sA,sZ,sS] at hCl hHeld
           (try simp only [Act.put]);try simp only [sA,sZ,sS]
           refine rG 17 ?_ ?_ ?_ ?_ ?_ ?_ hCl hHeld ?_;rotate_left 2
           ·simp only [gA,gS,gZ]; exact rfl
           ·intro l w'; rw [hSSs, hSSs]
           ·rfl
           ·intro w' hA; obtain ⟨l, hl, hi, hSl⟩ := hA; have hSl := (hSSs _ _).1 hSl; obtain ⟨hz0, hz1⟩ := hSl; go_simp; try with_reducible rfl
           clear hCl hHeld
           intro hCl hHeld
           simp only [sA,sZ,sS] at hCl hHeld
           (try simp only [Act.put]);try simp only [sA,sZ,sS]
           refine rG 18 ?_ ?_ ?_ ?_ ?_ ?_ hCl hHeld ?_;rotate_left 2
           ·simp only [gA,gS,gZ]; exact rfl
           ·intro l w'; rw [hSSs, hSSs]
           ·rfl
           ·intro w' hA;clear hA;go_simp;try with_reducible rfl
           clear hCl hHeld
           intro hCl hHeld
           simp only [sA,sZ,sS] at hCl hHeld
           (try simp only [Act.put]);try simp only [sA,sZ,sS]
           refine rG 19 ?_ ?_ ?_ ?_ ?_ ?_ hCl hHeld ?_;rotate_left 2
           ·simp only [gA,gS,gZ]; exact rfl
           ·intro l w'; rw [hSSs, hSSs]
           ·rfl
           ·intro w' hA;clear hA;go_simp;try with_reducible rfl
           clear hCl hHeld
           intro hCl hHeld
           simp only [sA,sZ,sS] at hCl hHeld
           (try simp only [Act.put]);try simp only [sA,sZ,sS]
           clear hCl hHeld
           refine reg_callG 20 ?_ (by kernel_rfl) ?_ (fun K hK => ?_);rotate_left 1
           ·simp only [gA,gS,gZ]; exact rfl
           go_simp
           clear hx0 hx1 hup
           refine hK.out _ _ ((hSSs _ _).2 ⟨hy0, hy1⟩) ?_
           clear hK K
           (try simp only [Act.put]);try simp only [sA,sZ,sS]
           refine wpAnyG_done (by kernel_rfl) ?_ _
           refine NoPanic.normal ?_
           clear hSSs SSs
           go_wp2
           have hnn := HNN.out
           refine ⟨⟨_, _, _, _, _, _, _, _, _, _, _, _, _, _, _, _, _, _, _, _, _, _, _, _, _, _, _, _, _, _, _, _, _, _, ?_, rfl⟩, by simp [intOf]⟩
           exact ⟨1 + 1, by omega, by go_num, congrArg (Value.int .i64) (by omega), ⟨_, FIN.out.1⟩, FIN.out.2.1, FIN.out.2.2⟩
          ·obtain ⟨mn, hmn⟩ : ∃ mn : Int, (if (x : Int) < (z : Int) then (x : Int) else (z : Int)) = mn := ⟨_, rfl⟩
           obtain ⟨mx, hmx⟩ : ∃ mx : Int, (if (x : Int) > (z : Int) then (x : Int) else (z : Int)) = mx := ⟨_, rfl⟩
           have bmn : -1000000 ≤ mn ∧ mn ≤ 1000000 := by rw [← hmn]; split <;> omega
           have bmx : -1000000 ≤ mx ∧ mx ≤ 1000000 := by rw [← hmx]; split <;> omega
           have hmin : ∀ w : World, Sem.run Tryz.prog (Builtin.min_ #[3, 3] 3 #[.int .i64 (z : Int), .int .i64 (x : Int)]) w = Result.ok (Value.int .i64 mn) w := fun w => by rw [run_min_int2, hmn]
           have hmax : ∀ w : World, Sem.run Tryz.prog (Builtin.max_ #[3, 3] 3 #[.int .i64 (z : Int), .int .i64 (x : Int)]) w = Result.ok (Value.int .i64 mx) w := fun w => by rw [run_max_int2, hmx]
           have hwk : (IntKind.i64.wrap 3).tmod 3 = 0 := by decide
           obtain ⟨wm, F4, hup, hT4, hF4⟩ := fault_store HF3.out bmn bmx
           have hx0 := HBX3.out.c 2 _ rfl; have hx1 := HBX3.out.c 0 _ rfl
           have hbx4 := HBX3.out.turned hT4 (by omega)
           have hbw4 : Below fb w7 wm := Below.turned HBW3.out hT4 (Nat.le_refl _)
           have hy0 := hbx4.c 2 _ rfl; have hy1 := hbx4.c 0 _ rfl
           have FIN := Lib.hid (And.intro hF4 (And.intro hbx4 hbw4))
           clear hmn hmx bmn bmx hT4 hF4 hbx4 hbw4
           go_wp2_with fail
           obtain ⟨SSs, hSSs⟩ : ∃ S : Array Bool → World → Prop, ∀ l w', S l w' ↔ ((w'.cell? ⟨tb, 2, none⟩ = some (.int .i64 (z : Int))) ∧ (w'.cell? ⟨tb, 0, none⟩ = some (.int .i64 (x : Int)))) := ⟨_, fun _ _ => Iff.rfl⟩
           refine wp_region_noPanic ?_
           refine wp_region_G SSs 21 #[false, false, false, false, false, false, false, false, false, false, false, false, false, false, false, false, false, false, false, false, false] (by kernel_rfl) (by kernel_rfl) (by kernel_rfl) ((hSSs _ _).2 ⟨hx0, hx1⟩) (fun hCl hHeld => ?_)
           generalize wr.drew = wd at *
           refine rG 0 ?_ ?_ ?_ ?_ ?_ ?_ hCl hHeld ?_;rotate_left 2
           ·simp only [gA,gZ]; exact rfl
           ·intro l w'; rw [hSSs, hSSs]
           ·rfl
           ·intro w' hA;clear hA;go_simp;try with_reducible rfl
           clear hCl hHeld
           intro hCl hHeld
           simp only [List.setIfInBounds_toArray, List.set_cons_zero] at hCl hHeld
           (try simp only [Act.put]);try simp only [sA,sZ,sS]
           refine rG 1 ?_ ?_ ?_ ?_ ?_ ?_ hCl hHeld ?_;rotate_left 2
           ·simp only [gA,gS,gZ]; exact rfl
           ·intro l w'; rw [hSSs, hSSs]
           ·rfl
           ·intro w' hA;clear hA;go_simp;try with_reducible rfl
           clear hCl hHeld
           intro hCl hHeld
           simp only [sA,sZ,sS] at hCl hHeld
           (try simp only [Act.put]);try simp only [sA,sZ,sS]
           refine rG 2 ?_ ?_ ?_ ?_ ?_ ?_ hCl hHeld ?_;rotate_left 2
           ·simp only [gA,gS,gZ]; exact rfl
           ·intro l w'; rw [hSSs, hSSs]
           ·rfl
           ·intro w' hA;clear hA;go_simp;try with_reducible rfl
           clear hCl hHeld
           intro hCl hHeld
           simp only [sA,sZ,sS] at hCl hHeld
           (try simp only [Act.put]);try simp only [sA,sZ,sS]
           refine rG 3 ?_ ?_ ?_ ?_ ?_ ?_ hCl hHeld ?_;rotate_left 2
           ·simp only [gA,gS,gZ]; exact rfl
           ·intro l w'; rw [hSSs, hSSs]
           ·rfl
           ·intro w' hA; obtain ⟨l, hl, hi, hSl⟩ := hA; have hSl := (hSSs _ _).1 hSl; obtain ⟨hz0, hz1⟩ := hSl; go_simp; try with_reducible rfl
           clear hCl hHeld
           intro hCl hHeld
           simp only [sA,sZ,sS] at hCl hHeld
           (try simp only [Act.put]);try simp only [sA,sZ,sS]
           refine rG 4 ?_ ?_ ?_ ?_ ?_ ?_ hCl hHeld ?_;rotate_left 2
           ·simp only [gA,gS,gZ]; exact rfl
           ·intro l w'; rw [hSSs, hSSs]
           ·rfl
           ·intro w' hA;clear hA;go_simp;try with_reducible rfl
           clear hCl hHeld
           intro hCl hHeld
           simp only [sA,sZ,sS] at hCl hHeld
           (try simp only [Act.put]);try simp only [sA,sZ,sS]
           refine rG 5 ?_ ?_ ?_ ?_ ?_ ?_ hCl hHeld ?_;rotate_left 2
           ·simp only [gA,gS,gZ]; exact rfl
           ·intro l w'; rw [hSSs, hSSs]
           ·rfl
           ·intro w' hA;clear hA;go_simp;try with_reducible rfl
           clear hCl hHeld
           intro hCl hHeld
           simp only [sA,sZ,sS] at hCl hHeld
           (try simp only [Act.put]);try simp only [sA,sZ,sS]
           refine rG 6 ?_ ?_ ?_ ?_ ?_ ?_ hCl hHeld ?_;rotate_left 2
           ·simp only [gA,gS,gZ]; exact rfl
           ·intro l w'; rw [hSSs, hSSs]
           ·rfl
           ·intro w' hA;clear hA;go_simp;try with_reducible rfl
           clear hCl hHeld
           intro hCl hHeld
           simp only [sA,sZ,sS] at hCl hHeld
           (try simp only [Act.put]);try simp only [sA,sZ,sS]
           refine rG 7 ?_ ?_ ?_ ?_ ?_ ?_ hCl hHeld ?_;rotate_left 2
           ·simp only [gA,gS,gZ]; exact rfl
           ·intro l w'; rw [hSSs, hSSs]
           ·rfl
           ·intro w' hA;clear hA;go_simp;try with_reducible rfl
           clear hCl hHeld
           intro hCl hHeld
           simp only [sA,sZ,sS] at hCl hHeld
           (try simp only [Act.put]);try simp only [sA,sZ,sS]
           refine rG 8 ?_ ?_ ?_ ?_ ?_ ?_ hCl hHeld ?_;rotate_left 2
           ·simp only [gA,gS,gZ]; exact rfl
           ·intro l w'; rw [hSSs, hSSs]
           ·rfl
           ·intro w' hA; obtain ⟨l, hl, hi, hSl⟩ := hA; have hSl := (hSSs _ _).1 hSl; obtain ⟨hz0, hz1⟩ := hSl; go_simp; try with_reducible rfl
           clear hCl hHeld
           intro hCl hHeld
           simp only [sA,sZ,sS] at hCl hHeld
           (try simp only [Act.put]);try simp only [sA,sZ,sS]
           refine rG 9 ?_ ?_ ?_ ?_ ?_ ?_ hCl hHeld ?_;rotate_left 2
           ·simp only [gA,gS,gZ]; exact rfl
           ·intro l w'; rw [hSSs, hSSs]
           ·rfl
           ·intro w' hA;clear hA;go_simp;try with_reducible rfl
           clear hCl hHeld
           intro hCl hHeld
           simp only [sA,sZ,sS] at hCl hHeld
           (try simp only [Act.put]);try simp only [sA,sZ,sS]
           refine rG 10 ?_ ?_ ?_ ?_ ?_ ?_ hCl hHeld ?_;rotate_left 2
           ·simp only [gA,gS,gZ]; exact rfl
           ·intro l w'; rw [hSSs, hSSs]
           ·rfl
           ·intro w' hA;clear hA;go_simp;try with_reducible rfl
           clear hCl hHeld
           intro hCl hHeld
           simp only [sA,sZ,sS] at hCl hHeld
           (try simp only [Act.put]);try simp only [sA,sZ,sS]
           refine rG 11 ?_ ?_ ?_ ?_ ?_ ?_ hCl hHeld ?_;rotate_left 2
           ·simp only [gA,gS,gZ]; exact rfl
           ·intro l w'; rw [hSSs, hSSs]
           ·rfl
           ·intro w' hA;clear hA;go_simp;try with_reducible rfl
           clear hCl hHeld
           intro hCl hHeld
           simp only [sA,sZ,sS] at hCl hHeld
           (try simp only [Act.put]);try simp only [sA,sZ,sS]
           refine rG 12 ?_ ?_ ?_ ?_ ?_ ?_ hCl hHeld ?_;rotate_left 2
           ·simp only [gA,gS,gZ]; exact rfl
           ·intro l w'; rw [hSSs, hSSs]
           ·rfl
           ·intro w' hA; obtain ⟨l, hl, hi, hSl⟩ := hA; have hSl := (hSSs _ _).1 hSl; obtain ⟨hz0, hz1⟩ := hSl; go_simp; try with_reducible rfl
           clear hCl hHeld
           intro hCl hHeld
           simp only [sA,sZ,sS] at hCl hHeld
           (try simp only [Act.put]);try simp only [sA,sZ,sS]
           refine rG 13 ?_ ?_ ?_ ?_ ?_ ?_ hCl hHeld ?_;rotate_left 2
           ·simp only [gA,gS,gZ]; exact rfl
           ·intro l w'; rw [hSSs, hSSs]
           ·rfl
           ·intro w' hA;clear hA;go_simp;try with_reducible rfl
           clear hCl hHeld
           intro hCl hHeld
           simp only [sA,sZ,sS] at hCl hHeld
           (try simp only [Act.put]);try simp only [sA,sZ,sS]
           refine rG 14 ?_ ?_ ?_ ?_ ?_ ?_ hCl hHeld ?_;rotate_left 2
           ·simp only [gA,gS,gZ]; exact rfl
           ·intro l w'; rw [hSSs, hSSs]
           ·rfl
           ·intro w' hA;clear hA;go_simp;try with_reducible rfl
           clear hCl hHeld
           intro hCl hHeld
           simp only [sA,sZ,sS] at hCl hHeld
           (try simp only [Act.put]);try simp only [sA,sZ,sS]
           refine rG 15 ?_ ?_ ?_ ?_ ?_ ?_ hCl hHeld ?_;rotate_left 2
           ·simp only [gA,gS,gZ]; exact rfl
           ·intro l w'; rw [hSSs, hSSs]
           ·rfl
           ·intro w' hA;clear hA;go_simp;try with_reducible rfl
           clear hCl hHeld
           intro hCl hHeld
           simp only [sA,sZ,sS] at hCl hHeld
           (try simp only [Act.put]);try simp only [sA,sZ,sS]
           refine rG 16 ?_ ?_ ?_ ?_ ?_ ?_ hCl hHeld ?_;rotate_left 2
           ·simp only [gA,gS,gZ]; exact rfl
           ·intro l w'; rw [hSSs, hSSs]
           ·rfl
           ·intro w' hA;clear hA;go_simp;try with_reducible rfl
           clear hCl hHeld
           intro hCl hHeld
           simp only [sA,sZ,sS] at hCl hHeld
           (try simp only [Act.put]);try simp only [sA,sZ,sS]
           refine rG 17 ?_ ?_ ?_ ?_ ?_ ?_ hCl hHeld ?_;rotate_left 2
           ·simp only [gA,gS,gZ]; exact rfl
           ·intro l w'; rw [hSSs, hSSs]
           ·rfl
           ·intro w' hA; obtain ⟨l, hl, hi, hSl⟩ := hA; have hSl := (hSSs _ _).1 hSl; obtain ⟨hz0, hz1⟩ := hSl; go_simp; try with_reducible rfl
           clear hCl hHeld
           intro hCl hHeld
           simp only [sA,sZ,sS] at hCl hHeld
           (try simp only [Act.put]);try simp only [sA,sZ,sS]
           refine rG 18 ?_ ?_ ?_ ?_ ?_ ?_ hCl hHeld ?_;rotate_left 2
           ·simp only [gA,gS,gZ]; exact rfl
           ·intro l w'; rw [hSSs, hSSs]
           ·rfl
           ·intro w' hA;clear hA;go_simp;try with_reducible rfl
           clear hCl hHeld
           intro hCl hHeld
           simp only [sA,sZ,sS] at hCl hHeld
           (try simp only [Act.put]);try simp only [sA,sZ,sS]
           refine rG 19 ?_ ?_ ?_ ?_ ?_ ?_ hCl hHeld ?_;rotate_left 2
           ·simp only [gA,gS,gZ]; exact rfl
           ·intro l w'; rw [hSSs, hSSs]
           ·rfl
           ·intro w' hA;clear hA;go_simp;try with_reducible rfl
           clear hCl hHeld
           intro hCl hHeld
           simp only [sA,sZ,sS] at hCl hHeld
           (try simp only [Act.put]);try simp only [sA,sZ,sS]
           clear hCl hHeld
           refine reg_callG 20 ?_ (by kernel_rfl) ?_ (fun K hK => ?_);rotate_left 1
           ·simp only [gA,gS,gZ]; exact rfl
           go_simp
           clear hx0 hx1 hup
           refine hK.out _ _ ((hSSs _ _).2 ⟨hy0, hy1⟩) ?_
           clear hK K
           (try simp only [Act.put]);try simp only [sA,sZ,sS]
           refine wpAnyG_done (by kernel_rfl) ?_ _
           refine NoPanic.normal ?_
           clear hSSs SSs
           go_wp2
           have hnn := HNN.out
           refine ⟨⟨_, _, _, _, _, _, _, _, _, _, _, _, _, _, _, _, _, _, _, _, _, _, _, _, _, _, _, _, _, _, _, _, _, _, ?_, rfl⟩, by simp [intOf]⟩
           exact ⟨2 + 1, by omega, by go_num, congrArg (Value.int .i64) (by omega), ⟨_, FIN.out.1⟩, FIN.out.2.1, FIN.out.2.2⟩
        ·obtain rfl : i = 3 := by omega
         have FIN := Lib.hid (And.intro hF2 hbw)
         clear hF2 hbw hbx
         go_wp2
         exact ⟨⟨j + 1, by omega, by go_num, congrArg (Value.int .i64) (by omega), ⟨_, FIN.out.1⟩, FIN.out.2⟩, by simp [intOf]; omega⟩
      ·obtain rfl : j = 8 := by omega
       have hgl := HM.out.len
       obtain ⟨⟨ta, tb, tc⟩, h0⟩ : ∃ v, (gridT 2 2 bn)[0]? = some v := ⟨_, List.getElem?_eq_getElem (by omega)⟩
       have hz := HM.out.one _ (List.mem_of_getElem? h0)
       simp only [] at hz
       have hb7 : Below w7.heap.size w7 wr := by rw [HFB.out]; exact hbw
       have hpr : RowN wr (w.heap.size + 1) 24 2 (.slice (some ⟨gp, 0, none⟩) 9 gpc) 9 (ptsCells (gridP 2 2)) := (HROW.out.below HBT.out).below hb7
       have htr := HTR.out.below hb7
       have hbu := Build_any F (gridT 2 2 bn) ta tb tc fb gt 8 gtc gp 9 gpc (gridP 2 2) wr OK.out.good h0 hz (by omega) (by omega) OK.out.pts htr hF rfl (by omega) (by omega) HPS.out hpr.ptsC HM.out.some_ (by have := HM.out.few; omega) HM.out.ends
       have HBU := Lib.hid hbu; have HTRR := Lib.hid htr
       have HBWR := Lib.hid (HBW.out.trans ((HBT.out.trans (hb7.mono HBT.out.size)).mono HBW.out.size))
       have hgt := HGTL.out.1; have hsz5 := HBW.out.size
       clear hbu htr hpr hb7 hF hbw hz h0 hgl
       go_wp2_with fail
       refine HBU.out.mono ?_
       rintro e w9 ⟨mb, rfl, hbe, hb9⟩
       have hbs := HBWR.out.size
       have FIN := Lib.hid (And.intro (hbe.low hbs) (And.intro (HTRR.out.below hb9) (HBWR.out.trans (hb9.mono hbs))))
       clear hbe hb9
       go_wp2
       go_ret2
       exact ⟨mb, gt, gtc, F, rfl, FIN.out.1, FIN.out.2.1, by omega, FIN.out.2.2⟩
end Go.Proofs.YtnabdopnlinklaaGreat
/- The statements' Grid, whatever it is asked: what comes. -/
namespace Go.Proofs.YtnabdopnlinklaaGreat
open Go.RowKit Go.MagM
/-- What Grid leaves. -/
structure GridIs (w : World) (B mb pb pc tb tc g W H bn : Nat) (F : Int → Int → Bool) (Bd : List (Nat × Nat)) (S : List TriM) : Prop where
 mesh : MeshO 24 37 w B mb pb pc (.slice (some ⟨tb, 0, none⟩) S.length tc) (gridP W H) S
 pts : B ≤ pb
 built : Built (faF F) (gridT W H bn) Bd S
 tr : TrIn w g ((gridT W H bn).map realV)
 row : B ≤ g
 hW : W = 1 ∨ W = 2
 hH : H = 1 ∨ H = 2
 hb : bn < 16
theorem GridIs.below {w w' : World} {B mb pb pc tb tc g W H bn : Nat} {F : Int → Int → Bool} {Bd : List (Nat × Nat)} {S : List TriM} (h : GridIs w B mb pb pc tb tc g W H bn F Bd S) (hb : Below w.heap.size w w') : GridIs w' B mb pb pc tb tc g W H bn F Bd S :=
 ⟨h.mesh.below hb, h.pts, h.built, h.tr.below hb, h.row, h.hW, h.hH, h.hb⟩
theorem GridIs.drew {w : World} {B mb pb pc tb tc g W H bn : Nat} {F : Int → Int → Bool} {Bd : List (Nat × Nat)} {S : List TriM} (h : GridIs w B mb pb pc tb tc g W H bn F Bd S) : GridIs w.drew B mb pb pc tb tc g W H bn F Bd S := h.below (Below.refl _ _).drew'
theorem GridIs.read {w : World} {B mb pb pc tb tc g W H bn : Nat} {F : Int → Int → Bool} {Bd : List (Nat × Nat)} {S : List TriM} (h : GridIs w B mb pb pc tb tc g W H bn F Bd S) : MeshR w mb pb pc (some ⟨tb, 0, none⟩) tc (gridP W H) S := by
 obtain ⟨ta, tc', e, hr⟩ := h.mesh.read
 simp only [Value.slice.injEq] at e
 obtain ⟨rfl, -, rfl⟩ := e
 exact hr
theorem GridIs.sound {w : World} {B mb pb pc tb tc g W H bn : Nat} {F : Int → Int → Bool} {Bd : List (Nat × Nat)} {S : List TriM} (h : GridIs w B mb pb pc tb tc g W H bn F Bd S) : SoundIs (gridP W H) S true := by
 have ok := grid_ok h.hW h.hH h.hb
 exact built_sound h.built ok.turn ok.some_ ok.rim
theorem GridIs.inP {w : World} {B mb pb pc tb tc g W H bn : Nat} {F : Int → Int → Bool} {Bd : List (Nat × Nat)} {S : List TriM} (h : GridIs w B mb pb pc tb tc g W H bn F Bd S) : InPs (gridP W H) := grid_inPs h.hW h.hH
theorem GridIs.sizes {w : World} {B mb pb pc tb tc g W H bn : Nat} {F : Int → Int → Bool} {Bd : List (Nat × Nat)} {S : List TriM} (h : GridIs w B mb pb pc tb tc g W H bn F Bd S) : 4 ≤ (gridP W H).length ∧ (gridP W H).length ≤ 9 ∧ 4 ≤ S.length ∧ S.length ≤ 16 := by
 have ok := grid_ok h.hW h.hH h.hb
 have hm := grid_has h.hW h.hH h.hb
 have h1 := ok.many; have h2 := ok.few; have h3 := hm.few; have h4 := ok.four; have h5 := h.built.len; have h6 := h.built.perm.length_eq
 have h7 : 4 ≤ (W + 1) * (H + 1) ∧ (W + 1) * (H + 1) ≤ 9 := by
  rcases h.hW with e | e <;> rcases h.hH with e' | e' <;> rw [e, e'] <;> decide
 omega
theorem and_one (x : Int) : bits .and .i64 x 1 = 0 ∨ bits .and .i64 x 1 = 1 := by
 have h1 : (BitVec.ofInt 64 (1 : Int)).toNat = 1 := by decide
 have h2 : (BitVec.ofInt 64 x).toNat &&& 1 ≤ 1 := Nat.and_le_right
 have h3 : bits .and .i64 x 1 = (((BitVec.ofInt 64 x).toNat &&& 1 : Nat) : Int) := by
  show IntKind.i64.wrap ((BitVec.ofInt 64 x &&& BitVec.ofInt 64 (1 : Int)).toNat : Int) = _
  rw [BitVec.toNat_and, h1, IntKind.wrap_i64]
  omega
 rw [h3]; omega
theorem Grid_any (w0 h0 b f : Int) (w : World) :
  Calls Tryz.prog 34 #[.int .i64 w0, .int .i64 h0, .int .u32 b, .int .u32 f] w fun e w' => ∃ (mb pb pc tb tc g gn gc W H bn : Nat) (F : Int → Int → Bool) (Bd : List (Nat × Nat)) (S : List TriM), e = .returned (.tuple #[.pointer (some ⟨mb, 0, none⟩), .slice (some ⟨g, 0, none⟩) gn gc]) ∧ gn = (gridT W H bn).length ∧ GridIs w' w.heap.size mb pb pc tb tc g W H bn F Bd S ∧ Below w.heap.size w w' := by
 obtain ⟨bn, hbn, hbit⟩ := bits_of b
 have fin : ∀ {W H : Nat} (hW : W = 1 ∨ W = 2) (hH : H = 1 ∨ H = 2) {NT : Nat}, NT = 2 * (W * H) → (Calls Tryz.prog 34 #[.int .i64 w0, .int .i64 h0, .int .u32 b, .int .u32 f] w fun e w' => ∃ (mb g c : Nat) (F : Int → Int → Bool), e = .returned (.tuple #[.pointer (some ⟨mb, 0, none⟩), .slice (some ⟨g, 0, none⟩) NT c]) ∧ BuildEnd 24 37 F w.heap.size (gridP W H) (gridT W H bn) mb w' ∧ TrIn w' g ((gridT W H bn).map realV) ∧ w.heap.size ≤ g ∧ Below w.heap.size w w') →
   Calls Tryz.prog 34 #[.int .i64 w0, .int .i64 h0, .int .u32 b, .int .u32 f] w fun e w' => ∃ (mb pb pc tb tc g gn gc W H bn : Nat) (F : Int → Int → Bool) (Bd : List (Nat × Nat)) (S : List TriM), e = .returned (.tuple #[.pointer (some ⟨mb, 0, none⟩), .slice (some ⟨g, 0, none⟩) gn gc]) ∧ gn = (gridT W H bn).length ∧ GridIs w' w.heap.size mb pb pc tb tc g W H bn F Bd S ∧ Below w.heap.size w w' := by
  intro W H hW hH NT hNT hc
  refine hc.mono ?_
  rintro e w' ⟨mb, g, c, F, rfl, ⟨pb, pc, tv, S, Bd, hm, hpb, hp, hbs, hj⟩, htr, hg, hb⟩
  have ok := grid_ok hW hH hbn
  have hmo := grid_has hW hH hbn
  have hbu := Built.of ok.good ok.four hp hbs hj
  have h0 : 0 < S.length := by have := hbu.len; have := ok.four; have := hp.length_eq; omega
  obtain ⟨t, ht⟩ : ∃ t, S[0]? = some t := ⟨_, List.getElem?_eq_getElem h0⟩
  obtain ⟨tb, tc, rfl⟩ := hm.slot ht
  exact ⟨mb, pb, pc, tb, tc, g, _, c, W, H, bn, F, Bd, S, rfl, by rw [hmo.len]; exact hNT, ⟨hm, hpb, hbu, htr, hg, hW, hH, hbn⟩, hb⟩
 rcases and_one w0 with e1 | e1 <;> rcases and_one h0 with e2 | e2
 ·exact fin (W := 1) (H := 1) (by omega) (by omega) rfl (Grid11_any w0 h0 b f bn hbn e1 e2 hbit w)
 ·exact fin (W := 1) (H := 2) (by omega) (by omega) rfl (Grid12_any w0 h0 b f bn hbn e1 e2 hbit w)
 ·exact fin (W := 2) (H := 1) (by omega) (by omega) rfl (Grid21_any w0 h0 b f bn hbn e1 e2 hbit w)
 ·exact fin (W := 2) (H := 2) (by omega) (by omega) rfl (Grid22_any w0 h0 b f bn hbn e1 e2 hbit w)
end Go.Proofs.YtnabdopnlinklaaGreat
/- Going round a point of a grid: each triangle that has it comes once. Over no program; written ahead of layer 9's code. -/
namespace Go.MagM
/-- The next one, to the left: it begins where this one ends. -/
def nextS (R : List (Nat × Nat)) (s : Nat × Nat) : Nat × Nat := (R.find? fun p => p.1 == s.2).getD (0, 0)
def walkS (R : List (Nat × Nat)) : Nat → Nat × Nat → List (Nat × Nat)
 | 0, _ => []
 | n + 1, s => s :: walkS R n (nextS R s)
def iterS (R : List (Nat × Nat)) : Nat → Nat × Nat → Nat × Nat
 | 0, s => s
 | n + 1, s => iterS R n (nextS R s)
/-- From each of them on all come, each once, and then the first one again. -/
def roundS (R : List (Nat × Nat)) : Bool := (R.map (·.1)).Nodup && (R.map (·.2)).Nodup && R.all fun s => (walkS R R.length s).Nodup && (walkS R R.length s).all (fun p => R.contains p) && iterS R R.length s == s && R.any (fun p => p.1 == s.2)
/-- As a proposition: what follows what hangs on the set of them alone. -/
structure Round (R : List (Nat × Nat)) : Prop where
 firsts : (R.map (·.1)).Nodup
 seconds : (R.map (·.2)).Nodup
 next : ∀ s, s ∈ R → ∃ p, p ∈ R ∧ p.1 = s.2
 walk : ∀ s, s ∈ R → (walkS R R.length s).Nodup ∧ (∀ p, p ∈ walkS R R.length s → p ∈ R) ∧ iterS R R.length s = s
theorem Round.of {R : List (Nat × Nat)} (h : roundS R = true) : Round R := by
 unfold roundS at h
 simp only [Bool.and_eq_true, decide_eq_true_eq, List.all_eq_true, List.contains_iff_mem, beq_iff_eq, List.any_eq_true] at h
 obtain ⟨⟨h1, h2⟩, h3⟩ := h
 exact ⟨h1, h2, fun s hs => by obtain ⟨p, hp, e⟩ := (h3 s hs).2; exact ⟨p, hp, e⟩, fun s hs => ⟨(h3 s hs).1.1.1, (h3 s hs).1.1.2, (h3 s hs).1.2⟩⟩
theorem walkS_len (R : List (Nat × Nat)) : ∀ n s, (walkS R n s).length = n
 | 0, _ => rfl
 | n + 1, s => by rw [walkS, List.length_cons, walkS_len R n]
/-- All come. -/
theorem subset_of_len {α : Type} [DecidableEq α] : ∀ {l R : List α}, l.Nodup → (∀ x, x ∈ l → x ∈ R) → R.length ≤ l.length → ∀ x, x ∈ R → x ∈ l
 | [], R, _, _, hl, x, hx => by
  have : R = [] := List.eq_nil_of_length_eq_zero (by simpa using hl)
  rw [this] at hx; cases hx
 | a :: t, R, hn, hs, hl, x, hx => by
  have hn' := List.nodup_cons.1 hn
  by_cases e : x = a
  ·rw [e]; simp
  ·refine List.mem_cons_of_mem _ (subset_of_len (R := R.erase a) hn'.2 (fun y hy => ?_) ?_ x ?_)
   ·have hya : y ≠ a := fun e => hn'.1 (e ▸ hy)
    exact (List.mem_erase_of_ne hya).2 (hs y (List.mem_cons_of_mem _ hy))
   ·rw [List.length_erase_of_mem (hs a (by simp))]
    simp at hl; omega
   ·exact (List.mem_erase_of_ne e).2 hx
theorem Round.all {R : List (Nat × Nat)} (h : Round R) {s : Nat × Nat} (hs : s ∈ R) : ∀ p, p ∈ R → p ∈ walkS R R.length s := by
 obtain ⟨h1, h2, _⟩ := h.walk s hs
 exact subset_of_len h1 h2 (by rw [walkS_len]; exact Nat.le_refl _)
end Go.MagM
/- Going round a point of what the statements' Build has made: all triangles that have it come, each once. Pure. -/
namespace Go.MagM
/-- The points behind the k-th one. -/
def pairX (X : TriM) (k : Nat) : Int × Int := (X.v ((k + 1) % 3), X.v ((k + 2) % 3))
/-- Round, till the first one comes again. -/
def cutS (R : List (Nat × Nat)) (p0 : Nat × Nat) : Nat → Nat × Nat → List (Nat × Nat)
 | 0, _ => []
 | n + 1, p => p :: (if nextS R p = p0 then [] else cutS R p0 n (nextS R p))
theorem cutS_walk (R : List (Nat × Nat)) (p0 : Nat × Nat) : ∀ m n p, 1 ≤ m → m ≤ n → iterS R m p = p0 → (∀ j, 0 < j → j < m → iterS R j p ≠ p0) → cutS R p0 n p = walkS R m p
 | 0, _, _, h, _, _, _ => by omega
 | m + 1, 0, _, _, h, _, _ => by omega
 | m + 1, n + 1, p, _, hn, hi, hj => by
  rw [cutS, walkS]
  by_cases hm : m = 0
  ·subst hm
   have : nextS R p = p0 := hi
   rw [if_pos this]; rfl
  ·have h1 := hj 1 (by omega) (by omega)
   have h1' : nextS R p ≠ p0 := h1
   rw [if_neg h1', cutS_walk R p0 m n (nextS R p) (by omega) (by omega) hi (fun j h0 hlt => hj (j + 1) (by omega) (by omega))]
theorem walkS_get (R : List (Nat × Nat)) : ∀ n p j, j < n → (walkS R n p)[j]? = some (iterS R j p)
 | 0, _, _, h => by omega
 | n + 1, p, 0, _ => rfl
 | n + 1, p, j + 1, h => by
  rw [walkS, List.getElem?_cons_succ]
  exact walkS_get R n (nextS R p) j (by omega)
theorem Round.cut {R : List (Nat × Nat)} (h : Round R) {s : Nat × Nat} (hs : s ∈ R) {n : Nat} (hn : R.length ≤ n) : cutS R s n s = walkS R R.length s := by
 obtain ⟨h1, -, h3⟩ := h.walk s hs
 have hl : 1 ≤ R.length := List.length_pos_iff.2 (List.ne_nil_of_mem hs)
 refine cutS_walk R s R.length n s hl hn h3 fun j h0 hj e => ?_
 have e0 := walkS_get R R.length s 0 (by omega)
 have ej := walkS_get R R.length s j hj
 rw [e] at ej
 have := (List.getElem?_inj (by rw [walkS_len]; omega) h1).1 (e0.trans ej.symm)
 omega
section
variable {fa : Int → Int → Bool} {T : List (Nat × Nat × Nat)} {Bd : List (Nat × Nat)} {S : List TriM}
theorem Surf.points {V : List (Int × Int × Int)} (h : Surf fa V S) {t : Nat} {X : TriM} (hX : S[t]? = some X) : X.v1 ≠ X.v2 ∧ X.v2 ≠ X.v0 ∧ X.v0 ≠ X.v1 :=
 ⟨h.apart hX (i := 0) (by omega), h.apart hX (i := 1) (by omega), h.apart hX (i := 2) (by omega)⟩
theorem Surf.place {V : List (Int × Int × Int)} (h : Surf fa V S) {t k : Nat} {X : TriM} (hX : S[t]? = some X) (hk : k < 3) : placeT X (X.v k) = (k : Int) ∧ placeM S (t : Int) (X.v k) = (k : Int) := by
 obtain ⟨a, b, c⟩ := h.points hX
 have hp : placeT X (X.v k) = (k : Int) := by
  unfold placeT
  obtain rfl | rfl | rfl : k = 0 ∨ k = 1 ∨ k = 2 := by omega
  ·rw [show X.v 0 = X.v0 from rfl, if_pos rfl]; rfl
  ·rw [show X.v 1 = X.v1 from rfl, if_neg (fun e => c e.symm), if_pos rfl]; rfl
  ·rw [show X.v 2 = X.v2 from rfl, if_neg b, if_neg (fun e => a e.symm), if_pos rfl]; rfl
 refine ⟨hp, ?_⟩
 unfold placeM
 rw [getT_nat, hX]
 simp only []
 rw [(h.alive hX).2, hp]; simp
/-- The next one begins where this one ends. -/
theorem Surf.next {V : List (Int × Int × Int)} (h : Surf fa V S) {t k : Nat} {X : TriM} (hX : S[t]? = some X) (hk : k < 3) : ∃ (u l : Nat) (Y : TriM), S[u]? = some Y ∧ l < 3 ∧ Y.v l = X.v k ∧ (pairX Y l).1 = (pairX X k).2 ∧ stepM S (X.v k) (t : Int) = (u : Int) := by
 obtain ⟨u, j, Y, hY, hj, he, hn, -⟩ := h.other hX (i := (k + 1) % 3) (by omega)
 have e1 : edgeV X ((k + 1) % 3) = ((pairX X k).2, X.v k) := by
  obtain rfl | rfl | rfl : k = 0 ∨ k = 1 ∨ k = 2 := by omega
  all_goals rfl
 rw [e1] at he
 simp only [] at he
 refine ⟨u, (j + 1) % 3, Y, hY, by omega, ?_, ?_, ?_⟩
 ·obtain rfl | rfl | rfl : j = 0 ∨ j = 1 ∨ j = 2 := by omega
  all_goals exact congrArg Prod.fst he
 ·obtain rfl | rfl | rfl : j = 0 ∨ j = 1 ∨ j = 2 := by omega
  all_goals exact congrArg Prod.snd he
 ·unfold stepM
  rw [getT_nat, hX]
  simp only []
  rw [(h.place hX hk).1, Int.toNat_natCast, hn]
end
end Go.MagM
namespace Go.Proofs.YtnabdopnlinklaaGreat
open Go.RowKit Go.MagM
end Go.Proofs.YtnabdopnlinklaaGreat
/- Points can be looked for in the statements' grids. -/
namespace Go.Proofs.YtnabdopnlinklaaGreat
open Go.RowKit Go.MagM
def inL (w h bits : Nat) : Bool := (gridT w h bits).all (fun x => decide (x.1 < (gridP w h).length) && decide (x.2.1 < (gridP w h).length) && decide (x.2.2 < (gridP w h).length)) && (borderT (gridT w h bits)).all (fun e => decide (e.1 < (gridP w h).length) && decide (e.2 < (gridP w h).length)) && decide (0 < (gridT w h bits).length)
def allInL : Bool := [1, 2].all fun w => [1, 2].all fun h => (List.range 16).all fun bits => inL w h bits
set_option maxRecDepth 100000 in
theorem all_inL : allInL = true := by decide +kernel
theorem grid_inL {w h : Nat} (hw : w = 1 ∨ w = 2) (hh : h = 1 ∨ h = 2) {bits : Nat} (hb : bits < 16) : inL w h bits = true := by
 have h0 := all_inL
 unfold allInL at h0
 have h1 := List.all_eq_true.1 h0 w (by rcases hw with rfl | rfl <;> simp)
 have h2 := List.all_eq_true.1 h1 h (by rcases hh with rfl | rfl <;> simp)
 exact List.all_eq_true.1 h2 bits (by simp; omega)
theorem grid_look {fa : Int → Int → Bool} {W H bn : Nat} {Bd : List (Nat × Nat)} {S : List TriM} (h : Built fa (gridT W H bn) Bd S) (hW : W = 1 ∨ W = 2) (hH : H = 1 ∨ H = 2) (hb : bn < 16) : LookIn (gridP W H) S := by
 have hi := grid_inL hW hH hb
 unfold inL at hi
 rw [Bool.and_eq_true, Bool.and_eq_true] at hi
 obtain ⟨⟨h1, h2⟩, -⟩ := hi
 intro t T hT
 rcases h.cases hT with ⟨x, hx, e0, e1, e2⟩ | ⟨k, e, he, hk, e0, e1, e2⟩
 ·have hm := List.all_eq_true.1 h1 x (List.mem_of_getElem? hx)
  simp only [Bool.and_eq_true, decide_eq_true_eq] at hm
  refine ⟨fun _ i hi => ?_, fun k hk => ?_⟩
  ·obtain rfl | rfl | rfl : i = 0 ∨ i = 1 ∨ i = 2 := by omega
   ·exact ⟨by show 0 ≤ T.v0; omega, by show T.v0 < _; omega⟩
   ·exact ⟨by show 0 ≤ T.v1; omega, by show T.v1 < _; omega⟩
   ·exact ⟨by show 0 ≤ T.v2; omega, by show T.v2 < _; omega⟩
  ·unfold placeT at hk
   rw [if_neg (by omega), if_neg (by omega), if_neg (by omega)] at hk
   omega
 ·have hm := List.all_eq_true.1 h2 e (h.mem.1 (List.mem_of_getElem? hk))
  simp only [Bool.and_eq_true, decide_eq_true_eq] at hm
  refine ⟨fun hr => ?_, fun k' hk' => ?_⟩
  ·unfold realT at hr
   have := of_decide_eq_true hr
   omega
  ·unfold placeT at hk'
   rw [if_neg (by omega), if_neg (by omega), if_pos e2.symm] at hk'
   obtain rfl : k' = 2 := by omega
   exact ⟨⟨by show 0 ≤ T.v0; omega, by show T.v0 < _; omega⟩, ⟨by show 0 ≤ T.v1; omega, by show T.v1 < _; omega⟩⟩
end Go.Proofs.YtnabdopnlinklaaGreat
/- Right's has. -/
namespace Go.MagM
open Go.RowKit
def hasT (T : TriM) (v : Int) : Bool := decide (T.v0 = v) || decide (T.v1 = v) || decide (T.v2 = v)
end Go.MagM
namespace Go.Proofs.YtnabdopnlinklaaGreat
open Go.RowKit Go.MagM
end Go.Proofs.YtnabdopnlinklaaGreat
/- Right: what it looks for, and that each walk in the statements' grids ends as it asks. Pure. -/
namespace Go.Proofs.YtnabdopnlinklaaGreat
open Go.RowKit Go.MagM
/-- What Right has seen: a triangle that holds the point, a corner there, an edge on which it lies. -/
structure RS where
 ins : Bool
 at_ : Int
 e0 : Int
 e1 : Int
deriving DecidableEq
def onE (P : List (Int × Int)) (p : Int × Int) (T : TriM) (i : Nat) : Bool := decide (sideT P T i p = 0) && betP p (ptT P T ((i + 1) % 3)) (ptT P T ((i + 2) % 3))
def rsI (P : List (Int × Int)) (p : Int × Int) (T : TriM) (s : RS) (i : Nat) : RS :=
 ⟨s.ins, if ptT P T ((i + 1) % 3) = p then T.v ((i + 1) % 3) else s.at_,
  if onE P p T i = true then min (T.v ((i + 1) % 3)) (T.v ((i + 2) % 3)) else s.e0, if onE P p T i = true then max (T.v ((i + 1) % 3)) (T.v ((i + 2) % 3)) else s.e1⟩
def rsK (P : List (Int × Int)) (p : Int × Int) (T : TriM) (s : RS) : Nat → RS
 | 0 => s
 | i + 1 => rsI P p T (rsK P p T s i) i
def rsT (P : List (Int × Int)) (p : Int × Int) (s : RS) (T : TriM) : RS := ⟨s.ins || holdsT P T p, (rsK P p T s 3).at_, (rsK P p T s 3).e0, (rsK P p T s 3).e1⟩
def rs0 : RS := ⟨false, -1, 0, 0⟩
def rsL (P : List (Int × Int)) (p : Int × Int) (l : List (Nat × TriM)) : RS := l.foldl (fun s x => rsT P p s x.2) rs0
theorem rsL_snoc (P : List (Int × Int)) (p : Int × Int) (l : List (Nat × TriM)) (x : Nat × TriM) : rsL P p (l ++ [x]) = rsT P p (rsL P p l) x.2 := by unfold rsL; rw [List.foldl_append]; rfl
/-- The place of a point that some triangle holds. -/
def okIn (P : List (Int × Int)) (p : Int × Int) (s : RS) (T : TriM) (x : Int × Int × Int × Int) : Bool :=
 s.ins && realT T && (if 0 ≤ s.at_ then decide (x.1 = 2 ∧ x.2.2.1 = s.at_ ∧ x.2.2.2 = 0) && hasT T s.at_
  else if ¬ (s.e0 = 0 ∧ s.e1 = 0) then decide (x.1 = 1 ∧ x.2.2.1 = s.e0 ∧ x.2.2.2 = s.e1) && hasT T s.e0 && hasT T s.e1
  else decide (x.1 = 0 ∧ x.2.2.1 = 0 ∧ x.2.2.2 = 0) && (decide (0 < sideT P T 2 p) && decide (0 < sideT P T 0 p) && decide (0 < sideT P T 1 p)))
/-- A place is where a point lies. -/
def RightIs (P : List (Int × Int)) (S : List TriM) (p : Int × Int) (x : Int × Int × Int × Int) : Prop :=
 ∃ (t : Nat) (T : TriM), S[t]? = some T ∧ x.2.1 = (t : Int) ∧
  (okIn P p (rsL P p (realsK S S.length)) T x = true ∨
   ((rsL P p (realsK S S.length)).ins = false ∧ realT T = false ∧ x = (3, (t : Int), 0, 0) ∧ ∃ j, j < 3 ∧ T.v j = -1 ∧ 0 ≤ T.v ((j + 1) % 3) ∧ 0 ≤ T.v ((j + 2) % 3) ∧ 0 < sideT P T j p))
theorem rsL_ins (P : List (Int × Int)) (p : Int × Int) (l : List (Nat × TriM)) : (rsL P p l).ins = l.any (fun x => holdsT P x.2 p) := by
 have : ∀ (l : List (Nat × TriM)) (s : RS), (l.foldl (fun s x => rsT P p s x.2) s).ins = (s.ins || l.any (fun x => holdsT P x.2 p)) := by
  intro l
  induction l with
  | nil => intro s; simp
  | cons x r ih => intro s; rw [List.foldl_cons, ih]; show ((s.ins || holdsT P x.2 p) || _) = _; rw [List.any_cons, Bool.or_assoc]
 unfold rsL
 rw [this]; simp [rs0]
theorem realsK_mem {S : List TriM} {x : Nat × TriM} : ∀ {n : Nat}, x ∈ realsK S n → S[x.1]? = some x.2 ∧ realT x.2 = true
 | 0, h => by cases h
 | n + 1, h => by
  rw [realsK, List.mem_append] at h
  rcases h with h | h
  ·exact realsK_mem h
  ·cases hS : S[n]? with
   | none => rw [hS] at h; simp at h
   | some T =>
    rw [hS] at h
    simp only [] at h
    split at h
    ·rename_i hr
     simp only [List.mem_cons, List.not_mem_nil, or_false] at h
     subst h
     exact ⟨hS, hr⟩
    ·cases h
theorem getP_at (P : List (Int × Int)) (a : Nat) : getP P (a : Int) = P[a]? := by unfold getP; rw [if_pos (by omega)]; rfl
/-- A triangle of these corners. -/
def triN (x : Nat × Nat × Nat) : TriM := ⟨(x.1 : Int), (x.2.1 : Int), (x.2.2 : Int), -1, -1, -1, false, false, false⟩
/-- Triangles of the same corners. -/
def SameV (T U : TriM) : Prop := T.v0 = U.v0 ∧ T.v1 = U.v1 ∧ T.v2 = U.v2
theorem SameV.v {T U : TriM} (h : SameV T U) (k : Nat) : T.v k = U.v k := by
 obtain ⟨h0, h1, h2⟩ := h
 match k with
 | 0 => exact h0
 | 1 => exact h1
 | k + 2 => exact h2
theorem SameV.side {T U : TriM} (h : SameV T U) (P : List (Int × Int)) (i : Nat) (p : Int × Int) : sideT P T i p = sideT P U i p := by unfold sideT; rw [h.v, h.v]
theorem SameV.pt {T U : TriM} (h : SameV T U) (P : List (Int × Int)) (k : Nat) : ptT P T k = ptT P U k := by unfold ptT; rw [h.v]
theorem SameV.holds {T U : TriM} (h : SameV T U) (P : List (Int × Int)) (p : Int × Int) : holdsT P T p = holdsT P U p := by unfold holdsT; rw [h.side, h.side, h.side]
theorem SameV.rsIs {T U : TriM} (h : SameV T U) (P : List (Int × Int)) (p : Int × Int) (s : RS) (i : Nat) : rsI P p T s i = rsI P p U s i := by
 have e : onE P p T i = onE P p U i := by unfold onE; rw [h.side, h.pt, h.pt]
 unfold rsI
 rw [h.pt, h.v, h.v, e]
theorem SameV.rsTs {T U : TriM} (h : SameV T U) (P : List (Int × Int)) (p : Int × Int) (s : RS) : rsT P p s T = rsT P p s U := by
 have : ∀ n, rsK P p T s n = rsK P p U s n := by
  intro n
  induction n with
  | zero => rfl
  | succ n ih => rw [rsK, rsK, ih, h.rsIs]
 unfold rsT
 rw [this, h.holds]
theorem SameV.has {T U : TriM} (h : SameV T U) (v : Int) : hasT T v = hasT U v := by unfold hasT; rw [h.1, h.2.1, h.2.2]
theorem SameV.real {T U : TriM} (h : SameV T U) : realT T = realT U := by unfold realT; rw [h.1, h.2.1, h.2.2]
theorem SameV.okIns {T U : TriM} (h : SameV T U) (P : List (Int × Int)) (p : Int × Int) (s : RS) (x : Int × Int × Int × Int) : okIn P p s T x = okIn P p s U x := by
 unfold okIn; rw [h.real, h.has, h.has, h.has, h.side, h.side, h.side]
theorem SameV.within {T U : TriM} (h : SameV T U) (P : List (Int × Int)) (t : Nat) (p : Int × Int) : withinT P T t p = withinT P U t p := by
 have e : T.v = U.v := funext h.v
 have e2 : (fun k => decide (sideT P T k p = 0)) = (fun k => decide (sideT P U k p = 0)) := funext fun k => by rw [h.side]
 unfold withinT
 rw [e, e2]
theorem within_no (P : List (Int × Int)) (T : TriM) (t : Nat) (p : Int × Int) : (withinT P T t p).2.1 = (t : Int) ∧ (withinT P T t p).1 = (withinT P T 0 p).1 ∧ (withinT P T t p).2.2 = (withinT P T 0 p).2.2 := by
 unfold withinT
 split
 ·exact ⟨rfl, rfl, rfl⟩
 ·split <;> exact ⟨rfl, rfl, rfl⟩
theorem okIn_no {P : List (Int × Int)} {p : Int × Int} {s : RS} {T : TriM} {x y : Int × Int × Int × Int} (h1 : x.1 = y.1) (h2 : x.2.2 = y.2.2) : okIn P p s T x = okIn P p s T y := by
 unfold okIn; rw [h1, h2]
/-- Points made of corners' parts. -/
theorem bary_1 (u v w p : Int × Int) : crP v w p * u.1 + crP w u p * v.1 + crP u v p * w.1 = crP u v w * p.1 := by unfold crP crs; grind
theorem bary_2 (u v w p : Int × Int) : crP v w p * u.2 + crP w u p * v.2 + crP u v p * w.2 = crP u v w * p.2 := by unfold crP crs; grind
theorem bary_1s (u v w p : Int × Int) : crP v w p + crP w u p + crP u v p = crP u v w := by unfold crP crs; grind
theorem part_ge {a b c x y z d q m : Int} (ha : 0 ≤ a) (hb : 0 ≤ b) (hc : 0 ≤ c) (hd : 0 < d) (hs : a + b + c = d) (he : a * x + b * y + c * z = d * q) (hx : m ≤ x) (hy : m ≤ y) (hz : m ≤ z) : m ≤ q := by
 have h1 : a * m ≤ a * x := Int.mul_le_mul_of_nonneg_left hx ha
 have h2 : b * m ≤ b * y := Int.mul_le_mul_of_nonneg_left hy hb
 have h3 : c * m ≤ c * z := Int.mul_le_mul_of_nonneg_left hz hc
 have h4 : a * m + b * m + c * m = d * m := by rw [← hs]; grind
 refine Int.not_lt.1 fun hq => ?_
 have h5 : d * q < d * m := Int.mul_lt_mul_of_pos_left hq hd
 omega
theorem part_le {a b c x y z d q m : Int} (ha : 0 ≤ a) (hb : 0 ≤ b) (hc : 0 ≤ c) (hd : 0 < d) (hs : a + b + c = d) (he : a * x + b * y + c * z = d * q) (hx : x ≤ m) (hy : y ≤ m) (hz : z ≤ m) : q ≤ m := by
 have := part_ge (x := -x) (y := -y) (z := -z) (q := -q) (m := -m) ha hb hc hd hs (by rw [Int.mul_neg, Int.mul_neg, Int.mul_neg, Int.mul_neg]; omega) (by omega) (by omega) (by omega)
 omega
/-- The points of a grid's rectangle. -/
def boxG (w h : Nat) : List (Int × Int) := (List.range (2 * h + 1)).flatMap fun y : Nat => (List.range (2 * w + 1)).map fun x : Nat => ((x : Int), (y : Int))
def InBox (w h : Nat) (p : Int × Int) : Prop := 0 ≤ p.1 ∧ p.1 ≤ 2 * (w : Int) ∧ 0 ≤ p.2 ∧ p.2 ≤ 2 * (h : Int)
theorem boxG_mem {w h : Nat} {p : Int × Int} (hp : InBox w h p) : p ∈ boxG w h := by
 obtain ⟨h0, h1, h2, h3⟩ := hp
 unfold boxG
 rw [List.mem_flatMap]
 refine ⟨p.2.toNat, List.mem_range.2 (by omega), List.mem_map.2 ⟨p.1.toNat, List.mem_range.2 (by omega), ?_⟩⟩
 exact Prod.ext (by simp only []; omega) (by simp only []; omega)
def rsG (Q : List (Int × Int)) (p : Int × Int) (L : List TriM) : RS := L.foldl (rsT Q p) rs0
def rightG (w h bits : Nat) : Bool :=
 let Q := gridP w h
 let L := (gridT w h bits).map triN
 (boxG w h).all fun p =>
  let s := rsG Q p L
  L.any (fun T => holdsT Q T p) && L.all fun T => !holdsT Q T p || okIn Q p s T (withinT Q T 0 p)
def allRight : Bool := [1, 2].all fun w => [1, 2].all fun h => (List.range 16).all fun bits => rightG w h bits
set_option maxRecDepth 100000 in
theorem all_right : allRight = true := by decide +kernel
theorem grid_rightG {w h : Nat} (hw : w = 1 ∨ w = 2) (hh : h = 1 ∨ h = 2) {bits : Nat} (hb : bits < 16) : rightG w h bits = true := by
 have h0 := all_right
 unfold allRight at h0
 have h1 := List.all_eq_true.1 h0 w (by rcases hw with rfl | rfl <;> simp)
 have h2 := List.all_eq_true.1 h1 h (by rcases hh with rfl | rfl <;> simp)
 exact List.all_eq_true.1 h2 bits (by simp; omega)
/-- On which sides of the rectangle an edge of the border lies. -/
def sideG (w h : Nat) (e : Nat × Nat) : Bool :=
 let a := ptA (gridP w h) e.1
 let b := ptA (gridP w h) e.2
 (decide (a.1 = 0 ∧ b.1 = 0 ∧ b.2 < a.2)) || (decide (a.1 = 2 * (w : Int) ∧ b.1 = 2 * (w : Int) ∧ a.2 < b.2)) || (decide (a.2 = 0 ∧ b.2 = 0 ∧ a.1 < b.1)) || (decide (a.2 = 2 * (h : Int) ∧ b.2 = 2 * (h : Int) ∧ b.1 < a.1))
def edgeG (w h bits : Nat) : Bool :=
 let B := borderT (gridT w h bits)
 B.all (sideG w h) &&
 B.any (fun e => decide ((ptA (gridP w h) e.1).1 = 0 ∧ (ptA (gridP w h) e.2).1 = 0 ∧ (ptA (gridP w h) e.2).2 < (ptA (gridP w h) e.1).2)) &&
 B.any (fun e => decide ((ptA (gridP w h) e.1).1 = 2 * (w : Int) ∧ (ptA (gridP w h) e.2).1 = 2 * (w : Int) ∧ (ptA (gridP w h) e.1).2 < (ptA (gridP w h) e.2).2)) &&
 B.any (fun e => decide ((ptA (gridP w h) e.1).2 = 0 ∧ (ptA (gridP w h) e.2).2 = 0 ∧ (ptA (gridP w h) e.1).1 < (ptA (gridP w h) e.2).1)) &&
 B.any (fun e => decide ((ptA (gridP w h) e.1).2 = 2 * (h : Int) ∧ (ptA (gridP w h) e.2).2 = 2 * (h : Int) ∧ (ptA (gridP w h) e.2).1 < (ptA (gridP w h) e.1).1)) &&
 (gridP w h).all (fun q => decide (0 ≤ q.1 ∧ q.1 ≤ 2 * (w : Int) ∧ 0 ≤ q.2 ∧ q.2 ≤ 2 * (h : Int)))
def allEdgeG : Bool := [1, 2].all fun w => [1, 2].all fun h => (List.range 16).all fun bits => edgeG w h bits
set_option maxRecDepth 100000 in
theorem all_edgeG : allEdgeG = true := by decide +kernel
theorem grid_edgeG {w h : Nat} (hw : w = 1 ∨ w = 2) (hh : h = 1 ∨ h = 2) {bits : Nat} (hb : bits < 16) : edgeG w h bits = true := by
 have h0 := all_edgeG
 unfold allEdgeG at h0
 have h1 := List.all_eq_true.1 h0 w (by rcases hw with rfl | rfl <;> simp)
 have h2 := List.all_eq_true.1 h1 h (by rcases hh with rfl | rfl <;> simp)
 exact List.all_eq_true.1 h2 bits (by simp; omega)
theorem face_out {w h : Nat} {e : Nat × Nat} (hs : sideG w h e = true) {p : Int × Int} (hf : 0 < crP (ptA (gridP w h) e.2) (ptA (gridP w h) e.1) p) : ¬ InBox w h p := by
 unfold sideG at hs
 simp only [Bool.or_eq_true, decide_eq_true_eq] at hs
 unfold crP crs at hf
 rintro ⟨h0, h1, h2, h3⟩
 rcases hs with ((⟨a1, a2, a3⟩ | ⟨a1, a2, a3⟩) | ⟨a1, a2, a3⟩) | ⟨a1, a2, a3⟩
 ·rw [a1, a2] at hf
  have := Int.mul_nonneg (show 0 ≤ (ptA (gridP w h) e.1).2 - (ptA (gridP w h) e.2).2 by omega) (show 0 ≤ p.1 - 0 by omega)
  rw [Int.sub_self, Int.zero_mul] at hf; omega
 ·rw [a1, a2] at hf
  have := Int.mul_nonneg_of_nonpos_of_nonpos (show (ptA (gridP w h) e.1).2 - (ptA (gridP w h) e.2).2 ≤ 0 by omega) (show p.1 - 2 * (w : Int) ≤ 0 by omega)
  rw [Int.sub_self, Int.zero_mul] at hf; omega
 ·rw [a1, a2] at hf
  have := Int.mul_nonpos_of_nonpos_of_nonneg (show (ptA (gridP w h) e.1).1 - (ptA (gridP w h) e.2).1 ≤ 0 by omega) (show 0 ≤ p.2 - 0 by omega)
  rw [Int.sub_self, Int.zero_mul] at hf; omega
 ·rw [a1, a2] at hf
  have := Int.mul_nonpos_of_nonneg_of_nonpos (show 0 ≤ (ptA (gridP w h) e.1).1 - (ptA (gridP w h) e.2).1 by omega) (show p.2 - 2 * (h : Int) ≤ 0 by omega)
  rw [Int.sub_self, Int.zero_mul] at hf; omega
/-- A point outside lies beyond some edge of the border. -/
theorem out_face {w h bits : Nat} (hg : edgeG w h bits = true) {p : Int × Int} (hp : ¬ InBox w h p) : ∃ e, e ∈ borderT (gridT w h bits) ∧ 0 < crP (ptA (gridP w h) e.2) (ptA (gridP w h) e.1) p := by
 unfold edgeG at hg
 simp only [Bool.and_eq_true, List.any_eq_true, decide_eq_true_eq] at hg
 obtain ⟨⟨⟨⟨⟨-, ⟨e1, m1, a1, a2, a3⟩⟩, ⟨e2, m2, b1, b2, b3⟩⟩, ⟨e3, m3, c1, c2, c3⟩⟩, ⟨e4, m4, d1, d2, d3⟩⟩, -⟩ := hg
 by_cases h0 : p.1 < 0
 ·refine ⟨e1, m1, ?_⟩
  unfold crP crs
  rw [a1, a2, Int.sub_self, Int.zero_mul]
  have := Int.mul_neg_of_pos_of_neg (show 0 < (ptA (gridP w h) e1.1).2 - (ptA (gridP w h) e1.2).2 by omega) (show p.1 - 0 < 0 by omega)
  omega
 by_cases h1 : 2 * (w : Int) < p.1
 ·refine ⟨e2, m2, ?_⟩
  unfold crP crs
  rw [b1, b2, Int.sub_self, Int.zero_mul]
  have := Int.mul_neg_of_neg_of_pos (show (ptA (gridP w h) e2.1).2 - (ptA (gridP w h) e2.2).2 < 0 by omega) (show 0 < p.1 - 2 * (w : Int) by omega)
  omega
 by_cases h2 : p.2 < 0
 ·refine ⟨e3, m3, ?_⟩
  unfold crP crs
  rw [c1, c2, Int.sub_self, Int.zero_mul]
  have := Int.mul_pos_of_neg_of_neg (show (ptA (gridP w h) e3.1).1 - (ptA (gridP w h) e3.2).1 < 0 by omega) (show p.2 - 0 < 0 by omega)
  omega
 by_cases h3 : 2 * (h : Int) < p.2
 ·refine ⟨e4, m4, ?_⟩
  unfold crP crs
  rw [d1, d2, Int.sub_self, Int.zero_mul]
  have := Int.mul_pos (show 0 < (ptA (gridP w h) e4.1).1 - (ptA (gridP w h) e4.2).1 by omega) (show 0 < p.2 - 2 * (h : Int) by omega)
  omega
 exact absurd ⟨by omega, by omega, by omega, by omega⟩ hp
theorem grid_reals {fa : Int → Int → Bool} {W H bn : Nat} {Bd : List (Nat × Nat)} {S : List TriM} (h : Built fa (gridT W H bn) Bd S) : ∃ L : List (Nat × TriM), realsK S S.length = L ∧ ∀ (Q : List (Int × Int)) (p : Int × Int), rsL Q p L = rsG Q p ((gridT W H bn).map triN) := by
 refine ⟨_, rfl, fun Q p => ?_⟩
 have key : ∀ n, n ≤ (gridT W H bn).length → rsL Q p (realsK S n) = rsG Q p (((gridT W H bn).take n).map triN) := by
  intro n
  induction n with
  | zero => intro _; rfl
  | succ n ih =>
   intro hn
   obtain ⟨x, hx⟩ : ∃ x, (gridT W H bn)[n]? = some x := ⟨_, List.getElem?_eq_getElem (by omega)⟩
   obtain ⟨T, hT, e0, e1, e2⟩ := h.real hx
   have hr : realT T = true := by unfold realT; exact decide_eq_true (by omega)
   rw [realsK_yes hT hr, rsL_snoc, ih (by omega), List.take_add_one, hx]
   unfold rsG
   rw [List.map_append, List.foldl_append]
   exact SameV.rsTs (T := T) (U := triN x) ⟨e0, e1, e2⟩ Q p _
 have rest : ∀ k, realsK S ((gridT W H bn).length + k) = realsK S (gridT W H bn).length := by
  intro k
  induction k with
  | zero => rfl
  | succ k ih =>
   rw [← Nat.add_assoc, realsK, ih]
   cases hS : S[(gridT W H bn).length + k]? with
   | none => simp
   | some T =>
    have := h.real_iff ((gridT W H bn).length + k)
    unfold realM at this
    rw [getT_nat, hS] at this
    simp only [] at this ⊢
    rw [this, decide_eq_false (by omega)]; simp
 have hl : S.length = (gridT W H bn).length + (S.length - (gridT W H bn).length) := by have := h.len; omega
 rw [hl, rest, key _ (Nat.le_refl _), List.take_length]
section
variable {fa : Int → Int → Bool} {W H bn : Nat} {Bd : List (Nat × Nat)} {S : List TriM} (h : Built fa (gridT W H bn) Bd S) (hW : W = 1 ∨ W = 2) (hH : H = 1 ∨ H = 2) (hb : bn < 16)
include h hW hH hb
theorem grid_pt {k : Nat} {T : TriM} {t : Nat} (hT : S[t]? = some T) (hr : realT T = true) (hk : k < 3) : 0 ≤ (ptT (gridP W H) T k).1 ∧ (ptT (gridP W H) T k).1 ≤ 2 * (W : Int) ∧ 0 ≤ (ptT (gridP W H) T k).2 ∧ (ptT (gridP W H) T k).2 ≤ 2 * (H : Int) := by
 have hl := (grid_look h hW hH hb t T hT).1 hr k hk
 obtain ⟨a, ea, la, ga⟩ := hl.nat
 have hg := grid_edgeG hW hH hb
 unfold edgeG at hg
 simp only [Bool.and_eq_true, List.all_eq_true, decide_eq_true_eq] at hg
 exact hg.2 _ (List.mem_of_getElem? ga)
theorem grid_turn {T : TriM} {t : Nat} (hT : S[t]? = some T) (hr : realT T = true) : 0 < crP (ptT (gridP W H) T 0) (ptT (gridP W H) T 1) (ptT (gridP W H) T 2) := by
 rcases h.cases hT with ⟨x, hx, e0, e1, e2⟩ | ⟨k, e, he, hk, e0, e1, e2⟩
 ·have ok := grid_ok hW hH hb
  have ht := ok.turn x (List.mem_of_getElem? hx)
  obtain ⟨p0, p1, p2⟩ := ok.pts x (List.mem_of_getElem? hx)
  unfold turnM at ht
  rw [show getP (gridP W H) (x.1 : Int) = some (ptA (gridP W H) x.1) from (getP_at _ _).trans (ptA_at p0), show getP (gridP W H) (x.2.1 : Int) = some (ptA (gridP W H) x.2.1) from (getP_at _ _).trans (ptA_at p1), show getP (gridP W H) (x.2.2 : Int) = some (ptA (gridP W H) x.2.2) from (getP_at _ _).trans (ptA_at p2)] at ht
  simp only [] at ht
  rw [sign_gt] at ht
  have q0 : ptT (gridP W H) T 0 = ptA (gridP W H) x.1 := by unfold ptT; rw [show T.v 0 = T.v0 from rfl, e0]; rfl
  have q1 : ptT (gridP W H) T 1 = ptA (gridP W H) x.2.1 := by unfold ptT; rw [show T.v 1 = T.v1 from rfl, e1]; rfl
  have q2 : ptT (gridP W H) T 2 = ptA (gridP W H) x.2.2 := by unfold ptT; rw [show T.v 2 = T.v2 from rfl, e2]; rfl
  rw [q0, q1, q2]; exact ht
 ·unfold realT at hr
  have := of_decide_eq_true hr
  omega
theorem grid_held {p : Int × Int} {T : TriM} {t : Nat} (hT : S[t]? = some T) (hr : realT T = true) (hh : holdsT (gridP W H) T p = true) : InBox W H p := by
 have hc := holdsT_iff.1 hh
 have c0 := hc 0 (by omega); have c1 := hc 1 (by omega); have c2 := hc 2 (by omega)
 have hD := grid_turn h hW hH hb hT hr
 obtain ⟨a0, a1, a2, a3⟩ := grid_pt h hW hH hb (k := 0) hT hr (by omega)
 obtain ⟨b0, b1, b2, b3⟩ := grid_pt h hW hH hb (k := 1) hT hr (by omega)
 obtain ⟨d0, d1, d2, d3⟩ := grid_pt h hW hH hb (k := 2) hT hr (by omega)
 have s := bary_1s (ptT (gridP W H) T 0) (ptT (gridP W H) T 1) (ptT (gridP W H) T 2) p
 have e1 := bary_1 (ptT (gridP W H) T 0) (ptT (gridP W H) T 1) (ptT (gridP W H) T 2) p
 have e2 := bary_2 (ptT (gridP W H) T 0) (ptT (gridP W H) T 1) (ptT (gridP W H) T 2) p
 exact ⟨part_ge c0 c1 c2 hD s e1 a0 b0 d0, part_le c0 c1 c2 hD s e1 a1 b1 d1, part_ge c0 c1 c2 hD s e2 a2 b2 d2, part_le c0 c1 c2 hD s e2 a3 b3 d3⟩
theorem grid_out {p : Int × Int} (hp : ¬ InBox W H p) : (rsL (gridP W H) p (realsK S S.length)).ins = false := by
 rw [rsL_ins]
 refine Bool.eq_false_iff.2 fun hc => ?_
 rw [List.any_eq_true] at hc
 obtain ⟨x, hx, hh⟩ := hc
 obtain ⟨h1, h2⟩ := realsK_mem hx
 exact hp (grid_held h hW hH hb h1 h2 hh)
theorem grid_in {p : Int × Int} {T : TriM} {t : Nat} (hT : S[t]? = some T) (hr : realT T = true) (hh : holdsT (gridP W H) T p = true) : RightIs (gridP W H) S p (withinT (gridP W H) T t p) := by
 obtain ⟨n1, n2, n3⟩ := within_no (gridP W H) T t p
 refine ⟨t, T, hT, n1, .inl ?_⟩
 rw [okIn_no n2 n3]
 obtain ⟨L, hL, hLs⟩ := grid_reals h
 rw [hL, hLs]
 have hg := grid_rightG hW hH hb
 unfold rightG at hg
 have h1 := List.all_eq_true.1 hg p (boxG_mem (grid_held h hW hH hb hT hr hh))
 simp only [Bool.and_eq_true] at h1
 replace h1 := h1.2
 rcases h.cases hT with ⟨x, hx, e0, e1, e2⟩ | ⟨k, e, he, hk, e0, e1, e2⟩
 ·have h2 := List.all_eq_true.1 h1 (triN x) (List.mem_map.2 ⟨x, List.mem_of_getElem? hx, rfl⟩)
  have sv : SameV T (triN x) := ⟨e0, e1, e2⟩
  rw [← sv.holds, hh] at h2
  rw [sv.okIns, sv.within]
  simpa using h2
 ·unfold realT at hr
  have := of_decide_eq_true hr
  omega
/-- A ghost that has the point beyond. -/
theorem grid_ghost {p : Int × Int} {U : TriM} {u j : Nat} (hU : S[u]? = some U) (hr : realT U = false) (hj : j < 3) (v1 : 0 ≤ U.v ((j + 1) % 3)) (v2 : 0 ≤ U.v ((j + 2) % 3)) (hs : 0 < sideT (gridP W H) U j p) : RightIs (gridP W H) S p (3, (u : Int), 0, 0) := by
 rcases h.cases hU with ⟨x, hx, e0, e1, e2⟩ | ⟨k, e, he, hk, e0, e1, e2⟩
 ·have : realT U = true := by unfold realT; exact decide_eq_true (by omega)
  rw [hr] at this; cases this
 ·have hj2 : j = 2 := by
   obtain rfl | rfl | rfl : j = 0 ∨ j = 1 ∨ j = 2 := by omega
   ·have : U.v 2 = U.v2 := rfl
    rw [show (0 + 2) % 3 = 2 from rfl, this] at v2; omega
   ·have : U.v 2 = U.v2 := rfl
    rw [show (1 + 1) % 3 = 2 from rfl, this] at v1; omega
   ·rfl
  subst hj2
  have hm := h.mem.1 (List.mem_of_getElem? hk)
  have hg := grid_edgeG hW hH hb
  unfold edgeG at hg
  simp only [Bool.and_eq_true] at hg
  have hsg := List.all_eq_true.1 hg.1.1.1.1.1 e hm
  have hs2 := hs
  rw [sideT_is, sign_gt] at hs2
  have q0 : ptT (gridP W H) U ((2 + 1) % 3) = ptA (gridP W H) e.2 := by unfold ptT; rw [show U.v ((2 + 1) % 3) = U.v0 from rfl, e0]; rfl
  have q1 : ptT (gridP W H) U ((2 + 2) % 3) = ptA (gridP W H) e.1 := by unfold ptT; rw [show U.v ((2 + 2) % 3) = U.v1 from rfl, e1]; rfl
  rw [q0, q1] at hs2
  exact ⟨u, U, hU, rfl, .inr ⟨grid_out h hW hH hb (face_out hsg hs2), hr, rfl, 2, by omega, e2, v1, v2, hs⟩⟩
theorem grid_look_right (p : Int × Int) : RightIs (gridP W H) S p (lookM (gridP W H) S p) := by
 by_cases hx : ∃ t, t < S.length ∧ heldAt (gridP W H) S p t = true
 ·obtain ⟨t, ht, hh⟩ := hx
  cases hf : firstN (heldAt (gridP W H) S p) S.length with
  | none => exact absurd hf (firstN_some.firstN_ex hh ht)
  | some k =>
   obtain ⟨k1, k2, k3⟩ := firstN_some hf
   obtain ⟨T, hT⟩ : ∃ T, S[k]? = some T := ⟨_, List.getElem?_eq_getElem k1⟩
   have hk2 := k2
   unfold heldAt at hk2
   rw [hT] at hk2
   simp only [] at hk2
   rw [look_held hT hk2 k3]
   rw [Bool.and_eq_true] at hk2
   exact grid_in h hW hH hb hT hk2.1 hk2.2
 ·have hno : ∀ j, j < S.length → heldAt (gridP W H) S p j = false := fun j hj => Bool.eq_false_iff.2 fun e => hx ⟨j, hj, e⟩
  have hp : ¬ InBox W H p := by
   intro hp
   have hg := grid_rightG hW hH hb
   unfold rightG at hg
   have h1 := List.all_eq_true.1 hg p (boxG_mem hp)
   simp only [Bool.and_eq_true] at h1
   obtain ⟨T, hT, hh⟩ := List.any_eq_true.1 h1.1
   obtain ⟨x, hx', rfl⟩ := List.mem_map.1 hT
   obtain ⟨i, hi⟩ := List.mem_iff_getElem?.1 hx'
   obtain ⟨X, hX, e0, e1, e2⟩ := h.real hi
   have sv : SameV X (triN x) := ⟨e0, e1, e2⟩
   have hne := hno i (List.getElem?_eq_some_iff.1 hX).1
   unfold heldAt at hne
   rw [hX] at hne
   simp only [] at hne
   rw [sv.holds, hh, show realT X = true by unfold realT; exact decide_eq_true (by omega)] at hne
   cases hne
  rw [look_out hno]
  obtain ⟨e, he, hf⟩ := out_face (grid_edgeG hW hH hb) hp
  obtain ⟨k, hk⟩ := List.mem_iff_getElem?.1 (h.mem.2 he)
  obtain ⟨U, hU, e0, e1, e2⟩ := h.ghost hk
  have hpl : placeT U (-1) = 2 := by unfold placeT; rw [if_neg (by omega), if_neg (by omega), if_pos e2.symm]
  have hfa : faceAt (gridP W H) S p ((gridT W H bn).length + k) = true := by
   unfold faceAt
   rw [hU]
   simp only []
   unfold facesT
   rw [hpl]
   have q0 : ptT (gridP W H) U ((2 + 1) % 3) = ptA (gridP W H) e.2 := by unfold ptT; rw [show U.v ((2 + 1) % 3) = U.v0 from rfl, e0]; rfl
   have q1 : ptT (gridP W H) U ((2 + 2) % 3) = ptA (gridP W H) e.1 := by unfold ptT; rw [show U.v ((2 + 2) % 3) = U.v1 from rfl, e1]; rfl
   have : 0 < sideT (gridP W H) U 2 p := by rw [sideT_is, sign_gt, q0, q1]; exact hf
   rw [Bool.and_eq_true, decide_eq_true_eq, decide_eq_true_eq]
   exact ⟨by omega, this⟩
  cases hff : firstN (faceAt (gridP W H) S p) S.length with
  | none => exact absurd hff (firstN_some.firstN_ex hfa (List.getElem?_eq_some_iff.1 hU).1)
  | some u =>
   obtain ⟨u1, u2, u3⟩ := firstN_some hff
   obtain ⟨V, hV⟩ : ∃ V, S[u]? = some V := ⟨_, List.getElem?_eq_getElem u1⟩
   unfold faceAt at u2
   rw [hV] at u2
   simp only [] at u2
   unfold facesT at u2
   rw [Bool.and_eq_true, decide_eq_true_eq, decide_eq_true_eq] at u2
   rcases h.cases hV with ⟨x, hx', f0, f1, f2⟩ | ⟨k', e', he', hk', f0, f1, f2⟩
   ·exfalso
    have : placeT V (-1) = -1 := by unfold placeT; rw [if_neg (by omega), if_neg (by omega), if_neg (by omega)]
    omega
   ·have hpv : placeT V (-1) = 2 := by unfold placeT; rw [if_neg (by omega), if_neg (by omega), if_pos f2.symm]
    rw [hpv] at u2
    have hr : realT V = false := by unfold realT; exact decide_eq_false (by omega)
    exact grid_ghost h hW hH hb hV hr (j := 2) (by omega) (by show 0 ≤ V.v0; omega) (by show 0 ≤ V.v1; omega) u2.2
end
end Go.Proofs.YtnabdopnlinklaaGreat
/- Holes by what their triangles are, whatever their numbers; their rims as pairs of points. Pure. -/
namespace Go.MagM
open Go.RowKit
abbrev Trip := Int × Int × Int
def SideM.ab (s : SideM) : Int × Int := (s.a, s.b)
def trip (T : TriM) : Trip := (T.v0, T.v1, T.v2)
def triOf (x : Trip) : TriM := ⟨x.1, x.2.1, x.2.2, -1, -1, -1, false, false, false⟩
inductive ReachV (V : List Trip) (fa : Int → Int → Bool) (conf : Trip → Bool) (st : List Trip) : Trip → Prop
 | base {x : Trip} : x ∈ st → ReachV V fa conf st x
 | step {x y : Trip} {e : Int × Int} : ReachV V fa conf st x → e ∈ edgesV x → y ∈ V → (e.2, e.1) ∈ edgesV y → fa e.1 e.2 = false → conf y = true → ReachV V fa conf st y
theorem edge_trip {T : TriM} {i : Nat} (hi : i < 3) : edgeV T i ∈ edgesV (trip T) := by
 obtain rfl | rfl | rfl : i = 0 ∨ i = 1 ∨ i = 2 := by omega
 all_goals simp [edgeV, edgesV, trip]
theorem trip_edge {T : TriM} {e : Int × Int} (h : e ∈ edgesV (trip T)) : ∃ i, i < 3 ∧ edgeV T i = e := by
 simp only [edgesV, trip, List.mem_cons, List.not_mem_nil, or_false] at h
 rcases h with rfl | rfl | rfl
 ·exact ⟨0, by omega, rfl⟩
 ·exact ⟨1, by omega, rfl⟩
 ·exact ⟨2, by omega, rfl⟩
section
variable {fa : Int → Int → Bool} {V : List Trip} {S : List TriM}
theorem Surf.trip_mem (h : Surf fa V S) {t : Nat} {T : TriM} (hT : S[t]? = some T) : trip T ∈ V := List.mem_of_getElem? (h.get hT)
theorem Surf.trip_at (h : Surf fa V S) {x : Trip} (hx : x ∈ V) : ∃ (t : Nat) (T : TriM), S[t]? = some T ∧ trip T = x := by
 obtain ⟨t, ht⟩ := List.mem_iff_getElem?.1 hx
 obtain ⟨T, hT, e0, e1, e2⟩ := h.at_ ht
 exact ⟨t, T, hT, by unfold trip; rw [e0, e1, e2]⟩
theorem Surf.trip_inj (h : Surf fa V S) {t u : Nat} {T U : TriM} (hT : S[t]? = some T) (hU : S[u]? = some U) (e : trip T = trip U) : t = u := by
 have e0 : edgeV T 0 = edgeV U 0 := by
  unfold trip at e
  simp only [Prod.mk.injEq] at e
  simp only [edgeV, Prod.mk.injEq]
  exact ⟨e.2.1, e.2.2⟩
 exact (h.once hT hU (by omega) (by omega) e0).1
/-- The triangle of a number. -/
def tripS (S : List TriM) (u : Int) : Trip := match S[u.toNat]? with
 | some U => trip U
 | none => (0, 0, 0)
theorem tripS_at {u : Nat} {U : TriM} (hU : S[u]? = some U) : tripS S (u : Int) = trip U := by unfold tripS; rw [Int.toNat_natCast, hU]
end
end Go.MagM
namespace Go.Proofs.YtnabdopnlinklaaGreat
open Go.RowKit Go.MagM
section
variable {fa : Int → Int → Bool} {V : List Trip} {S : List TriM} {conf : Int → Bool} {cv : Trip → Bool} {st : List Int}
theorem reach_tripS (h : Surf fa V S) (hst : ∀ t ∈ st, ∃ u : Nat, t = (u : Int) ∧ u < S.length) (hc : ∀ (u : Nat) (U : TriM), S[u]? = some U → conf (u : Int) = cv (trip U)) {z : Int} (hz : Reach S conf st z) :
  ∃ (u : Nat) (U : TriM), z = (u : Int) ∧ S[u]? = some U ∧ ReachV V fa cv (st.map (tripS S)) (trip U) := by
 induction hz with
 | base ht =>
  obtain ⟨u, rfl, hu⟩ := hst _ ht
  obtain ⟨U, hU⟩ : ∃ U, S[u]? = some U := ⟨_, List.getElem?_eq_getElem hu⟩
  exact ⟨u, U, rfl, hU, .base (List.mem_map.2 ⟨_, ht, tripS_at hU⟩)⟩
 | step _ hT hi hf hcf ih =>
  rename_i t i T _
  obtain ⟨u, U, e, hU, hr⟩ := ih
  have e' : t = u := by omega
  subst e'
  rw [hT] at hU; cases hU
  obtain ⟨w, j, W, hW, hj, he, hn, hf2, -⟩ := h.other hT hi
  rw [hn] at hcf ⊢
  refine ⟨w, W, rfl, hW, .step hr (edge_trip hi) (h.trip_mem hW) (by rw [← he]; exact edge_trip hj) (by rw [← hf2]; exact hf) (by rw [← hc w W hW]; exact hcf)⟩
theorem tripS_reach (h : Surf fa V S) (hst : ∀ t ∈ st, ∃ u : Nat, t = (u : Int) ∧ u < S.length) (hc : ∀ (u : Nat) (U : TriM), S[u]? = some U → conf (u : Int) = cv (trip U)) {x : Trip} (hx : ReachV V fa cv (st.map (tripS S)) x) :
  ∃ (u : Nat) (U : TriM), S[u]? = some U ∧ trip U = x ∧ Reach S conf st (u : Int) := by
 induction hx with
 | base ht =>
  obtain ⟨z, hz, rfl⟩ := List.mem_map.1 ht
  obtain ⟨u, rfl, hu⟩ := hst _ hz
  obtain ⟨U, hU⟩ : ∃ U, S[u]? = some U := ⟨_, List.getElem?_eq_getElem hu⟩
  exact ⟨u, U, hU, (tripS_at hU).symm, .base hz⟩
 | step _ he hy he2 hf hcf ih =>
  rename_i x y e _
  obtain ⟨t, T, hT, rfl, hr⟩ := ih
  obtain ⟨i, hi, rfl⟩ := trip_edge he
  obtain ⟨w, W, hW, rfl⟩ := h.trip_at hy
  obtain ⟨j, hj, hej⟩ := trip_edge he2
  obtain ⟨hn, hf2⟩ := h.across hT hW hi hj hej
  refine ⟨w, W, hW, rfl, ?_⟩
  rw [← hn]
  exact .step hr hT hi (by rw [hf2]; exact hf) (by rw [hn, hc w W hW]; exact hcf)
end
/-- The edges of some triangles that none of them has the other way round. -/
def rimV (C : List Trip) : List (Int × Int) := C.flatMap fun x => (edgesV x).filter fun e => !(C.any fun y => (edgesV y).contains (e.2, e.1))
section
variable {fa : Int → Int → Bool} {V : List Trip} {S : List TriM}
theorem rim_any (h : Surf fa V S) {ts : List Int} (hI : InS S ts) {t i : Nat} {T : TriM} (hT : S[t]? = some T) (hi : i < 3) :
  (ts.map (tripS S)).any (fun y => (edgesV y).contains ((edgeV T i).2, (edgeV T i).1)) = decide (T.n i ∈ ts) := by
 obtain ⟨w, j, W, hW, hj, he, hn, -⟩ := h.other hT hi
 rw [hn]
 by_cases hm : (w : Int) ∈ ts
 ·rw [decide_eq_true hm, List.any_eq_true]
  exact ⟨trip W, List.mem_map.2 ⟨_, hm, tripS_at hW⟩, by rw [List.contains_iff_mem, ← he]; exact edge_trip hj⟩
 ·rw [decide_eq_false hm, List.any_eq_false]
  intro y hy hc
  obtain ⟨z, hz, rfl⟩ := List.mem_map.1 hy
  obtain ⟨u, rfl, hu⟩ := hI.is z hz
  obtain ⟨U, hU⟩ : ∃ U, S[u]? = some U := ⟨_, List.getElem?_eq_getElem hu⟩
  rw [tripS_at hU, List.contains_iff_mem] at hc
  obtain ⟨k, hk, hek⟩ := trip_edge hc
  have := (h.once hW hU hj hk (by rw [he, hek])).1
  subst this
  exact hm hz
theorem rimI_ab (h : Surf fa V S) {ts : List Int} (hI : InS S ts) {t : Nat} {T : TriM} (hT : S[t]? = some T) : (rimI S ts T 3).map SideM.ab = (edgesV (trip T)).filter fun e => !((ts.map (tripS S)).any fun y => (edgesV y).contains (e.2, e.1)) := by
 have e0 := rim_any h hI hT (i := 0) (by omega)
 have e1 := rim_any h hI hT (i := 1) (by omega)
 have e2 := rim_any h hI hT (i := 2) (by omega)
 have hed : edgesV (trip T) = [edgeV T 0, edgeV T 1, edgeV T 2] := rfl
 rw [hed]
 have s : ∀ i, SideM.ab (sideS S T i) = edgeV T i := fun i => rfl
 simp only [rimI, List.nil_append, List.map_append, List.filter_cons, List.filter_nil, e0, e1, e2]
 by_cases h0 : T.n 0 ∈ ts <;> by_cases h1 : T.n 1 ∈ ts <;> by_cases h2 : T.n 2 ∈ ts <;> simp [h0, h1, h2, s]
theorem rimP_ab (h : Surf fa V S) {ts : List Int} (hI : InS S ts) : ∀ n, n ≤ ts.length → (rimP S ts n).map SideM.ab = ((ts.take n).map (tripS S)).flatMap fun x => (edgesV x).filter fun e => !((ts.map (tripS S)).any fun y => (edgesV y).contains (e.2, e.1))
 | 0, _ => rfl
 | n + 1, hn => by
  obtain ⟨z, hz⟩ : ∃ z, ts[n]? = some z := ⟨_, List.getElem?_eq_getElem (by omega)⟩
  obtain ⟨t, rfl, htl⟩ := hI.is z (List.mem_of_getElem? hz)
  obtain ⟨T, hT⟩ : ∃ T, S[t]? = some T := ⟨_, List.getElem?_eq_getElem htl⟩
  rw [rimP_on hz hT, List.map_append, rimP_ab h hI n (by omega), rimI_ab h hI hT, List.take_add_one, hz, List.map_append, List.flatMap_append]
  simp [tripS_at hT]
theorem rim_ab (h : Surf fa V S) {ts : List Int} (hI : InS S ts) : (rimP S ts ts.length).map SideM.ab = rimV (ts.map (tripS S)) := by
 rw [rimP_ab h hI ts.length (Nat.le_refl _), List.take_length]; rfl
theorem rimV_perm {C D : List Trip} (hp : C.Perm D) : (rimV C).Perm (rimV D) := by
 unfold rimV
 have e : (fun x : Trip => (edgesV x).filter fun e => !(C.any fun y => (edgesV y).contains (e.2, e.1))) = fun x => (edgesV x).filter fun e => !(D.any fun y => (edgesV y).contains (e.2, e.1)) := by
  funext x
  congr 1
  funext e
  congr 1
  rw [Bool.eq_iff_iff, List.any_eq_true, List.any_eq_true]
  exact ⟨fun ⟨y, h1, h2⟩ => ⟨y, hp.mem_iff.1 h1, h2⟩, fun ⟨y, h1, h2⟩ => ⟨y, hp.mem_iff.2 h1, h2⟩⟩
 rw [e]
 exact hp.flatMap_right _
end
/-- A row of pairs, as inRow makes it of distinct beginnings. -/
def lookE (L : List (Int × Int)) (a : Int) : Option (Int × Int) := L.find? fun e => e.1 == a
def leastE (L : List (Int × Int)) : Int := match L with
 | [] => 0
 | e :: r => r.foldl (fun m x => min m x.1) e.1
def chainE (L : List (Int × Int)) : Nat → Int → List (Int × Int)
 | 0, _ => []
 | n + 1, a => match lookE L a with
  | some e => e :: chainE L n e.2
  | none => []
def rowE (L : List (Int × Int)) : List (Int × Int) := chainE L L.length (leastE L)
theorem leastE_le {L : List (Int × Int)} : ∀ e ∈ L, leastE L ≤ e.1 := by
 have h : ∀ (r : List (Int × Int)) (m : Int), r.foldl (fun m x => min m x.1) m ≤ m ∧ ∀ e ∈ r, r.foldl (fun m x => min m x.1) m ≤ e.1 := by
  intro r
  induction r with
  | nil => intro m; exact ⟨Int.le_refl _, by simp⟩
  | cons x r ih =>
   intro m
   rw [List.foldl_cons]
   obtain ⟨h1, h2⟩ := ih (min m x.1)
   refine ⟨by omega, fun e he => ?_⟩
   rcases List.mem_cons.1 he with rfl | he
   ·omega
   ·exact h2 e he
 intro e he
 cases L with
 | nil => cases he
 | cons x r =>
  unfold leastE
  rcases List.mem_cons.1 he with rfl | he
  ·exact (h r _).1
  ·exact (h r _).2 e he
theorem leastE_mem {L : List (Int × Int)} (hL : L ≠ []) : ∃ e ∈ L, e.1 = leastE L := by
 have h : ∀ (r : List (Int × Int)) (m : Int), r.foldl (fun m x => min m x.1) m = m ∨ ∃ e ∈ r, e.1 = r.foldl (fun m x => min m x.1) m := by
  intro r
  induction r with
  | nil => intro m; exact .inl rfl
  | cons x r ih =>
   intro m
   rw [List.foldl_cons]
   rcases ih (min m x.1) with h1 | ⟨e, he, h1⟩
   ·rw [h1]
    rcases Int.le_total m x.1 with g | g
    ·left; omega
    ·right; exact ⟨x, by simp, by omega⟩
   ·right; exact ⟨e, by simp [he], h1⟩
 cases L with
 | nil => exact absurd rfl hL
 | cons x r =>
  unfold leastE
  rcases h r x.1 with h1 | ⟨e, he, h1⟩
  ·exact ⟨x, by simp, h1.symm⟩
  ·exact ⟨e, by simp [he], h1⟩
theorem lookN_some {l : List SideM} {s : SideM} (hn : (l.map (·.a)).Nodup) (hs : s ∈ l) : lookN l s.a l.length = some s := by
 have h : ∀ n, n ≤ l.length → ∀ j, j < n → l[j]? = some s → lookN l s.a n = some s := by
  intro n
  induction n with
  | zero => intro _ j hj; omega
  | succ n ih =>
   intro hl j hj hs'
   rw [lookN]
   obtain ⟨x, hx⟩ : ∃ x, l[n]? = some x := ⟨_, List.getElem?_eq_getElem (by omega)⟩
   rw [hx]
   simp only []
   split
   ·rename_i e
    have a1 : (l.map (·.a))[j]? = some s.a := by rw [List.getElem?_map, hs']; rfl
    have a2 : (l.map (·.a))[n]? = some s.a := by rw [List.getElem?_map, hx]; simp [e]
    have : j = n := (List.getElem?_inj (by have := (List.getElem?_eq_some_iff.1 a1).1; exact this) hn).1 (a1.trans a2.symm)
    subst this
    rw [hs'] at hx; cases hx; rfl
   ·rename_i hne
    rcases Nat.lt_or_ge j n with g | g
    ·exact ih (by omega) j g hs'
    ·obtain rfl : j = n := by omega
     rw [hs'] at hx; cases hx
     exact absurd rfl hne
 obtain ⟨j, hj⟩ := List.mem_iff_getElem?.1 hs
 exact h l.length (Nat.le_refl _) j (List.getElem?_eq_some_iff.1 hj).1 hj
theorem look_pair {l : List SideM} {L : List (Int × Int)} (hp : (l.map SideM.ab).Perm L) (hn : (L.map (·.1)).Nodup) (a : Int) : (lookN l a l.length).map SideM.ab = lookE L a := by
 have hn' : (l.map (·.a)).Nodup := by
  have := ((hp.map (·.1)).nodup_iff).2 hn
  rw [List.map_map] at this; exact this
 unfold lookE
 cases hL : lookN l a l.length with
 | some s =>
  obtain ⟨h1, rfl⟩ := lookN_mem hL
  symm
  have hm : s.ab ∈ L := hp.mem_iff.1 (List.mem_map.2 ⟨s, h1, rfl⟩)
  cases hf : L.find? (fun e => e.1 == s.a) with
  | none => exact absurd (List.find?_eq_none.1 hf s.ab hm) (by simp [SideM.ab])
  | some e =>
   have h2 := List.find?_some hf
   have h3 := List.mem_of_find?_eq_some hf
   have h4 : e.1 = s.ab.1 := by simpa [SideM.ab] using h2
   have := nodup_inj hn h3 hm h4
   rw [this]; rfl
 | none =>
  symm
  cases hf : L.find? (fun e => e.1 == a) with
  | none => rfl
  | some e =>
   have h2 := List.find?_some hf
   have h3 := List.mem_of_find?_eq_some hf
   obtain ⟨s, hs, rfl⟩ := List.mem_map.1 (hp.mem_iff.2 h3)
   have h4 : s.a = a := by simpa [SideM.ab] using h2
   have := lookN_some hn' hs
   rw [h4, hL] at this
   cases this
/-- Whatever the order of the sides: the row is that of the pairs. -/
theorem inRow_ab {l : List SideM} {L : List (Int × Int)} (hp : (l.map SideM.ab).Perm L) (hn : (L.map (·.1)).Nodup) : (inRowM l).map SideM.ab = rowE L := by
 have hl : l.length = L.length := by have := hp.length_eq; rwa [List.length_map] at this
 have hc : ∀ n a, (chainN (fun a => lookN l a l.length) n a).map SideM.ab = chainE L n a := by
  intro n
  induction n with
  | zero => intro a; rfl
  | succ n ih =>
   intro a
   rw [chainN, chainE, ← look_pair hp hn a]
   cases lookN l a l.length with
   | none => rfl
   | some s => simp only [Option.map_some, List.map_cons]; rw [ih]; rfl
 unfold inRowM rowE
 rw [hc, hl]
 congr 1
 cases hL : L with
 | nil =>
  subst hL
  have : l = [] := List.eq_nil_of_length_eq_zero hl
  subst this; rfl
 | cons x r =>
  rw [← hL]
  have hne : L ≠ [] := by rw [hL]; simp
  have hlne : l ≠ [] := by rintro rfl; rw [hL] at hl; simp at hl
  obtain ⟨h1, h2⟩ := leastN_le (l := l) L.length
  rw [← hl, List.take_length] at h1
  obtain ⟨s, hs, e1⟩ := h2 hlne
  obtain ⟨e, he, e2⟩ := leastE_mem hne
  have g1 := leastE_le _ (hp.mem_iff.1 (List.mem_map.2 ⟨s, hs, rfl⟩))
  obtain ⟨s', hs', rfl⟩ := List.mem_map.1 (hp.mem_iff.2 he)
  have g2 := h1 s' hs'
  have g3 : s.ab.1 = s.a := rfl
  have g4 : s'.ab.1 = s'.a := rfl
  rw [hl] at g2
  omega
end Go.Proofs.YtnabdopnlinklaaGreat
/- cavity's Dig. -/
namespace Go.MagM
open Go.RowKit
theorem RowN.base {w : World} {lo lo' : Nat} {e : TypeId} {size n : Nat} {v : Value} {xs : List Value} (h : RowN w lo e size v n xs) (hl : lo' ≤ lo) : RowN w lo' e size v n xs := by
 refine ⟨h.1, ?_⟩
 rcases h.2 with h1 | ⟨g1, cap1, cur1, h1, h2, h3⟩
 ·exact .inl h1
 ·exact .inr ⟨g1, cap1, cur1, h1, by omega, h3⟩
theorem RowN.setAllFar {base : Nat} {e : TypeId} {size : Nat} {v : Value} {n : Nat} {xs : List Value} {g' : Nat} (hne : ∀ k, v.ownBlock = some k → k ≠ g') : ∀ (ys : List Value) (i : Nat) {w : World}, RowN w base e size v n xs → RowN (Go.MagM.setAll w g' i ys) base e size v n xs
 | [], _, _, h => h
 | y :: ys, i, w, h => RowN.setAllFar hne ys (i + 1) (h.block fun k hk _ => Below.heap_setCell w ⟨g', i, none⟩ y k (by simpa using hne k hk))
end Go.MagM
namespace Go.Proofs.YtnabdopnlinklaaGreat
open Go.RowKit Go.MagM Go.Maps
/-- The sides of what a hole holds are sides of the mesh. -/
theorem rimP_u {S : List TriM} {ts : List Int} (hI : InS S ts) : ∀ n, ∀ s ∈ rimP S ts n, ∃ (t i : Nat) (T : TriM), (t : Int) ∈ ts ∧ S[t]? = some T ∧ i < 3 ∧ T.n i ∉ ts ∧ s = sideS S T i
 | 0, s, hs => by cases hs
 | n + 1, s, hs => by
  rw [rimP] at hs
  rcases List.mem_append.1 hs with hs | hs
  ·exact rimP_u hI n s hs
  ·cases hz : ts[n]? with
   | none => rw [hz] at hs; cases hs
   | some z =>
    rw [hz] at hs
    simp only [] at hs
    unfold rimT at hs
    split at hs
    ·rename_i T hT
     have hi : ∀ k, k ≤ 3 → ∀ s ∈ rimI S ts T k, ∃ i, i < 3 ∧ T.n i ∉ ts ∧ s = sideS S T i := by
      intro k
      induction k with
      | zero => intro _ s hs; cases hs
      | succ k ih =>
       intro hk s hs
       rw [rimI] at hs
       rcases List.mem_append.1 hs with hs | hs
       ·exact ih (by omega) s hs
       ·split at hs
        ·cases hs
        ·rename_i hno
         simp only [List.mem_singleton] at hs
         exact ⟨k, by omega, hno, hs⟩
     obtain ⟨i, h1, h2, h3⟩ := hi 3 (Nat.le_refl _) s hs
     obtain ⟨u, rfl, -⟩ := hI.is z (List.mem_of_getElem? hz)
     rw [Int.toNat_natCast] at hT
     exact ⟨u, i, T, List.mem_of_getElem? hz, hT, h1, h2, h3⟩
    ·cases hs
theorem inRow_sub {l : List SideM} : ∀ s ∈ inRowM l, s ∈ l := by
 have h : ∀ n a, ∀ s ∈ chainN (fun a => lookN l a l.length) n a, s ∈ l := by
  intro n
  induction n with
  | zero => intro a s hs; cases hs
  | succ n ih =>
   intro a s hs
   rw [chainN] at hs
   cases hL : lookN l a l.length with
   | none => rw [hL] at hs; cases hs
   | some x =>
    rw [hL] at hs
    simp only [] at hs
    rcases List.mem_cons.1 hs with rfl | hs
    ·exact (lookN_mem hL).1
    ·exact ih _ s hs
 exact h _ _
theorem inRow_le (l : List SideM) : (inRowM l).length ≤ l.length := chainN_le _ _ _
set_option maxRecDepth 100000 in
set_option maxHeartbeats 8000000 in
theorem cvDig_any {mb pb pc : Nat} {ta : Option Addr} {tc : Nat} {P : List (Int × Int)} {S : List TriM} (st : List Int) (kd at_ a b p0 p1 : Int) (w : World) (h : MeshR w mb pb pc ta tc P S) (hP : InPs P) (hp : InP p0 ∧ InP p1) (hN : Nexts S) (hC : Cornered P S) (hmx : S.length < 300000) (hsm : SmallV S) (hI : InS S st) (hne : st ≠ [])
  (hbeg : ∀ W : World, Below w.heap.size w W → Calls Tryz.prog 48 #[.pointer (some ⟨mb, 0, none⟩), .agg #[.int .i64 kd, .int .i64 at_, .int .i64 a, .int .i64 b]] W fun e w' => ∃ (hb m : Nat) (v : Value), e = .returned (.pointer (some ⟨hb, 0, none⟩)) ∧ HoleR w' W.heap.size hb mb m v st ∧ Below W.heap.size W w') :
  Calls Tryz.prog 16 #[.pointer (some ⟨mb, 0, none⟩), .agg #[.int .i64 p0, .int .i64 p1], .agg #[.int .i64 kd, .int .i64 at_, .int .i64 a, .int .i64 b]] w fun e w' => ∃ (g c : Nat) (rv : Value) (ts : List Int), e = .returned (.agg #[.slice (some ⟨g, 0, none⟩) ts.length c, rv, .bool ((inRowM (rimP S ts ts.length)).any (cutQ2 P S (p0, p1)))]) ∧ InS S ts ∧ (∀ x, x ∈ ts ↔ Reach S (confT P S (p0, p1)) st x) ∧
   RowN w' w.heap.size 3 1 (.slice (some ⟨g, 0, none⟩) ts.length c) ts.length (intCells (sortL ts)) ∧ RowN w' w.heap.size 50 5 rv (inRowM (rimP S ts ts.length)).length (sideCells (inRowM (rimP S ts ts.length))) ∧ Below w.heap.size w w' := by
 obtain ⟨hIT, hTR⟩ := spread_reach (p := (p0, p1)) hN hC hI
 obtain ⟨ts, hts⟩ : ∃ ts, spreadM P S (p0, p1) S.length 0 st = ts := ⟨_, rfl⟩
 rw [hts] at hIT hTR
 have htne : 0 < ts.length := by
  cases st with
  | nil => exact absurd rfl hne
  | cons x r => exact List.length_pos_of_mem ((hTR x).2 (.base (by simp)))
 have htl := hIT.le
 have hrl : (inRowM (rimP S ts ts.length)).length ≤ 1000000 := by have := inRow_le (rimP S ts ts.length); have := rimP_le S ts ts.length; omega
 have hru : ∀ s ∈ inRowM (rimP S ts ts.length), ∃ u : Nat, s.u = (u : Int) ∧ u < S.length := fun s hs => by
  obtain ⟨t, i, T, -, hT, hi, -, rfl⟩ := rimP_u hIT _ s (inRow_sub s hs)
  exact hN t T hT i hi
 obtain ⟨R, hR⟩ : ∃ R, inRowM (rimP S ts ts.length) = R := ⟨_, rfl⟩
 obtain ⟨w1, hw1, pm, hb1, hs1⟩ := new_box w _ rfl [.pointer (some ⟨mb, 0, none⟩)] 26
 obtain ⟨w2, hw2, pp, hb2, hs2⟩ := new_box w1 _ rfl [.int .i64 p0, .int .i64 p1] 24
 obtain ⟨w3, hw3, pl, hb3, hs3⟩ := new_box w2 _ rfl [.int .i64 kd, .int .i64 at_, .int .i64 a, .int .i64 b] 28
 obtain ⟨w4, hw4, pr, hb4, hs4⟩ := new_box w3 _ rfl [.slice none 0 0, .slice none 0 0, .bool false] 46
 have hb12 : Below w.heap.size w w2 := hb1.trans (hb2.mono (by omega))
 have hb13 : Below w.heap.size w w3 := hb12.trans (hb3.mono (by omega))
 have hb14 : Below w.heap.size w w4 := hb13.trans (hb4.mono (by omega))
 have PM := Lib.hid (((pm.below hb2).below hb3).below hb4)
 have PP := Lib.hid ((pp.below hb3).below hb4)
 have PL := Lib.hid (pl.below hb4)
 have PR := Lib.hid pr
 have HB4 := Lib.hid hb14
 have HW4 := Lib.hid hs4
 have HW3 := Lib.hid hb13.size
 have H4 := Lib.hid (h.below hb14)
 have HP := Lib.hid hP; have HPP := Lib.hid hp; have HN := Lib.hid hN; have HC := Lib.hid hC; have HMX := Lib.hid hmx; have HSM := Lib.hid hsm; have HI := Lib.hid hI
 have HIT := Lib.hid hIT; have HTR := Lib.hid hTR; have HTNE := Lib.hid htne; have HTL := Lib.hid htl; have HRL := Lib.hid hrl; have HRU := Lib.hid hru; have HR := Lib.hid hR; have HTS := Lib.hid hts
 have HBEG := Lib.hid (hbeg w4 hb14)
 have m0 := PM.out.c 0 _ rfl
 have l0 := PL.out.c 0 _ rfl; have l1 := PL.out.c 1 _ rfl; have l2 := PL.out.c 2 _ rfl; have l3 := PL.out.c 3 _ rfl
 clear hb1 hb2 hb3 hb4 hb12 hb13 hb14 pm pp pl pr h hP hp hN hC hmx hsm hI hIT hTR htne htl hrl hru hR hts hne hbeg hs1 hs2 hs3 hs4
 go_enter Tryz.func16, Tryz.ntmps16
 go_wp2_with fail
 refine HBEG.out.mono ?_
 rintro e w5 ⟨hb, m, v, rfl, hh5, hb5⟩
 have HH5 := Lib.hid hh5; have HB5 := Lib.hid hb5
 clear hh5 hb5 m0 l0 l1 l2 l3
 have x0 := (PP.out.below HB5.out).c 0 _ rfl; have x1 := (PP.out.below HB5.out).c 1 _ rfl
 go_wp2_with fail
 refine (cvSpread_any p0 p1 w5 H4.out HP.out HPP.out HN.out HB5.out HH5.out HI.out (by have := HMX.out; omega)).mono ?_
 rintro e w6 ⟨rfl, ⟨v6, hh6⟩, hb6⟩
 rw [HTS.out] at hh6
 have HH6 := Lib.hid hh6; have HB6 := Lib.hid hb6
 clear hh6 hb6 x0 x1
 go_wp2_with fail
 refine (cvRim_any w6 (H4.out.below HB6.out) HH6.out HN.out HIT.out HMX.out HSM.out).mono ?_
 rintro e w7 ⟨rv, rfl, hrow7, hb7⟩
 have hrow7' : RowN w7 w4.heap.size 50 5 rv (inRowM (rimP S ts ts.length)).length (sideCells (inRowM (rimP S ts ts.length))) := by
  refine ⟨hrow7.1, ?_⟩
  rcases hrow7.2 with h1 | ⟨g1, cap1, cur1, h1, h2, h3⟩
  ·exact .inl h1
  ·exact .inr ⟨g1, cap1, cur1, h1, by have := HB6.out.size; omega, h3⟩
 have HROW7 := Lib.hid hrow7'; have HH7 := Lib.hid (HH6.out.below hb7); have HB7 := Lib.hid (HB6.out.trans (hb7.mono HB6.out.size))
 have HRV := Lib.hid (show ∀ k, rv.ownBlock = some k → w6.heap.size ≤ k from fun k hk => (hrow7.lt k hk).1)
 obtain ⟨ro, rn, rc, rfl⟩ : ∃ ro rn rc, rv = .slice ro rn rc := by
  rcases hrow7.2 with ⟨h1, -⟩ | ⟨g1, cap1, cur1, h1, -⟩
  ·exact ⟨_, _, _, h1⟩
  ·exact ⟨_, _, _, h1⟩
 clear hrow7 hrow7' hb7
 go_wp2_with fail
 refine (cvContains_any (inRowM (rimP S ts ts.length)) (.slice ro rn rc) (cutQ2 P S (p0, p1)) w7 HROW7.out HRL.out (fun W hW s hs => cvDig1_any s p0 p1 W (H4.out.below (HB7.out.trans (hW.mono HB7.out.size))) HP.out HPP.out ((PM.out.below (HB7.out.trans (hW.mono HB7.out.size))).c 0 _ rfl) (PP.out.below (HB7.out.trans (hW.mono HB7.out.size))) (HRU.out s hs))).mono ?_
 rintro e w8 ⟨rfl, hb8⟩
 obtain ⟨q, hq⟩ : ∃ q, (inRowM (rimP S ts ts.length)).any (cutQ2 P S (p0, p1)) = q := ⟨_, rfl⟩
 rw [hq]
 have HQ := Lib.hid hq
 have HH8 := Lib.hid (HH7.out.below hb8); have HROW8 := Lib.hid (HROW7.out.below hb8); have HB8 := Lib.hid (HB7.out.trans (hb8.mono HB7.out.size))
 clear hb8 hq
 obtain ⟨n, hn⟩ : ∃ n, ts.length = n := ⟨_, rfl⟩
 obtain ⟨g, c, rfl⟩ : ∃ g c, v6 = .slice (some ⟨g, 0, none⟩) n c := by
  rcases HH8.out.row.2 with ⟨h1, h2⟩ | ⟨g, cap, cur, h1, -⟩
  ·have := HTNE.out; omega
  ·exact ⟨g, cap, by rw [← hn]; exact h1⟩
 have HSO := Lib.hid (show Calls Tryz.prog 53 #[.slice (some ⟨g, 0, none⟩) n c] w8 fun e w' => e = .returned (.tuple #[]) ∧ RowN w' w4.heap.size 3 1 (.slice (some ⟨g, 0, none⟩) n c) (sortL ts).length (intCells (sortL ts)) ∧ (∀ k, k < w8.heap.size → k ≠ g → w'.heap[k]? = w8.heap[k]?) ∧ Below w4.heap.size w8 w' ∧ w8.heap.size ≤ w'.heap.size from by
  have hr := HH8.out.row
  rw [← hn] at hr ⊢
  exact cvSort_any w8 hr (by have := HTL.out; have := HMX.out; omega))
 have d1 := HH8.out.box.c1
 have HNN := Lib.hid hn
 clear hn
 go_wp2_with fail
 refine HSO.out.mono ?_
 rintro e w9 ⟨rfl, hrow9, hk9, hb9, hs9⟩
 clear d1
 have hgl := (HH8.out.row.lt g rfl)
 have hlow := HH8.out.low
 have hbx9 := HH8.out.box.same (hk9 hb HH8.out.box.lt (fun e => hlow.2.2.2.1 (by rw [e]; rfl)))
 have hrv9 := HROW8.out.block (w' := w9) (fun k hk hl => hk9 k hl (fun e => by
  subst e
  have h1 := HRV.out k hk
  have h2 := (HH6.out.row.lt k rfl).2
  omega))
 have hb49 : Below w4.heap.size w4 w9 := HB8.out.trans hb9
 have pr9 := PR.out.below hb49
 have d9 := hbx9.c1
 have HROW9 := Lib.hid hrow9; have HRV9 := Lib.hid hrv9; have HB9 := Lib.hid hb49; have PR9 := Lib.hid pr9
 clear hrow9 hk9 hb9 hs9 hgl hlow hbx9 hrv9 hb49 pr9
 have q0 := PR9.out.c 0 _ rfl; have q1 := PR9.out.c 1 _ rfl; have q2 := PR9.out.c 2 _ rfl
 have f0 := PR9.out.f 0 _ rfl; have f1 := PR9.out.f 1 _ rfl; have f2 := PR9.out.f 2 _ rfl
 obtain ⟨wz, hwz⟩ : ∃ wz, setAll w9 w3.heap.size 0 [.slice (some ⟨g, 0, none⟩) n c, .slice ro rn rc, .bool q] = wz := ⟨_, rfl⟩
 have z := PR9.out.setAll (w := w9) [.slice (some ⟨g, 0, none⟩) n c, .slice ro rn rc, .bool q] rfl
 rw [hwz] at z
 have z0 := z.c 0 _ rfl; have z1 := z.c 1 _ rfl; have z2 := z.c 2 _ rfl
 have hlt4 := HW4.out
 have rz1 := (RowN.setAllFar (g' := w3.heap.size) (fun k hk => by have := (HROW9.out.lt k hk).1; omega) [.slice (some ⟨g, 0, none⟩) n c, .slice ro rn rc, .bool q] 0 HROW9.out).base (lo' := w.heap.size) HB4.out.size
 have rz2 := (RowN.setAllFar (g' := w3.heap.size) (fun k hk => by have := (HRV9.out.lt k hk).1; omega) [.slice (some ⟨g, 0, none⟩) n c, .slice ro rn rc, .bool q] 0 HRV9.out).base (lo' := w.heap.size) HB4.out.size
 have hbz := below_setAll (g := w3.heap.size) (HB4.out.trans (HB9.out.mono HB4.out.size)) HW3.out [.slice (some ⟨g, 0, none⟩) n c, .slice ro rn rc, .bool q]
 rw [hwz] at rz1 rz2 hbz
 have FIN := Lib.hid (And.intro rz1 (And.intro rz2 hbz))
 clear rz1 rz2 hbz hlt4
 go_wp2_with fail
 simp only [setAll] at hwz
 rw [hwz]
 refine bodyPost_ret (v := .agg #[.slice (some ⟨g, 0, none⟩) n c, .slice ro rn rc, .bool q]) ?_ rfl ?_
 ·simp [results, Tryz.results16, go_sem, z0, z1, z2]
 ·refine ⟨g, c, .slice ro rn rc, ts, by rw [HQ.out, HNN.out], HIT.out, HTR.out, ?_, FIN.out.2.1, FIN.out.2.2⟩
  rw [HNN.out]
  have := FIN.out.1
  rw [sortL_len, HNN.out] at this
  exact this
end Go.Proofs.YtnabdopnlinklaaGreat
/- The statements' edge and conflict (layer 11). Written by tools/cav6.py. -/
namespace Go.MagM
open Go.RowKit
theorem cors_real {P : List (Int × Int)} {T : TriM} (_hr : realT T = true) (h : ∀ i, i < 3 → InV P (T.v i)) : cors P T = [ptT P T 0, ptT P T 1, ptT P T 2] := by
 have h0 := h 0 (by omega); have h1 := h 1 (by omega); have h2 := h 2 (by omega)
 unfold InV at h0 h1 h2
 have hf : corF T = 0 := by
  unfold corF placeT
  have a0 : T.v 0 = T.v0 := rfl
  have a1 : T.v 1 = T.v1 := rfl
  have a2 : T.v 2 = T.v2 := rfl
  rw [if_neg (by omega), if_neg (by omega), if_neg (by omega)]; rfl
 unfold cors
 simp only [corsN, hf, List.nil_append]
 unfold corK
 rw [if_pos h0, if_pos h1, if_pos h2]; rfl
theorem cors_ghost {P : List (Int × Int)} {T : TriM} {j : Nat} (hj : j < 3) (hg : placeT T (-1) = (j : Int)) (h1 : InV P (T.v ((j + 1) % 3))) (h2 : InV P (T.v ((j + 2) % 3))) (h0 : T.v j = -1) : cors P T = [ptT P T ((j + 1) % 3), ptT P T ((j + 2) % 3)] := by
 unfold InV at h1 h2
 have hf : corF T = j + 1 := by unfold corF; rw [hg]; omega
 unfold cors
 simp only [corsN, hf, List.nil_append]
 obtain rfl | rfl | rfl : j = 0 ∨ j = 1 ∨ j = 2 := by omega
 all_goals (unfold corK; rw [if_pos h1, if_pos h2, if_neg (by simp [h0])]; rfl)
end Go.MagM
namespace Go.Proofs.YtnabdopnlinklaaGreat
open Go.RowKit Go.MagM
set_option maxRecDepth 100000 in
set_option maxHeartbeats 4000000 in
theorem lwEdge_any (T : TriM) (i : Nat) (hi : i < 3) (w : World) : Calls Tryz.prog 14 #[triV T, .int .i64 (i : Int)] w fun e w' => e = .returned (.tuple #[.int .i64 (edgeV T i).1, .int .i64 (edgeV T i).2]) ∧ Below w.heap.size w w' := by
 rw [edgeV_is T hi]
 obtain ⟨v0, v1, v2, n0, n1, n2, f0, f1, f2⟩ := T
 unfold triV
 simp only []
 obtain ⟨w1, hw1, hp, hb1, hs1⟩ := new_box w _ rfl [.int .i64 v0, .int .i64 v1, .int .i64 v2, .int .i64 n0, .int .i64 n1, .int .i64 n2, .bool f0, .bool f1, .bool f2] 37
 have m1 := mod3_one hi
 have m2 := mod3_two hi
 obtain ⟨k1, hk1⟩ : ∃ k1, (i + 1) % 3 = k1 := ⟨_, rfl⟩
 obtain ⟨k2, hk2⟩ : ∃ k2, (i + 2) % 3 = k2 := ⟨_, rfl⟩
 rw [hk1] at m1; rw [hk2] at m2
 have hk13 : k1 < 3 := by omega
 have hk23 : k2 < 3 := by omega
 rw [hk1, hk2]
 obtain ⟨x1, hx1⟩ : ∃ x, (⟨v0, v1, v2, n0, n1, n2, f0, f1, f2⟩ : TriM).v k1 = x := ⟨_, rfl⟩
 obtain ⟨x2, hx2⟩ : ∃ x, (⟨v0, v1, v2, n0, n1, n2, f0, f1, f2⟩ : TriM).v k2 = x := ⟨_, rfl⟩
 have y1 := box9v (T := ⟨v0, v1, v2, n0, n1, n2, f0, f1, f2⟩) hp hk13
 have y2 := box9v (T := ⟨v0, v1, v2, n0, n1, n2, f0, f1, f2⟩) hp hk23
 rw [hx1] at y1; rw [hx2] at y2
 rw [hx1, hx2]
 have HB1 := Lib.hid hb1
 have i7 : (0 : Int) ≤ (k1 : Int) := by omega
 have i8 : (k1 : Int) < 3 := by omega
 have i9 : (0 : Int) ≤ (k2 : Int) := by omega
 have i10 : (k2 : Int) < 3 := by omega
 clear hp hb1 hs1 hk1 hk2 hx1 hx2
 go_enter Tryz.func14, Tryz.ntmps14
 go_wp2
 refine wp_region_noPanic ?_
 refine wp_region_held_drew (S := fun w' => w'.cell? ⟨w.heap.size, k1, none⟩ = some (.int .i64 x1) ∧ w'.cell? ⟨w.heap.size, k2, none⟩ = some (.int .i64 x2)) (by kernel_rfl) (⟨y1, y2⟩) (fun hHeld => ?_)
 refine rU 0 _ _ ?_
 (try simp only [Act.put]);try simp only [sA,sZ,sS]
 refine rU 1 _ _ ?_
 (try simp only [Act.put]);try simp only [sA,sZ,sS]
 refine rU 2 _ _ ?_
 (try simp only [Act.put]);try simp only [sA,sZ,sS]
 refine rU 3 _ _ ?_
 (try simp only [Act.put]);try simp only [sA,sZ,sS]
 refine rU 4 _ _ ?_
 (try simp only [Act.put]);try simp only [sA,sZ,sS]
 refine rU 5 _ _ ?_
 (try simp only [Act.put]);try simp only [sA,sZ,sS]
 refine rU 6 _ _ ?_
 (try simp only [Act.put]);try simp only [sA,sZ,sS]
 refine rU 7 _ _ ?_
 (try simp only [Act.put]);try simp only [sA,sZ,sS]
 refine rU 8 _ _ ?_
 (try simp only [Act.put]);try simp only [sA,sZ,sS]
 refine rU 9 _ _ ?_
 (try simp only [Act.put]);try simp only [sA,sZ,sS]
 refine rU 10 _ _ ?_
 (try simp only [Act.put]);try simp only [sA,sZ,sS]
 refine rU 11 _ _ ?_
 (try simp only [Act.put]);try simp only [sA,sZ,sS]
 refine rU 12 _ _ ?_
 (try simp only [Act.put]);try simp only [sA,sZ,sS]
 refine rU 13 _ _ ?_
 (try simp only [Act.put]);try simp only [sA,sZ,sS]
 refine wpAnyH_done (by kernel_rfl) ?_ _
 refine NoPanic.normal ?_
 go_wp2
 go_ret2
 exact ⟨rfl, HB1.out.drew'⟩
theorem conflict_bool {x : Int} {s : Int} (h : x.sign = s) : decide (0 < x) = decide (0 < s) := by
 rw [← h]; exact decide_eq_decide.2 sign_pos.symm
set_option maxRecDepth 100000 in
set_option maxHeartbeats 8000000 in
theorem lwConflict_real {mb pb pc : Nat} {ta : Option Addr} {tc : Nat} {P : List (Int × Int)} {S : List TriM} (t : Nat) (T : TriM) (p0 p1 : Int) (w : World) (h : MeshR w mb pb pc ta tc P S) (hP : InPs P) (hp : InP p0 ∧ InP p1) (hT : S[t]? = some T) (hr : realT T = true) (hv : ∀ i, i < 3 → InV P (T.v i)) :
  Calls Tryz.prog 15 #[.pointer (some ⟨mb, 0, none⟩), .int .i64 (t : Int), .agg #[.int .i64 p0, .int .i64 p1]] w fun e w' => e = .returned (.bool (conflictM P T (p0, p1))) ∧ Below w.heap.size w w' := by
 obtain ⟨a, ea, la, ga⟩ := (hv 0 (by omega)).nat
 obtain ⟨b, eb, lb, gb⟩ := (hv 1 (by omega)).nat
 obtain ⟨c, ec, lc, gc⟩ := (hv 2 (by omega)).nat
 have hpa : InP (ptA P (T.v 0).toNat).1 ∧ InP (ptA P (T.v 0).toNat).2 := hP _ (List.mem_of_getElem? ga)
 have hpb : InP (ptA P (T.v 1).toNat).1 ∧ InP (ptA P (T.v 1).toNat).2 := hP _ (List.mem_of_getElem? gb)
 have hpc : InP (ptA P (T.v 2).toNat).1 ∧ InP (ptA P (T.v 2).toNat).2 := hP _ (List.mem_of_getElem? gc)
 have hcm : conflictM P T (p0, p1) = decide (0 < inc (ptA P (T.v 0).toNat).1 (ptA P (T.v 0).toNat).2 (ptA P (T.v 1).toNat).1 (ptA P (T.v 1).toNat).2 (ptA P (T.v 2).toNat).1 (ptA P (T.v 2).toNat).2 p0 p1) := by
  unfold conflictM; rw [cors_real hr hv]; rfl
 rw [hcm]
 obtain ⟨⟨a0, a1⟩, hpta⟩ : ∃ q, ptA P (T.v 0).toNat = q := ⟨_, rfl⟩
 obtain ⟨⟨b0, b1⟩, hptb⟩ : ∃ q, ptA P (T.v 1).toNat = q := ⟨_, rfl⟩
 obtain ⟨⟨c0, c1⟩, hptc⟩ : ∃ q, ptA P (T.v 2).toNat = q := ⟨_, rfl⟩
 rw [hpta, hptb, hptc]
 rw [hpta] at ga hpa; rw [hptb] at gb hpb; rw [hptc] at gc hpc
 simp only [] at ga gb gc hpa hpb hpc
 simp only []
 obtain ⟨s, hs⟩ : ∃ s, (inc a0 a1 b0 b1 c0 c1 p0 p1).sign = s := ⟨_, rfl⟩
 rw [conflict_bool hs]
 have CI := Lib.hid (fun W => Circle_is a0 a1 b0 b1 c0 c1 p0 p1 hpa.1 hpa.2 hpb.1 hpb.2 hpc.1 hpc.2 hp.1 hp.2 hs W)
 have hlt := (List.getElem?_eq_some_iff.1 hT).1
 have hsh := h.short
 obtain ⟨len, hlen⟩ : ∃ len, S.length = len := ⟨_, rfl⟩
 obtain ⟨pn, hpn⟩ : ∃ pn, P.length = pn := ⟨_, rfl⟩
 rw [hlen] at hlt hsh
 rw [hpn] at la lb lc hsh
 obtain ⟨tb, hta, -, h9⟩ := h.tris.get hT
 subst hta
 have va : T.v0 = (a : Int) := ea
 have vb : T.v1 = (b : Int) := eb
 have vc : T.v2 = (c : Int) := ec
 obtain ⟨v0, v1, v2, n0, n1, n2, f0, f1, f2⟩ := T
 simp only [] at va vb vc
 subst va; subst vb; subst vc
 obtain ⟨w1, hw1, pp, hb1, hs1⟩ := new_box w _ rfl [.int .i64 p0, .int .i64 p1] 24
 obtain ⟨w2, hw2, px, hb2, hs2⟩ := new_box w1 _ rfl [.int .i64 (a : Int), .int .i64 (b : Int), .int .i64 (c : Int), .int .i64 n0, .int .i64 n1, .int .i64 n2, .bool f0, .bool f1, .bool f2] 37
 have hb12 : Below w.heap.size w w2 := hb1.trans (hb2.mono hb1.size)
 have e1 := (h.below hb1).box.c1
 rw [hlen] at e1
 obtain ⟨d0, d1, d2, d3, d4, d5, d6, d7, d8⟩ := h9.below hb1
 simp only [] at d0 d1 d2 d3 d4 d5 d6 d7 d8
 have cc : ∀ w', Below w2.heap.size w2 w' → w'.cell? ⟨mb, 0, none⟩ = some (.slice (some ⟨pb, 0, none⟩) pn pc) ∧ w'.cell? ⟨pb, a * 2, none⟩ = some (.int .i64 a0) ∧ w'.cell? ⟨pb, a * 2 + 1, none⟩ = some (.int .i64 a1) ∧ w'.cell? ⟨pb, b * 2, none⟩ = some (.int .i64 b0) ∧ w'.cell? ⟨pb, b * 2 + 1, none⟩ = some (.int .i64 b1) ∧ w'.cell? ⟨pb, c * 2, none⟩ = some (.int .i64 c0) ∧ w'.cell? ⟨pb, c * 2 + 1, none⟩ = some (.int .i64 c1) ∧ w'.cell? ⟨w.heap.size, 0, none⟩ = some (.int .i64 p0) ∧ w'.cell? ⟨w.heap.size, 1, none⟩ = some (.int .i64 p1) ∧ w'.cell? ⟨w1.heap.size, 0, none⟩ = some (.int .i64 (a : Int)) ∧ w'.cell? ⟨w1.heap.size, 1, none⟩ = some (.int .i64 (b : Int)) ∧ w'.cell? ⟨w1.heap.size, 2, none⟩ = some (.int .i64 (c : Int)) := by
  intro w' hb
  have hm := (h.below hb12).below hb
  have e0 := hm.box.c 0 _ rfl
  rw [hpn] at e0
  exact ⟨e0, (hm.pt ga).1, (hm.pt ga).2, (hm.pt gb).1, (hm.pt gb).2, (hm.pt gc).1, (hm.pt gc).2, ((pp.below hb2).below hb).c 0 _ rfl, ((pp.below hb2).below hb).c 1 _ rfl, (px.below hb).c 0 _ rfl, (px.below hb).c 1 _ rfl, (px.below hb).c 2 _ rfl⟩
 have CC := Lib.hid cc; have HB2 := Lib.hid hb12; have PX := Lib.hid px
 have x0 := px.c 0 _ rfl; have x1 := px.c 1 _ rfl; have x2 := px.c 2 _ rfl
 have i1 : (0 : Int) ≤ (t : Int) := by omega
 have i2 : (t : Int) < (len : Int) := by omega
 have i3 : (0 : Int) ≤ (a : Int) := by omega
 have i4 : (a : Int) < (pn : Int) := by omega
 have i5 : (0 : Int) ≤ (b : Int) := by omega
 have i6 : (b : Int) < (pn : Int) := by omega
 have i7 : (0 : Int) ≤ (c : Int) := by omega
 have i8 : (c : Int) < (pn : Int) := by omega
 have z1 : ((a : Int) == -1) = false := by simp
 have z2 : ((b : Int) == -1) = false := by simp
 have z3 : ((c : Int) == -1) = false := by simp
 clear h hP hp hT hr hv ea eb ec la lb lc ga gb gc hpa hpb hpc hcm hpta hptb hptc hs h9 hsh hlt hlen hpn pp hb1 hs1 px hb2 hs2 hb12 cc
 go_enter Tryz.func15, Tryz.ntmps15
 go_wp2
 clear d0 d1 d2 d3 d4 d5 d6 d7 d8 e1
 refine wp_loop_rounds 4 ?_
 rw [rounds_succ]
 go_wp2
 rw [rounds_succ]
 go_wp2
 rw [rounds_succ]
 go_wp2
 rw [rounds_succ]
 go_wp2
 refine wp_region_noPanic ?_
 refine wp_region_held_drew (S := fun w' => w'.cell? ⟨mb, 0, none⟩ = some (.slice (some ⟨pb, 0, none⟩) pn pc) ∧ w'.cell? ⟨pb, a * 2, none⟩ = some (.int .i64 a0) ∧ w'.cell? ⟨pb, a * 2 + 1, none⟩ = some (.int .i64 a1) ∧ w'.cell? ⟨pb, b * 2, none⟩ = some (.int .i64 b0) ∧ w'.cell? ⟨pb, b * 2 + 1, none⟩ = some (.int .i64 b1) ∧ w'.cell? ⟨pb, c * 2, none⟩ = some (.int .i64 c0) ∧ w'.cell? ⟨pb, c * 2 + 1, none⟩ = some (.int .i64 c1) ∧ w'.cell? ⟨w.heap.size, 0, none⟩ = some (.int .i64 p0) ∧ w'.cell? ⟨w.heap.size, 1, none⟩ = some (.int .i64 p1) ∧ w'.cell? ⟨w1.heap.size, 0, none⟩ = some (.int .i64 (a : Int)) ∧ w'.cell? ⟨w1.heap.size, 1, none⟩ = some (.int .i64 (b : Int)) ∧ w'.cell? ⟨w1.heap.size, 2, none⟩ = some (.int .i64 (c : Int))) (by kernel_rfl) (CC.out _ (Below.refl _ _).drew') (fun hHeld => ?_)
 refine rU 0 _ _ ?_
 (try simp only [Act.put]);try simp only [sA,sZ,sS]
 refine rU 1 _ _ ?_
 (try simp only [Act.put]);try simp only [sA,sZ,sS]
 refine rU 2 _ _ ?_
 (try simp only [Act.put]);try simp only [sA,sZ,sS]
 refine rU 3 _ _ ?_
 (try simp only [Act.put]);try simp only [sA,sZ,sS]
 refine rU 4 _ _ ?_
 (try simp only [Act.put]);try simp only [sA,sZ,sS]
 refine rU 5 _ _ ?_
 (try simp only [Act.put]);try simp only [sA,sZ,sS]
 refine rU 6 _ _ ?_
 (try simp only [Act.put]);try simp only [sA,sZ,sS]
 refine rU 7 _ _ ?_
 (try simp only [Act.put]);try simp only [sA,sZ,sS]
 refine rU 8 _ _ ?_
 (try simp only [Act.put]);try simp only [sA,sZ,sS]
 refine rU 9 _ _ ?_
 (try simp only [Act.put]);try simp only [sA,sZ,sS]
 refine rU 10 _ _ ?_
 (try simp only [Act.put]);try simp only [sA,sZ,sS]
 refine rU 11 _ _ ?_
 (try simp only [Act.put]);try simp only [sA,sZ,sS]
 refine rU 12 _ _ ?_
 (try simp only [Act.put]);try simp only [sA,sZ,sS]
 refine rU 13 _ _ ?_
 (try simp only [Act.put]);try simp only [sA,sZ,sS]
 refine rU 14 _ _ ?_
 (try simp only [Act.put]);try simp only [sA,sZ,sS]
 refine rU 15 _ _ ?_
 (try simp only [Act.put]);try simp only [sA,sZ,sS]
 refine rU 16 _ _ ?_
 (try simp only [Act.put]);try simp only [sA,sZ,sS]
 refine rU 17 _ _ ?_
 (try simp only [Act.put]);try simp only [sA,sZ,sS]
 refine rU 18 _ _ ?_
 (try simp only [Act.put]);try simp only [sA,sZ,sS]
 refine rU 19 _ _ ?_
 (try simp only [Act.put]);try simp only [sA,sZ,sS]
 refine rU 20 _ _ ?_
 (try simp only [Act.put]);try simp only [sA,sZ,sS]
 refine rU 21 _ _ ?_
 (try simp only [Act.put]);try simp only [sA,sZ,sS]
 refine rU 22 _ _ ?_
 (try simp only [Act.put]);try simp only [sA,sZ,sS]
 refine rU 23 _ _ ?_
 (try simp only [Act.put]);try simp only [sA,sZ,sS]
 refine rU 24 _ _ ?_
 (try simp only [Act.put]);try simp only [sA,sZ,sS]
 refine rU 25 _ _ ?_
 (try simp only [Act.put]);try simp only [sA,sZ,sS]
 refine rU 26 _ _ ?_
 (try simp only [Act.put]);try simp only [sA,sZ,sS]
 refine rU 27 _ _ ?_
 (try simp only [Act.put]);try simp only [sA,sZ,sS]
 refine reg_call 28 ?_ (by kernel_rfl) ?_ (fun K hK => ?_);rotate_left 1
 ·simp only [gA,gS,gZ]; exact rfl
 go_simp
 refine (CI.out _).mono ?_
 rintro e w5 ⟨rfl, hb5⟩
 have HB5 := Lib.hid ((Below.refl w2.heap.size w2).drew'.trans (hb5.mono (Below.refl w2.heap.size w2).drew'.size)); clear hb5
 go_wp2_with fail
 refine hK.out _ _ (CC.out _ HB5.out) (fun hHeld => ?_)
 clear hK K
 (try simp only [Act.put]);try simp only [sA,sZ,sS]
 refine rU 29 _ _ ?_
 (try simp only [Act.put]);try simp only [sA,sZ,sS]
 refine rU 30 _ _ ?_
 (try simp only [Act.put]);try simp only [sA,sZ,sS]
 refine wpAnyH_done (by kernel_rfl) ?_ _
 refine NoPanic.normal ?_
 go_wp2
 go_ret
 exact ⟨rfl, HB2.out.trans (HB5.out.mono HB2.out.size)⟩
set_option maxRecDepth 100000 in
set_option maxHeartbeats 8000000 in
theorem lwConflict_ghost {mb pb pc : Nat} {ta : Option Addr} {tc : Nat} {P : List (Int × Int)} {S : List TriM} (t : Nat) (T : TriM) (p0 p1 : Int) (w : World) (h : MeshR w mb pb pc ta tc P S) (hP : InPs P) (hp : InP p0 ∧ InP p1) (hT : S[t]? = some T) (hg : T.v2 = -1) (h0 : InV P T.v0) (h1 : InV P T.v1) :
  Calls Tryz.prog 15 #[.pointer (some ⟨mb, 0, none⟩), .int .i64 (t : Int), .agg #[.int .i64 p0, .int .i64 p1]] w fun e w' => e = .returned (.bool (conflictM P T (p0, p1))) ∧ Below w.heap.size w w' := by
 obtain ⟨a, ea, la, ga⟩ := h0.nat
 obtain ⟨b, eb, lb, gb⟩ := h1.nat
 have hpa : InP (ptA P T.v0.toNat).1 ∧ InP (ptA P T.v0.toNat).2 := hP _ (List.mem_of_getElem? ga)
 have hpb : InP (ptA P T.v1.toNat).1 ∧ InP (ptA P T.v1.toNat).2 := hP _ (List.mem_of_getElem? gb)
 have hpl : placeT T (-1) = ((2 : Nat) : Int) := by unfold placeT; rw [if_neg (by omega), if_neg (by omega), if_pos hg.symm]; rfl
 have hcs : cors P T = [ptA P T.v0.toNat, ptA P T.v1.toNat] := cors_ghost (j := 2) (by omega) hpl h0 h1 hg
 obtain ⟨⟨a0, a1⟩, hpta⟩ : ∃ q, ptA P T.v0.toNat = q := ⟨_, rfl⟩
 obtain ⟨⟨b0, b1⟩, hptb⟩ : ∃ q, ptA P T.v1.toNat = q := ⟨_, rfl⟩
 have hcm : conflictM P T (p0, p1) = (decide (0 < crs a0 a1 b0 b1 p0 p1) || (decide (¬ (p0 = a0 ∧ p1 = a1) ∧ ¬ (p0 = b0 ∧ p1 = b1)) && onP p0 p1 a0 a1 b0 b1)) := by
  unfold conflictM; rw [hcs, hpta, hptb]; rfl
 rw [hcm]
 rw [hpta] at ga hpa; rw [hptb] at gb hpb
 simp only [] at ga gb hpa hpb
 obtain ⟨s, hs⟩ : ∃ s, (crs a0 a1 b0 b1 p0 p1).sign = s := ⟨_, rfl⟩
 rw [conflict_bool hs]
 obtain ⟨q, hq⟩ : ∃ q, (decide (¬ (p0 = a0 ∧ p1 = a1) ∧ ¬ (p0 = b0 ∧ p1 = b1)) && onP p0 p1 a0 a1 b0 b1) = q := ⟨_, rfl⟩
 rw [hq]
 have CO := Lib.hid (fun W => Orient_is a0 a1 b0 b1 p0 p1 hpa.1 hpa.2 hpb.1 hpb.2 hp.1 hp.2 hs W)
 have CB := Lib.hid (fun W => Between_is p0 p1 a0 a1 b0 b1 hp.1 hp.2 hpa.1 hpa.2 hpb.1 hpb.2 q hq W)
 have hlt := (List.getElem?_eq_some_iff.1 hT).1
 have hsh := h.short
 obtain ⟨len, hlen⟩ : ∃ len, S.length = len := ⟨_, rfl⟩
 obtain ⟨pn, hpn⟩ : ∃ pn, P.length = pn := ⟨_, rfl⟩
 rw [hlen] at hlt hsh
 rw [hpn] at la lb hsh
 obtain ⟨tb, hta, -, h9⟩ := h.tris.get hT
 subst hta
 have hed := fun W => lwEdge_any T 2 (by omega) W
 obtain ⟨v0, v1, v2, n0, n1, n2, f0, f1, f2⟩ := T
 simp only [] at ea eb hg
 subst ea; subst eb; subst hg
 have HED := Lib.hid (show ∀ W : World, Calls Tryz.prog 14 #[.agg #[.int .i64 (a : Int), .int .i64 (b : Int), .int .i64 (-1), .int .i64 n0, .int .i64 n1, .int .i64 n2, .bool f0, .bool f1, .bool f2], .int .i64 2] W fun e w' => e = .returned (.tuple #[.int .i64 (a : Int), .int .i64 (b : Int)]) ∧ Below W.heap.size W w' from hed)
 obtain ⟨w1, hw1, pp, hb1, hs1⟩ := new_box w _ rfl [.int .i64 p0, .int .i64 p1] 24
 obtain ⟨w2, hw2, px, hb2, hs2⟩ := new_box w1 _ rfl [.int .i64 (a : Int), .int .i64 (b : Int), .int .i64 (-1), .int .i64 n0, .int .i64 n1, .int .i64 n2, .bool f0, .bool f1, .bool f2] 37
 have hb12 : Below w.heap.size w w2 := hb1.trans (hb2.mono hb1.size)
 have e1 := (h.below hb1).box.c1
 rw [hlen] at e1
 obtain ⟨d0, d1, d2, d3, d4, d5, d6, d7, d8⟩ := h9.below hb1
 simp only [] at d0 d1 d2 d3 d4 d5 d6 d7 d8
 have cc : ∀ w', Below w2.heap.size w2 w' → w'.cell? ⟨mb, 0, none⟩ = some (.slice (some ⟨pb, 0, none⟩) pn pc) ∧ w'.cell? ⟨pb, a * 2, none⟩ = some (.int .i64 a0) ∧ w'.cell? ⟨pb, a * 2 + 1, none⟩ = some (.int .i64 a1) ∧ w'.cell? ⟨pb, b * 2, none⟩ = some (.int .i64 b0) ∧ w'.cell? ⟨pb, b * 2 + 1, none⟩ = some (.int .i64 b1) ∧ w'.cell? ⟨w.heap.size, 0, none⟩ = some (.int .i64 p0) ∧ w'.cell? ⟨w.heap.size, 1, none⟩ = some (.int .i64 p1) := by
  intro w' hb
  have hm := (h.below hb12).below hb
  have e0 := hm.box.c 0 _ rfl
  rw [hpn] at e0
  exact ⟨e0, (hm.pt ga).1, (hm.pt ga).2, (hm.pt gb).1, (hm.pt gb).2, ((pp.below hb2).below hb).c 0 _ rfl, ((pp.below hb2).below hb).c 1 _ rfl⟩
 have CC := Lib.hid cc; have HB2 := Lib.hid hb12
 have x0 := px.c 0 _ rfl; have x1 := px.c 1 _ rfl; have x2 := px.c 2 _ rfl; have x3 := px.c 3 _ rfl; have x4 := px.c 4 _ rfl; have x5 := px.c 5 _ rfl; have x6 := px.c 6 _ rfl; have x7 := px.c 7 _ rfl; have x8 := px.c 8 _ rfl
 have i1 : (0 : Int) ≤ (t : Int) := by omega
 have i2 : (t : Int) < (len : Int) := by omega
 have i3 : (0 : Int) ≤ (a : Int) := by omega
 have i4 : (a : Int) < (pn : Int) := by omega
 have i5 : (0 : Int) ≤ (b : Int) := by omega
 have i6 : (b : Int) < (pn : Int) := by omega
 have z1 : ((a : Int) == -1) = false := by simp
 have z2 : ((b : Int) == -1) = false := by simp
 have hs3 : s = -1 ∨ s = 0 ∨ s = 1 := by rw [← hs]; exact sign_cases _
 clear h hP hp hT h0 h1 la lb ga gb hpa hpb hcm hpta hptb hs hq hcs hpl h9 hsh hlt hlen hpn pp hb1 hs1 px hb2 hs2 hb12 cc hed
 go_enter Tryz.func15, Tryz.ntmps15
 go_wp2
 clear d0 d1 d2 d3 d4 d5 d6 d7 d8 e1
 refine wp_loop_rounds 3 ?_
 rw [rounds_succ]
 go_wp2
 rw [rounds_succ]
 go_wp2
 rw [rounds_succ]
 go_wp2_with fail
 refine (HED.out _).mono ?_
 rintro e w4 ⟨rfl, hb4⟩
 have HB4 := Lib.hid hb4; clear hb4
 go_wp2
 rcases hs3 with rfl | rfl | rfl
 ·refine wp_region_noPanic ?_
  refine wp_region_held_drew (S := fun w' => w'.cell? ⟨mb, 0, none⟩ = some (.slice (some ⟨pb, 0, none⟩) pn pc) ∧ w'.cell? ⟨pb, a * 2, none⟩ = some (.int .i64 a0) ∧ w'.cell? ⟨pb, a * 2 + 1, none⟩ = some (.int .i64 a1) ∧ w'.cell? ⟨pb, b * 2, none⟩ = some (.int .i64 b0) ∧ w'.cell? ⟨pb, b * 2 + 1, none⟩ = some (.int .i64 b1) ∧ w'.cell? ⟨w.heap.size, 0, none⟩ = some (.int .i64 p0) ∧ w'.cell? ⟨w.heap.size, 1, none⟩ = some (.int .i64 p1)) (by kernel_rfl) (CC.out _ HB4.out.drew') (fun hHeld => ?_)
  refine rU 0 _ _ ?_
  (try simp only [Act.put]);try simp only [sA,sZ,sS]
  refine rU 1 _ _ ?_
  (try simp only [Act.put]);try simp only [sA,sZ,sS]
  refine rU 2 _ _ ?_
  (try simp only [Act.put]);try simp only [sA,sZ,sS]
  refine rU 3 _ _ ?_
  (try simp only [Act.put]);try simp only [sA,sZ,sS]
  refine rU 4 _ _ ?_
  (try simp only [Act.put]);try simp only [sA,sZ,sS]
  refine rU 5 _ _ ?_
  (try simp only [Act.put]);try simp only [sA,sZ,sS]
  refine rU 6 _ _ ?_
  (try simp only [Act.put]);try simp only [sA,sZ,sS]
  refine rU 7 _ _ ?_
  (try simp only [Act.put]);try simp only [sA,sZ,sS]
  refine rU 8 _ _ ?_
  (try simp only [Act.put]);try simp only [sA,sZ,sS]
  refine rU 9 _ _ ?_
  (try simp only [Act.put]);try simp only [sA,sZ,sS]
  refine rU 10 _ _ ?_
  (try simp only [Act.put]);try simp only [sA,sZ,sS]
  refine rU 11 _ _ ?_
  (try simp only [Act.put]);try simp only [sA,sZ,sS]
  refine rU 12 _ _ ?_
  (try simp only [Act.put]);try simp only [sA,sZ,sS]
  refine rU 13 _ _ ?_
  (try simp only [Act.put]);try simp only [sA,sZ,sS]
  refine rU 14 _ _ ?_
  (try simp only [Act.put]);try simp only [sA,sZ,sS]
  refine reg_call 15 ?_ (by kernel_rfl) ?_ (fun K hK => ?_);rotate_left 1
  ·simp only [gA,gS,gZ]; exact rfl
  go_simp
  refine (CO.out _).mono ?_
  rintro e w5 ⟨rfl, hb5⟩
  have HB5 := Lib.hid (HB4.out.drew'.trans (hb5.mono HB4.out.drew'.size)); clear hb5
  go_wp2_with fail
  refine hK.out _ _ (CC.out _ HB5.out) (fun hHeld => ?_)
  clear hK K
  (try simp only [Act.put]);try simp only [sA,sZ,sS]
  refine rU 16 _ _ ?_
  (try simp only [Act.put]);try simp only [sA,sZ,sS]
  refine rU 17 _ _ ?_
  (try simp only [Act.put]);try simp only [sA,sZ,sS]
  refine rU 18 _ _ ?_
  (try simp only [Act.put]);try simp only [sA,sZ,sS]
  refine rU 19 _ _ ?_
  (try simp only [Act.put]);try simp only [sA,sZ,sS]
  refine rU 20 _ _ ?_
  (try simp only [Act.put]);try simp only [sA,sZ,sS]
  refine rU 21 _ _ ?_
  (try simp only [Act.put]);try simp only [sA,sZ,sS]
  refine rU 22 _ _ ?_
  (try simp only [Act.put]);try simp only [sA,sZ,sS]
  refine rU 23 _ _ ?_
  (try simp only [Act.put]);try simp only [sA,sZ,sS]
  refine rU 24 _ _ ?_
  (try simp only [Act.put]);try simp only [sA,sZ,sS]
  refine rU 25 _ _ ?_
  (try simp only [Act.put]);try simp only [sA,sZ,sS]
  refine rU 26 _ _ ?_
  (try simp only [Act.put]);try simp only [sA,sZ,sS]
  refine rU 27 _ _ ?_
  (try simp only [Act.put]);try simp only [sA,sZ,sS]
  refine rU 28 _ _ ?_
  (try simp only [Act.put]);try simp only [sA,sZ,sS]
  refine rU 29 _ _ ?_
  (try simp only [Act.put]);try simp only [sA,sZ,sS]
  refine rU 30 _ _ ?_
  (try simp only [Act.put]);try simp only [sA,sZ,sS]
  refine rU 31 _ _ ?_
  (try simp only [Act.put]);try simp only [sA,sZ,sS]
  refine rU 32 _ _ ?_
  (try simp only [Act.put]);try simp only [sA,sZ,sS]
  refine reg_call 33 ?_ (by kernel_rfl) ?_ (fun K hK => ?_);rotate_left 1
  ·simp only [gA,gS,gZ]; exact rfl
  go_simp
  refine (CB.out _).mono ?_
  rintro e w6 ⟨rfl, hb6⟩
  have HB6 := Lib.hid (HB5.out.trans (hb6.mono HB5.out.size)); clear hb6
  go_wp2_with fail
  refine hK.out _ _ (CC.out _ HB6.out) (fun hHeld => ?_)
  clear hK K
  (try simp only [Act.put]);try simp only [sA,sZ,sS]
  refine rU 34 _ _ ?_
  (try simp only [Act.put]);try simp only [sA,sZ,sS]
  refine rU 35 _ _ ?_
  (try simp only [Act.put]);try simp only [sA,sZ,sS]
  refine wpAnyH_done (by kernel_rfl) ?_ _
  refine NoPanic.normal ?_
  go_wp2
  go_ret
  exact ⟨rfl, HB2.out.trans (HB6.out.mono HB2.out.size)⟩
 ·refine wp_region_noPanic ?_
  refine wp_region_held_drew (S := fun w' => w'.cell? ⟨mb, 0, none⟩ = some (.slice (some ⟨pb, 0, none⟩) pn pc) ∧ w'.cell? ⟨pb, a * 2, none⟩ = some (.int .i64 a0) ∧ w'.cell? ⟨pb, a * 2 + 1, none⟩ = some (.int .i64 a1) ∧ w'.cell? ⟨pb, b * 2, none⟩ = some (.int .i64 b0) ∧ w'.cell? ⟨pb, b * 2 + 1, none⟩ = some (.int .i64 b1) ∧ w'.cell? ⟨w.heap.size, 0, none⟩ = some (.int .i64 p0) ∧ w'.cell? ⟨w.heap.size, 1, none⟩ = some (.int .i64 p1)) (by kernel_rfl) (CC.out _ HB4.out.drew') (fun hHeld => ?_)
  refine rU 0 _ _ ?_
  (try simp only [Act.put]);try simp only [sA,sZ,sS]
  refine rU 1 _ _ ?_
  (try simp only [Act.put]);try simp only [sA,sZ,sS]
  refine rU 2 _ _ ?_
  (try simp only [Act.put]);try simp only [sA,sZ,sS]
  refine rU 3 _ _ ?_
  (try simp only [Act.put]);try simp only [sA,sZ,sS]
  refine rU 4 _ _ ?_
  (try simp only [Act.put]);try simp only [sA,sZ,sS]
  refine rU 5 _ _ ?_
  (try simp only [Act.put]);try simp only [sA,sZ,sS]
  refine rU 6 _ _ ?_
  (try simp only [Act.put]);try simp only [sA,sZ,sS]
  refine rU 7 _ _ ?_
  (try simp only [Act.put]);try simp only [sA,sZ,sS]
  refine rU 8 _ _ ?_
  (try simp only [Act.put]);try simp only [sA,sZ,sS]
  refine rU 9 _ _ ?_
  (try simp only [Act.put]);try simp only [sA,sZ,sS]
  refine rU 10 _ _ ?_
  (try simp only [Act.put]);try simp only [sA,sZ,sS]
  refine rU 11 _ _ ?_
  (try simp only [Act.put]);try simp only [sA,sZ,sS]
  refine rU 12 _ _ ?_
  (try simp only [Act.put]);try simp only [sA,sZ,sS]
  refine rU 13 _ _ ?_
  (try simp only [Act.put]);try simp only [sA,sZ,sS]
  refine rU 14 _ _ ?_
  (try simp only [Act.put]);try simp only [sA,sZ,sS]
  refine reg_call 15 ?_ (by kernel_rfl) ?_ (fun K hK => ?_);rotate_left 1
  ·simp only [gA,gS,gZ]; exact rfl
  go_simp
  refine (CO.out _).mono ?_
  rintro e w5 ⟨rfl, hb5⟩
  have HB5 := Lib.hid (HB4.out.drew'.trans (hb5.mono HB4.out.drew'.size)); clear hb5
  go_wp2_with fail
  refine hK.out _ _ (CC.out _ HB5.out) (fun hHeld => ?_)
  clear hK K
  (try simp only [Act.put]);try simp only [sA,sZ,sS]
  refine rU 16 _ _ ?_
  (try simp only [Act.put]);try simp only [sA,sZ,sS]
  refine rU 17 _ _ ?_
  (try simp only [Act.put]);try simp only [sA,sZ,sS]
  refine rU 18 _ _ ?_
  (try simp only [Act.put]);try simp only [sA,sZ,sS]
  refine rU 19 _ _ ?_
  (try simp only [Act.put]);try simp only [sA,sZ,sS]
  refine rU 20 _ _ ?_
  (try simp only [Act.put]);try simp only [sA,sZ,sS]
  refine rU 21 _ _ ?_
  (try simp only [Act.put]);try simp only [sA,sZ,sS]
  refine rU 22 _ _ ?_
  (try simp only [Act.put]);try simp only [sA,sZ,sS]
  refine rU 23 _ _ ?_
  (try simp only [Act.put]);try simp only [sA,sZ,sS]
  refine rU 24 _ _ ?_
  (try simp only [Act.put]);try simp only [sA,sZ,sS]
  refine rU 25 _ _ ?_
  (try simp only [Act.put]);try simp only [sA,sZ,sS]
  refine rU 26 _ _ ?_
  (try simp only [Act.put]);try simp only [sA,sZ,sS]
  refine rU 27 _ _ ?_
  (try simp only [Act.put]);try simp only [sA,sZ,sS]
  refine rU 28 _ _ ?_
  (try simp only [Act.put]);try simp only [sA,sZ,sS]
  refine rU 29 _ _ ?_
  (try simp only [Act.put]);try simp only [sA,sZ,sS]
  refine rU 30 _ _ ?_
  (try simp only [Act.put]);try simp only [sA,sZ,sS]
  refine rU 31 _ _ ?_
  (try simp only [Act.put]);try simp only [sA,sZ,sS]
  refine rU 32 _ _ ?_
  (try simp only [Act.put]);try simp only [sA,sZ,sS]
  refine reg_call 33 ?_ (by kernel_rfl) ?_ (fun K hK => ?_);rotate_left 1
  ·simp only [gA,gS,gZ]; exact rfl
  go_simp
  refine (CB.out _).mono ?_
  rintro e w6 ⟨rfl, hb6⟩
  have HB6 := Lib.hid (HB5.out.trans (hb6.mono HB5.out.size)); clear hb6
  go_wp2_with fail
  refine hK.out _ _ (CC.out _ HB6.out) (fun hHeld => ?_)
  clear hK K
  (try simp only [Act.put]);try simp only [sA,sZ,sS]
  refine rU 34 _ _ ?_
  (try simp only [Act.put]);try simp only [sA,sZ,sS]
  refine rU 35 _ _ ?_
  (try simp only [Act.put]);try simp only [sA,sZ,sS]
  refine wpAnyH_done (by kernel_rfl) ?_ _
  refine NoPanic.normal ?_
  go_wp2
  go_ret
  exact ⟨rfl, HB2.out.trans (HB6.out.mono HB2.out.size)⟩
 ·refine wp_region_noPanic ?_
  refine wp_region_held_drew (S := fun w' => w'.cell? ⟨mb, 0, none⟩ = some (.slice (some ⟨pb, 0, none⟩) pn pc) ∧ w'.cell? ⟨pb, a * 2, none⟩ = some (.int .i64 a0) ∧ w'.cell? ⟨pb, a * 2 + 1, none⟩ = some (.int .i64 a1) ∧ w'.cell? ⟨pb, b * 2, none⟩ = some (.int .i64 b0) ∧ w'.cell? ⟨pb, b * 2 + 1, none⟩ = some (.int .i64 b1) ∧ w'.cell? ⟨w.heap.size, 0, none⟩ = some (.int .i64 p0) ∧ w'.cell? ⟨w.heap.size, 1, none⟩ = some (.int .i64 p1)) (by kernel_rfl) (CC.out _ HB4.out.drew') (fun hHeld => ?_)
  refine rU 0 _ _ ?_
  (try simp only [Act.put]);try simp only [sA,sZ,sS]
  refine rU 1 _ _ ?_
  (try simp only [Act.put]);try simp only [sA,sZ,sS]
  refine rU 2 _ _ ?_
  (try simp only [Act.put]);try simp only [sA,sZ,sS]
  refine rU 3 _ _ ?_
  (try simp only [Act.put]);try simp only [sA,sZ,sS]
  refine rU 4 _ _ ?_
  (try simp only [Act.put]);try simp only [sA,sZ,sS]
  refine rU 5 _ _ ?_
  (try simp only [Act.put]);try simp only [sA,sZ,sS]
  refine rU 6 _ _ ?_
  (try simp only [Act.put]);try simp only [sA,sZ,sS]
  refine rU 7 _ _ ?_
  (try simp only [Act.put]);try simp only [sA,sZ,sS]
  refine rU 8 _ _ ?_
  (try simp only [Act.put]);try simp only [sA,sZ,sS]
  refine rU 9 _ _ ?_
  (try simp only [Act.put]);try simp only [sA,sZ,sS]
  refine rU 10 _ _ ?_
  (try simp only [Act.put]);try simp only [sA,sZ,sS]
  refine rU 11 _ _ ?_
  (try simp only [Act.put]);try simp only [sA,sZ,sS]
  refine rU 12 _ _ ?_
  (try simp only [Act.put]);try simp only [sA,sZ,sS]
  refine rU 13 _ _ ?_
  (try simp only [Act.put]);try simp only [sA,sZ,sS]
  refine rU 14 _ _ ?_
  (try simp only [Act.put]);try simp only [sA,sZ,sS]
  refine reg_call 15 ?_ (by kernel_rfl) ?_ (fun K hK => ?_);rotate_left 1
  ·simp only [gA,gS,gZ]; exact rfl
  go_simp
  refine (CO.out _).mono ?_
  rintro e w5 ⟨rfl, hb5⟩
  have HB5 := Lib.hid (HB4.out.drew'.trans (hb5.mono HB4.out.drew'.size)); clear hb5
  go_wp2_with fail
  refine hK.out _ _ (CC.out _ HB5.out) (fun hHeld => ?_)
  clear hK K
  (try simp only [Act.put]);try simp only [sA,sZ,sS]
  refine rU 16 _ _ ?_
  (try simp only [Act.put]);try simp only [sA,sZ,sS]
  refine rU 17 _ _ ?_
  (try simp only [Act.put]);try simp only [sA,sZ,sS]
  refine rS 18 ?_ ?_ ?_ ?_;rotate_left 1
  ·simp only [gA,gS,gZ]; exact rfl
  ·rfl
  (try simp only [Act.put]);try simp only [sA,sZ,sS]
  refine rS 19 ?_ ?_ ?_ ?_;rotate_left 1
  ·simp only [gA,gS,gZ]; exact rfl
  ·rfl
  (try simp only [Act.put]);try simp only [sA,sZ,sS]
  refine rS 20 ?_ ?_ ?_ ?_;rotate_left 1
  ·simp only [gA,gS,gZ]; exact rfl
  ·rfl
  (try simp only [Act.put]);try simp only [sA,sZ,sS]
  refine rS 21 ?_ ?_ ?_ ?_;rotate_left 1
  ·simp only [gA,gS,gZ]; exact rfl
  ·rfl
  (try simp only [Act.put]);try simp only [sA,sZ,sS]
  refine rS 22 ?_ ?_ ?_ ?_;rotate_left 1
  ·simp only [gA,gS,gZ]; exact rfl
  ·rfl
  (try simp only [Act.put]);try simp only [sA,sZ,sS]
  refine rS 23 ?_ ?_ ?_ ?_;rotate_left 1
  ·simp only [gA,gS,gZ]; exact rfl
  ·rfl
  (try simp only [Act.put]);try simp only [sA,sZ,sS]
  refine rS 24 ?_ ?_ ?_ ?_;rotate_left 1
  ·simp only [gA,gS,gZ]; exact rfl
  ·rfl
  (try simp only [Act.put]);try simp only [sA,sZ,sS]
  refine rS 25 ?_ ?_ ?_ ?_;rotate_left 1
  ·simp only [gA,gS,gZ]; exact rfl
  ·rfl
  (try simp only [Act.put]);try simp only [sA,sZ,sS]
  refine rS 26 ?_ ?_ ?_ ?_;rotate_left 1
  ·simp only [gA,gS,gZ]; exact rfl
  ·rfl
  (try simp only [Act.put]);try simp only [sA,sZ,sS]
  refine rS 27 ?_ ?_ ?_ ?_;rotate_left 1
  ·simp only [gA,gS,gZ]; exact rfl
  ·rfl
  (try simp only [Act.put]);try simp only [sA,sZ,sS]
  refine rS 28 ?_ ?_ ?_ ?_;rotate_left 1
  ·simp only [gA,gS,gZ]; exact rfl
  ·rfl
  (try simp only [Act.put]);try simp only [sA,sZ,sS]
  refine rS 29 ?_ ?_ ?_ ?_;rotate_left 1
  ·simp only [gA,gS,gZ]; exact rfl
  ·rfl
  (try simp only [Act.put]);try simp only [sA,sZ,sS]
  refine rS 30 ?_ ?_ ?_ ?_;rotate_left 1
  ·simp only [gA,gS,gZ]; exact rfl
  ·rfl
  (try simp only [Act.put]);try simp only [sA,sZ,sS]
  refine rS 31 ?_ ?_ ?_ ?_;rotate_left 1
  ·simp only [gA,gS,gZ]; exact rfl
  ·rfl
  (try simp only [Act.put]);try simp only [sA,sZ,sS]
  refine rS 32 ?_ ?_ ?_ ?_;rotate_left 1
  ·simp only [gA,gS,gZ]; exact rfl
  ·rfl
  (try simp only [Act.put]);try simp only [sA,sZ,sS]
  refine rS 33 ?_ ?_ ?_ ?_;rotate_left 1
  ·simp only [gA,gS,gZ]; exact rfl
  ·rfl
  (try simp only [Act.put]);try simp only [sA,sZ,sS]
  refine rU 34 _ _ ?_
  (try simp only [Act.put]);try simp only [sA,sZ,sS]
  refine rU 35 _ _ ?_
  (try simp only [Act.put]);try simp only [sA,sZ,sS]
  refine wpAnyH_done (by kernel_rfl) ?_ _
  refine NoPanic.normal ?_
  go_wp2
  go_ret
  exact ⟨rfl, HB2.out.trans (HB5.out.mono HB2.out.size)⟩
end Go.Proofs.YtnabdopnlinklaaGreat
/- The statements' fit (layer 9). -/
namespace Go.Proofs.YtnabdopnlinklaaGreat
open Go.RowKit Go.MagM
theorem MeshO.sl {p e : TypeId} {w : World} {lo mb pb pc : Nat} {tv : Value} {P : List (Int × Int)} {S : List TriM} (h : MeshO p e w lo mb pb pc tv P S) (h0 : 0 < S.length) : ∃ tb tc, tv = .slice (some ⟨tb, 0, none⟩) S.length tc ∧ MeshR w mb pb pc (some ⟨tb, 0, none⟩) tc P S := by
  obtain ⟨t, ht⟩ : ∃ t, S[0]? = some t := ⟨_, List.getElem?_eq_getElem h0⟩
  obtain ⟨tb, tc, rfl⟩ := h.slot ht
  obtain ⟨ta, tc', e, hr⟩ := h.read
  simp only [Value.slice.injEq] at e
  obtain ⟨rfl, -, rfl⟩ := e
  exact ⟨tb, tc, rfl, hr⟩
end Go.Proofs.YtnabdopnlinklaaGreat
/- The statements' fit (layer 10). -/
namespace Go.MagM
open Go.RowKit
def fitP : List (Int × Int) := [(0, 0), (3, 0), (0, 3)]
def fitS : List TriM := newM ((0 : Nat) : Int) ((1 : Nat) : Int) ((2 : Nat) : Int)
theorem fit_in : InPs fitP := by
  intro p hp
  simp [fitP] at hp
  rcases hp with rfl | rfl | rfl <;> (unfold InP; omega)
theorem fit_look : LookIn fitP fitS := by
  intro t T hT
  have hl : t < 4 := (List.getElem?_eq_some_iff.1 hT).1
  obtain rfl | rfl | rfl | rfl : t = 0 ∨ t = 1 ∨ t = 2 ∨ t = 3 := by omega
  all_goals
    simp only [fitS, newM, List.getElem?_cons_zero, List.getElem?_cons_succ, Option.some.injEq] at hT
    subst hT
    refine ⟨fun hr i hi => ?_, fun k hk => ?_⟩
    · first
      | (exact absurd hr (by decide))
      | (obtain rfl | rfl | rfl : i = 0 ∨ i = 1 ∨ i = 2 := by omega
         all_goals (unfold InV; decide))
    · have h3 : k < 3 := by
        rcases placeT_cases _ _ with e | e | e | e <;> (rw [e] at hk; omega)
      obtain rfl | rfl | rfl : k = 0 ∨ k = 1 ∨ k = 2 := by omega
      all_goals first
        | (exact absurd hk (by decide))
        | (unfold InV; decide)
theorem fit_one : lookM fitP fitS (1, 1) = (0, 0, 0, 0) := by decide
end Go.MagM
namespace Go.Proofs.YtnabdopnlinklaaGreat
open Go.RowKit Go.MagM
end Go.Proofs.YtnabdopnlinklaaGreat
/- The statements' fit (layer 11). Written by tools/cav7.py. -/
namespace Go.Proofs.YtnabdopnlinklaaGreat
open Go.RowKit Go.MagM Go.Maps
theorem fit_slots {t : Nat} {T : TriM} (hT : fitS[t]? = some T) : t = 0 ∨ t = 1 ∨ t = 2 ∨ t = 3 := by
 have hl : t < 4 := (List.getElem?_eq_some_iff.1 hT).1
 omega
theorem fit_nexts : Nexts fitS := by
 intro t T hT i hi
 obtain rfl | rfl | rfl | rfl := fit_slots hT
 all_goals
  simp only [fitS, newM, List.getElem?_cons_zero, List.getElem?_cons_succ, Option.some.injEq] at hT
  subst hT
  obtain rfl | rfl | rfl : i = 0 ∨ i = 1 ∨ i = 2 := by omega
  all_goals first
   | exact ⟨0, rfl, by decide⟩
   | exact ⟨1, rfl, by decide⟩
   | exact ⟨2, rfl, by decide⟩
   | exact ⟨3, rfl, by decide⟩
theorem fit_cornered : Cornered fitP fitS := by
 intro t T hT
 obtain rfl | rfl | rfl | rfl := fit_slots hT
 all_goals
  simp only [fitS, newM, List.getElem?_cons_zero, List.getElem?_cons_succ, Option.some.injEq] at hT
  subst hT
  decide
theorem fit_small : SmallV fitS := by
 intro t T hT k
 obtain rfl | rfl | rfl | rfl := fit_slots hT
 all_goals
  simp only [fitS, newM, List.getElem?_cons_zero, List.getElem?_cons_succ, Option.some.injEq] at hT
  subst hT
  match k with
  | 0 => exact ⟨by decide, by decide⟩
  | 1 => exact ⟨by decide, by decide⟩
  | _ + 2 => exact ⟨by simp [TriM.v], by simp [TriM.v]⟩
theorem fit_closed : Closed fitS (confT fitP fitS (1, 1)) [0] := by
 intro t i T ht hT hi hf hc
 simp only [List.mem_singleton] at ht
 obtain rfl : t = 0 := by omega
 simp only [fitS, newM, List.getElem?_cons_zero, Option.some.injEq] at hT
 subst hT
 exfalso
 obtain rfl | rfl | rfl : i = 0 ∨ i = 1 ∨ i = 2 := by omega
 all_goals exact absurd hc (by decide)
theorem one_of {l : List Int} {a : Int} (hn : l.Nodup) (h : ∀ x, x ∈ l ↔ x = a) : l = [a] := by
 cases l with
 | nil => exact absurd ((h a).2 rfl) (by simp)
 | cons x r =>
  obtain rfl : x = a := (h x).1 (by simp)
  cases r with
  | nil => rfl
  | cons y r =>
   obtain rfl : y = x := (h y).1 (by simp)
   exact absurd (List.nodup_cons.1 hn).1 (by simp)
theorem fit_ts {ts : List Int} (hI : InS fitS ts) (h : ∀ x, x ∈ ts ↔ Reach fitS (confT fitP fitS (1, 1)) [0] x) : ts = [0] :=
 one_of hI.once fun x => ⟨fun hx => by simpa using fit_closed.reach (fun _ h => h) ((h x).1 hx), fun hx => (h x).2 (.base (by simp [hx]))⟩
theorem fit_rim : ∃ l, inRowM (rimP fitS [0] 1) = l ∧ l.length = 3 ∧ (∃ s r, l = s :: r ∧ s.a = 0) ∧ l.any (cutQ2 fitP fitS (1, 1)) = false := by
 refine ⟨_, rfl, by decide +kernel, ?_, by decide +kernel⟩
 exact ⟨⟨0, 1, 3, 2, false⟩, [⟨1, 2, 1, 2, false⟩, ⟨2, 0, 2, 2, false⟩], by kernel_rfl, rfl⟩
set_option maxRecDepth 100000 in
set_option maxHeartbeats 16000000 in
theorem fit11_any (w : World) : Calls Tryz.prog 12 #[] w fun e w' => e = .returned (.bool true) ∧ Below w.heap.size w w' := by
 obtain ⟨w1, hw1, pp, hb1, hs1⟩ := new_box w _ rfl [.int .i64 0, .int .i64 0, .int .i64 3, .int .i64 0, .int .i64 0, .int .i64 3] 24
 have hnew := New_yes (some ⟨w.heap.size, 0, none⟩) w.heap.size 3 3 fitP w1 rfl (by omega) (by omega) fit_in rfl (fun j u hj => by rw [Nat.zero_add]; exact pp.c j u hj) 0 1 2 (by rfl)
 have hnew' : Calls Tryz.prog 45 #[.slice (some ⟨w.heap.size, 0, none⟩) 3 3, .int .i64 0, .int .i64 1, .int .i64 2] w1 fun e w' => ∃ mb pb pc tv, e = .returned (.tuple #[.pointer (some ⟨mb, 0, none⟩), .bool true]) ∧ MeshO 24 37 w' w1.heap.size mb pb pc tv fitP fitS ∧ w1.heap.size ≤ pb ∧ Below w1.heap.size w1 w' := hnew
 have HN := Lib.hid hnew'
 have HB1 := Lib.hid hb1
 clear pp hb1 hs1 hnew hnew'
 go_enter Tryz.func12, Tryz.ntmps12
 go_wp2_with fail
 refine HN.out.mono ?_
 rintro e w2 ⟨mb, pb, pc, tv, rfl, hm, hpb, hb2⟩
 obtain ⟨tb, tc, rfl, hr⟩ := MeshO.sl hm (by show 0 < 4; omega)
 obtain ⟨w3, hw3, p3, hb3, hs3⟩ := new_box w2 _ rfl [.int .i64 1, .int .i64 1] 24
 have hl1 := Look_any (1, 1) w3 (hr.below hb3) fit_in ⟨by unfold InP; omega, by unfold InP; omega⟩ fit_look
 rw [fit_one] at hl1
 unfold placeV at hl1
 simp only [] at hl1
 have HR := Lib.hid (hr.below hb3); have HB3 := Lib.hid ((HB1.out.trans (hb2.mono HB1.out.size)).trans (hb3.mono (by have := HB1.out.size; have := hb2.size; omega))); have HL1 := Lib.hid hl1; have P3 := Lib.hid p3
 have q0 := p3.c 0 _ rfl; have q1 := p3.c 1 _ rfl
 clear hm hpb hb2 hr hl1 p3 hb3 hs3
 go_wp2_with fail
 refine HL1.out.mono ?_
 rintro e w4 ⟨rfl, hb4⟩
 obtain ⟨w5, hw5, p5, hb5, hs5⟩ := new_box w4 _ rfl [.int .i64 0, .int .i64 0, .int .i64 0, .int .i64 0] 28
 obtain ⟨wq, hwq⟩ : ∃ wq, setAll w5 w4.heap.size 0 [.int .i64 0, .int .i64 0, .int .i64 0, .int .i64 0] = wq := ⟨_, rfl⟩
 have pq : Box wq w4.heap.size [.int .i64 0, .int .i64 0, .int .i64 0, .int .i64 0] := by rw [← hwq]; exact p5.setAll [.int .i64 0, .int .i64 0, .int .i64 0, .int .i64 0] rfl
 have hb35 : Below w3.heap.size w3 wq := by rw [← hwq]; exact below_setAll (hb4.trans (hb5.mono hb4.size)) hb4.size _
 have p35 := P3.out.below hb35
 have HD := Lib.hid (cvDig_any [0] 0 0 0 0 1 1 wq (HR.out.below hb35) fit_in ⟨by unfold InP; omega, by unfold InP; omega⟩ fit_nexts fit_cornered (by decide) fit_small ⟨by simp, fun t ht => ⟨0, by simpa using ht, by decide⟩⟩ (by simp) (fun W hW => by
  have := cvBegin_off 0 ⟨0, 1, 2, 1, 2, 3, false, false, false⟩ 0 0 0 W ((HR.out.below hb35).below hW) rfl rfl
  have e : takeM fitP ⟨0, 1, 2, 1, 2, 3, false, false, false⟩ ((0 : Nat) : Int) [] = [0] := by decide
  rw [e] at this
  exact this))
 have HB5 := Lib.hid (HB3.out.trans (hb35.mono HB3.out.size))
 have P5 := Lib.hid pq; have PA := Lib.hid p5; have WQ := Lib.hid hwq
 have y0 := p35.c 0 _ rfl; have y1 := p35.c 1 _ rfl
 have x0 := pq.c 0 _ rfl; have x1 := pq.c 1 _ rfl; have x2 := pq.c 2 _ rfl; have x3 := pq.c 3 _ rfl
 clear hb4 hb5 hs5 p5 hb35 p35 q0 q1 pq hwq
 go_wp2_with (with_reducible refine wpList_store_box rfl _ _ _ rfl [.int .i64 0, .int .i64 0, .int .i64 0, .int .i64 0] PA.out rfl rfl (by kernel_rfl) (by simp) rfl WQ.out ?_)
 refine HD.out.mono ?_
 rintro e w6 ⟨g, cc, rv, ts, rfl, hI, hts, hrow, hrr, hb6⟩
 obtain rfl := fit_ts hI hts
 obtain ⟨l, hl, hl3, ⟨s, r, rfl, hsa⟩, hcut⟩ := fit_rim
 have hl' : inRowM (rimP fitS [0] ([0] : List Int).length) = s :: r := hl
 rw [hl'] at hrr ⊢
 rw [hcut]
 rw [hl3] at hrr
 obtain ⟨rg, rc, rfl⟩ : ∃ rg rc, rv = .slice (some ⟨rg, 0, none⟩) 3 rc := by
  rcases hrr.2 with ⟨h1, h2⟩ | ⟨g1, cap1, cur1, h1, -⟩
  ·omega
  ·exact ⟨_, _, h1⟩
 have k0 : w6.cell? ⟨rg, 0, none⟩ = some (.int .i64 0) := by
  have := hrr.cells rfl 0 (.int .i64 s.a) (by rfl)
  rw [hsa] at this; exact this
 have k1 : w6.cell? ⟨g, 0, none⟩ = some (.int .i64 0) := hrow.cells rfl 0 _ (by rw [show sortL [0] = [0] by simp [sortL]]; rfl)
 obtain ⟨wy, hwy, py, hby, hsy⟩ := new_box w6 _ rfl [.slice none 0 0, .slice none 0 0, .bool false] 46
 obtain ⟨w7, hw7⟩ : ∃ w7, setAll wy w6.heap.size 0 [.slice (some ⟨g, 0, none⟩) 1 cc, .slice (some ⟨rg, 0, none⟩) 3 rc, .bool false] = w7 := ⟨_, rfl⟩
 have p7 : Box w7 w6.heap.size [.slice (some ⟨g, 0, none⟩) 1 cc, .slice (some ⟨rg, 0, none⟩) 3 rc, .bool false] := by rw [← hw7]; exact py.setAll [.slice (some ⟨g, 0, none⟩) 1 cc, .slice (some ⟨rg, 0, none⟩) 3 rc, .bool false] rfl
 have hb7 : Below w6.heap.size w6 w7 := by rw [← hw7]; exact below_setAll hby (Nat.le_refl _) _
 have PY := Lib.hid py; have W7 := Lib.hid hw7
 have hlen : ([0] : List Int).length = 1 := rfl
 rw [hlen]
 have hb57 := hb6.trans (hb7.mono hb6.size)
 have p57 := P5.out.below hb57
 have kk0 := (hb7.cell (World.block_lt_of_cell? _ _ k0)).trans k0
 have kk1 := (hb7.cell (World.block_lt_of_cell? _ _ k1)).trans k1
 have cc7 : w7.cell? ⟨w6.heap.size, 0, none⟩ = some (.slice (some ⟨g, 0, none⟩) 1 cc) ∧ w7.cell? ⟨w6.heap.size, 1, none⟩ = some (.slice (some ⟨rg, 0, none⟩) 3 rc) ∧ w7.cell? ⟨w6.heap.size, 2, none⟩ = some (.bool false) ∧ w7.cell? ⟨w4.heap.size, 1, none⟩ = some (.int .i64 0) ∧ w7.cell? ⟨g, 0, none⟩ = some (.int .i64 0) ∧ w7.cell? ⟨rg, 0, none⟩ = some (.int .i64 0) := ⟨p7.c 0 _ rfl, p7.c 1 _ rfl, p7.c 2 _ rfl, p57.c 1 _ rfl, kk1, kk0⟩
 have CC7 := Lib.hid cc7
 have HB7 := Lib.hid (HB5.out.trans (hb57.mono HB5.out.size))
 clear hI hts hrow hrr hb6 hl hl3 hsa hcut hl' k0 k1 p7 hb7 hsy hby py hw7 hlen hb57 p57 kk0 kk1 cc7 x0 x1 x2 x3 y0 y1
 go_wp2_with (with_reducible refine wpList_store_box rfl _ _ _ rfl [.slice (some ⟨g, 0, none⟩) 1 cc, .slice (some ⟨rg, 0, none⟩) 3 rc, .bool false] PY.out rfl rfl (by kernel_rfl) (by simp) rfl W7.out ?_)
 refine wp_region_noPanic ?_
 refine wp_region_held_drew (S := fun w' => w'.cell? ⟨w6.heap.size, 0, none⟩ = some (.slice (some ⟨g, 0, none⟩) 1 cc) ∧ w'.cell? ⟨w6.heap.size, 1, none⟩ = some (.slice (some ⟨rg, 0, none⟩) 3 rc) ∧ w'.cell? ⟨w6.heap.size, 2, none⟩ = some (.bool false) ∧ w'.cell? ⟨w4.heap.size, 1, none⟩ = some (.int .i64 0) ∧ w'.cell? ⟨g, 0, none⟩ = some (.int .i64 0) ∧ w'.cell? ⟨rg, 0, none⟩ = some (.int .i64 0)) (by kernel_rfl) (CC7.out) (fun hHeld => ?_)
 refine rU 0 _ _ ?_
 (try simp only [Act.put]);try simp only [sA,sZ,sS]
 refine rU 1 _ _ ?_
 (try simp only [Act.put]);try simp only [sA,sZ,sS]
 refine rU 2 _ _ ?_
 (try simp only [Act.put]);try simp only [sA,sZ,sS]
 refine rU 3 _ _ ?_
 (try simp only [Act.put]);try simp only [sA,sZ,sS]
 refine rU 4 _ _ ?_
 (try simp only [Act.put]);try simp only [sA,sZ,sS]
 refine rU 5 _ _ ?_
 (try simp only [Act.put]);try simp only [sA,sZ,sS]
 refine rU 6 _ _ ?_
 (try simp only [Act.put]);try simp only [sA,sZ,sS]
 refine rU 7 _ _ ?_
 (try simp only [Act.put]);try simp only [sA,sZ,sS]
 refine rU 8 _ _ ?_
 (try simp only [Act.put]);try simp only [sA,sZ,sS]
 refine rU 9 _ _ ?_
 (try simp only [Act.put]);try simp only [sA,sZ,sS]
 refine rU 10 _ _ ?_
 (try simp only [Act.put]);try simp only [sA,sZ,sS]
 refine rU 11 _ _ ?_
 (try simp only [Act.put]);try simp only [sA,sZ,sS]
 refine rU 12 _ _ ?_
 (try simp only [Act.put]);try simp only [sA,sZ,sS]
 refine rU 13 _ _ ?_
 (try simp only [Act.put]);try simp only [sA,sZ,sS]
 refine rU 14 _ _ ?_
 (try simp only [Act.put]);try simp only [sA,sZ,sS]
 refine rU 15 _ _ ?_
 (try simp only [Act.put]);try simp only [sA,sZ,sS]
 refine rU 16 _ _ ?_
 (try simp only [Act.put]);try simp only [sA,sZ,sS]
 refine rU 17 _ _ ?_
 (try simp only [Act.put]);try simp only [sA,sZ,sS]
 refine rU 18 _ _ ?_
 (try simp only [Act.put]);try simp only [sA,sZ,sS]
 refine rU 19 _ _ ?_
 (try simp only [Act.put]);try simp only [sA,sZ,sS]
 refine rU 20 _ _ ?_
 (try simp only [Act.put]);try simp only [sA,sZ,sS]
 refine rU 21 _ _ ?_
 (try simp only [Act.put]);try simp only [sA,sZ,sS]
 refine rU 22 _ _ ?_
 (try simp only [Act.put]);try simp only [sA,sZ,sS]
 refine rU 23 _ _ ?_
 (try simp only [Act.put]);try simp only [sA,sZ,sS]
 refine rU 24 _ _ ?_
 (try simp only [Act.put]);try simp only [sA,sZ,sS]
 refine rU 25 _ _ ?_
 (try simp only [Act.put]);try simp only [sA,sZ,sS]
 refine rU 26 _ _ ?_
 (try simp only [Act.put]);try simp only [sA,sZ,sS]
 refine rU 27 _ _ ?_
 (try simp only [Act.put]);try simp only [sA,sZ,sS]
 refine rU 28 _ _ ?_
 (try simp only [Act.put]);try simp only [sA,sZ,sS]
 refine rU 29 _ _ ?_
 (try simp only [Act.put]);try simp only [sA,sZ,sS]
 refine rU 30 _ _ ?_
 (try simp only [Act.put]);try simp only [sA,sZ,sS]
 refine rU 31 _ _ ?_
 (try simp only [Act.put]);try simp only [sA,sZ,sS]
 refine rU 32 _ _ ?_
 try simp only [Act.put]
 try simp only [List.setIfInBounds_toArray, List.set_cons_zero]
 refine wpAnyH_done (by kernel_rfl) ?_ _
 refine NoPanic.normal ?_
 go_wp2
 go_ret
 exact ⟨rfl, HB7.out.drew'⟩
end Go.Proofs.YtnabdopnlinklaaGreat
/- The statements' grids: where they lie, where a walk begins. -/
namespace Go.MagM
open Go.RowKit
theorem MeshR.in_ {w : World} {mb pb pc : Nat} {ta : Option Addr} {tc : Nat} {P : List (Int × Int)} {S : List TriM} (h : MeshR w mb pb pc ta tc P S) (hP : 0 < P.length) (hS : 0 < S.length) : MeshIn (fun b => b < w.heap.size) mb pb ta := by
 refine ⟨World.block_lt_of_cell? w _ (h.box.c 0 _ rfl), ?_, fun b hb => ?_⟩
 ·obtain ⟨⟨x, y⟩, hp⟩ : ∃ q, P[0]? = some q := ⟨_, List.getElem?_eq_getElem hP⟩
  exact World.block_lt_of_cell? w _ (h.pts 0 x y hp).1
 ·obtain ⟨T, hT⟩ : ∃ T, S[0]? = some T := ⟨_, List.getElem?_eq_getElem hS⟩
  obtain ⟨tb, e, hl, -⟩ := h.tris.get hT
  rw [hb] at e
  cases e
  exact hl
end Go.MagM
namespace Go.Proofs.YtnabdopnlinklaaGreat
open Go.RowKit Go.MagM
end Go.Proofs.YtnabdopnlinklaaGreat
/- The statements' Right. -/
namespace Go.Proofs.YtnabdopnlinklaaGreat
open Go.RowKit Go.MagM Go.Shelf
attribute [local go_sem] Oper.semAt_some
/-- The blocks that Right's loop leaves as they are. -/
def RPb (n : Nat) : Nat → Prop := fun b => b < n + 8 ∧ b ≠ n + 4 ∧ b ≠ n + 5 ∧ b ≠ n + 6
theorem keepsOthers_below {W W' : World} (h : Below W.heap.size W W') : KeepsOthers W W' := ⟨h.size, fun k _ hk _ => (h.block k (Array.getElem?_eq_some_iff.1 hk).1).trans hk⟩
/-- What stands in a round of Right's loop. -/
structure RightR (w W9 W : World) (yb : Nat) (U : TriM) (ins : Bool) (at_ e0 e1 : Int) (wr : World) : Prop where
 ko : KeepsOthers W wr
 kb : KeepB (RPb w.heap.size) W9 wr
 kw : KeepB (RPb w.heap.size) W wr
 bl : Below w.heap.size w wr
 pi : Box wr (w.heap.size + 4) [.bool ins]
 pa : Box wr (w.heap.size + 5) [.int .i64 at_]
 pe : Box wr (w.heap.size + 6) [.int .i64 e0, .int .i64 e1]
 py : Box wr yb U.cells
 hyb : w.heap.size + 8 ≤ yb
theorem RightR.below {w W9 W : World} {yb : Nat} {U : TriM} {ins : Bool} {at_ e0 e1 : Int} {wr w' : World} (h : RightR w W9 W yb U ins at_ e0 e1 wr) (hb : Below wr.heap.size wr w') : RightR w W9 W yb U ins at_ e0 e1 w' :=
 have hl : w.heap.size + 8 ≤ wr.heap.size := by have := h.py.lt; have := h.hyb; omega
 have hk : KeepB (RPb w.heap.size) wr w' := KeepB.of_below hb (fun b hb => by have := hb.1; omega)
 ⟨h.ko.trans (keepsOthers_below hb), h.kb.trans hk, h.kw.trans hk, h.bl.trans (hb.mono h.bl.size), h.pi.below hb, h.pa.below hb, h.pe.below hb, h.py.below hb, h.hyb⟩
theorem place_ghost {T : TriM} {j : Nat} (hj : j < 3) (h0 : T.v j = -1) (h1 : 0 ≤ T.v ((j + 1) % 3)) (h2 : 0 ≤ T.v ((j + 2) % 3)) : placeT T (-1) = (j : Int) := by
 obtain rfl | rfl | rfl : j = 0 ∨ j = 1 ∨ j = 2 := by omega
 ·have e : T.v0 = -1 := h0
  unfold placeT; rw [if_pos e.symm]; rfl
 ·have e : T.v1 = -1 := h0
  have e2 : 0 ≤ T.v0 := h2
  unfold placeT; rw [if_neg (by omega), if_pos e.symm]; rfl
 ·have e : T.v2 = -1 := h0
  have e2 : 0 ≤ T.v0 := h1
  have e3 : 0 ≤ T.v1 := h2
  unfold placeT; rw [if_neg (by omega), if_neg (by omega), if_pos e.symm]; rfl
end Go.Proofs.YtnabdopnlinklaaGreat
