/- leap. -/
import Derived.Test.YtbfdianmbpfjmaaDoorGcd
import Derived.Test.YtbfdianmbpfjmaaDoorNumK
namespace Go.Proofs.YtbfdianmbpfjmaaDoor
open Go.RowKit Go.MagM Go.MagG
set_option maxRecDepth 100000 in
set_option maxHeartbeats 4000000 in
theorem leap_any (A0 B0 : Nat) (w : World) (hA : A0 < B) (hB : B0 < B) (hle : B0 ≤ A0) :
    Calls Tryd.prog 26 #[.int .u64 (A0 : Int), .int .u64 (B0 : Int)] w fun e w' =>
      ∃ a b x0 x1 y0 y1 odd, Leap A0 B0 a b x0 x1 y0 y1 odd ∧ e = .returned (.tuple #[.agg #[.int .u64 ((x0 : Nat) : Int), .int .u64 ((x1 : Nat) : Int)], .agg #[.int .u64 ((y0 : Nat) : Int), .int .u64 ((y1 : Nat) : Int)], .bool odd]) ∧ Below w.heap.size w w' := by
  have HA := Lib.hid hA; have HB := Lib.hid hB
  have hstart := Leap.start hle
  have HS := Lib.hid hstart
  obtain ⟨b0, b1, hB0⟩ := boxed2 w (.int .u64 1) (.int .u64 0) (.int .u64 0) (.int .u64 1) 44
  have B0' := Lib.hid b0; have B1' := Lib.hid b1; have H0 := Lib.hid hB0
  clear hA hB hle hstart b0 b1 hB0
  go_enter Tryd.func26, Tryd.ntmps26
  go_wp2
  go_loopw [0, 1, 6] (fun av bv ov wr => ∃ a b x0 x1 y0 y1 : Nat, ∃ odd : Bool, av = .int .u64 a ∧ bv = .int .u64 b ∧ ov = .bool odd ∧ Leap A0 B0 a b x0 x1 y0 y1 odd ∧
    Box2 wr w.heap.size (.int .u64 (x0 : Int)) (.int .u64 (x1 : Int)) ∧ Box2 wr (w.heap.size + 1) (.int .u64 (y0 : Int)) (.int .u64 (y1 : Int)) ∧ Below w.heap.size w wr ∧ a < B ∧ b < B) (fun _ bv _ _ => (intOf bv).toNat)
  case atStart => exact ⟨A0, B0, 1, 0, 0, 1, false, rfl, rfl, rfl, HS.out, B0'.out, B1'.out, H0.out, HA.out, HB.out⟩
  case round =>
    obtain ⟨a, b, x0, x1, y0, y1, odd, rfl, rfl, rfl, hl, hx, hy, hbel, haB, hbB⟩ := hrel
    have HL := Lib.hid hl; have HBE := Lib.hid hbel; have HX := Lib.hid hx; have HY := Lib.hid hy; have HAB := Lib.hid haB; have HBB := Lib.hid hbB
    clear hl hbel hx hy haB hbB B0' B1' H0 HS
    by_cases h0 : b = 0
    · subst h0
      go_wp2
      obtain ⟨xz0, xz1, xz2, xz3⟩ := HX.out.drew
      obtain ⟨yz0, yz1, yz2, yz3⟩ := HY.out.drew
      obtain ⟨xc0, xc1, xf0, xf1⟩ := HX.out
      obtain ⟨yc0, yc1, yf0, yf1⟩ := HY.out
      have bx := (HX.out.set2 (.int .u64 (x0 : Int)) (.int .u64 (x1 : Int))).far2 (g' := w.heap.size + 1) (by omega) (.int .u64 (y0 : Int)) (.int .u64 (y1 : Int))
      have by' := (HY.out.far2 (g' := w.heap.size) (by omega) (.int .u64 (x0 : Int)) (.int .u64 (x1 : Int))).set2 (.int .u64 (y0 : Int)) (.int .u64 (y1 : Int))
      have hbe := below_set2 (below_set2 HBE.out (g := w.heap.size) (by omega) (.int .u64 (x0 : Int)) (.int .u64 (x1 : Int))) (g := w.heap.size + 1) (by omega) (.int .u64 (y0 : Int)) (.int .u64 (y1 : Int))
      have BX := Lib.hid bx; have BY := Lib.hid by'; have BE := Lib.hid hbe; clear bx by' hbe
      obtain ⟨xs0, xs1, xt0, xt1⟩ := HX.out.set0 (.int .u64 (x0 : Int))
      obtain ⟨yd0, yd1, yg0, yg1⟩ := HY.out.far2 (g' := w.heap.size) (by omega) (.int .u64 (x0 : Int)) (.int .u64 (x1 : Int))
      obtain ⟨ys0, ys1, yt0, yt1⟩ := (HY.out.far2 (g' := w.heap.size) (by omega) (.int .u64 (x0 : Int)) (.int .u64 (x1 : Int))).set0 (.int .u64 (y0 : Int))
      go_region
      clear xz0 xz1 xz2 xz3 yz0 yz1 yz2 yz3 xc0 xc1 xf0 xf1 yc0 yc1 yf0 yf1 xs0 xs1 xt0 xt1 yd0 yd1 yg0 yg1 ys0 ys1 yt0 yt1
      obtain ⟨xc0, xc1, xf0, xf1⟩ := BX.out.drew
      obtain ⟨yc0, yc1, yf0, yf1⟩ := BY.out.drew
      obtain ⟨xd0, xd1, xg0, xg1⟩ := BX.out
      obtain ⟨yd0, yd1, yg0, yg1⟩ := BY.out
      go_wp2
      exact bodyPost_ret (v := .tuple #[.agg #[.int .u64 (x0 : Int), .int .u64 (x1 : Int)], .agg #[.int .u64 (y0 : Int), .int .u64 (y1 : Int)], .bool odd]) (by simp [results, Tryd.results26, go_sem, xd0, xd1, yd0, yd1]) rfl ⟨_, _, x0, x1, y0, y1, odd, HL.out, rfl, BE.out.drew'⟩
    · skip
      have hbb : ((b : Int) != 0) = true := by simp; omega
      have hb0 : (b : Int) ≠ 0 := by omega
      obtain ⟨n1, n2, n3⟩ := HL.out.next h0
      obtain ⟨q, hq⟩ : ∃ q, a / b = q := ⟨_, rfl⟩
      obtain ⟨r, hr⟩ : ∃ r, a % b = r := ⟨_, rfl⟩
      have hquo : (a : Int) / (b : Int) = (q : Int) := by rw [← hq]; simp
      have hmod : (a : Int) % (b : Int) = (r : Int) := by rw [← hr]; simp
      have hrb : r < b := by rw [← hr]; exact Nat.mod_lt _ (by omega)
      rw [hq] at n1 n2 n3
      rw [hr] at n3
      obtain ⟨m1, hm1⟩ : ∃ m, q * x1 = m := ⟨_, rfl⟩
      obtain ⟨m2, hm2⟩ : ∃ m, q * y1 = m := ⟨_, rfl⟩
      rw [hm2] at n1 n3
      rw [hm1] at n2
      obtain ⟨nx, hnx⟩ : ∃ n, x0 + m1 = n := ⟨_, rfl⟩
      obtain ⟨ny, hny⟩ : ∃ n, y0 + m2 = n := ⟨_, rfl⟩
      rw [hny] at n1 n3
      rw [hnx] at n2
      have hA := HA.out; have hBB := HB.out
      have hqa : q ≤ a := by rw [← hq]; exact Nat.div_le_self _ _
      have haB := HAB.out
      have e0 : IntKind.u64.wrap (q : Int) = (q : Int) := by rw [IntKind.wrap_u64]; unfold B at *; omega
      have e1 : IntKind.u64.wrap ((q : Int) * (x1 : Int)) = (m1 : Int) := by rw [← Int.natCast_mul, hm1, IntKind.wrap_u64]; unfold B at *; omega
      have e3 : IntKind.u64.wrap ((q : Int) * (y1 : Int)) = (m2 : Int) := by rw [← Int.natCast_mul, hm2, IntKind.wrap_u64]; unfold B at *; omega
      have e2 : IntKind.u64.wrap ((x0 : Int) + (m1 : Int)) = (nx : Int) := by rw [IntKind.wrap_u64]; unfold B at *; omega
      have e4 : IntKind.u64.wrap ((y0 : Int) + (m2 : Int)) = (ny : Int) := by rw [IntKind.wrap_u64]; unfold B at *; omega
      have HN := Lib.hid (And.intro hq (And.intro hr (And.intro hm1 (And.intro hm2 (And.intro hnx hny)))))
      have HN3 := Lib.hid n3; have HN1 := Lib.hid n1; have HN2 := Lib.hid n2; have HRB := Lib.hid hrb; have H0' := Lib.hid h0
      clear hq hr hm1 hm2 hnx hny n1 n2 n3 hA hBB hqa haB
      go_wp2
      go_quiet (fail)
      rw [hmod]
      clear hquo hmod hbb hb0
      have hX2 := HX.out.drewN nq; have hY2 := HY.out.drewN nq; have hBE2 := HBE.out.drewN' nq
      generalize wr.drewN nq = w2 at *
      clear HX HY HBE
      have HX := Lib.hid hX2; have HY := Lib.hid hY2; have HBE := Lib.hid hBE2; clear hX2 hY2 hBE2
      obtain ⟨xc0, xc1, xf0, xf1⟩ := HX.out
      obtain ⟨yc0, yc1, yf0, yf1⟩ := HY.out
      go_wp2
      go_quiet (fail)
      clear e0 e1 e2 e3 e4 xc0 xc1 xf0 xf1 yc0 yc1 yf0 yf1
      clear hrb; have hX2 := HX.out.drewN nq; have hY2 := HY.out.drewN nq; have hBE2 := HBE.out.drewN' nq
      generalize w2.drewN nq = w3 at *
      clear HX HY HBE
      have HX := Lib.hid hX2; have HY := Lib.hid hY2; have HBE := Lib.hid hBE2; clear hX2 hY2 hBE2
      by_cases hc1 : r < ny
      · skip
        go_wp2
        obtain ⟨xz0, xz1, xz2, xz3⟩ := HX.out.drew
        obtain ⟨yz0, yz1, yz2, yz3⟩ := HY.out.drew
        obtain ⟨xc0, xc1, xf0, xf1⟩ := HX.out
        obtain ⟨yc0, yc1, yf0, yf1⟩ := HY.out
        have bx := (HX.out.set2 (.int .u64 (x0 : Int)) (.int .u64 (x1 : Int))).far2 (g' := w.heap.size + 1) (by omega) (.int .u64 (y0 : Int)) (.int .u64 (y1 : Int))
        have by' := (HY.out.far2 (g' := w.heap.size) (by omega) (.int .u64 (x0 : Int)) (.int .u64 (x1 : Int))).set2 (.int .u64 (y0 : Int)) (.int .u64 (y1 : Int))
        have hbe := below_set2 (below_set2 HBE.out (g := w.heap.size) (by omega) (.int .u64 (x0 : Int)) (.int .u64 (x1 : Int))) (g := w.heap.size + 1) (by omega) (.int .u64 (y0 : Int)) (.int .u64 (y1 : Int))
        have BX := Lib.hid bx; have BY := Lib.hid by'; have BE := Lib.hid hbe; clear bx by' hbe
        obtain ⟨xs0, xs1, xt0, xt1⟩ := HX.out.set0 (.int .u64 (x0 : Int))
        obtain ⟨yd0, yd1, yg0, yg1⟩ := HY.out.far2 (g' := w.heap.size) (by omega) (.int .u64 (x0 : Int)) (.int .u64 (x1 : Int))
        obtain ⟨ys0, ys1, yt0, yt1⟩ := (HY.out.far2 (g' := w.heap.size) (by omega) (.int .u64 (x0 : Int)) (.int .u64 (x1 : Int))).set0 (.int .u64 (y0 : Int))
        go_region
        clear xz0 xz1 xz2 xz3 yz0 yz1 yz2 yz3 xc0 xc1 xf0 xf1 yc0 yc1 yf0 yf1 xs0 xs1 xt0 xt1 yd0 yd1 yg0 yg1 ys0 ys1 yt0 yt1
        obtain ⟨xc0, xc1, xf0, xf1⟩ := BX.out.drew
        obtain ⟨yc0, yc1, yf0, yf1⟩ := BY.out.drew
        obtain ⟨xd0, xd1, xg0, xg1⟩ := BX.out
        obtain ⟨yd0, yd1, yg0, yg1⟩ := BY.out
        go_wp2
        exact bodyPost_ret (v := .tuple #[.agg #[.int .u64 (x0 : Int), .int .u64 (x1 : Int)], .agg #[.int .u64 (y0 : Int), .int .u64 (y1 : Int)], .bool odd]) (by simp [results, Tryd.results26, go_sem, xd0, xd1, yd0, yd1]) rfl ⟨_, _, x0, x1, y0, y1, odd, HL.out, rfl, BE.out.drew'⟩
      · have hA := HA.out; have hbB := HBB.out; have hn3 := HN3.out (by omega); have hrb := HRB.out
        obtain ⟨d, hd⟩ : ∃ d, b - r = d := ⟨_, rfl⟩
        obtain ⟨s, hs⟩ : ∃ s, y1 + ny = s := ⟨_, rfl⟩
        have e5 : IntKind.u64.wrap ((b : Int) - (r : Int)) = (d : Int) := by rw [IntKind.wrap_u64]; unfold B at *; omega
        have e6 : IntKind.u64.wrap ((y1 : Int) + (ny : Int)) = (s : Int) := by rw [IntKind.wrap_u64]; unfold B at *; omega
        have HD := Lib.hid hd; have HSS := Lib.hid hs; clear hA hbB hn3 hrb hd hs
        have hc1' : decide (r < ny) = false := by simp; omega
        obtain ⟨xc0, xc1, xf0, xf1⟩ := HX.out
        obtain ⟨yc0, yc1, yf0, yf1⟩ := HY.out
        by_cases hc2 : d < s
        · skip
          go_wp2
          clear e5 e6 xc0 xc1 xf0 xf1 yc0 yc1 yf0 yf1
          obtain ⟨xz0, xz1, xz2, xz3⟩ := HX.out.drew
          obtain ⟨yz0, yz1, yz2, yz3⟩ := HY.out.drew
          obtain ⟨xc0, xc1, xf0, xf1⟩ := HX.out
          obtain ⟨yc0, yc1, yf0, yf1⟩ := HY.out
          have bx := (HX.out.set2 (.int .u64 (x0 : Int)) (.int .u64 (x1 : Int))).far2 (g' := w.heap.size + 1) (by omega) (.int .u64 (y0 : Int)) (.int .u64 (y1 : Int))
          have by' := (HY.out.far2 (g' := w.heap.size) (by omega) (.int .u64 (x0 : Int)) (.int .u64 (x1 : Int))).set2 (.int .u64 (y0 : Int)) (.int .u64 (y1 : Int))
          have hbe := below_set2 (below_set2 HBE.out (g := w.heap.size) (by omega) (.int .u64 (x0 : Int)) (.int .u64 (x1 : Int))) (g := w.heap.size + 1) (by omega) (.int .u64 (y0 : Int)) (.int .u64 (y1 : Int))
          have BX := Lib.hid bx; have BY := Lib.hid by'; have BE := Lib.hid hbe; clear bx by' hbe
          obtain ⟨xs0, xs1, xt0, xt1⟩ := HX.out.set0 (.int .u64 (x0 : Int))
          obtain ⟨yd0, yd1, yg0, yg1⟩ := HY.out.far2 (g' := w.heap.size) (by omega) (.int .u64 (x0 : Int)) (.int .u64 (x1 : Int))
          obtain ⟨ys0, ys1, yt0, yt1⟩ := (HY.out.far2 (g' := w.heap.size) (by omega) (.int .u64 (x0 : Int)) (.int .u64 (x1 : Int))).set0 (.int .u64 (y0 : Int))
          go_region
          clear xz0 xz1 xz2 xz3 yz0 yz1 yz2 yz3 xc0 xc1 xf0 xf1 yc0 yc1 yf0 yf1 xs0 xs1 xt0 xt1 yd0 yd1 yg0 yg1 ys0 ys1 yt0 yt1
          obtain ⟨xc0, xc1, xf0, xf1⟩ := BX.out.drew
          obtain ⟨yc0, yc1, yf0, yf1⟩ := BY.out.drew
          obtain ⟨xd0, xd1, xg0, xg1⟩ := BX.out
          obtain ⟨yd0, yd1, yg0, yg1⟩ := BY.out
          go_wp2
          exact bodyPost_ret (v := .tuple #[.agg #[.int .u64 (x0 : Int), .int .u64 (x1 : Int)], .agg #[.int .u64 (y0 : Int), .int .u64 (y1 : Int)], .bool odd]) (by simp [results, Tryd.results26, go_sem, xd0, xd1, yd0, yd1]) rfl ⟨_, _, x0, x1, y0, y1, odd, HL.out, rfl, BE.out.drew'⟩
        · skip
          go_wp2
          clear e5 e6 xc0 xc1 xf0 xf1 yc0 yc1 yf0 yf1
          obtain ⟨xz0, xz1, xz2, xz3⟩ := HX.out.drew
          obtain ⟨yz0, yz1, yz2, yz3⟩ := HY.out.drew
          obtain ⟨xc0, xc1, xf0, xf1⟩ := HX.out
          obtain ⟨yc0, yc1, yf0, yf1⟩ := HY.out
          have bx := (HX.out.set2 (.int .u64 (x1 : Int)) (.int .u64 (nx : Int))).far2 (g' := w.heap.size + 1) (by omega) (.int .u64 (y1 : Int)) (.int .u64 (ny : Int))
          have by' := (HY.out.far2 (g' := w.heap.size) (by omega) (.int .u64 (x1 : Int)) (.int .u64 (nx : Int))).set2 (.int .u64 (y1 : Int)) (.int .u64 (ny : Int))
          have hbe := below_set2 (below_set2 HBE.out (g := w.heap.size) (by omega) (.int .u64 (x1 : Int)) (.int .u64 (nx : Int))) (g := w.heap.size + 1) (by omega) (.int .u64 (y1 : Int)) (.int .u64 (ny : Int))
          have BX := Lib.hid bx; have BY := Lib.hid by'; have BE := Lib.hid hbe; clear bx by' hbe
          obtain ⟨xs0, xs1, xt0, xt1⟩ := HX.out.set0 (.int .u64 (x1 : Int))
          obtain ⟨yd0, yd1, yg0, yg1⟩ := HY.out.far2 (g' := w.heap.size) (by omega) (.int .u64 (x1 : Int)) (.int .u64 (nx : Int))
          obtain ⟨ys0, ys1, yt0, yt1⟩ := (HY.out.far2 (g' := w.heap.size) (by omega) (.int .u64 (x1 : Int)) (.int .u64 (nx : Int))).set0 (.int .u64 (y1 : Int))
          go_region
          go_wp2
          have hst := HL.out.step H0'.out
          obtain ⟨k1, k2, k3, k4, k5, k6⟩ := HN.out
          rw [k1, k2, k3, k4, k5, k6] at hst
          refine ⟨⟨b, r, x1, nx, y1, ny, !odd, rfl, rfl, rfl, hst (by omega) (by have := HD.out; have := HSS.out; omega), BX.out.drew, BY.out.drew, BE.out.drew', HBB.out, Nat.lt_trans HRB.out HBB.out⟩, ?_⟩
          have := HRB.out
          simp [intOf]; omega
end Go.Proofs.YtbfdianmbpfjmaaDoor
