/- What is ready, and what is not: for the invariant of a region (RegI). Over any program. -/
import Derived.Test.YtkcfaddilknelaaPartk
import Derived.StillTail
import Derived.Test.YtkcfaddilknelaaParti
import Derived.Test.YtkcfaddilknelaaParth
namespace Go.MagM
open Go
section
variable {ops : Array Oper} {md : Region.Mode} {l : Array Bool}
theorem ready_of (i : Nat) (o : Oper) (ho : ops[i]? = some o) (h0 : l.getD i true = false) (h : (o.after.all fun e => !Region.binds md e || l.getD e.on false) = true) : Region.ready md ops l ≠ [] := by
  refine List.ne_nil_of_mem (a := i) (mem_ready.2 ⟨h0, o, ho, fun e he hb => ?_⟩)
  have := Array.all_eq_true_iff_forall_mem.1 h e he
  simpa [hb] using this
theorem ready_lt {i : Nat} (h : i ∈ Region.ready md ops l) : i < ops.size := by
  obtain ⟨_, o, ho, _⟩ := mem_ready.1 h
  exact (Array.getElem?_eq_some_iff.1 ho).1
theorem ready_off {i : Nat} (h : i ∈ Region.ready md ops l) : l.getD i true = false := (mem_ready.1 h).1
theorem ready_dep {i d : Nat} (h : i ∈ Region.ready md ops l) (hw : Region.waitsFor md ops i d = true) : l.getD d false = true := by
  obtain ⟨_, o, ho, hall⟩ := mem_ready.1 h
  obtain ⟨o', ho', e, he, hb, rfl⟩ := Region.waitsFor_spec hw
  rw [ho] at ho'
  cases ho'
  exact hall e he hb
end
end Go.MagM
/- The calls of spot: Of, across, Dist2, Along, Side, within. -/
namespace Go.Proofs.Ytkcfaddilknelaa
open Go.RowKit Go.MagM
set_option maxHeartbeats 4000000 in
theorem sOf_w (a0 a1 : Int) (h01 : -9223372036854775808 ≤ a0) (h02 : a0 < 9223372036854775808) (h11 : -9223372036854775808 ≤ a1) (h12 : a1 < 9223372036854775808) (w : World) :
    Calls Try.prog 15 #[.agg #[.int .i64 a0, .int .i64 a1]] w fun e w' => AnsS w w' e (1) (a0) (a1) := by
  have hB_0 := Below.refl w.heap.size w
  have H01 := Lib.hid h01; have H02 := Lib.hid h02; have H11 := Lib.hid h11; have H12 := Lib.hid h12
  clear h01 h02 h11 h12
  obtain ⟨w1, hw1, pa_0, hb1, hs1⟩ := new_box w (w.heap.size) rfl [.int .i64 a0, .int .i64 a1] 23
  have hb1' : Below w.heap.size w w1 := hb1.mono (by omega)
  clear hb1
  have hB_1 := hB_0.trans (hb1'.mono hB_0.size)
  clear hb1' hB_0
  obtain ⟨w2, hw2, pr_0, hb2, hs2⟩ := new_box w1 (w.heap.size + 1) hs1 [.bool false, .slice none 0 0, .slice none 0 0, .bool false, .slice none 0 0, .slice none 0 0] 33
  have hb2' : Below w1.heap.size w1 w2 := hb2.mono (by omega)
  clear hb2
  have hB_2 := hB_1.trans (hb2'.mono hB_1.size)
  have pa_1 := pa_0.below hb2'
  clear hb2' hB_1 pa_0
  go_enter Try.func15, Try.ntmps15
  go_wp2
  have hB_3 := hB_2.drew'
  have pa_2 := pa_1.drew
  have pr_1 := pr_0.drew
  clear hB_2 pa_1 pr_0
  go_region_held3 (fun w' => w'.cell? ⟨w.heap.size, 0, none⟩ = some (.int .i64 a0) ∧ w'.cell? ⟨w.heap.size, 1, none⟩ = some (.int .i64 a1))
    (first | with_reducible exact ⟨pa_2.c0, pa_2.c1⟩ | with_reducible exact ⟨pa_3.c0, pa_3.c1⟩ | with_reducible exact ⟨pa_4.c0, pa_4.c1⟩ | with_reducible exact ⟨pa_5.c0, pa_5.c1⟩ | fail)
    (first
      | (go_at_call 21; (with_reducible refine (fOf_any a0 H01.out H02.out _).mono ?_); rintro e w3 ⟨m1x, o1x, n1x, c1x, p1x, k1x, d1x, rfl, f1x_0, hb3⟩; have hB_4 := hB_3.trans (hb3.mono hB_3.size); have pa_3 := pa_2.below hb3; have pr_2 := pr_1.below hb3; clear hb3 hB_3 pa_2 pr_1)
      | (go_at_call 21; (with_reducible refine (fOf_any a1 H11.out H12.out _).mono ?_); rintro e w4 ⟨m1y, o1y, n1y, c1y, p1y, k1y, d1y, rfl, f1y_0, hb4⟩; have hB_5 := hB_4.trans (hb4.mono hB_4.size); have pa_4 := pa_3.below hb4; have pr_3 := pr_2.below hb4; have f1x_1 := f1x_0.below hb4; clear hb4 hB_4 pa_3 pr_2 f1x_0; obtain ⟨sf1a, sf1b, sf1c, sf1d, sf1e, sf1f, sf1g, sf1h, sf1i, sf1j, sf1k, sf1l⟩ := pr_3.open6; obtain ⟨sg1a, sg1b, sg1c, sg1d, sg1e, sg1f, sg1g, sg1h, sg1i, sg1j⟩ := Box.put6 pr_3 (.bool m1x) (.slice o1x n1x c1x) (.slice p1x k1x d1x) (.bool m1y) (.slice o1y n1y c1y); have hB_6 := below_setAll hB_5 (g := w.heap.size + 1) (by omega) [.bool m1x, .slice o1x n1x c1x, .slice p1x k1x d1x, .bool m1y, .slice o1y n1y c1y, .slice p1y k1y d1y]; have pa_5 := pa_4.farAll (g' := w.heap.size + 1) (by omega) [.bool m1x, .slice o1x n1x c1x, .slice p1x k1x d1x, .bool m1y, .slice o1y n1y c1y, .slice p1y k1y d1y]; have f1x_2 := f1x_1.setAll pr_3 (noWord6 _ _ _ _ _ _ _ _ _ _ _ _ _ _) [.bool m1x, .slice o1x n1x c1x, .slice p1x k1x d1x, .bool m1y, .slice o1y n1y c1y, .slice p1y k1y d1y] rfl; have f1y_1 := f1y_0.setAll pr_3 (noWord6 _ _ _ _ _ _ _ _ _ _ _ _ _ _) [.bool m1x, .slice o1x n1x c1x, .slice p1x k1x d1x, .bool m1y, .slice o1y n1y c1y, .slice p1y k1y d1y] rfl; have pr_4 := pr_3.setAll [.bool m1x, .slice o1x n1x c1x, .slice p1x k1x d1x, .bool m1y, .slice o1y n1y c1y, .slice p1y k1y d1y] rfl; simp only [setAll, Nat.zero_add, Nat.reduceAdd] at hB_6 pa_5 pr_4 f1x_2 f1y_1))
  clear hB_5 pa_4 f1x_1 f1y_0 pr_3
  clear sf1a sf1b sf1c sf1d sf1e sf1f sf1g sf1h sf1i sf1j sf1k sf1l sg1a sg1b sg1c sg1d sg1e sg1f sg1g sg1h sg1i sg1j
  generalize (World.setCell (World.setCell (World.setCell (World.setCell (World.setCell (World.setCell w4 ⟨w.heap.size + 1, 0, none⟩ (.bool m1x)) ⟨w.heap.size + 1, 1, none⟩ (.slice o1x n1x c1x)) ⟨w.heap.size + 1, 2, none⟩ (.slice p1x k1x d1x)) ⟨w.heap.size + 1, 3, none⟩ (.bool m1y)) ⟨w.heap.size + 1, 4, none⟩ (.slice o1y n1y c1y)) ⟨w.heap.size + 1, 5, none⟩ (.slice p1y k1y d1y)) = w5 at *
  go_wp2
  obtain ⟨pre0, pre1, pre2, pre3, pre4, pre5, pre6, pre7, pre8, pre9, pre10, pre11⟩ := pr_4.open6
  exact bodyPost_ret (v := .agg #[.bool m1x, .slice o1x n1x c1x, .slice p1x k1x d1x, .bool m1y, .slice o1y n1y c1y, .slice p1y k1y d1y]) (by simp [results, Try.results15, go_sem, pre0, pre1, pre2, pre3, pre4, pre5]) rfl ⟨_, _, _, _, _, _, _, _, _, _, _, _, _, _, rfl, f1x_2, f1y_1, hB_6⟩
theorem sOf_any (a0 a1 : Int) (h0 : InP a0) (h1 : InP a1) (w : World) : Calls Try.prog 15 #[.agg #[.int .i64 a0, .int .i64 a1]] w fun e w' => AnsS w w' e (1) (a0) (a1) := by
  unfold InP at h0 h1; exact sOf_w a0 a1 (by omega) (by omega) (by omega) (by omega) w
set_option maxHeartbeats 4000000 in
theorem sAcross_any {axm : Bool} {axo : Option Addr} {axn axc : Nat} {axp : Option Addr} {axk axd : Nat} {aym : Bool} {ayo : Option Addr} {ayn ayc : Nat} {ayp : Option Addr} {ayk ayd : Nat} {bxm : Bool} {bxo : Option Addr} {bxn bxc : Nat} {bxp : Option Addr} {bxk bxd : Nat} {bym : Bool} {byo : Option Addr} {byn byc : Nat} {byp : Option Addr} {byk byd : Nat} (La : Nat) (axq ayq : Rat) (Lb : Nat) (bxq byq : Rat) (w : World) (hLa : La ≤ 1000000) (hLb : Lb ≤ 1000000) (fax_0 : FQ w (.agg #[.bool axm, .slice axo axn axc, .slice axp axk axd]) La axq) (fay_0 : FQ w (.agg #[.bool aym, .slice ayo ayn ayc, .slice ayp ayk ayd]) La ayq) (fbx_0 : FQ w (.agg #[.bool bxm, .slice bxo bxn bxc, .slice bxp bxk bxd]) Lb bxq) (fby_0 : FQ w (.agg #[.bool bym, .slice byo byn byc, .slice byp byk byd]) Lb byq) :
    Calls Try.prog 47 #[.agg #[.bool axm, .slice axo axn axc, .slice axp axk axd, .bool aym, .slice ayo ayn ayc, .slice ayp ayk ayd], .agg #[.bool bxm, .slice bxo bxn bxc, .slice bxp bxk bxd, .bool bym, .slice byo byn byc, .slice byp byk byd]] w fun e w' => AnsS w w' e (Lb + La + 2) (bxq - axq) (byq - ayq) := by
  have hB_0 := Below.refl w.heap.size w
  have HLa := Lib.hid hLa; have HLb := Lib.hid hLb
  clear hLa hLb
  obtain ⟨w1, hw1, pa_0, hb1, hs1⟩ := new_box w (w.heap.size) rfl [.bool axm, .slice axo axn axc, .slice axp axk axd, .bool aym, .slice ayo ayn ayc, .slice ayp ayk ayd] 33
  have hb1' : Below w.heap.size w w1 := hb1.mono (by omega)
  clear hb1
  have hB_1 := hB_0.trans (hb1'.mono hB_0.size)
  have fax_1 := fax_0.below hb1'
  have fay_1 := fay_0.below hb1'
  have fbx_1 := fbx_0.below hb1'
  have fby_1 := fby_0.below hb1'
  clear hb1' hB_0 fax_0 fay_0 fbx_0 fby_0
  obtain ⟨w2, hw2, pb_0, hb2, hs2⟩ := new_box w1 (w.heap.size + 1) hs1 [.bool bxm, .slice bxo bxn bxc, .slice bxp bxk bxd, .bool bym, .slice byo byn byc, .slice byp byk byd] 33
  have hb2' : Below w1.heap.size w1 w2 := hb2.mono (by omega)
  clear hb2
  have hB_2 := hB_1.trans (hb2'.mono hB_1.size)
  have fax_2 := fax_1.below hb2'
  have fay_2 := fay_1.below hb2'
  have fbx_2 := fbx_1.below hb2'
  have fby_2 := fby_1.below hb2'
  have pa_1 := pa_0.below hb2'
  clear hb2' hB_1 fax_1 fay_1 fbx_1 fby_1 pa_0
  obtain ⟨w3, hw3, pr_0, hb3, hs3⟩ := new_box w2 (w.heap.size + 1 + 1) hs2 [.bool false, .slice none 0 0, .slice none 0 0, .bool false, .slice none 0 0, .slice none 0 0] 33
  have hb3' : Below w2.heap.size w2 w3 := hb3.mono (by omega)
  clear hb3
  have hB_3 := hB_2.trans (hb3'.mono hB_2.size)
  have fax_3 := fax_2.below hb3'
  have fay_3 := fay_2.below hb3'
  have fbx_3 := fbx_2.below hb3'
  have fby_3 := fby_2.below hb3'
  have pa_2 := pa_1.below hb3'
  have pb_1 := pb_0.below hb3'
  clear hb3' hB_2 fax_2 fay_2 fbx_2 fby_2 pa_1 pb_0
  go_enter Try.func47, Try.ntmps47
  go_wp2
  have hB_4 := hB_3.drew'
  have fax_4 := fax_3.drew
  have fay_4 := fay_3.drew
  have fbx_4 := fbx_3.drew
  have fby_4 := fby_3.drew
  have pa_3 := pa_2.drew
  have pb_2 := pb_1.drew
  have pr_1 := pr_0.drew
  clear hB_3 fax_3 fay_3 fbx_3 fby_3 pa_2 pb_1 pr_0
  go_region_held3 (fun w' => w'.cell? ⟨w.heap.size, 0, none⟩ = some (.bool axm) ∧ w'.cell? ⟨w.heap.size, 1, none⟩ = some (.slice axo axn axc) ∧ w'.cell? ⟨w.heap.size, 2, none⟩ = some (.slice axp axk axd) ∧ w'.cell? ⟨w.heap.size, 3, none⟩ = some (.bool aym) ∧ w'.cell? ⟨w.heap.size, 4, none⟩ = some (.slice ayo ayn ayc) ∧ w'.cell? ⟨w.heap.size, 5, none⟩ = some (.slice ayp ayk ayd) ∧ w'.cell? ⟨w.heap.size + 1, 0, none⟩ = some (.bool bxm) ∧ w'.cell? ⟨w.heap.size + 1, 1, none⟩ = some (.slice bxo bxn bxc) ∧ w'.cell? ⟨w.heap.size + 1, 2, none⟩ = some (.slice bxp bxk bxd) ∧ w'.cell? ⟨w.heap.size + 1, 3, none⟩ = some (.bool bym) ∧ w'.cell? ⟨w.heap.size + 1, 4, none⟩ = some (.slice byo byn byc) ∧ w'.cell? ⟨w.heap.size + 1, 5, none⟩ = some (.slice byp byk byd))
    (first | with_reducible exact ⟨pa_3.c0, pa_3.c1, pa_3.c2, pa_3.c3, pa_3.c4, pa_3.c5, pb_2.c0, pb_2.c1, pb_2.c2, pb_2.c3, pb_2.c4, pb_2.c5⟩ | with_reducible exact ⟨pa_4.c0, pa_4.c1, pa_4.c2, pa_4.c3, pa_4.c4, pa_4.c5, pb_3.c0, pb_3.c1, pb_3.c2, pb_3.c3, pb_3.c4, pb_3.c5⟩ | with_reducible exact ⟨pa_5.c0, pa_5.c1, pa_5.c2, pa_5.c3, pa_5.c4, pa_5.c5, pb_4.c0, pb_4.c1, pb_4.c2, pb_4.c3, pb_4.c4, pb_4.c5⟩ | with_reducible exact ⟨pa_6.c0, pa_6.c1, pa_6.c2, pa_6.c3, pa_6.c4, pa_6.c5, pb_5.c0, pb_5.c1, pb_5.c2, pb_5.c3, pb_5.c4, pb_5.c5⟩ | fail)
    (first
      | (go_at_call 24; (with_reducible refine (qSub _ _ Lb La bxq axq _ (by have := HLa.out; have := HLb.out; omega) (by have := HLa.out; have := HLb.out; omega) fbx_4 fax_4).mono ?_); rintro e w4 ⟨m1x, o1x, n1x, c1x, p1x, k1x, d1x, rfl, f1x_0, hb4⟩; have hB_5 := hB_4.trans (hb4.mono hB_4.size); have fax_5 := fax_4.below hb4; have fay_5 := fay_4.below hb4; have fbx_5 := fbx_4.below hb4; have fby_5 := fby_4.below hb4; have pa_4 := pa_3.below hb4; have pb_3 := pb_2.below hb4; have pr_2 := pr_1.below hb4; clear hb4 hB_4 fax_4 fay_4 fbx_4 fby_4 pa_3 pb_2 pr_1)
      | (go_at_call 24; (with_reducible refine (qSub _ _ Lb La byq ayq _ (by have := HLa.out; have := HLb.out; omega) (by have := HLa.out; have := HLb.out; omega) fby_5 fay_5).mono ?_); rintro e w5 ⟨m1y, o1y, n1y, c1y, p1y, k1y, d1y, rfl, f1y_0, hb5⟩; have hB_6 := hB_5.trans (hb5.mono hB_5.size); have fax_6 := fax_5.below hb5; have fay_6 := fay_5.below hb5; have fbx_6 := fbx_5.below hb5; have fby_6 := fby_5.below hb5; have pa_5 := pa_4.below hb5; have pb_4 := pb_3.below hb5; have pr_3 := pr_2.below hb5; have f1x_1 := f1x_0.below hb5; clear hb5 hB_5 fax_5 fay_5 fbx_5 fby_5 pa_4 pb_3 pr_2 f1x_0; obtain ⟨sf1a, sf1b, sf1c, sf1d, sf1e, sf1f, sf1g, sf1h, sf1i, sf1j, sf1k, sf1l⟩ := pr_3.open6; obtain ⟨sg1a, sg1b, sg1c, sg1d, sg1e, sg1f, sg1g, sg1h, sg1i, sg1j⟩ := Box.put6 pr_3 (.bool m1x) (.slice o1x n1x c1x) (.slice p1x k1x d1x) (.bool m1y) (.slice o1y n1y c1y); have hB_7 := below_setAll hB_6 (g := w.heap.size + 1 + 1) (by omega) [.bool m1x, .slice o1x n1x c1x, .slice p1x k1x d1x, .bool m1y, .slice o1y n1y c1y, .slice p1y k1y d1y]; have fax_7 := fax_6.setAll pr_3 (noWord6 _ _ _ _ _ _ _ _ _ _ _ _ _ _) [.bool m1x, .slice o1x n1x c1x, .slice p1x k1x d1x, .bool m1y, .slice o1y n1y c1y, .slice p1y k1y d1y] rfl; have fay_7 := fay_6.setAll pr_3 (noWord6 _ _ _ _ _ _ _ _ _ _ _ _ _ _) [.bool m1x, .slice o1x n1x c1x, .slice p1x k1x d1x, .bool m1y, .slice o1y n1y c1y, .slice p1y k1y d1y] rfl; have fbx_7 := fbx_6.setAll pr_3 (noWord6 _ _ _ _ _ _ _ _ _ _ _ _ _ _) [.bool m1x, .slice o1x n1x c1x, .slice p1x k1x d1x, .bool m1y, .slice o1y n1y c1y, .slice p1y k1y d1y] rfl; have fby_7 := fby_6.setAll pr_3 (noWord6 _ _ _ _ _ _ _ _ _ _ _ _ _ _) [.bool m1x, .slice o1x n1x c1x, .slice p1x k1x d1x, .bool m1y, .slice o1y n1y c1y, .slice p1y k1y d1y] rfl; have pa_6 := pa_5.farAll (g' := w.heap.size + 1 + 1) (by omega) [.bool m1x, .slice o1x n1x c1x, .slice p1x k1x d1x, .bool m1y, .slice o1y n1y c1y, .slice p1y k1y d1y]; have pb_5 := pb_4.farAll (g' := w.heap.size + 1 + 1) (by omega) [.bool m1x, .slice o1x n1x c1x, .slice p1x k1x d1x, .bool m1y, .slice o1y n1y c1y, .slice p1y k1y d1y]; have f1x_2 := f1x_1.setAll pr_3 (noWord6 _ _ _ _ _ _ _ _ _ _ _ _ _ _) [.bool m1x, .slice o1x n1x c1x, .slice p1x k1x d1x, .bool m1y, .slice o1y n1y c1y, .slice p1y k1y d1y] rfl; have f1y_1 := f1y_0.setAll pr_3 (noWord6 _ _ _ _ _ _ _ _ _ _ _ _ _ _) [.bool m1x, .slice o1x n1x c1x, .slice p1x k1x d1x, .bool m1y, .slice o1y n1y c1y, .slice p1y k1y d1y] rfl; have pr_4 := pr_3.setAll [.bool m1x, .slice o1x n1x c1x, .slice p1x k1x d1x, .bool m1y, .slice o1y n1y c1y, .slice p1y k1y d1y] rfl; simp only [setAll, Nat.zero_add, Nat.reduceAdd] at hB_7 fax_7 fay_7 fbx_7 fby_7 pa_6 pb_5 pr_4 f1x_2 f1y_1))
  clear hB_6 fax_6 fay_6 fbx_6 fby_6 pa_5 pb_4 f1x_1 f1y_0 pr_3
  clear sf1a sf1b sf1c sf1d sf1e sf1f sf1g sf1h sf1i sf1j sf1k sf1l sg1a sg1b sg1c sg1d sg1e sg1f sg1g sg1h sg1i sg1j
  generalize (World.setCell (World.setCell (World.setCell (World.setCell (World.setCell (World.setCell w5 ⟨w.heap.size + 1 + 1, 0, none⟩ (.bool m1x)) ⟨w.heap.size + 1 + 1, 1, none⟩ (.slice o1x n1x c1x)) ⟨w.heap.size + 1 + 1, 2, none⟩ (.slice p1x k1x d1x)) ⟨w.heap.size + 1 + 1, 3, none⟩ (.bool m1y)) ⟨w.heap.size + 1 + 1, 4, none⟩ (.slice o1y n1y c1y)) ⟨w.heap.size + 1 + 1, 5, none⟩ (.slice p1y k1y d1y)) = w6 at *
  go_wp2
  obtain ⟨pre0, pre1, pre2, pre3, pre4, pre5, pre6, pre7, pre8, pre9, pre10, pre11⟩ := pr_4.open6
  exact bodyPost_ret (v := .agg #[.bool m1x, .slice o1x n1x c1x, .slice p1x k1x d1x, .bool m1y, .slice o1y n1y c1y, .slice p1y k1y d1y]) (by simp [results, Try.results47, go_sem, pre0, pre1, pre2, pre3, pre4, pre5]) rfl ⟨_, _, _, _, _, _, _, _, _, _, _, _, _, _, rfl, f1x_2, f1y_1, hB_7⟩
set_option maxHeartbeats 4000000 in
theorem sDist2_any {axm : Bool} {axo : Option Addr} {axn axc : Nat} {axp : Option Addr} {axk axd : Nat} {aym : Bool} {ayo : Option Addr} {ayn ayc : Nat} {ayp : Option Addr} {ayk ayd : Nat} {bxm : Bool} {bxo : Option Addr} {bxn bxc : Nat} {bxp : Option Addr} {bxk bxd : Nat} {bym : Bool} {byo : Option Addr} {byn byc : Nat} {byp : Option Addr} {byk byd : Nat} (La : Nat) (axq ayq : Rat) (Lb : Nat) (bxq byq : Rat) (w : World) (hLa : La ≤ 1000000) (hLb : Lb ≤ 1000000) (fax_0 : FQ w (.agg #[.bool axm, .slice axo axn axc, .slice axp axk axd]) La axq) (fay_0 : FQ w (.agg #[.bool aym, .slice ayo ayn ayc, .slice ayp ayk ayd]) La ayq) (fbx_0 : FQ w (.agg #[.bool bxm, .slice bxo bxn bxc, .slice bxp bxk bxd]) Lb bxq) (fby_0 : FQ w (.agg #[.bool bym, .slice byo byn byc, .slice byp byk byd]) Lb byq) :
    Calls Try.prog 14 #[.agg #[.bool axm, .slice axo axn axc, .slice axp axk axd, .bool aym, .slice ayo ayn ayc, .slice ayp ayk ayd], .agg #[.bool bxm, .slice bxo bxn bxc, .slice bxp bxk bxd, .bool bym, .slice byo byn byc, .slice byp byk byd]] w fun e w' => AnsF w w' e (((Lb + La + 2) + (Lb + La + 2) + 2) + ((Lb + La + 2) + (Lb + La + 2) + 2) + 2) (distQ axq ayq bxq byq) := by
  have hB_0 := Below.refl w.heap.size w
  have HLa := Lib.hid hLa; have HLb := Lib.hid hLb
  clear hLa hLb
  obtain ⟨w1, hw1, pa_0, hb1, hs1⟩ := new_box w (w.heap.size) rfl [.bool axm, .slice axo axn axc, .slice axp axk axd, .bool aym, .slice ayo ayn ayc, .slice ayp ayk ayd] 33
  have hb1' : Below w.heap.size w w1 := hb1.mono (by omega)
  clear hb1
  have hB_1 := hB_0.trans (hb1'.mono hB_0.size)
  have fax_1 := fax_0.below hb1'
  have fay_1 := fay_0.below hb1'
  have fbx_1 := fbx_0.below hb1'
  have fby_1 := fby_0.below hb1'
  clear hb1' hB_0 fax_0 fay_0 fbx_0 fby_0
  obtain ⟨w2, hw2, pb_0, hb2, hs2⟩ := new_box w1 (w.heap.size + 1) hs1 [.bool bxm, .slice bxo bxn bxc, .slice bxp bxk bxd, .bool bym, .slice byo byn byc, .slice byp byk byd] 33
  have hb2' : Below w1.heap.size w1 w2 := hb2.mono (by omega)
  clear hb2
  have hB_2 := hB_1.trans (hb2'.mono hB_1.size)
  have fax_2 := fax_1.below hb2'
  have fay_2 := fay_1.below hb2'
  have fbx_2 := fbx_1.below hb2'
  have fby_2 := fby_1.below hb2'
  have pa_1 := pa_0.below hb2'
  clear hb2' hB_1 fax_1 fay_1 fbx_1 fby_1 pa_0
  obtain ⟨w3, hw3, pr_0, hb3, hs3⟩ := new_box w2 (w.heap.size + 1 + 1) hs2 [.bool false, .slice none 0 0, .slice none 0 0] 31
  have hb3' : Below w2.heap.size w2 w3 := hb3.mono (by omega)
  clear hb3
  have hB_3 := hB_2.trans (hb3'.mono hB_2.size)
  have fax_3 := fax_2.below hb3'
  have fay_3 := fay_2.below hb3'
  have fbx_3 := fbx_2.below hb3'
  have fby_3 := fby_2.below hb3'
  have pa_2 := pa_1.below hb3'
  have pb_1 := pb_0.below hb3'
  clear hb3' hB_2 fax_2 fay_2 fbx_2 fby_2 pa_1 pb_0
  go_enter Try.func14, Try.ntmps14
  obtain ⟨pae0, pae1, pae2, pae3, pae4, pae5, pae6, pae7, pae8, pae9, pae10, pae11⟩ := pa_2.open6
  obtain ⟨pbe0, pbe1, pbe2, pbe3, pbe4, pbe5, pbe6, pbe7, pbe8, pbe9, pbe10, pbe11⟩ := pb_1.open6
  go_wp2_with fail
  refine (sAcross_any La axq ayq Lb bxq byq _ (by have := HLa.out; have := HLb.out; omega) (by have := HLa.out; have := HLb.out; omega) fax_3 fay_3 fbx_3 fby_3).mono ?_
  rintro e w4 ⟨m1x, o1x, n1x, c1x, p1x, k1x, d1x, m1y, o1y, n1y, c1y, p1y, k1y, d1y, rfl, f1x_0, f1y_0, hb4⟩
  clear pae0 pae1 pae2 pae3 pae4 pae5 pae6 pae7 pae8 pae9 pae10 pae11 pbe0 pbe1 pbe2 pbe3 pbe4 pbe5 pbe6 pbe7 pbe8 pbe9 pbe10 pbe11
  have hB_4 := hB_3.trans (hb4.mono hB_3.size)
  have fax_4 := fax_3.below hb4
  have fay_4 := fay_3.below hb4
  have fbx_4 := fbx_3.below hb4
  have fby_4 := fby_3.below hb4
  have pa_3 := pa_2.below hb4
  have pb_2 := pb_1.below hb4
  have pr_1 := pr_0.below hb4
  clear hb4 hB_3 fax_3 fay_3 fbx_3 fby_3 pa_2 pb_1 pr_0
  have hl1pa := pa_3.lt
  have hl1pb := pb_2.lt
  have hl1pr := pr_1.lt
  have hl1B := hB_4.size
  obtain ⟨w5, hw5, pw_0, hb5, hs5⟩ := new_box w4 (w4.heap.size) rfl [.bool m1x, .slice o1x n1x c1x, .slice p1x k1x d1x, .bool m1y, .slice o1y n1y c1y, .slice p1y k1y d1y] 33
  have hb5' : Below w4.heap.size w4 w5 := hb5.mono (by omega)
  clear hb5
  have hB_5 := hB_4.trans (hb5'.mono hB_4.size)
  have fax_5 := fax_4.below hb5'
  have fay_5 := fay_4.below hb5'
  have fbx_5 := fbx_4.below hb5'
  have fby_5 := fby_4.below hb5'
  have pa_4 := pa_3.below hb5'
  have pb_3 := pb_2.below hb5'
  have pr_2 := pr_1.below hb5'
  have f1x_1 := f1x_0.below hb5'
  have f1y_1 := f1y_0.below hb5'
  clear hb5' hB_4 fax_4 fay_4 fbx_4 fby_4 pa_3 pb_2 pr_1 f1x_0 f1y_0
  go_wp2
  try rw [hw5]
  have hB_6 := hB_5.drew'
  have fax_6 := fax_5.drew
  have fay_6 := fay_5.drew
  have fbx_6 := fbx_5.drew
  have fby_6 := fby_5.drew
  have pa_5 := pa_4.drew
  have pb_4 := pb_3.drew
  have pr_3 := pr_2.drew
  have f1x_2 := f1x_1.drew
  have f1y_2 := f1y_1.drew
  have pw_1 := pw_0.drew
  clear hB_5 fax_5 fay_5 fbx_5 fby_5 pa_4 pb_3 pr_2 f1x_1 f1y_1 pw_0
  go_region_held3 (fun w' => w'.cell? ⟨w4.heap.size, 0, none⟩ = some (.bool m1x) ∧ w'.cell? ⟨w4.heap.size, 1, none⟩ = some (.slice o1x n1x c1x) ∧ w'.cell? ⟨w4.heap.size, 2, none⟩ = some (.slice p1x k1x d1x) ∧ w'.cell? ⟨w4.heap.size, 3, none⟩ = some (.bool m1y) ∧ w'.cell? ⟨w4.heap.size, 4, none⟩ = some (.slice o1y n1y c1y) ∧ w'.cell? ⟨w4.heap.size, 5, none⟩ = some (.slice p1y k1y d1y))
    (first | with_reducible exact ⟨pw_1.c0, pw_1.c1, pw_1.c2, pw_1.c3, pw_1.c4, pw_1.c5⟩ | with_reducible exact ⟨pw_2.c0, pw_2.c1, pw_2.c2, pw_2.c3, pw_2.c4, pw_2.c5⟩ | with_reducible exact ⟨pw_3.c0, pw_3.c1, pw_3.c2, pw_3.c3, pw_3.c4, pw_3.c5⟩ | with_reducible exact ⟨pw_4.c0, pw_4.c1, pw_4.c2, pw_4.c3, pw_4.c4, pw_4.c5⟩ | with_reducible exact ⟨pw_5.c0, pw_5.c1, pw_5.c2, pw_5.c3, pw_5.c4, pw_5.c5⟩ | fail)
    (first
      | (go_at_call 23; (with_reducible refine (qMul _ _ (Lb + La + 2) (Lb + La + 2) _ _ _ (by have := HLa.out; have := HLb.out; omega) (by have := HLa.out; have := HLb.out; omega) f1x_2.q f1x_2.q).mono ?_); rintro e w6 ⟨m2, o2, n2, c2, p2, k2, d2, rfl, f2_0, hb6⟩; have hB_7 := hB_6.trans (hb6.mono hB_6.size); have fax_7 := fax_6.below hb6; have fay_7 := fay_6.below hb6; have fbx_7 := fbx_6.below hb6; have fby_7 := fby_6.below hb6; have pa_6 := pa_5.below hb6; have pb_5 := pb_4.below hb6; have pr_4 := pr_3.below hb6; have f1x_3 := f1x_2.below hb6; have f1y_3 := f1y_2.below hb6; have pw_2 := pw_1.below hb6; clear hb6 hB_6 fax_6 fay_6 fbx_6 fby_6 pa_5 pb_4 pr_3 f1x_2 f1y_2 pw_1)
      | (go_at_call 23; (with_reducible refine (qMul _ _ (Lb + La + 2) (Lb + La + 2) _ _ _ (by have := HLa.out; have := HLb.out; omega) (by have := HLa.out; have := HLb.out; omega) f1y_3.q f1y_3.q).mono ?_); rintro e w7 ⟨m3, o3, n3, c3, p3, k3, d3, rfl, f3_0, hb7⟩; have hB_8 := hB_7.trans (hb7.mono hB_7.size); have fax_8 := fax_7.below hb7; have fay_8 := fay_7.below hb7; have fbx_8 := fbx_7.below hb7; have fby_8 := fby_7.below hb7; have pa_7 := pa_6.below hb7; have pb_6 := pb_5.below hb7; have pr_5 := pr_4.below hb7; have f1x_4 := f1x_3.below hb7; have f1y_4 := f1y_3.below hb7; have pw_3 := pw_2.below hb7; have f2_1 := f2_0.below hb7; clear hb7 hB_7 fax_7 fay_7 fbx_7 fby_7 pa_6 pb_5 pr_4 f1x_3 f1y_3 pw_2 f2_0)
      | (go_at_call 27; (with_reducible refine (qAdd _ _ ((Lb + La + 2) + (Lb + La + 2) + 2) ((Lb + La + 2) + (Lb + La + 2) + 2) _ _ _ (by have := HLa.out; have := HLb.out; omega) (by have := HLa.out; have := HLb.out; omega) f2_1.q f3_0.q).mono ?_); rintro e w8 ⟨m4, o4, n4, c4, p4, k4, d4, rfl, f4_0, hb8⟩; have hB_9 := hB_8.trans (hb8.mono hB_8.size); have fax_9 := fax_8.below hb8; have fay_9 := fay_8.below hb8; have fbx_9 := fbx_8.below hb8; have fby_9 := fby_8.below hb8; have pa_8 := pa_7.below hb8; have pb_7 := pb_6.below hb8; have pr_6 := pr_5.below hb8; have f1x_5 := f1x_4.below hb8; have f1y_5 := f1y_4.below hb8; have pw_4 := pw_3.below hb8; have f2_2 := f2_1.below hb8; have f3_1 := f3_0.below hb8; clear hb8 hB_8 fax_8 fay_8 fbx_8 fby_8 pa_7 pb_6 pr_5 f1x_4 f1y_4 pw_3 f2_1 f3_0; obtain ⟨sf1a, sf1b, sf1c, sf1d, sf1e, sf1f⟩ := pr_6.open3; obtain ⟨sg1a, sg1b, sg1c, sg1d⟩ := Box.put3 pr_6 (.bool m4) (.slice o4 n4 c4); have hB_10 := below_setAll hB_9 (g := w.heap.size + 1 + 1) (by omega) [.bool m4, .slice o4 n4 c4, .slice p4 k4 d4]; have fax_10 := fax_9.setAll pr_6 (noWord3 _ _ _ _ _ _ _) [.bool m4, .slice o4 n4 c4, .slice p4 k4 d4] rfl; have fay_10 := fay_9.setAll pr_6 (noWord3 _ _ _ _ _ _ _) [.bool m4, .slice o4 n4 c4, .slice p4 k4 d4] rfl; have fbx_10 := fbx_9.setAll pr_6 (noWord3 _ _ _ _ _ _ _) [.bool m4, .slice o4 n4 c4, .slice p4 k4 d4] rfl; have fby_10 := fby_9.setAll pr_6 (noWord3 _ _ _ _ _ _ _) [.bool m4, .slice o4 n4 c4, .slice p4 k4 d4] rfl; have pa_9 := pa_8.farAll (g' := w.heap.size + 1 + 1) (by omega) [.bool m4, .slice o4 n4 c4, .slice p4 k4 d4]; have pb_8 := pb_7.farAll (g' := w.heap.size + 1 + 1) (by omega) [.bool m4, .slice o4 n4 c4, .slice p4 k4 d4]; have f1x_6 := f1x_5.setAll pr_6 (noWord3 _ _ _ _ _ _ _) [.bool m4, .slice o4 n4 c4, .slice p4 k4 d4] rfl; have f1y_6 := f1y_5.setAll pr_6 (noWord3 _ _ _ _ _ _ _) [.bool m4, .slice o4 n4 c4, .slice p4 k4 d4] rfl; have pw_5 := pw_4.farAll (g' := w.heap.size + 1 + 1) (by omega) [.bool m4, .slice o4 n4 c4, .slice p4 k4 d4]; have f2_3 := f2_2.setAll pr_6 (noWord3 _ _ _ _ _ _ _) [.bool m4, .slice o4 n4 c4, .slice p4 k4 d4] rfl; have f3_2 := f3_1.setAll pr_6 (noWord3 _ _ _ _ _ _ _) [.bool m4, .slice o4 n4 c4, .slice p4 k4 d4] rfl; have f4_1 := f4_0.setAll pr_6 (noWord3 _ _ _ _ _ _ _) [.bool m4, .slice o4 n4 c4, .slice p4 k4 d4] rfl; have pr_7 := pr_6.setAll [.bool m4, .slice o4 n4 c4, .slice p4 k4 d4] rfl; simp only [setAll, Nat.zero_add, Nat.reduceAdd] at hB_10 fax_10 fay_10 fbx_10 fby_10 pa_9 pb_8 pr_7 f1x_6 f1y_6 pw_5 f2_3 f3_2 f4_1))
  clear hB_9 fax_9 fay_9 fbx_9 fby_9 pa_8 pb_7 f1x_5 f1y_5 pw_4 f2_2 f3_1 f4_0 pr_6
  clear sf1a sf1b sf1c sf1d sf1e sf1f sg1a sg1b sg1c sg1d
  generalize (World.setCell (World.setCell (World.setCell w8 ⟨w.heap.size + 1 + 1, 0, none⟩ (.bool m4)) ⟨w.heap.size + 1 + 1, 1, none⟩ (.slice o4 n4 c4)) ⟨w.heap.size + 1 + 1, 2, none⟩ (.slice p4 k4 d4)) = w9 at *
  go_wp2
  obtain ⟨pre0, pre1, pre2, pre3, pre4, pre5⟩ := pr_7.open3
  exact bodyPost_ret (v := .agg #[.bool m4, .slice o4 n4 c4, .slice p4 k4 d4]) (by simp [results, Try.results14, go_sem, pre0, pre1, pre2]) rfl ⟨_, _, _, _, _, _, _, rfl, f4_1, hB_10⟩
set_option maxHeartbeats 4000000 in
theorem sAlong_any {axm : Bool} {axo : Option Addr} {axn axc : Nat} {axp : Option Addr} {axk axd : Nat} {aym : Bool} {ayo : Option Addr} {ayn ayc : Nat} {ayp : Option Addr} {ayk ayd : Nat} {bxm : Bool} {bxo : Option Addr} {bxn bxc : Nat} {bxp : Option Addr} {bxk bxd : Nat} {bym : Bool} {byo : Option Addr} {byn byc : Nat} {byp : Option Addr} {byk byd : Nat} {zm : Bool} {zo : Option Addr} {zn zc : Nat} {zp : Option Addr} {zk zd : Nat} (La : Nat) (axq ayq : Rat) (Lb : Nat) (bxq byq : Rat) (Lz : Nat) (zq : Rat) (w : World) (hLa : La ≤ 1000000) (hLb : Lb ≤ 1000000) (hLz : Lz ≤ 1000000) (fax_0 : FQ w (.agg #[.bool axm, .slice axo axn axc, .slice axp axk axd]) La axq) (fay_0 : FQ w (.agg #[.bool aym, .slice ayo ayn ayc, .slice ayp ayk ayd]) La ayq) (fbx_0 : FQ w (.agg #[.bool bxm, .slice bxo bxn bxc, .slice bxp bxk bxd]) Lb bxq) (fby_0 : FQ w (.agg #[.bool bym, .slice byo byn byc, .slice byp byk byd]) Lb byq) (fz_0 : FQ w (.agg #[.bool zm, .slice zo zn zc, .slice zp zk zd]) Lz zq) :
    Calls Try.prog 20 #[.agg #[.bool axm, .slice axo axn axc, .slice axp axk axd, .bool aym, .slice ayo ayn ayc, .slice ayp ayk ayd], .agg #[.bool bxm, .slice bxo bxn bxc, .slice bxp bxk bxd, .bool bym, .slice byo byn byc, .slice byp byk byd], .agg #[.bool zm, .slice zo zn zc, .slice zp zk zd]] w fun e w' => AnsS w w' e (La + (Lz + (Lb + La + 2) + 2) + 2) (axq + zq * (bxq - axq)) (ayq + zq * (byq - ayq)) := by
  have hB_0 := Below.refl w.heap.size w
  have HLa := Lib.hid hLa; have HLb := Lib.hid hLb; have HLz := Lib.hid hLz
  clear hLa hLb hLz
  obtain ⟨w1, hw1, pa_0, hb1, hs1⟩ := new_box w (w.heap.size) rfl [.bool axm, .slice axo axn axc, .slice axp axk axd, .bool aym, .slice ayo ayn ayc, .slice ayp ayk ayd] 33
  have hb1' : Below w.heap.size w w1 := hb1.mono (by omega)
  clear hb1
  have hB_1 := hB_0.trans (hb1'.mono hB_0.size)
  have fax_1 := fax_0.below hb1'
  have fay_1 := fay_0.below hb1'
  have fbx_1 := fbx_0.below hb1'
  have fby_1 := fby_0.below hb1'
  have fz_1 := fz_0.below hb1'
  clear hb1' hB_0 fax_0 fay_0 fbx_0 fby_0 fz_0
  obtain ⟨w2, hw2, pb_0, hb2, hs2⟩ := new_box w1 (w.heap.size + 1) hs1 [.bool bxm, .slice bxo bxn bxc, .slice bxp bxk bxd, .bool bym, .slice byo byn byc, .slice byp byk byd] 33
  have hb2' : Below w1.heap.size w1 w2 := hb2.mono (by omega)
  clear hb2
  have hB_2 := hB_1.trans (hb2'.mono hB_1.size)
  have fax_2 := fax_1.below hb2'
  have fay_2 := fay_1.below hb2'
  have fbx_2 := fbx_1.below hb2'
  have fby_2 := fby_1.below hb2'
  have fz_2 := fz_1.below hb2'
  have pa_1 := pa_0.below hb2'
  clear hb2' hB_1 fax_1 fay_1 fbx_1 fby_1 fz_1 pa_0
  obtain ⟨w3, hw3, pz_0, hb3, hs3⟩ := new_box w2 (w.heap.size + 1 + 1) hs2 [.bool zm, .slice zo zn zc, .slice zp zk zd] 31
  have hb3' : Below w2.heap.size w2 w3 := hb3.mono (by omega)
  clear hb3
  have hB_3 := hB_2.trans (hb3'.mono hB_2.size)
  have fax_3 := fax_2.below hb3'
  have fay_3 := fay_2.below hb3'
  have fbx_3 := fbx_2.below hb3'
  have fby_3 := fby_2.below hb3'
  have fz_3 := fz_2.below hb3'
  have pa_2 := pa_1.below hb3'
  have pb_1 := pb_0.below hb3'
  clear hb3' hB_2 fax_2 fay_2 fbx_2 fby_2 fz_2 pa_1 pb_0
  obtain ⟨w4, hw4, pr_0, hb4, hs4⟩ := new_box w3 (w.heap.size + 1 + 1 + 1) hs3 [.bool false, .slice none 0 0, .slice none 0 0, .bool false, .slice none 0 0, .slice none 0 0] 33
  have hb4' : Below w3.heap.size w3 w4 := hb4.mono (by omega)
  clear hb4
  have hB_4 := hB_3.trans (hb4'.mono hB_3.size)
  have fax_4 := fax_3.below hb4'
  have fay_4 := fay_3.below hb4'
  have fbx_4 := fbx_3.below hb4'
  have fby_4 := fby_3.below hb4'
  have fz_4 := fz_3.below hb4'
  have pa_3 := pa_2.below hb4'
  have pb_2 := pb_1.below hb4'
  have pz_1 := pz_0.below hb4'
  clear hb4' hB_3 fax_3 fay_3 fbx_3 fby_3 fz_3 pa_2 pb_1 pz_0
  go_enter Try.func20, Try.ntmps20
  obtain ⟨pae0, pae1, pae2, pae3, pae4, pae5, pae6, pae7, pae8, pae9, pae10, pae11⟩ := pa_3.open6
  obtain ⟨pbe0, pbe1, pbe2, pbe3, pbe4, pbe5, pbe6, pbe7, pbe8, pbe9, pbe10, pbe11⟩ := pb_2.open6
  go_wp2_with fail
  refine (sAcross_any La axq ayq Lb bxq byq _ (by have := HLa.out; have := HLb.out; omega) (by have := HLa.out; have := HLb.out; omega) fax_4 fay_4 fbx_4 fby_4).mono ?_
  rintro e w5 ⟨m1x, o1x, n1x, c1x, p1x, k1x, d1x, m1y, o1y, n1y, c1y, p1y, k1y, d1y, rfl, f1x_0, f1y_0, hb5⟩
  clear pae0 pae1 pae2 pae3 pae4 pae5 pae6 pae7 pae8 pae9 pae10 pae11 pbe0 pbe1 pbe2 pbe3 pbe4 pbe5 pbe6 pbe7 pbe8 pbe9 pbe10 pbe11
  have hB_5 := hB_4.trans (hb5.mono hB_4.size)
  have fax_5 := fax_4.below hb5
  have fay_5 := fay_4.below hb5
  have fbx_5 := fbx_4.below hb5
  have fby_5 := fby_4.below hb5
  have fz_5 := fz_4.below hb5
  have pa_4 := pa_3.below hb5
  have pb_3 := pb_2.below hb5
  have pz_2 := pz_1.below hb5
  have pr_1 := pr_0.below hb5
  clear hb5 hB_4 fax_4 fay_4 fbx_4 fby_4 fz_4 pa_3 pb_2 pz_1 pr_0
  have hl1pa := pa_4.lt
  have hl1pb := pb_3.lt
  have hl1pz := pz_2.lt
  have hl1pr := pr_1.lt
  have hl1B := hB_5.size
  obtain ⟨w6, hw6, pw_0, hb6, hs6⟩ := new_box w5 (w5.heap.size) rfl [.bool m1x, .slice o1x n1x c1x, .slice p1x k1x d1x, .bool m1y, .slice o1y n1y c1y, .slice p1y k1y d1y] 33
  have hb6' : Below w5.heap.size w5 w6 := hb6.mono (by omega)
  clear hb6
  have hB_6 := hB_5.trans (hb6'.mono hB_5.size)
  have fax_6 := fax_5.below hb6'
  have fay_6 := fay_5.below hb6'
  have fbx_6 := fbx_5.below hb6'
  have fby_6 := fby_5.below hb6'
  have fz_6 := fz_5.below hb6'
  have pa_5 := pa_4.below hb6'
  have pb_4 := pb_3.below hb6'
  have pz_3 := pz_2.below hb6'
  have pr_2 := pr_1.below hb6'
  have f1x_1 := f1x_0.below hb6'
  have f1y_1 := f1y_0.below hb6'
  clear hb6' hB_5 fax_5 fay_5 fbx_5 fby_5 fz_5 pa_4 pb_3 pz_2 pr_1 f1x_0 f1y_0
  go_wp2
  try rw [hw6]
  have hB_7 := hB_6.drew'
  have fax_7 := fax_6.drew
  have fay_7 := fay_6.drew
  have fbx_7 := fbx_6.drew
  have fby_7 := fby_6.drew
  have fz_7 := fz_6.drew
  have pa_6 := pa_5.drew
  have pb_5 := pb_4.drew
  have pz_4 := pz_3.drew
  have pr_3 := pr_2.drew
  have f1x_2 := f1x_1.drew
  have f1y_2 := f1y_1.drew
  have pw_1 := pw_0.drew
  clear hB_6 fax_6 fay_6 fbx_6 fby_6 fz_6 pa_5 pb_4 pz_3 pr_2 f1x_1 f1y_1 pw_0
  go_region_held3 (fun w' => w'.cell? ⟨w5.heap.size, 0, none⟩ = some (.bool m1x) ∧ w'.cell? ⟨w5.heap.size, 1, none⟩ = some (.slice o1x n1x c1x) ∧ w'.cell? ⟨w5.heap.size, 2, none⟩ = some (.slice p1x k1x d1x) ∧ w'.cell? ⟨w5.heap.size, 3, none⟩ = some (.bool m1y) ∧ w'.cell? ⟨w5.heap.size, 4, none⟩ = some (.slice o1y n1y c1y) ∧ w'.cell? ⟨w5.heap.size, 5, none⟩ = some (.slice p1y k1y d1y) ∧ w'.cell? ⟨w.heap.size, 0, none⟩ = some (.bool axm) ∧ w'.cell? ⟨w.heap.size, 1, none⟩ = some (.slice axo axn axc) ∧ w'.cell? ⟨w.heap.size, 2, none⟩ = some (.slice axp axk axd) ∧ w'.cell? ⟨w.heap.size, 3, none⟩ = some (.bool aym) ∧ w'.cell? ⟨w.heap.size, 4, none⟩ = some (.slice ayo ayn ayc) ∧ w'.cell? ⟨w.heap.size, 5, none⟩ = some (.slice ayp ayk ayd) ∧ w'.cell? ⟨w.heap.size + 1 + 1, 0, none⟩ = some (.bool zm) ∧ w'.cell? ⟨w.heap.size + 1 + 1, 1, none⟩ = some (.slice zo zn zc) ∧ w'.cell? ⟨w.heap.size + 1 + 1, 2, none⟩ = some (.slice zp zk zd))
    (first | with_reducible exact ⟨pw_1.c0, pw_1.c1, pw_1.c2, pw_1.c3, pw_1.c4, pw_1.c5, pa_6.c0, pa_6.c1, pa_6.c2, pa_6.c3, pa_6.c4, pa_6.c5, pz_4.c0, pz_4.c1, pz_4.c2⟩ | with_reducible exact ⟨pw_2.c0, pw_2.c1, pw_2.c2, pw_2.c3, pw_2.c4, pw_2.c5, pa_7.c0, pa_7.c1, pa_7.c2, pa_7.c3, pa_7.c4, pa_7.c5, pz_5.c0, pz_5.c1, pz_5.c2⟩ | with_reducible exact ⟨pw_3.c0, pw_3.c1, pw_3.c2, pw_3.c3, pw_3.c4, pw_3.c5, pa_8.c0, pa_8.c1, pa_8.c2, pa_8.c3, pa_8.c4, pa_8.c5, pz_6.c0, pz_6.c1, pz_6.c2⟩ | with_reducible exact ⟨pw_4.c0, pw_4.c1, pw_4.c2, pw_4.c3, pw_4.c4, pw_4.c5, pa_9.c0, pa_9.c1, pa_9.c2, pa_9.c3, pa_9.c4, pa_9.c5, pz_7.c0, pz_7.c1, pz_7.c2⟩ | with_reducible exact ⟨pw_5.c0, pw_5.c1, pw_5.c2, pw_5.c3, pw_5.c4, pw_5.c5, pa_10.c0, pa_10.c1, pa_10.c2, pa_10.c3, pa_10.c4, pa_10.c5, pz_8.c0, pz_8.c1, pz_8.c2⟩ | with_reducible exact ⟨pw_6.c0, pw_6.c1, pw_6.c2, pw_6.c3, pw_6.c4, pw_6.c5, pa_11.c0, pa_11.c1, pa_11.c2, pa_11.c3, pa_11.c4, pa_11.c5, pz_9.c0, pz_9.c1, pz_9.c2⟩ | fail)
    (first
      | (go_at_call 23; (with_reducible refine (qMul _ _ Lz (Lb + La + 2) _ _ _ (by have := HLa.out; have := HLb.out; have := HLz.out; omega) (by have := HLa.out; have := HLb.out; have := HLz.out; omega) fz_7 f1x_2.q).mono ?_); rintro e w7 ⟨m2, o2, n2, c2, p2, k2, d2, rfl, f2_0, hb7⟩; have hB_8 := hB_7.trans (hb7.mono hB_7.size); have fax_8 := fax_7.below hb7; have fay_8 := fay_7.below hb7; have fbx_8 := fbx_7.below hb7; have fby_8 := fby_7.below hb7; have fz_8 := fz_7.below hb7; have pa_7 := pa_6.below hb7; have pb_6 := pb_5.below hb7; have pz_5 := pz_4.below hb7; have pr_4 := pr_3.below hb7; have f1x_3 := f1x_2.below hb7; have f1y_3 := f1y_2.below hb7; have pw_2 := pw_1.below hb7; clear hb7 hB_7 fax_7 fay_7 fbx_7 fby_7 fz_7 pa_6 pb_5 pz_4 pr_3 f1x_2 f1y_2 pw_1)
      | (go_at_call 27; (with_reducible refine (qAdd _ _ La (Lz + (Lb + La + 2) + 2) _ _ _ (by have := HLa.out; have := HLb.out; have := HLz.out; omega) (by have := HLa.out; have := HLb.out; have := HLz.out; omega) fax_8 f2_0.q).mono ?_); rintro e w8 ⟨m3x, o3x, n3x, c3x, p3x, k3x, d3x, rfl, f3x_0, hb8⟩; have hB_9 := hB_8.trans (hb8.mono hB_8.size); have fax_9 := fax_8.below hb8; have fay_9 := fay_8.below hb8; have fbx_9 := fbx_8.below hb8; have fby_9 := fby_8.below hb8; have fz_9 := fz_8.below hb8; have pa_8 := pa_7.below hb8; have pb_7 := pb_6.below hb8; have pz_6 := pz_5.below hb8; have pr_5 := pr_4.below hb8; have f1x_4 := f1x_3.below hb8; have f1y_4 := f1y_3.below hb8; have pw_3 := pw_2.below hb8; have f2_1 := f2_0.below hb8; clear hb8 hB_8 fax_8 fay_8 fbx_8 fby_8 fz_8 pa_7 pb_6 pz_5 pr_4 f1x_3 f1y_3 pw_2 f2_0)
      | (go_at_call 23; (with_reducible refine (qMul _ _ Lz (Lb + La + 2) _ _ _ (by have := HLa.out; have := HLb.out; have := HLz.out; omega) (by have := HLa.out; have := HLb.out; have := HLz.out; omega) fz_9 f1y_4.q).mono ?_); rintro e w9 ⟨m4, o4, n4, c4, p4, k4, d4, rfl, f4_0, hb9⟩; have hB_10 := hB_9.trans (hb9.mono hB_9.size); have fax_10 := fax_9.below hb9; have fay_10 := fay_9.below hb9; have fbx_10 := fbx_9.below hb9; have fby_10 := fby_9.below hb9; have fz_10 := fz_9.below hb9; have pa_9 := pa_8.below hb9; have pb_8 := pb_7.below hb9; have pz_7 := pz_6.below hb9; have pr_6 := pr_5.below hb9; have f1x_5 := f1x_4.below hb9; have f1y_5 := f1y_4.below hb9; have pw_4 := pw_3.below hb9; have f2_2 := f2_1.below hb9; have f3x_1 := f3x_0.below hb9; clear hb9 hB_9 fax_9 fay_9 fbx_9 fby_9 fz_9 pa_8 pb_7 pz_6 pr_5 f1x_4 f1y_4 pw_3 f2_1 f3x_0)
      | (go_at_call 27; (with_reducible refine (qAdd _ _ La (Lz + (Lb + La + 2) + 2) _ _ _ (by have := HLa.out; have := HLb.out; have := HLz.out; omega) (by have := HLa.out; have := HLb.out; have := HLz.out; omega) fay_10 f4_0.q).mono ?_); rintro e w10 ⟨m3y, o3y, n3y, c3y, p3y, k3y, d3y, rfl, f3y_0, hb10⟩; have hB_11 := hB_10.trans (hb10.mono hB_10.size); have fax_11 := fax_10.below hb10; have fay_11 := fay_10.below hb10; have fbx_11 := fbx_10.below hb10; have fby_11 := fby_10.below hb10; have fz_11 := fz_10.below hb10; have pa_10 := pa_9.below hb10; have pb_9 := pb_8.below hb10; have pz_8 := pz_7.below hb10; have pr_7 := pr_6.below hb10; have f1x_6 := f1x_5.below hb10; have f1y_6 := f1y_5.below hb10; have pw_5 := pw_4.below hb10; have f2_3 := f2_2.below hb10; have f3x_2 := f3x_1.below hb10; have f4_1 := f4_0.below hb10; clear hb10 hB_10 fax_10 fay_10 fbx_10 fby_10 fz_10 pa_9 pb_8 pz_7 pr_6 f1x_5 f1y_5 pw_4 f2_2 f3x_1 f4_0; obtain ⟨sf1a, sf1b, sf1c, sf1d, sf1e, sf1f, sf1g, sf1h, sf1i, sf1j, sf1k, sf1l⟩ := pr_7.open6; obtain ⟨sg1a, sg1b, sg1c, sg1d, sg1e, sg1f, sg1g, sg1h, sg1i, sg1j⟩ := Box.put6 pr_7 (.bool m3x) (.slice o3x n3x c3x) (.slice p3x k3x d3x) (.bool m3y) (.slice o3y n3y c3y); have hB_12 := below_setAll hB_11 (g := w.heap.size + 1 + 1 + 1) (by omega) [.bool m3x, .slice o3x n3x c3x, .slice p3x k3x d3x, .bool m3y, .slice o3y n3y c3y, .slice p3y k3y d3y]; have fax_12 := fax_11.setAll pr_7 (noWord6 _ _ _ _ _ _ _ _ _ _ _ _ _ _) [.bool m3x, .slice o3x n3x c3x, .slice p3x k3x d3x, .bool m3y, .slice o3y n3y c3y, .slice p3y k3y d3y] rfl; have fay_12 := fay_11.setAll pr_7 (noWord6 _ _ _ _ _ _ _ _ _ _ _ _ _ _) [.bool m3x, .slice o3x n3x c3x, .slice p3x k3x d3x, .bool m3y, .slice o3y n3y c3y, .slice p3y k3y d3y] rfl; have fbx_12 := fbx_11.setAll pr_7 (noWord6 _ _ _ _ _ _ _ _ _ _ _ _ _ _) [.bool m3x, .slice o3x n3x c3x, .slice p3x k3x d3x, .bool m3y, .slice o3y n3y c3y, .slice p3y k3y d3y] rfl; have fby_12 := fby_11.setAll pr_7 (noWord6 _ _ _ _ _ _ _ _ _ _ _ _ _ _) [.bool m3x, .slice o3x n3x c3x, .slice p3x k3x d3x, .bool m3y, .slice o3y n3y c3y, .slice p3y k3y d3y] rfl; have fz_12 := fz_11.setAll pr_7 (noWord6 _ _ _ _ _ _ _ _ _ _ _ _ _ _) [.bool m3x, .slice o3x n3x c3x, .slice p3x k3x d3x, .bool m3y, .slice o3y n3y c3y, .slice p3y k3y d3y] rfl; have pa_11 := pa_10.farAll (g' := w.heap.size + 1 + 1 + 1) (by omega) [.bool m3x, .slice o3x n3x c3x, .slice p3x k3x d3x, .bool m3y, .slice o3y n3y c3y, .slice p3y k3y d3y]; have pb_10 := pb_9.farAll (g' := w.heap.size + 1 + 1 + 1) (by omega) [.bool m3x, .slice o3x n3x c3x, .slice p3x k3x d3x, .bool m3y, .slice o3y n3y c3y, .slice p3y k3y d3y]; have pz_9 := pz_8.farAll (g' := w.heap.size + 1 + 1 + 1) (by omega) [.bool m3x, .slice o3x n3x c3x, .slice p3x k3x d3x, .bool m3y, .slice o3y n3y c3y, .slice p3y k3y d3y]; have f1x_7 := f1x_6.setAll pr_7 (noWord6 _ _ _ _ _ _ _ _ _ _ _ _ _ _) [.bool m3x, .slice o3x n3x c3x, .slice p3x k3x d3x, .bool m3y, .slice o3y n3y c3y, .slice p3y k3y d3y] rfl; have f1y_7 := f1y_6.setAll pr_7 (noWord6 _ _ _ _ _ _ _ _ _ _ _ _ _ _) [.bool m3x, .slice o3x n3x c3x, .slice p3x k3x d3x, .bool m3y, .slice o3y n3y c3y, .slice p3y k3y d3y] rfl; have pw_6 := pw_5.farAll (g' := w.heap.size + 1 + 1 + 1) (by omega) [.bool m3x, .slice o3x n3x c3x, .slice p3x k3x d3x, .bool m3y, .slice o3y n3y c3y, .slice p3y k3y d3y]; have f2_4 := f2_3.setAll pr_7 (noWord6 _ _ _ _ _ _ _ _ _ _ _ _ _ _) [.bool m3x, .slice o3x n3x c3x, .slice p3x k3x d3x, .bool m3y, .slice o3y n3y c3y, .slice p3y k3y d3y] rfl; have f3x_3 := f3x_2.setAll pr_7 (noWord6 _ _ _ _ _ _ _ _ _ _ _ _ _ _) [.bool m3x, .slice o3x n3x c3x, .slice p3x k3x d3x, .bool m3y, .slice o3y n3y c3y, .slice p3y k3y d3y] rfl; have f4_2 := f4_1.setAll pr_7 (noWord6 _ _ _ _ _ _ _ _ _ _ _ _ _ _) [.bool m3x, .slice o3x n3x c3x, .slice p3x k3x d3x, .bool m3y, .slice o3y n3y c3y, .slice p3y k3y d3y] rfl; have f3y_1 := f3y_0.setAll pr_7 (noWord6 _ _ _ _ _ _ _ _ _ _ _ _ _ _) [.bool m3x, .slice o3x n3x c3x, .slice p3x k3x d3x, .bool m3y, .slice o3y n3y c3y, .slice p3y k3y d3y] rfl; have pr_8 := pr_7.setAll [.bool m3x, .slice o3x n3x c3x, .slice p3x k3x d3x, .bool m3y, .slice o3y n3y c3y, .slice p3y k3y d3y] rfl; simp only [setAll, Nat.zero_add, Nat.reduceAdd] at hB_12 fax_12 fay_12 fbx_12 fby_12 fz_12 pa_11 pb_10 pz_9 pr_8 f1x_7 f1y_7 pw_6 f2_4 f3x_3 f4_2 f3y_1))
  clear hB_11 fax_11 fay_11 fbx_11 fby_11 fz_11 pa_10 pb_9 pz_8 f1x_6 f1y_6 pw_5 f2_3 f3x_2 f4_1 f3y_0 pr_7
  clear sf1a sf1b sf1c sf1d sf1e sf1f sf1g sf1h sf1i sf1j sf1k sf1l sg1a sg1b sg1c sg1d sg1e sg1f sg1g sg1h sg1i sg1j
  generalize (World.setCell (World.setCell (World.setCell (World.setCell (World.setCell (World.setCell w10 ⟨w.heap.size + 1 + 1 + 1, 0, none⟩ (.bool m3x)) ⟨w.heap.size + 1 + 1 + 1, 1, none⟩ (.slice o3x n3x c3x)) ⟨w.heap.size + 1 + 1 + 1, 2, none⟩ (.slice p3x k3x d3x)) ⟨w.heap.size + 1 + 1 + 1, 3, none⟩ (.bool m3y)) ⟨w.heap.size + 1 + 1 + 1, 4, none⟩ (.slice o3y n3y c3y)) ⟨w.heap.size + 1 + 1 + 1, 5, none⟩ (.slice p3y k3y d3y)) = w11 at *
  go_wp2
  obtain ⟨pre0, pre1, pre2, pre3, pre4, pre5, pre6, pre7, pre8, pre9, pre10, pre11⟩ := pr_8.open6
  exact bodyPost_ret (v := .agg #[.bool m3x, .slice o3x n3x c3x, .slice p3x k3x d3x, .bool m3y, .slice o3y n3y c3y, .slice p3y k3y d3y]) (by simp [results, Try.results20, go_sem, pre0, pre1, pre2, pre3, pre4, pre5]) rfl ⟨_, _, _, _, _, _, _, _, _, _, _, _, _, _, rfl, f3x_3, f3y_1, hB_12⟩
end Go.Proofs.Ytkcfaddilknelaa
/- The calls of spot: Side, within, Same, On. -/
namespace Go.Proofs.Ytkcfaddilknelaa
open Go.RowKit Go.MagM
set_option maxHeartbeats 8000000 in
theorem sSide_any {axm : Bool} {axo : Option Addr} {axn axc : Nat} {axp : Option Addr} {axk axd : Nat} {aym : Bool} {ayo : Option Addr} {ayn ayc : Nat} {ayp : Option Addr} {ayk ayd : Nat} {bxm : Bool} {bxo : Option Addr} {bxn bxc : Nat} {bxp : Option Addr} {bxk bxd : Nat} {bym : Bool} {byo : Option Addr} {byn byc : Nat} {byp : Option Addr} {byk byd : Nat} {sxm : Bool} {sxo : Option Addr} {sxn sxc : Nat} {sxp : Option Addr} {sxk sxd : Nat} {sym : Bool} {syo : Option Addr} {syn syc : Nat} {syp : Option Addr} {syk syd : Nat} (La : Nat) (axq ayq : Rat) (Lb : Nat) (bxq byq : Rat) (Ls : Nat) (sxq syq : Rat) (d : Int) (w : World) (hLa : La ≤ 1000000) (hLb : Lb ≤ 1000000) (hLs : Ls ≤ 1000000) (fax_0 : FQ w (.agg #[.bool axm, .slice axo axn axc, .slice axp axk axd]) La axq) (fay_0 : FQ w (.agg #[.bool aym, .slice ayo ayn ayc, .slice ayp ayk ayd]) La ayq) (fbx_0 : FQ w (.agg #[.bool bxm, .slice bxo bxn bxc, .slice bxp bxk bxd]) Lb bxq) (fby_0 : FQ w (.agg #[.bool bym, .slice byo byn byc, .slice byp byk byd]) Lb byq) (fsx_0 : FQ w (.agg #[.bool sxm, .slice sxo sxn sxc, .slice sxp sxk sxd]) Ls sxq) (fsy_0 : FQ w (.agg #[.bool sym, .slice syo syn syc, .slice syp syk syd]) Ls syq) (h : sideQ axq ayq bxq byq sxq syq = d) :
    Calls Try.prog 22 #[.agg #[.bool axm, .slice axo axn axc, .slice axp axk axd, .bool aym, .slice ayo ayn ayc, .slice ayp ayk ayd], .agg #[.bool bxm, .slice bxo bxn bxc, .slice bxp bxk bxd, .bool bym, .slice byo byn byc, .slice byp byk byd], .agg #[.bool sxm, .slice sxo sxn sxc, .slice sxp sxk sxd, .bool sym, .slice syo syn syc, .slice syp syk syd]] w fun e w' => e = .returned (.int .i64 d) ∧ Below w.heap.size w w' := by
  have hB_0 := Below.refl w.heap.size w
  have HLa := Lib.hid hLa; have HLb := Lib.hid hLb; have HLs := Lib.hid hLs
  clear hLa hLb hLs
  unfold sideQ at h
  have H := Lib.hid h
  clear h
  obtain ⟨w1, hw1, pa_0, hb1, hs1⟩ := new_box w (w.heap.size) rfl [.bool axm, .slice axo axn axc, .slice axp axk axd, .bool aym, .slice ayo ayn ayc, .slice ayp ayk ayd] 33
  have hb1' : Below w.heap.size w w1 := hb1.mono (by omega)
  clear hb1
  have hB_1 := hB_0.trans (hb1'.mono hB_0.size)
  have fax_1 := fax_0.below hb1'
  have fay_1 := fay_0.below hb1'
  have fbx_1 := fbx_0.below hb1'
  have fby_1 := fby_0.below hb1'
  have fsx_1 := fsx_0.below hb1'
  have fsy_1 := fsy_0.below hb1'
  clear hb1' hB_0 fax_0 fay_0 fbx_0 fby_0 fsx_0 fsy_0
  obtain ⟨w2, hw2, pb_0, hb2, hs2⟩ := new_box w1 (w.heap.size + 1) hs1 [.bool bxm, .slice bxo bxn bxc, .slice bxp bxk bxd, .bool bym, .slice byo byn byc, .slice byp byk byd] 33
  have hb2' : Below w1.heap.size w1 w2 := hb2.mono (by omega)
  clear hb2
  have hB_2 := hB_1.trans (hb2'.mono hB_1.size)
  have fax_2 := fax_1.below hb2'
  have fay_2 := fay_1.below hb2'
  have fbx_2 := fbx_1.below hb2'
  have fby_2 := fby_1.below hb2'
  have fsx_2 := fsx_1.below hb2'
  have fsy_2 := fsy_1.below hb2'
  have pa_1 := pa_0.below hb2'
  clear hb2' hB_1 fax_1 fay_1 fbx_1 fby_1 fsx_1 fsy_1 pa_0
  obtain ⟨w3, hw3, ps_0, hb3, hs3⟩ := new_box w2 (w.heap.size + 1 + 1) hs2 [.bool sxm, .slice sxo sxn sxc, .slice sxp sxk sxd, .bool sym, .slice syo syn syc, .slice syp syk syd] 33
  have hb3' : Below w2.heap.size w2 w3 := hb3.mono (by omega)
  clear hb3
  have hB_3 := hB_2.trans (hb3'.mono hB_2.size)
  have fax_3 := fax_2.below hb3'
  have fay_3 := fay_2.below hb3'
  have fbx_3 := fbx_2.below hb3'
  have fby_3 := fby_2.below hb3'
  have fsx_3 := fsx_2.below hb3'
  have fsy_3 := fsy_2.below hb3'
  have pa_2 := pa_1.below hb3'
  have pb_1 := pb_0.below hb3'
  clear hb3' hB_2 fax_2 fay_2 fbx_2 fby_2 fsx_2 fsy_2 pa_1 pb_0
  go_enter Try.func22, Try.ntmps22
  obtain ⟨pae0, pae1, pae2, pae3, pae4, pae5, pae6, pae7, pae8, pae9, pae10, pae11⟩ := pa_2.open6
  obtain ⟨pbe0, pbe1, pbe2, pbe3, pbe4, pbe5, pbe6, pbe7, pbe8, pbe9, pbe10, pbe11⟩ := pb_1.open6
  obtain ⟨pse0, pse1, pse2, pse3, pse4, pse5, pse6, pse7, pse8, pse9, pse10, pse11⟩ := ps_0.open6
  go_wp2
  clear pae0 pae1 pae2 pae3 pae4 pae5 pae6 pae7 pae8 pae9 pae10 pae11 pbe0 pbe1 pbe2 pbe3 pbe4 pbe5 pbe6 pbe7 pbe8 pbe9 pbe10 pbe11 pse0 pse1 pse2 pse3 pse4 pse5 pse6 pse7 pse8 pse9 pse10 pse11
  have hWq_0 := Below.refl w3.heap.size w3
  have hsq : w.heap.size ≤ w3.heap.size := hB_3.size
  have hlqpa := pa_2.lt
  have hlqpb := pb_1.lt
  have hlqps := ps_0.lt
  have hB_4 := hB_3.drew'
  have fax_4 := fax_3.drew
  have fay_4 := fay_3.drew
  have fbx_4 := fbx_3.drew
  have fby_4 := fby_3.drew
  have fsx_4 := fsx_3.drew
  have fsy_4 := fsy_3.drew
  have pa_3 := pa_2.drew
  have pb_2 := pb_1.drew
  have ps_1 := ps_0.drew
  have hWq_1 := hWq_0.drew'
  clear hB_3 fax_3 fay_3 fbx_3 fby_3 fsx_3 fsy_3 pa_2 pb_1 ps_0 hWq_0
  obtain ⟨FFq, hFFq⟩ : ∃ F : World → Prop, ∀ w', F w' ↔ (Below w.heap.size w w' ∧ FQ w' (.agg #[.bool axm, .slice axo axn axc, .slice axp axk axd]) La axq ∧ FQ w' (.agg #[.bool aym, .slice ayo ayn ayc, .slice ayp ayk ayd]) La ayq ∧ FQ w' (.agg #[.bool bxm, .slice bxo bxn bxc, .slice bxp bxk bxd]) Lb bxq ∧ FQ w' (.agg #[.bool bym, .slice byo byn byc, .slice byp byk byd]) Lb byq ∧ FQ w' (.agg #[.bool sxm, .slice sxo sxn sxc, .slice sxp sxk sxd]) Ls sxq ∧ FQ w' (.agg #[.bool sym, .slice syo syn syc, .slice syp syk syd]) Ls syq ∧ Box w' (w.heap.size) [.bool axm, .slice axo axn axc, .slice axp axk axd, .bool aym, .slice ayo ayn ayc, .slice ayp ayk ayd] ∧ Box w' (w.heap.size + 1) [.bool bxm, .slice bxo bxn bxc, .slice bxp bxk bxd, .bool bym, .slice byo byn byc, .slice byp byk byd] ∧ Box w' (w.heap.size + 1 + 1) [.bool sxm, .slice sxo sxn sxc, .slice sxp sxk sxd, .bool sym, .slice syo syn syc, .slice syp syk syd] ∧ Below w3.heap.size w3 w') := ⟨_, fun _ => Iff.rfl⟩
  have cFq : ∀ {w' w'' : World}, FFq w' → Below w'.heap.size w' w'' → FFq w'' := by
    intro w' w'' h hb
    obtain ⟨y0, y1, y2, y3, y4, y5, y6, y7, y8, y9, y10⟩ := (hFFq _).1 h
    exact (hFFq _).2 ⟨y0.trans (hb.mono y0.size), y1.below hb, y2.below hb, y3.below hb, y4.below hb, y5.below hb, y6.below hb, y7.below hb, y8.below hb, y9.below hb, y10.trans (hb.mono y10.size)⟩
  have mFq : ∀ {w' : World}, FFq w' → w3.heap.size ≤ w'.heap.size := by
    intro w' h
    obtain ⟨y0, y1, y2, y3, y4, y5, y6, y7, y8, y9, y10⟩ := (hFFq _).1 h
    exact y10.size
  have sFq : ∀ {w' : World}, FFq w' → (w'.cell? ⟨w.heap.size, 0, none⟩ = some (.bool axm) ∧ w'.cell? ⟨w.heap.size, 1, none⟩ = some (.slice axo axn axc) ∧ w'.cell? ⟨w.heap.size, 2, none⟩ = some (.slice axp axk axd) ∧ w'.cell? ⟨w.heap.size, 3, none⟩ = some (.bool aym) ∧ w'.cell? ⟨w.heap.size, 4, none⟩ = some (.slice ayo ayn ayc) ∧ w'.cell? ⟨w.heap.size, 5, none⟩ = some (.slice ayp ayk ayd) ∧ w'.cell? ⟨w.heap.size + 1, 0, none⟩ = some (.bool bxm) ∧ w'.cell? ⟨w.heap.size + 1, 1, none⟩ = some (.slice bxo bxn bxc) ∧ w'.cell? ⟨w.heap.size + 1, 2, none⟩ = some (.slice bxp bxk bxd) ∧ w'.cell? ⟨w.heap.size + 1, 3, none⟩ = some (.bool bym) ∧ w'.cell? ⟨w.heap.size + 1, 4, none⟩ = some (.slice byo byn byc) ∧ w'.cell? ⟨w.heap.size + 1, 5, none⟩ = some (.slice byp byk byd) ∧ w'.cell? ⟨w.heap.size + 1 + 1, 0, none⟩ = some (.bool sxm) ∧ w'.cell? ⟨w.heap.size + 1 + 1, 1, none⟩ = some (.slice sxo sxn sxc) ∧ w'.cell? ⟨w.heap.size + 1 + 1, 2, none⟩ = some (.slice sxp sxk sxd) ∧ w'.cell? ⟨w.heap.size + 1 + 1, 3, none⟩ = some (.bool sym) ∧ w'.cell? ⟨w.heap.size + 1 + 1, 4, none⟩ = some (.slice syo syn syc) ∧ w'.cell? ⟨w.heap.size + 1 + 1, 5, none⟩ = some (.slice syp syk syd)) := by
    intro w' h
    obtain ⟨y0, y1, y2, y3, y4, y5, y6, y7, y8, y9, y10⟩ := (hFFq _).1 h
    exact ⟨y7.c0, y7.c1, y7.c2, y7.c3, y7.c4, y7.c5, y8.c0, y8.c1, y8.c2, y8.c3, y8.c4, y8.c5, y9.c0, y9.c1, y9.c2, y9.c3, y9.c4, y9.c5⟩
  have zF : FFq w3.drew := (hFFq _).2 ⟨hB_4, fax_4, fay_4, fbx_4, fby_4, fsx_4, fsy_4, pa_3, pb_2, ps_1, hWq_1⟩
  clear hB_4 fax_4 fay_4 fbx_4 fby_4 fsx_4 fsy_4 pa_3 pb_2 ps_1 hWq_1
  refine wp_region_noPanic ?_
  refine wp_region_held_drew (S := fun w' => w'.cell? ⟨w.heap.size, 0, none⟩ = some (.bool axm) ∧ w'.cell? ⟨w.heap.size, 1, none⟩ = some (.slice axo axn axc) ∧ w'.cell? ⟨w.heap.size, 2, none⟩ = some (.slice axp axk axd) ∧ w'.cell? ⟨w.heap.size, 3, none⟩ = some (.bool aym) ∧ w'.cell? ⟨w.heap.size, 4, none⟩ = some (.slice ayo ayn ayc) ∧ w'.cell? ⟨w.heap.size, 5, none⟩ = some (.slice ayp ayk ayd) ∧ w'.cell? ⟨w.heap.size + 1, 0, none⟩ = some (.bool bxm) ∧ w'.cell? ⟨w.heap.size + 1, 1, none⟩ = some (.slice bxo bxn bxc) ∧ w'.cell? ⟨w.heap.size + 1, 2, none⟩ = some (.slice bxp bxk bxd) ∧ w'.cell? ⟨w.heap.size + 1, 3, none⟩ = some (.bool bym) ∧ w'.cell? ⟨w.heap.size + 1, 4, none⟩ = some (.slice byo byn byc) ∧ w'.cell? ⟨w.heap.size + 1, 5, none⟩ = some (.slice byp byk byd) ∧ w'.cell? ⟨w.heap.size + 1 + 1, 0, none⟩ = some (.bool sxm) ∧ w'.cell? ⟨w.heap.size + 1 + 1, 1, none⟩ = some (.slice sxo sxn sxc) ∧ w'.cell? ⟨w.heap.size + 1 + 1, 2, none⟩ = some (.slice sxp sxk sxd) ∧ w'.cell? ⟨w.heap.size + 1 + 1, 3, none⟩ = some (.bool sym) ∧ w'.cell? ⟨w.heap.size + 1 + 1, 4, none⟩ = some (.slice syo syn syc) ∧ w'.cell? ⟨w.heap.size + 1 + 1, 5, none⟩ = some (.slice syp syk syd)) (by kernel_rfl) (sFq zF) (fun hHeld => ?_)
  refine reg_take 0 ?_ ?_ ?_ (by kernel_rfl) (by kernel_rfl) (by kernel_rfl) (fun _ _ _ h => h) ?_ ?_ (by assumption) ?_
  rotate_left 2
  · simp only [List.getElem?_toArray, List.getElem?_cons_zero]; exact rfl
  · rfl
  · intro w hSw; (try dsimp only at hSw); go_simp; try with_reducible rfl
  try simp only [Act.put]
  try simp only [List.setIfInBounds_toArray, List.set_cons_zero, List.set_cons_succ]
  refine reg_take 1 ?_ ?_ ?_ (by kernel_rfl) (by kernel_rfl) (by kernel_rfl) (fun _ _ _ h => h) ?_ ?_ (by assumption) ?_
  rotate_left 2
  · simp only [List.getElem?_toArray, List.getElem?_cons_succ, List.getElem?_cons_zero]; exact rfl
  · rfl
  · intro w hSw; (try dsimp only at hSw); go_simp; try with_reducible rfl
  try simp only [Act.put]
  try simp only [List.setIfInBounds_toArray, List.set_cons_zero, List.set_cons_succ]
  refine reg_take 3 ?_ ?_ ?_ (by kernel_rfl) (by kernel_rfl) (by kernel_rfl) (fun _ _ _ h => h) ?_ ?_ (by assumption) ?_
  rotate_left 2
  · simp only [List.getElem?_toArray, List.getElem?_cons_succ, List.getElem?_cons_zero]; exact rfl
  · rfl
  · intro w hSw; (try dsimp only at hSw); go_simp; try with_reducible rfl
  try simp only [Act.put]
  try simp only [List.setIfInBounds_toArray, List.set_cons_zero, List.set_cons_succ]
  refine reg_take 4 ?_ ?_ ?_ (by kernel_rfl) (by kernel_rfl) (by kernel_rfl) (fun _ _ _ h => h) ?_ ?_ (by assumption) ?_
  rotate_left 2
  · simp only [List.getElem?_toArray, List.getElem?_cons_succ, List.getElem?_cons_zero]; exact rfl
  · rfl
  · intro w hSw; (try dsimp only at hSw); go_simp; try with_reducible rfl
  try simp only [Act.put]
  try simp only [List.setIfInBounds_toArray, List.set_cons_zero, List.set_cons_succ]
  refine reg_grab (fun WWq aq hWW hAA => ?_)
  rw [hWW]
  have HAq := Lib.hid hAA; clear hWW hAA hHeld
  obtain ⟨IVq, hIVq⟩ : ∃ IV : Array Bool → Act → World → Prop, ∀ l a w', IV l a w' ↔ ∃ (lb2 lb5 lb6 lb7 : Bool) (lv2 lv5 lv6 lv7 : Value) (m1x : Bool) (o1x : Option Addr) (n1x : Nat) (c1x : Nat) (p1x : Option Addr) (k1x : Nat) (d1x : Nat) (m1y : Bool) (o1y : Option Addr) (n1y : Nat) (c1y : Nat) (p1y : Option Addr) (k1y : Nat) (d1y : Nat) (m2x : Bool) (o2x : Option Addr) (n2x : Nat) (c2x : Nat) (p2x : Option Addr) (k2x : Nat) (d2x : Nat) (m2y : Bool) (o2y : Option Addr) (n2y : Nat) (c2y : Nat) (p2y : Option Addr) (k2y : Nat) (d2y : Nat) (gpl gpw : Nat), l = #[true, true, lb2, true, true, lb5, lb6, lb7, false, false] ∧ a = ((((aq.put (some 11) lv2).put (some 14) lv5).put (some 7) lv6).put (some 8) lv7) ∧ FFq w' ∧ (lb2 = true → lv2 = .agg #[.bool m1x, .slice o1x n1x c1x, .slice p1x k1x d1x, .bool m1y, .slice o1y n1y c1y, .slice p1y k1y d1y] ∧ RF w' (.agg #[.bool m1x, .slice o1x n1x c1x, .slice p1x k1x d1x]) (Lb + La + 2) (bxq - axq) ∧ RF w' (.agg #[.bool m1y, .slice o1y n1y c1y, .slice p1y k1y d1y]) (Lb + La + 2) (byq - ayq)) ∧ (lb5 = true → lv5 = .agg #[.bool m2x, .slice o2x n2x c2x, .slice p2x k2x d2x, .bool m2y, .slice o2y n2y c2y, .slice p2y k2y d2y] ∧ RF w' (.agg #[.bool m2x, .slice o2x n2x c2x, .slice p2x k2x d2x]) (Ls + La + 2) (sxq - axq) ∧ RF w' (.agg #[.bool m2y, .slice o2y n2y c2y, .slice p2y k2y d2y]) (Ls + La + 2) (syq - ayq)) ∧ (lb6 = true → lv6 = .pointer (some ⟨gpl, 0, none⟩) ∧ Box w' gpl [.bool false, .slice none 0 0, .slice none 0 0, .bool false, .slice none 0 0, .slice none 0 0] ∧ w3.heap.size ≤ gpl) ∧ (lb7 = true → lv7 = .pointer (some ⟨gpw, 0, none⟩) ∧ Box w' gpw [.bool false, .slice none 0 0, .slice none 0 0, .bool false, .slice none 0 0, .slice none 0 0] ∧ w3.heap.size ≤ gpw) ∧ (lb5 = true → lb2 = true) ∧ (lb6 = true → lb7 = true → gpl ≠ gpw) := ⟨_, fun _ _ _ => Iff.rfl⟩
  refine wpAnyH_until IVq ?_ _ _ _ _ ((hIVq _ _ _).2 ⟨false, false, false, false, (aq.tmps.getD 11 undef), (aq.tmps.getD 14 undef), (aq.tmps.getD 7 undef), (aq.tmps.getD 8 undef), false, none, 0, 0, none, 0, 0, false, none, 0, 0, none, 0, 0, false, none, 0, 0, none, 0, 0, false, none, 0, 0, none, 0, 0, 0, 0, rfl, (by simp only [put_same]), zF, (fun h => by cases h), (fun h => by cases h), (fun h => by cases h), (fun h => by cases h), (fun h => by cases h), (fun h => by cases h)⟩) (by kernel_rfl)
  clear zF
  intro ll aa w4 hI
  obtain ⟨lb2, lb5, lb6, lb7, lv2, lv5, lv6, lv7, m1x, o1x, n1x, c1x, p1x, k1x, d1x, m1y, o1y, n1y, c1y, p1y, k1y, d1y, m2x, o2x, n2x, c2x, p2x, k2x, d2x, m2y, o2y, n2y, c2y, p2y, k2y, d2y, gpl, gpw, rfl, rfl, zF, F2, F5, F6, F7, dp5_2, nq6_7⟩ := (hIVq _ _ _).1 hI
  clear hI
  by_cases hL : lb2 = true ∧ lb5 = true ∧ lb6 = true ∧ lb7 = true
  · left
    obtain ⟨rfl, rfl, rfl, rfl⟩ := hL
    obtain ⟨rfl, f1x_0, f1y_0⟩ := F2 rfl
    clear F2
    obtain ⟨rfl, f2x_0, f2y_0⟩ := F5 rfl
    clear F5
    obtain ⟨rfl, pl_0, hgpl⟩ := F6 rfl
    clear F6
    obtain ⟨rfl, pw_0, hgpw⟩ := F7 rfl
    clear F7
    have hnplpw := nq6_7 rfl rfl
    clear dp5_2 nq6_7
    show wpAnyH _ _ _ _ _ 2 _ _ _
    rw [HAq.out]
    try simp only [Act.put]
    try simp only [List.setIfInBounds_toArray, List.set_cons_zero, List.set_cons_succ]
    obtain ⟨hB_0, fax_0, fay_0, fbx_0, fby_0, fsx_0, fsy_0, pa_0, pb_0, ps_0, hWq_0⟩ := (hFFq _).1 zF
    clear zF
    clear hWq_0
    obtain ⟨sf1a, sf1b, sf1c, sf1d, sf1e, sf1f, sf1g, sf1h, sf1i, sf1j, sf1k, sf1l⟩ := pl_0.open6
    obtain ⟨sg1a, sg1b, sg1c, sg1d, sg1e, sg1f, sg1g, sg1h, sg1i, sg1j⟩ := Box.put6 pl_0 (.bool m1x) (.slice o1x n1x c1x) (.slice p1x k1x d1x) (.bool m1y) (.slice o1y n1y c1y)
    refine reg_call 8 ?_ (by kernel_rfl) ?_ (fun K hK => ?_)
    rotate_left 1
    · simp only [List.getElem?_toArray, List.getElem?_cons_succ, List.getElem?_cons_zero]; exact rfl
    go_simp
    have hB_1 := below_setAll hB_0 (g := gpl) (by omega) [.bool m1x, .slice o1x n1x c1x, .slice p1x k1x d1x, .bool m1y, .slice o1y n1y c1y, .slice p1y k1y d1y]
    have fax_1 := fax_0.setAll pl_0 (noWord6 _ _ _ _ _ _ _ _ _ _ _ _ _ _) [.bool m1x, .slice o1x n1x c1x, .slice p1x k1x d1x, .bool m1y, .slice o1y n1y c1y, .slice p1y k1y d1y] rfl
    have fay_1 := fay_0.setAll pl_0 (noWord6 _ _ _ _ _ _ _ _ _ _ _ _ _ _) [.bool m1x, .slice o1x n1x c1x, .slice p1x k1x d1x, .bool m1y, .slice o1y n1y c1y, .slice p1y k1y d1y] rfl
    have fbx_1 := fbx_0.setAll pl_0 (noWord6 _ _ _ _ _ _ _ _ _ _ _ _ _ _) [.bool m1x, .slice o1x n1x c1x, .slice p1x k1x d1x, .bool m1y, .slice o1y n1y c1y, .slice p1y k1y d1y] rfl
    have fby_1 := fby_0.setAll pl_0 (noWord6 _ _ _ _ _ _ _ _ _ _ _ _ _ _) [.bool m1x, .slice o1x n1x c1x, .slice p1x k1x d1x, .bool m1y, .slice o1y n1y c1y, .slice p1y k1y d1y] rfl
    have fsx_1 := fsx_0.setAll pl_0 (noWord6 _ _ _ _ _ _ _ _ _ _ _ _ _ _) [.bool m1x, .slice o1x n1x c1x, .slice p1x k1x d1x, .bool m1y, .slice o1y n1y c1y, .slice p1y k1y d1y] rfl
    have fsy_1 := fsy_0.setAll pl_0 (noWord6 _ _ _ _ _ _ _ _ _ _ _ _ _ _) [.bool m1x, .slice o1x n1x c1x, .slice p1x k1x d1x, .bool m1y, .slice o1y n1y c1y, .slice p1y k1y d1y] rfl
    have pa_1 := pa_0.farAll (g' := gpl) (by omega) [.bool m1x, .slice o1x n1x c1x, .slice p1x k1x d1x, .bool m1y, .slice o1y n1y c1y, .slice p1y k1y d1y]
    have pb_1 := pb_0.farAll (g' := gpl) (by omega) [.bool m1x, .slice o1x n1x c1x, .slice p1x k1x d1x, .bool m1y, .slice o1y n1y c1y, .slice p1y k1y d1y]
    have ps_1 := ps_0.farAll (g' := gpl) (by omega) [.bool m1x, .slice o1x n1x c1x, .slice p1x k1x d1x, .bool m1y, .slice o1y n1y c1y, .slice p1y k1y d1y]
    have f1x_1 := f1x_0.setAll pl_0 (noWord6 _ _ _ _ _ _ _ _ _ _ _ _ _ _) [.bool m1x, .slice o1x n1x c1x, .slice p1x k1x d1x, .bool m1y, .slice o1y n1y c1y, .slice p1y k1y d1y] rfl
    have f1y_1 := f1y_0.setAll pl_0 (noWord6 _ _ _ _ _ _ _ _ _ _ _ _ _ _) [.bool m1x, .slice o1x n1x c1x, .slice p1x k1x d1x, .bool m1y, .slice o1y n1y c1y, .slice p1y k1y d1y] rfl
    have f2x_1 := f2x_0.setAll pl_0 (noWord6 _ _ _ _ _ _ _ _ _ _ _ _ _ _) [.bool m1x, .slice o1x n1x c1x, .slice p1x k1x d1x, .bool m1y, .slice o1y n1y c1y, .slice p1y k1y d1y] rfl
    have f2y_1 := f2y_0.setAll pl_0 (noWord6 _ _ _ _ _ _ _ _ _ _ _ _ _ _) [.bool m1x, .slice o1x n1x c1x, .slice p1x k1x d1x, .bool m1y, .slice o1y n1y c1y, .slice p1y k1y d1y] rfl
    have pw_1 := pw_0.farAll (g' := gpl) (by omega) [.bool m1x, .slice o1x n1x c1x, .slice p1x k1x d1x, .bool m1y, .slice o1y n1y c1y, .slice p1y k1y d1y]
    have pl_1 := pl_0.setAll [.bool m1x, .slice o1x n1x c1x, .slice p1x k1x d1x, .bool m1y, .slice o1y n1y c1y, .slice p1y k1y d1y] rfl
    simp only [setAll, Nat.zero_add, Nat.reduceAdd] at hB_1 fax_1 fay_1 fbx_1 fby_1 fsx_1 fsy_1 pa_1 pb_1 ps_1 f1x_1 f1y_1 f2x_1 f2y_1 pl_1 pw_1
    clear sf1a sf1b sf1c sf1d sf1e sf1f sf1g sf1h sf1i sf1j sf1k sf1l sg1a sg1b sg1c sg1d sg1e sg1f sg1g sg1h sg1i sg1j
    clear hB_0 fax_0 fay_0 fbx_0 fby_0 fsx_0 fsy_0 pa_0 pb_0 ps_0 f1x_0 f1y_0 f2x_0 f2y_0 pw_0 pl_0
    refine hK.out _ _ ⟨pa_1.c0, pa_1.c1, pa_1.c2, pa_1.c3, pa_1.c4, pa_1.c5, pb_1.c0, pb_1.c1, pb_1.c2, pb_1.c3, pb_1.c4, pb_1.c5, ps_1.c0, ps_1.c1, ps_1.c2, ps_1.c3, ps_1.c4, ps_1.c5⟩ (fun hHeld => ?_)
    clear hK K
    try simp only [Act.put]
    try simp only [List.setIfInBounds_toArray, List.set_cons_zero, List.set_cons_succ]
    generalize (World.setCell (World.setCell (World.setCell (World.setCell (World.setCell (World.setCell w4 ⟨gpl, 0, none⟩ (.bool m1x)) ⟨gpl, 1, none⟩ (.slice o1x n1x c1x)) ⟨gpl, 2, none⟩ (.slice p1x k1x d1x)) ⟨gpl, 3, none⟩ (.bool m1y)) ⟨gpl, 4, none⟩ (.slice o1y n1y c1y)) ⟨gpl, 5, none⟩ (.slice p1y k1y d1y)) = w5 at *
    obtain ⟨sf2a, sf2b, sf2c, sf2d, sf2e, sf2f, sf2g, sf2h, sf2i, sf2j, sf2k, sf2l⟩ := pw_1.open6
    obtain ⟨sg2a, sg2b, sg2c, sg2d, sg2e, sg2f, sg2g, sg2h, sg2i, sg2j⟩ := Box.put6 pw_1 (.bool m2x) (.slice o2x n2x c2x) (.slice p2x k2x d2x) (.bool m2y) (.slice o2y n2y c2y)
    refine reg_call 9 ?_ (by kernel_rfl) ?_ (fun K hK => ?_)
    rotate_left 1
    · simp only [List.getElem?_toArray, List.getElem?_cons_succ, List.getElem?_cons_zero]; exact rfl
    go_simp
    have hB_2 := below_setAll hB_1 (g := gpw) (by omega) [.bool m2x, .slice o2x n2x c2x, .slice p2x k2x d2x, .bool m2y, .slice o2y n2y c2y, .slice p2y k2y d2y]
    have fax_2 := fax_1.setAll pw_1 (noWord6 _ _ _ _ _ _ _ _ _ _ _ _ _ _) [.bool m2x, .slice o2x n2x c2x, .slice p2x k2x d2x, .bool m2y, .slice o2y n2y c2y, .slice p2y k2y d2y] rfl
    have fay_2 := fay_1.setAll pw_1 (noWord6 _ _ _ _ _ _ _ _ _ _ _ _ _ _) [.bool m2x, .slice o2x n2x c2x, .slice p2x k2x d2x, .bool m2y, .slice o2y n2y c2y, .slice p2y k2y d2y] rfl
    have fbx_2 := fbx_1.setAll pw_1 (noWord6 _ _ _ _ _ _ _ _ _ _ _ _ _ _) [.bool m2x, .slice o2x n2x c2x, .slice p2x k2x d2x, .bool m2y, .slice o2y n2y c2y, .slice p2y k2y d2y] rfl
    have fby_2 := fby_1.setAll pw_1 (noWord6 _ _ _ _ _ _ _ _ _ _ _ _ _ _) [.bool m2x, .slice o2x n2x c2x, .slice p2x k2x d2x, .bool m2y, .slice o2y n2y c2y, .slice p2y k2y d2y] rfl
    have fsx_2 := fsx_1.setAll pw_1 (noWord6 _ _ _ _ _ _ _ _ _ _ _ _ _ _) [.bool m2x, .slice o2x n2x c2x, .slice p2x k2x d2x, .bool m2y, .slice o2y n2y c2y, .slice p2y k2y d2y] rfl
    have fsy_2 := fsy_1.setAll pw_1 (noWord6 _ _ _ _ _ _ _ _ _ _ _ _ _ _) [.bool m2x, .slice o2x n2x c2x, .slice p2x k2x d2x, .bool m2y, .slice o2y n2y c2y, .slice p2y k2y d2y] rfl
    have pa_2 := pa_1.farAll (g' := gpw) (by omega) [.bool m2x, .slice o2x n2x c2x, .slice p2x k2x d2x, .bool m2y, .slice o2y n2y c2y, .slice p2y k2y d2y]
    have pb_2 := pb_1.farAll (g' := gpw) (by omega) [.bool m2x, .slice o2x n2x c2x, .slice p2x k2x d2x, .bool m2y, .slice o2y n2y c2y, .slice p2y k2y d2y]
    have ps_2 := ps_1.farAll (g' := gpw) (by omega) [.bool m2x, .slice o2x n2x c2x, .slice p2x k2x d2x, .bool m2y, .slice o2y n2y c2y, .slice p2y k2y d2y]
    have f1x_2 := f1x_1.setAll pw_1 (noWord6 _ _ _ _ _ _ _ _ _ _ _ _ _ _) [.bool m2x, .slice o2x n2x c2x, .slice p2x k2x d2x, .bool m2y, .slice o2y n2y c2y, .slice p2y k2y d2y] rfl
    have f1y_2 := f1y_1.setAll pw_1 (noWord6 _ _ _ _ _ _ _ _ _ _ _ _ _ _) [.bool m2x, .slice o2x n2x c2x, .slice p2x k2x d2x, .bool m2y, .slice o2y n2y c2y, .slice p2y k2y d2y] rfl
    have f2x_2 := f2x_1.setAll pw_1 (noWord6 _ _ _ _ _ _ _ _ _ _ _ _ _ _) [.bool m2x, .slice o2x n2x c2x, .slice p2x k2x d2x, .bool m2y, .slice o2y n2y c2y, .slice p2y k2y d2y] rfl
    have f2y_2 := f2y_1.setAll pw_1 (noWord6 _ _ _ _ _ _ _ _ _ _ _ _ _ _) [.bool m2x, .slice o2x n2x c2x, .slice p2x k2x d2x, .bool m2y, .slice o2y n2y c2y, .slice p2y k2y d2y] rfl
    have pl_2 := pl_1.farAll (g' := gpw) (by omega) [.bool m2x, .slice o2x n2x c2x, .slice p2x k2x d2x, .bool m2y, .slice o2y n2y c2y, .slice p2y k2y d2y]
    have pw_2 := pw_1.setAll [.bool m2x, .slice o2x n2x c2x, .slice p2x k2x d2x, .bool m2y, .slice o2y n2y c2y, .slice p2y k2y d2y] rfl
    simp only [setAll, Nat.zero_add, Nat.reduceAdd] at hB_2 fax_2 fay_2 fbx_2 fby_2 fsx_2 fsy_2 pa_2 pb_2 ps_2 f1x_2 f1y_2 f2x_2 f2y_2 pl_2 pw_2
    clear sf2a sf2b sf2c sf2d sf2e sf2f sf2g sf2h sf2i sf2j sf2k sf2l sg2a sg2b sg2c sg2d sg2e sg2f sg2g sg2h sg2i sg2j
    clear hB_1 fax_1 fay_1 fbx_1 fby_1 fsx_1 fsy_1 pa_1 pb_1 ps_1 f1x_1 f1y_1 f2x_1 f2y_1 pl_1 pw_1
    refine hK.out _ _ ⟨pa_2.c0, pa_2.c1, pa_2.c2, pa_2.c3, pa_2.c4, pa_2.c5, pb_2.c0, pb_2.c1, pb_2.c2, pb_2.c3, pb_2.c4, pb_2.c5, ps_2.c0, ps_2.c1, ps_2.c2, ps_2.c3, ps_2.c4, ps_2.c5⟩ (fun hHeld => ?_)
    clear hK K
    try simp only [Act.put]
    try simp only [List.setIfInBounds_toArray, List.set_cons_zero, List.set_cons_succ]
    generalize (World.setCell (World.setCell (World.setCell (World.setCell (World.setCell (World.setCell w5 ⟨gpw, 0, none⟩ (.bool m2x)) ⟨gpw, 1, none⟩ (.slice o2x n2x c2x)) ⟨gpw, 2, none⟩ (.slice p2x k2x d2x)) ⟨gpw, 3, none⟩ (.bool m2y)) ⟨gpw, 4, none⟩ (.slice o2y n2y c2y)) ⟨gpw, 5, none⟩ (.slice p2y k2y d2y)) = w6 at *
    refine wpAnyH_done (by kernel_rfl) ?_ _
    refine NoPanic.normal ?_
    clear pa_2
    clear pb_2
    clear ps_2
    obtain ⟨ple0, ple1, ple2, ple3, ple4, ple5, ple6, ple7, ple8, ple9, ple10, ple11⟩ := pl_2.open6
    obtain ⟨pwe0, pwe1, pwe2, pwe3, pwe4, pwe5, pwe6, pwe7, pwe8, pwe9, pwe10, pwe11⟩ := pw_2.open6
    go_wp2
    clear ple0 ple1 ple2 ple3 ple4 ple5 ple6 ple7 ple8 ple9 ple10 ple11 pwe0 pwe1 pwe2 pwe3 pwe4 pwe5 pwe6 pwe7 pwe8 pwe9 pwe10 pwe11
    have hB_3 := hB_2.drew'
    have fax_3 := fax_2.drew
    have fay_3 := fay_2.drew
    have fbx_3 := fbx_2.drew
    have fby_3 := fby_2.drew
    have fsx_3 := fsx_2.drew
    have fsy_3 := fsy_2.drew
    have f1x_3 := f1x_2.drew
    have f1y_3 := f1y_2.drew
    have f2x_3 := f2x_2.drew
    have f2y_3 := f2y_2.drew
    have pl_3 := pl_2.drew
    have pw_3 := pw_2.drew
    clear hB_2 fax_2 fay_2 fbx_2 fby_2 fsx_2 fsy_2 f1x_2 f1y_2 f2x_2 f2y_2 pl_2 pw_2
    go_region_held3 (fun w' => w'.cell? ⟨gpl, 0, none⟩ = some (.bool m1x) ∧ w'.cell? ⟨gpl, 1, none⟩ = some (.slice o1x n1x c1x) ∧ w'.cell? ⟨gpl, 2, none⟩ = some (.slice p1x k1x d1x) ∧ w'.cell? ⟨gpl, 3, none⟩ = some (.bool m1y) ∧ w'.cell? ⟨gpl, 4, none⟩ = some (.slice o1y n1y c1y) ∧ w'.cell? ⟨gpl, 5, none⟩ = some (.slice p1y k1y d1y) ∧ w'.cell? ⟨gpw, 0, none⟩ = some (.bool m2x) ∧ w'.cell? ⟨gpw, 1, none⟩ = some (.slice o2x n2x c2x) ∧ w'.cell? ⟨gpw, 2, none⟩ = some (.slice p2x k2x d2x) ∧ w'.cell? ⟨gpw, 3, none⟩ = some (.bool m2y) ∧ w'.cell? ⟨gpw, 4, none⟩ = some (.slice o2y n2y c2y) ∧ w'.cell? ⟨gpw, 5, none⟩ = some (.slice p2y k2y d2y))
      (first | with_reducible exact ⟨pl_3.c0, pl_3.c1, pl_3.c2, pl_3.c3, pl_3.c4, pl_3.c5, pw_3.c0, pw_3.c1, pw_3.c2, pw_3.c3, pw_3.c4, pw_3.c5⟩ | with_reducible exact ⟨pl_4.c0, pl_4.c1, pl_4.c2, pl_4.c3, pl_4.c4, pl_4.c5, pw_4.c0, pw_4.c1, pw_4.c2, pw_4.c3, pw_4.c4, pw_4.c5⟩ | with_reducible exact ⟨pl_5.c0, pl_5.c1, pl_5.c2, pl_5.c3, pl_5.c4, pl_5.c5, pw_5.c0, pw_5.c1, pw_5.c2, pw_5.c3, pw_5.c4, pw_5.c5⟩ | with_reducible exact ⟨pl_6.c0, pl_6.c1, pl_6.c2, pl_6.c3, pl_6.c4, pl_6.c5, pw_6.c0, pw_6.c1, pw_6.c2, pw_6.c3, pw_6.c4, pw_6.c5⟩ | fail)
      (first
        | (go_at_call 23; (with_reducible refine (qMul _ _ (Lb + La + 2) (Ls + La + 2) _ _ _ (by have := HLa.out; have := HLb.out; have := HLs.out; omega) (by have := HLa.out; have := HLb.out; have := HLs.out; omega) f1x_3.q f2y_3.q).mono ?_); rintro e w7 ⟨m3, o3, n3, c3, p3, k3, d3, rfl, f3_0, hb7⟩; have hB_4 := hB_3.trans (hb7.mono hB_3.size); have fax_4 := fax_3.below hb7; have fay_4 := fay_3.below hb7; have fbx_4 := fbx_3.below hb7; have fby_4 := fby_3.below hb7; have fsx_4 := fsx_3.below hb7; have fsy_4 := fsy_3.below hb7; have f1x_4 := f1x_3.below hb7; have f1y_4 := f1y_3.below hb7; have f2x_4 := f2x_3.below hb7; have f2y_4 := f2y_3.below hb7; have pl_4 := pl_3.below hb7; have pw_4 := pw_3.below hb7; clear hb7 hB_3 fax_3 fay_3 fbx_3 fby_3 fsx_3 fsy_3 f1x_3 f1y_3 f2x_3 f2y_3 pl_3 pw_3)
        | (go_at_call 23; (with_reducible refine (qMul _ _ (Lb + La + 2) (Ls + La + 2) _ _ _ (by have := HLa.out; have := HLb.out; have := HLs.out; omega) (by have := HLa.out; have := HLb.out; have := HLs.out; omega) f1y_4.q f2x_4.q).mono ?_); rintro e w8 ⟨m4, o4, n4, c4, p4, k4, d4, rfl, f4_0, hb8⟩; have hB_5 := hB_4.trans (hb8.mono hB_4.size); have fax_5 := fax_4.below hb8; have fay_5 := fay_4.below hb8; have fbx_5 := fbx_4.below hb8; have fby_5 := fby_4.below hb8; have fsx_5 := fsx_4.below hb8; have fsy_5 := fsy_4.below hb8; have f1x_5 := f1x_4.below hb8; have f1y_5 := f1y_4.below hb8; have f2x_5 := f2x_4.below hb8; have f2y_5 := f2y_4.below hb8; have pl_5 := pl_4.below hb8; have pw_5 := pw_4.below hb8; have f3_1 := f3_0.below hb8; clear hb8 hB_4 fax_4 fay_4 fbx_4 fby_4 fsx_4 fsy_4 f1x_4 f1y_4 f2x_4 f2y_4 pl_4 pw_4 f3_0)
        | (go_at_call 25; (with_reducible refine (qCmp _ _ ((Lb + La + 2) + (Ls + La + 2) + 2) ((Lb + La + 2) + (Ls + La + 2) + 2) _ _ _ (by have := HLa.out; have := HLb.out; have := HLs.out; omega) (by have := HLa.out; have := HLb.out; have := HLs.out; omega) f3_1.q f4_0.q d H.out).mono ?_); rintro e w9 ⟨rfl, hb9⟩; have hB_6 := hB_5.trans (hb9.mono hB_5.size); have fax_6 := fax_5.below hb9; have fay_6 := fay_5.below hb9; have fbx_6 := fbx_5.below hb9; have fby_6 := fby_5.below hb9; have fsx_6 := fsx_5.below hb9; have fsy_6 := fsy_5.below hb9; have f1x_6 := f1x_5.below hb9; have f1y_6 := f1y_5.below hb9; have f2x_6 := f2x_5.below hb9; have f2y_6 := f2y_5.below hb9; have pl_6 := pl_5.below hb9; have pw_6 := pw_5.below hb9; have f3_2 := f3_1.below hb9; have f4_1 := f4_0.below hb9; clear hb9 hB_5 fax_5 fay_5 fbx_5 fby_5 fsx_5 fsy_5 f1x_5 f1y_5 f2x_5 f2y_5 pl_5 pw_5 f3_1 f4_0))
    go_wp2
    go_ret
    exact ⟨rfl, hB_6⟩
  · right
    refine ⟨?_, fun i hi => ?_⟩
    · clear zF F2 F5 F6 F7 nq6_7
      cases lb2
      · exact ready_of 2 _ rfl rfl (by kernel_rfl)
      cases lb5
      · exact ready_of 5 _ rfl rfl (by kernel_rfl)
      cases lb6
      · exact ready_of 6 _ rfl rfl (by kernel_rfl)
      cases lb7
      · exact ready_of 7 _ rfl rfl (by kernel_rfl)
      exact absurd ⟨rfl, rfl, rfl, rfl⟩ hL
    have hd : (lb2 = false ∧ i = 2) ∨ (lb5 = false ∧ lb2 = true ∧ i = 5) ∨ (lb6 = false ∧ i = 6) ∨ (lb7 = false ∧ i = 7) := by
      have hin := ready_lt hi
      obtain rfl | rfl | rfl | rfl | rfl | rfl | rfl | rfl | rfl | rfl : i = 0 ∨ i = 1 ∨ i = 2 ∨ i = 3 ∨ i = 4 ∨ i = 5 ∨ i = 6 ∨ i = 7 ∨ i = 8 ∨ i = 9 := by have hin' : i < 10 := hin; omega
      · exact absurd (ready_off hi) (fun h => Bool.noConfusion (show true = false from h))
      · exact absurd (ready_off hi) (fun h => Bool.noConfusion (show true = false from h))
      · exact .inl ⟨ready_off hi, rfl⟩
      · exact absurd (ready_off hi) (fun h => Bool.noConfusion (show true = false from h))
      · exact absurd (ready_off hi) (fun h => Bool.noConfusion (show true = false from h))
      · exact .inr (.inl ⟨ready_off hi, ready_dep (d := 2) hi (by kernel_rfl), rfl⟩)
      · exact .inr (.inr (.inl ⟨ready_off hi, rfl⟩))
      · exact .inr (.inr (.inr (⟨ready_off hi, rfl⟩)))
      · have k6 : lb6 = true := ready_dep (d := 6) hi (by kernel_rfl); have k2 : lb2 = true := ready_dep (d := 2) hi (by kernel_rfl); have k5 : lb5 = true := ready_dep (d := 5) hi (by kernel_rfl); have k7 : lb7 = true := ready_dep (d := 7) hi (by kernel_rfl)
        exact absurd ⟨k2, k5, k6, k7⟩ hL
      · exact absurd (ready_dep (d := 8) hi (by kernel_rfl)) (fun h => Bool.noConfusion (show false = true from h))
    clear hi hL
    rcases hd with ⟨rfl, rfl⟩ | ⟨rfl, rfl, rfl⟩ | ⟨rfl, rfl⟩ | ⟨rfl, rfl⟩
    · obtain ⟨-, fax_0, fay_0, fbx_0, fby_0, -, -, -, -, -, -⟩ := (hFFq _).1 zF
      refine step_of 2 ?_ ?_ (fun K hK => ?_)
      rotate_left 1
      · simp only [List.getElem?_toArray, List.getElem?_cons_succ, List.getElem?_cons_zero]; exact rfl
      rw [HAq.out]
      try simp only [Act.put]
      try simp only [List.setIfInBounds_toArray, List.set_cons_zero, List.set_cons_succ]
      go_simp
      refine (sAcross_any La axq ayq Lb bxq byq _ (by have := HLa.out; have := HLb.out; have := HLs.out; omega) (by have := HLa.out; have := HLb.out; have := HLs.out; omega) fax_0 fay_0 fbx_0 fby_0).mono ?_
      rintro e w10 ⟨m1x, o1x, n1x, c1x, p1x, k1x, d1x, m1y, o1y, n1y, c1y, p1y, k1y, d1y, rfl, f1x_0, f1y_0, hb⟩
      go_wp2_with fail
      refine hK.out _ _ (sFq (cFq zF hb)) ?_
      exact (hIVq _ _ _).2 ⟨true, lb5, lb6, lb7, (.agg #[.bool m1x, .slice o1x n1x c1x, .slice p1x k1x d1x, .bool m1y, .slice o1y n1y c1y, .slice p1y k1y d1y]), lv5, lv6, lv7, m1x, o1x, n1x, c1x, p1x, k1x, d1x, m1y, o1y, n1y, c1y, p1y, k1y, d1y, m2x, o2x, n2x, c2x, p2x, k2x, d2x, m2y, o2y, n2y, c2y, p2y, k2y, d2y, gpl, gpw, rfl, (by simp only [HAq.out, Act.put, List.setIfInBounds_toArray, List.set_cons_zero, List.set_cons_succ]), (cFq zF hb), (fun _ => ⟨rfl, f1x_0, f1y_0⟩), (fun h => absurd (dp5_2 h) (by decide)), (fun h => ⟨(F6 h).1, (F6 h).2.1.below hb, (F6 h).2.2⟩), (fun h => ⟨(F7 h).1, (F7 h).2.1.below hb, (F7 h).2.2⟩), (fun _ => rfl), nq6_7⟩
    · obtain ⟨rfl, f1x_0, f1y_0⟩ := F2 rfl
      clear F2
      obtain ⟨-, fax_0, fay_0, -, -, fsx_0, fsy_0, -, -, -, -⟩ := (hFFq _).1 zF
      refine step_of 5 ?_ ?_ (fun K hK => ?_)
      rotate_left 1
      · simp only [List.getElem?_toArray, List.getElem?_cons_succ, List.getElem?_cons_zero]; exact rfl
      rw [HAq.out]
      try simp only [Act.put]
      try simp only [List.setIfInBounds_toArray, List.set_cons_zero, List.set_cons_succ]
      go_simp
      refine (sAcross_any La axq ayq Ls sxq syq _ (by have := HLa.out; have := HLb.out; have := HLs.out; omega) (by have := HLa.out; have := HLb.out; have := HLs.out; omega) fax_0 fay_0 fsx_0 fsy_0).mono ?_
      rintro e w11 ⟨m2x, o2x, n2x, c2x, p2x, k2x, d2x, m2y, o2y, n2y, c2y, p2y, k2y, d2y, rfl, f2x_0, f2y_0, hb⟩
      go_wp2_with fail
      refine hK.out _ _ (sFq (cFq zF hb)) ?_
      exact (hIVq _ _ _).2 ⟨true, true, lb6, lb7, _, (.agg #[.bool m2x, .slice o2x n2x c2x, .slice p2x k2x d2x, .bool m2y, .slice o2y n2y c2y, .slice p2y k2y d2y]), lv6, lv7, m1x, o1x, n1x, c1x, p1x, k1x, d1x, m1y, o1y, n1y, c1y, p1y, k1y, d1y, m2x, o2x, n2x, c2x, p2x, k2x, d2x, m2y, o2y, n2y, c2y, p2y, k2y, d2y, gpl, gpw, rfl, (by simp only [HAq.out, Act.put, List.setIfInBounds_toArray, List.set_cons_zero, List.set_cons_succ]), (cFq zF hb), (fun _ => ⟨rfl, f1x_0.below hb, f1y_0.below hb⟩), (fun _ => ⟨rfl, f2x_0, f2y_0⟩), (fun h => ⟨(F6 h).1, (F6 h).2.1.below hb, (F6 h).2.2⟩), (fun h => ⟨(F7 h).1, (F7 h).2.1.below hb, (F7 h).2.2⟩), (fun _ => rfl), nq6_7⟩
    · refine step_of 6 ?_ ?_ (fun K hK => ?_)
      rotate_left 1
      · simp only [List.getElem?_toArray, List.getElem?_cons_succ, List.getElem?_cons_zero]; exact rfl
      rw [HAq.out]
      try simp only [Act.put]
      try simp only [List.setIfInBounds_toArray, List.set_cons_zero, List.set_cons_succ]
      go_simp
      have hgn := mFq zF
      have hq7 : lb7 = true → gpw < w4.heap.size := fun h => (F7 h).2.1.lt
      obtain ⟨wn, hwn, pl_0, hb, -⟩ := new_box w4 _ rfl [.bool false, .slice none 0 0, .slice none 0 0, .bool false, .slice none 0 0, .slice none 0 0] 33
      rw [hwn]
      refine hK.out _ _ (sFq (cFq zF hb)) ?_
      exact (hIVq _ _ _).2 ⟨lb2, lb5, true, lb7, lv2, lv5, (.pointer (some ⟨w4.heap.size, 0, none⟩)), lv7, m1x, o1x, n1x, c1x, p1x, k1x, d1x, m1y, o1y, n1y, c1y, p1y, k1y, d1y, m2x, o2x, n2x, c2x, p2x, k2x, d2x, m2y, o2y, n2y, c2y, p2y, k2y, d2y, w4.heap.size, gpw, rfl, (by simp only [HAq.out, Act.put, List.setIfInBounds_toArray, List.set_cons_zero, List.set_cons_succ]), (cFq zF hb), (fun h => ⟨(F2 h).1, (F2 h).2.1.below hb, (F2 h).2.2.below hb⟩), (fun h => ⟨(F5 h).1, (F5 h).2.1.below hb, (F5 h).2.2.below hb⟩), (fun _ => ⟨rfl, pl_0, hgn⟩), (fun h => ⟨(F7 h).1, (F7 h).2.1.below hb, (F7 h).2.2⟩), dp5_2, (fun _ h => by have := hq7 h; omega)⟩
    · refine step_of 7 ?_ ?_ (fun K hK => ?_)
      rotate_left 1
      · simp only [List.getElem?_toArray, List.getElem?_cons_succ, List.getElem?_cons_zero]; exact rfl
      rw [HAq.out]
      try simp only [Act.put]
      try simp only [List.setIfInBounds_toArray, List.set_cons_zero, List.set_cons_succ]
      go_simp
      have hgn := mFq zF
      have hq6 : lb6 = true → gpl < w4.heap.size := fun h => (F6 h).2.1.lt
      obtain ⟨wn, hwn, pw_0, hb, -⟩ := new_box w4 _ rfl [.bool false, .slice none 0 0, .slice none 0 0, .bool false, .slice none 0 0, .slice none 0 0] 33
      rw [hwn]
      refine hK.out _ _ (sFq (cFq zF hb)) ?_
      exact (hIVq _ _ _).2 ⟨lb2, lb5, lb6, true, lv2, lv5, lv6, (.pointer (some ⟨w4.heap.size, 0, none⟩)), m1x, o1x, n1x, c1x, p1x, k1x, d1x, m1y, o1y, n1y, c1y, p1y, k1y, d1y, m2x, o2x, n2x, c2x, p2x, k2x, d2x, m2y, o2y, n2y, c2y, p2y, k2y, d2y, gpl, w4.heap.size, rfl, (by simp only [HAq.out, Act.put, List.setIfInBounds_toArray, List.set_cons_zero, List.set_cons_succ]), (cFq zF hb), (fun h => ⟨(F2 h).1, (F2 h).2.1.below hb, (F2 h).2.2.below hb⟩), (fun h => ⟨(F5 h).1, (F5 h).2.1.below hb, (F5 h).2.2.below hb⟩), (fun h => ⟨(F6 h).1, (F6 h).2.1.below hb, (F6 h).2.2⟩), (fun _ => ⟨rfl, pw_0, hgn⟩), dp5_2, (fun h _ => by have := hq6 h; omega)⟩
set_option maxHeartbeats 4000000 in
theorem sWithin_w {sm : Bool} {so : Option Addr} {sn sc : Nat} {sp : Option Addr} {sk sd : Nat} {am : Bool} {ao : Option Addr} {an ac : Nat} {ap : Option Addr} {ak ad : Nat} {bm : Bool} {bo : Option Addr} {bn bc : Nat} {bp : Option Addr} {bk bd : Nat} (Ls La Lb : Nat) (sq aq bq : Rat) (c d v : Int) (q : Bool) (w : World) (hLs : Ls ≤ 1000000) (hLa : La ≤ 1000000) (hLb : Lb ≤ 1000000) (fs_0 : FQ w (.agg #[.bool sm, .slice so sn sc, .slice sp sk sd]) Ls sq) (fa_0 : FQ w (.agg #[.bool am, .slice ao an ac, .slice ap ak ad]) La aq) (fb_0 : FQ w (.agg #[.bool bm, .slice bo bn bc, .slice bp bk bd]) Lb bq) (hc : qcmp sq aq = c) (hd : qcmp sq bq = d) (E1 : IntKind.i64.wrap (c * d) = v) (E2 : decide (v ≤ 0) = q) :
    Calls Try.prog 60 #[.agg #[.bool sm, .slice so sn sc, .slice sp sk sd], .agg #[.bool am, .slice ao an ac, .slice ap ak ad], .agg #[.bool bm, .slice bo bn bc, .slice bp bk bd]] w fun e w' => e = .returned (.bool q) ∧ Below w.heap.size w w' := by
  have hB_0 := Below.refl w.heap.size w
  have HLs := Lib.hid hLs; have HLa := Lib.hid hLa; have HLb := Lib.hid hLb
  clear hLs hLa hLb
  have HC := Lib.hid hc; have HD := Lib.hid hd; clear hc hd
  obtain ⟨w1, hw1, ps_0, hb1, hs1⟩ := new_box w (w.heap.size) rfl [.bool sm, .slice so sn sc, .slice sp sk sd] 31
  have hb1' : Below w.heap.size w w1 := hb1.mono (by omega)
  clear hb1
  have hB_1 := hB_0.trans (hb1'.mono hB_0.size)
  have fs_1 := fs_0.below hb1'
  have fa_1 := fa_0.below hb1'
  have fb_1 := fb_0.below hb1'
  clear hb1' hB_0 fs_0 fa_0 fb_0
  obtain ⟨w2, hw2, pa_0, hb2, hs2⟩ := new_box w1 (w.heap.size + 1) hs1 [.bool am, .slice ao an ac, .slice ap ak ad] 31
  have hb2' : Below w1.heap.size w1 w2 := hb2.mono (by omega)
  clear hb2
  have hB_2 := hB_1.trans (hb2'.mono hB_1.size)
  have fs_2 := fs_1.below hb2'
  have fa_2 := fa_1.below hb2'
  have fb_2 := fb_1.below hb2'
  have ps_1 := ps_0.below hb2'
  clear hb2' hB_1 fs_1 fa_1 fb_1 ps_0
  obtain ⟨w3, hw3, pb_0, hb3, hs3⟩ := new_box w2 (w.heap.size + 1 + 1) hs2 [.bool bm, .slice bo bn bc, .slice bp bk bd] 31
  have hb3' : Below w2.heap.size w2 w3 := hb3.mono (by omega)
  clear hb3
  have hB_3 := hB_2.trans (hb3'.mono hB_2.size)
  have fs_3 := fs_2.below hb3'
  have fa_3 := fa_2.below hb3'
  have fb_3 := fb_2.below hb3'
  have ps_2 := ps_1.below hb3'
  have pa_1 := pa_0.below hb3'
  clear hb3' hB_2 fs_2 fa_2 fb_2 ps_1 pa_0
  go_enter Try.func60, Try.ntmps60
  have e1 := E1; have e2 := E2; clear E1 E2
  go_wp2
  have hB_4 := hB_3.drew'
  have fs_4 := fs_3.drew
  have fa_4 := fa_3.drew
  have fb_4 := fb_3.drew
  have ps_3 := ps_2.drew
  have pa_2 := pa_1.drew
  have pb_1 := pb_0.drew
  clear hB_3 fs_3 fa_3 fb_3 ps_2 pa_1 pb_0
  go_region_held3 (fun w' => w'.cell? ⟨w.heap.size, 0, none⟩ = some (.bool sm) ∧ w'.cell? ⟨w.heap.size, 1, none⟩ = some (.slice so sn sc) ∧ w'.cell? ⟨w.heap.size, 2, none⟩ = some (.slice sp sk sd) ∧ w'.cell? ⟨w.heap.size + 1, 0, none⟩ = some (.bool am) ∧ w'.cell? ⟨w.heap.size + 1, 1, none⟩ = some (.slice ao an ac) ∧ w'.cell? ⟨w.heap.size + 1, 2, none⟩ = some (.slice ap ak ad) ∧ w'.cell? ⟨w.heap.size + 1 + 1, 0, none⟩ = some (.bool bm) ∧ w'.cell? ⟨w.heap.size + 1 + 1, 1, none⟩ = some (.slice bo bn bc) ∧ w'.cell? ⟨w.heap.size + 1 + 1, 2, none⟩ = some (.slice bp bk bd))
    (first | with_reducible exact ⟨ps_3.c0, ps_3.c1, ps_3.c2, pa_2.c0, pa_2.c1, pa_2.c2, pb_1.c0, pb_1.c1, pb_1.c2⟩ | with_reducible exact ⟨ps_4.c0, ps_4.c1, ps_4.c2, pa_3.c0, pa_3.c1, pa_3.c2, pb_2.c0, pb_2.c1, pb_2.c2⟩ | with_reducible exact ⟨ps_5.c0, ps_5.c1, ps_5.c2, pa_4.c0, pa_4.c1, pa_4.c2, pb_3.c0, pb_3.c1, pb_3.c2⟩ | fail)
    (first
      | (go_at_call 25; (with_reducible refine (qCmp _ _ Ls La sq aq _ (by have := HLa.out; have := HLb.out; have := HLs.out; omega) (by have := HLa.out; have := HLb.out; have := HLs.out; omega) fs_4 fa_4 c HC.out).mono ?_); rintro e w4 ⟨rfl, hb4⟩; have hB_5 := hB_4.trans (hb4.mono hB_4.size); have fs_5 := fs_4.below hb4; have fa_5 := fa_4.below hb4; have fb_5 := fb_4.below hb4; have ps_4 := ps_3.below hb4; have pa_3 := pa_2.below hb4; have pb_2 := pb_1.below hb4; clear hb4 hB_4 fs_4 fa_4 fb_4 ps_3 pa_2 pb_1)
      | (go_at_call 25; (with_reducible refine (qCmp _ _ Ls Lb sq bq _ (by have := HLa.out; have := HLb.out; have := HLs.out; omega) (by have := HLa.out; have := HLb.out; have := HLs.out; omega) fs_5 fb_5 d HD.out).mono ?_); rintro e w5 ⟨rfl, hb5⟩; have hB_6 := hB_5.trans (hb5.mono hB_5.size); have fs_6 := fs_5.below hb5; have fa_6 := fa_5.below hb5; have fb_6 := fb_5.below hb5; have ps_5 := ps_4.below hb5; have pa_4 := pa_3.below hb5; have pb_3 := pb_2.below hb5; clear hb5 hB_5 fs_5 fa_5 fb_5 ps_4 pa_3 pb_2))
  go_wp2
  go_ret
  exact ⟨rfl, hB_6⟩
theorem qcmp_wrap (p q r s : Rat) : IntKind.i64.wrap (qcmp p q * qcmp r s) = qcmp p q * qcmp r s := by
  rcases qcmp_cases p q with ⟨_, h⟩ | ⟨_, h⟩ | ⟨_, h⟩ <;> rcases qcmp_cases r s with ⟨_, k⟩ | ⟨_, k⟩ | ⟨_, k⟩ <;> rw [h, k] <;> rfl
theorem sWithin_any {sm : Bool} {so : Option Addr} {sn sc : Nat} {sp : Option Addr} {sk sd : Nat} {am : Bool} {ao : Option Addr} {an ac : Nat} {ap : Option Addr} {ak ad : Nat} {bm : Bool} {bo : Option Addr} {bn bc : Nat} {bp : Option Addr} {bk bd : Nat} (Ls La Lb : Nat) (sq aq bq : Rat) (w : World) (hLs : Ls ≤ 1000000) (hLa : La ≤ 1000000) (hLb : Lb ≤ 1000000) (fs_0 : FQ w (.agg #[.bool sm, .slice so sn sc, .slice sp sk sd]) Ls sq) (fa_0 : FQ w (.agg #[.bool am, .slice ao an ac, .slice ap ak ad]) La aq) (fb_0 : FQ w (.agg #[.bool bm, .slice bo bn bc, .slice bp bk bd]) Lb bq) (q : Bool) (h : withinQ sq aq bq = q) :
    Calls Try.prog 60 #[.agg #[.bool sm, .slice so sn sc, .slice sp sk sd], .agg #[.bool am, .slice ao an ac, .slice ap ak ad], .agg #[.bool bm, .slice bo bn bc, .slice bp bk bd]] w fun e w' => e = .returned (.bool q) ∧ Below w.heap.size w w' :=
  sWithin_w Ls La Lb sq aq bq _ _ _ q w hLs hLa hLb fs_0 fa_0 fb_0 rfl rfl (qcmp_wrap _ _ _ _) h
end Go.Proofs.Ytkcfaddilknelaa
/- The calls of spot: Same, On. -/
namespace Go.Proofs.Ytkcfaddilknelaa
open Go.RowKit Go.MagM
set_option maxHeartbeats 4000000 in
theorem sSame_t {axm : Bool} {axo : Option Addr} {axn axc : Nat} {axp : Option Addr} {axk axd : Nat} {aym : Bool} {ayo : Option Addr} {ayn ayc : Nat} {ayp : Option Addr} {ayk ayd : Nat} {bxm : Bool} {bxo : Option Addr} {bxn bxc : Nat} {bxp : Option Addr} {bxk bxd : Nat} {bym : Bool} {byo : Option Addr} {byn byc : Nat} {byp : Option Addr} {byk byd : Nat} (La : Nat) (axq ayq : Rat) (Lb : Nat) (bxq byq : Rat) (w : World) (hLa : La ≤ 1000000) (hLb : Lb ≤ 1000000) (fax_0 : FQ w (.agg #[.bool axm, .slice axo axn axc, .slice axp axk axd]) La axq) (fay_0 : FQ w (.agg #[.bool aym, .slice ayo ayn ayc, .slice ayp ayk ayd]) La ayq) (fbx_0 : FQ w (.agg #[.bool bxm, .slice bxo bxn bxc, .slice bxp bxk bxd]) Lb bxq) (fby_0 : FQ w (.agg #[.bool bym, .slice byo byn byc, .slice byp byk byd]) Lb byq) (h : axq = bxq) (q : Bool) (h2 : ayq = byq ↔ q = true) :
    Calls Try.prog 17 #[.agg #[.bool axm, .slice axo axn axc, .slice axp axk axd, .bool aym, .slice ayo ayn ayc, .slice ayp ayk ayd], .agg #[.bool bxm, .slice bxo bxn bxc, .slice bxp bxk bxd, .bool bym, .slice byo byn byc, .slice byp byk byd]] w fun e w' => e = .returned (.bool q) ∧ Below w.heap.size w w' := by
  have hB_0 := Below.refl w.heap.size w
  have HLa := Lib.hid hLa; have HLb := Lib.hid hLb
  clear hLa hLb
  have H := Lib.hid h; have H2 := Lib.hid h2; clear h2
  clear h
  obtain ⟨w1, hw1, pa_0, hb1, hs1⟩ := new_box w (w.heap.size) rfl [.bool axm, .slice axo axn axc, .slice axp axk axd, .bool aym, .slice ayo ayn ayc, .slice ayp ayk ayd] 33
  have hb1' : Below w.heap.size w w1 := hb1.mono (by omega)
  clear hb1
  have hB_1 := hB_0.trans (hb1'.mono hB_0.size)
  have fax_1 := fax_0.below hb1'
  have fay_1 := fay_0.below hb1'
  have fbx_1 := fbx_0.below hb1'
  have fby_1 := fby_0.below hb1'
  clear hb1' hB_0 fax_0 fay_0 fbx_0 fby_0
  obtain ⟨w2, hw2, pb_0, hb2, hs2⟩ := new_box w1 (w.heap.size + 1) hs1 [.bool bxm, .slice bxo bxn bxc, .slice bxp bxk bxd, .bool bym, .slice byo byn byc, .slice byp byk byd] 33
  have hb2' : Below w1.heap.size w1 w2 := hb2.mono (by omega)
  clear hb2
  have hB_2 := hB_1.trans (hb2'.mono hB_1.size)
  have fax_2 := fax_1.below hb2'
  have fay_2 := fay_1.below hb2'
  have fbx_2 := fbx_1.below hb2'
  have fby_2 := fby_1.below hb2'
  have pa_1 := pa_0.below hb2'
  clear hb2' hB_1 fax_1 fay_1 fbx_1 fby_1 pa_0
  go_enter Try.func17, Try.ntmps17
  obtain ⟨pae0, pae1, pae2, pae3, pae4, pae5, pae6, pae7, pae8, pae9, pae10, pae11⟩ := pa_1.open6
  obtain ⟨pbe0, pbe1, pbe2, pbe3, pbe4, pbe5, pbe6, pbe7, pbe8, pbe9, pbe10, pbe11⟩ := pb_0.open6
  go_wp2_with fail
  refine (qSame _ _ La Lb axq bxq _ (by have := HLa.out; have := HLb.out; omega) (by have := HLa.out; have := HLb.out; omega) fax_2 fbx_2 true ⟨fun _ => rfl, fun _ => H.out⟩).mono ?_
  rintro e w3 ⟨rfl, hb3⟩
  clear pae0 pae1 pae2 pae3 pae4 pae5 pae6 pae7 pae8 pae9 pae10 pae11 pbe0 pbe1 pbe2 pbe3 pbe4 pbe5 pbe6 pbe7 pbe8 pbe9 pbe10 pbe11
  have hB_3 := hB_2.trans (hb3.mono hB_2.size)
  have fax_3 := fax_2.below hb3
  have fay_3 := fay_2.below hb3
  have fbx_3 := fbx_2.below hb3
  have fby_3 := fby_2.below hb3
  have pa_2 := pa_1.below hb3
  have pb_1 := pb_0.below hb3
  clear hb3 hB_2 fax_2 fay_2 fbx_2 fby_2 pa_1 pb_0
  obtain ⟨pae0, pae1, pae2, pae3, pae4, pae5, pae6, pae7, pae8, pae9, pae10, pae11⟩ := pa_2.open6
  obtain ⟨pbe0, pbe1, pbe2, pbe3, pbe4, pbe5, pbe6, pbe7, pbe8, pbe9, pbe10, pbe11⟩ := pb_1.open6
  go_wp2_with fail
  refine (qSame _ _ La Lb ayq byq _ (by have := HLa.out; have := HLb.out; omega) (by have := HLa.out; have := HLb.out; omega) fay_3 fby_3 q H2.out).mono ?_
  rintro e w4 ⟨rfl, hb4⟩
  clear pae0 pae1 pae2 pae3 pae4 pae5 pae6 pae7 pae8 pae9 pae10 pae11 pbe0 pbe1 pbe2 pbe3 pbe4 pbe5 pbe6 pbe7 pbe8 pbe9 pbe10 pbe11
  have hB_4 := hB_3.trans (hb4.mono hB_3.size)
  have fax_4 := fax_3.below hb4
  have fay_4 := fay_3.below hb4
  have fbx_4 := fbx_3.below hb4
  have fby_4 := fby_3.below hb4
  have pa_3 := pa_2.below hb4
  have pb_2 := pb_1.below hb4
  clear hb4 hB_3 fax_3 fay_3 fbx_3 fby_3 pa_2 pb_1
  obtain ⟨pae0, pae1, pae2, pae3, pae4, pae5, pae6, pae7, pae8, pae9, pae10, pae11⟩ := pa_3.open6
  obtain ⟨pbe0, pbe1, pbe2, pbe3, pbe4, pbe5, pbe6, pbe7, pbe8, pbe9, pbe10, pbe11⟩ := pb_2.open6
  go_wp2
  go_ret
  exact ⟨rfl, hB_4⟩
set_option maxHeartbeats 4000000 in
theorem sSame_f {axm : Bool} {axo : Option Addr} {axn axc : Nat} {axp : Option Addr} {axk axd : Nat} {aym : Bool} {ayo : Option Addr} {ayn ayc : Nat} {ayp : Option Addr} {ayk ayd : Nat} {bxm : Bool} {bxo : Option Addr} {bxn bxc : Nat} {bxp : Option Addr} {bxk bxd : Nat} {bym : Bool} {byo : Option Addr} {byn byc : Nat} {byp : Option Addr} {byk byd : Nat} (La : Nat) (axq ayq : Rat) (Lb : Nat) (bxq byq : Rat) (w : World) (hLa : La ≤ 1000000) (hLb : Lb ≤ 1000000) (fax_0 : FQ w (.agg #[.bool axm, .slice axo axn axc, .slice axp axk axd]) La axq) (fay_0 : FQ w (.agg #[.bool aym, .slice ayo ayn ayc, .slice ayp ayk ayd]) La ayq) (fbx_0 : FQ w (.agg #[.bool bxm, .slice bxo bxn bxc, .slice bxp bxk bxd]) Lb bxq) (fby_0 : FQ w (.agg #[.bool bym, .slice byo byn byc, .slice byp byk byd]) Lb byq) (h : axq ≠ bxq) :
    Calls Try.prog 17 #[.agg #[.bool axm, .slice axo axn axc, .slice axp axk axd, .bool aym, .slice ayo ayn ayc, .slice ayp ayk ayd], .agg #[.bool bxm, .slice bxo bxn bxc, .slice bxp bxk bxd, .bool bym, .slice byo byn byc, .slice byp byk byd]] w fun e w' => e = .returned (.bool false) ∧ Below w.heap.size w w' := by
  have hB_0 := Below.refl w.heap.size w
  have HLa := Lib.hid hLa; have HLb := Lib.hid hLb
  clear hLa hLb
  have H := Lib.hid h
  clear h
  obtain ⟨w1, hw1, pa_0, hb1, hs1⟩ := new_box w (w.heap.size) rfl [.bool axm, .slice axo axn axc, .slice axp axk axd, .bool aym, .slice ayo ayn ayc, .slice ayp ayk ayd] 33
  have hb1' : Below w.heap.size w w1 := hb1.mono (by omega)
  clear hb1
  have hB_1 := hB_0.trans (hb1'.mono hB_0.size)
  have fax_1 := fax_0.below hb1'
  have fay_1 := fay_0.below hb1'
  have fbx_1 := fbx_0.below hb1'
  have fby_1 := fby_0.below hb1'
  clear hb1' hB_0 fax_0 fay_0 fbx_0 fby_0
  obtain ⟨w2, hw2, pb_0, hb2, hs2⟩ := new_box w1 (w.heap.size + 1) hs1 [.bool bxm, .slice bxo bxn bxc, .slice bxp bxk bxd, .bool bym, .slice byo byn byc, .slice byp byk byd] 33
  have hb2' : Below w1.heap.size w1 w2 := hb2.mono (by omega)
  clear hb2
  have hB_2 := hB_1.trans (hb2'.mono hB_1.size)
  have fax_2 := fax_1.below hb2'
  have fay_2 := fay_1.below hb2'
  have fbx_2 := fbx_1.below hb2'
  have fby_2 := fby_1.below hb2'
  have pa_1 := pa_0.below hb2'
  clear hb2' hB_1 fax_1 fay_1 fbx_1 fby_1 pa_0
  go_enter Try.func17, Try.ntmps17
  obtain ⟨pae0, pae1, pae2, pae3, pae4, pae5, pae6, pae7, pae8, pae9, pae10, pae11⟩ := pa_1.open6
  obtain ⟨pbe0, pbe1, pbe2, pbe3, pbe4, pbe5, pbe6, pbe7, pbe8, pbe9, pbe10, pbe11⟩ := pb_0.open6
  go_wp2_with fail
  refine (qSame _ _ La Lb axq bxq _ (by have := HLa.out; have := HLb.out; omega) (by have := HLa.out; have := HLb.out; omega) fax_2 fbx_2 false ⟨fun k => absurd k H.out, fun k => by cases k⟩).mono ?_
  rintro e w3 ⟨rfl, hb3⟩
  clear pae0 pae1 pae2 pae3 pae4 pae5 pae6 pae7 pae8 pae9 pae10 pae11 pbe0 pbe1 pbe2 pbe3 pbe4 pbe5 pbe6 pbe7 pbe8 pbe9 pbe10 pbe11
  have hB_3 := hB_2.trans (hb3.mono hB_2.size)
  have fax_3 := fax_2.below hb3
  have fay_3 := fay_2.below hb3
  have fbx_3 := fbx_2.below hb3
  have fby_3 := fby_2.below hb3
  have pa_2 := pa_1.below hb3
  have pb_1 := pb_0.below hb3
  clear hb3 hB_2 fax_2 fay_2 fbx_2 fby_2 pa_1 pb_0
  obtain ⟨pae0, pae1, pae2, pae3, pae4, pae5, pae6, pae7, pae8, pae9, pae10, pae11⟩ := pa_2.open6
  obtain ⟨pbe0, pbe1, pbe2, pbe3, pbe4, pbe5, pbe6, pbe7, pbe8, pbe9, pbe10, pbe11⟩ := pb_1.open6
  go_wp2
  go_ret
  exact ⟨rfl, hB_3⟩
theorem sSame_any {axm : Bool} {axo : Option Addr} {axn axc : Nat} {axp : Option Addr} {axk axd : Nat} {aym : Bool} {ayo : Option Addr} {ayn ayc : Nat} {ayp : Option Addr} {ayk ayd : Nat} {bxm : Bool} {bxo : Option Addr} {bxn bxc : Nat} {bxp : Option Addr} {bxk bxd : Nat} {bym : Bool} {byo : Option Addr} {byn byc : Nat} {byp : Option Addr} {byk byd : Nat} (La : Nat) (axq ayq : Rat) (Lb : Nat) (bxq byq : Rat) (w : World) (hLa : La ≤ 1000000) (hLb : Lb ≤ 1000000) (fax_0 : FQ w (.agg #[.bool axm, .slice axo axn axc, .slice axp axk axd]) La axq) (fay_0 : FQ w (.agg #[.bool aym, .slice ayo ayn ayc, .slice ayp ayk ayd]) La ayq) (fbx_0 : FQ w (.agg #[.bool bxm, .slice bxo bxn bxc, .slice bxp bxk bxd]) Lb bxq) (fby_0 : FQ w (.agg #[.bool bym, .slice byo byn byc, .slice byp byk byd]) Lb byq) (q : Bool) (h : (axq = bxq ∧ ayq = byq) ↔ q = true) :
    Calls Try.prog 17 #[.agg #[.bool axm, .slice axo axn axc, .slice axp axk axd, .bool aym, .slice ayo ayn ayc, .slice ayp ayk ayd], .agg #[.bool bxm, .slice bxo bxn bxc, .slice bxp bxk bxd, .bool bym, .slice byo byn byc, .slice byp byk byd]] w fun e w' => e = .returned (.bool q) ∧ Below w.heap.size w w' := by
  by_cases hx : axq = bxq
  · exact sSame_t La axq ayq Lb bxq byq w hLa hLb fax_0 fay_0 fbx_0 fby_0 hx q ⟨fun k => h.1 ⟨hx, k⟩, fun k => (h.2 k).2⟩
  · have e : q = false := by cases q with
      | false => rfl
      | true => exact absurd (h.2 rfl).1 hx
    subst e
    exact sSame_f La axq ayq Lb bxq byq w hLa hLb fax_0 fay_0 fbx_0 fby_0 hx
set_option maxHeartbeats 4000000 in
theorem sOn_n {sxm : Bool} {sxo : Option Addr} {sxn sxc : Nat} {sxp : Option Addr} {sxk sxd : Nat} {sym : Bool} {syo : Option Addr} {syn syc : Nat} {syp : Option Addr} {syk syd : Nat} {axm : Bool} {axo : Option Addr} {axn axc : Nat} {axp : Option Addr} {axk axd : Nat} {aym : Bool} {ayo : Option Addr} {ayn ayc : Nat} {ayp : Option Addr} {ayk ayd : Nat} {bxm : Bool} {bxo : Option Addr} {bxn bxc : Nat} {bxp : Option Addr} {bxk bxd : Nat} {bym : Bool} {byo : Option Addr} {byn byc : Nat} {byp : Option Addr} {byk byd : Nat} (Ls : Nat) (sxq syq : Rat) (La : Nat) (axq ayq : Rat) (Lb : Nat) (bxq byq : Rat) (w : World) (hLs : Ls ≤ 1000000) (hLa : La ≤ 1000000) (hLb : Lb ≤ 1000000) (fsx_0 : FQ w (.agg #[.bool sxm, .slice sxo sxn sxc, .slice sxp sxk sxd]) Ls sxq) (fsy_0 : FQ w (.agg #[.bool sym, .slice syo syn syc, .slice syp syk syd]) Ls syq) (fax_0 : FQ w (.agg #[.bool axm, .slice axo axn axc, .slice axp axk axd]) La axq) (fay_0 : FQ w (.agg #[.bool aym, .slice ayo ayn ayc, .slice ayp ayk ayd]) La ayq) (fbx_0 : FQ w (.agg #[.bool bxm, .slice bxo bxn bxc, .slice bxp bxk bxd]) Lb bxq) (fby_0 : FQ w (.agg #[.bool bym, .slice byo byn byc, .slice byp byk byd]) Lb byq) (h1 : withinQ sxq axq bxq = false) :
    Calls Try.prog 26 #[.agg #[.bool sxm, .slice sxo sxn sxc, .slice sxp sxk sxd, .bool sym, .slice syo syn syc, .slice syp syk syd], .agg #[.bool axm, .slice axo axn axc, .slice axp axk axd, .bool aym, .slice ayo ayn ayc, .slice ayp ayk ayd], .agg #[.bool bxm, .slice bxo bxn bxc, .slice bxp bxk bxd, .bool bym, .slice byo byn byc, .slice byp byk byd]] w fun e w' => e = .returned (.bool false) ∧ Below w.heap.size w w' := by
  have hB_0 := Below.refl w.heap.size w
  have HLs := Lib.hid hLs; have HLa := Lib.hid hLa; have HLb := Lib.hid hLb
  clear hLs hLa hLb
  have H1 := Lib.hid h1
  clear h1
  obtain ⟨w1, hw1, ps_0, hb1, hs1⟩ := new_box w (w.heap.size) rfl [.bool sxm, .slice sxo sxn sxc, .slice sxp sxk sxd, .bool sym, .slice syo syn syc, .slice syp syk syd] 33
  have hb1' : Below w.heap.size w w1 := hb1.mono (by omega)
  clear hb1
  have hB_1 := hB_0.trans (hb1'.mono hB_0.size)
  have fsx_1 := fsx_0.below hb1'
  have fsy_1 := fsy_0.below hb1'
  have fax_1 := fax_0.below hb1'
  have fay_1 := fay_0.below hb1'
  have fbx_1 := fbx_0.below hb1'
  have fby_1 := fby_0.below hb1'
  clear hb1' hB_0 fsx_0 fsy_0 fax_0 fay_0 fbx_0 fby_0
  obtain ⟨w2, hw2, pa_0, hb2, hs2⟩ := new_box w1 (w.heap.size + 1) hs1 [.bool axm, .slice axo axn axc, .slice axp axk axd, .bool aym, .slice ayo ayn ayc, .slice ayp ayk ayd] 33
  have hb2' : Below w1.heap.size w1 w2 := hb2.mono (by omega)
  clear hb2
  have hB_2 := hB_1.trans (hb2'.mono hB_1.size)
  have fsx_2 := fsx_1.below hb2'
  have fsy_2 := fsy_1.below hb2'
  have fax_2 := fax_1.below hb2'
  have fay_2 := fay_1.below hb2'
  have fbx_2 := fbx_1.below hb2'
  have fby_2 := fby_1.below hb2'
  have ps_1 := ps_0.below hb2'
  clear hb2' hB_1 fsx_1 fsy_1 fax_1 fay_1 fbx_1 fby_1 ps_0
  obtain ⟨w3, hw3, pb_0, hb3, hs3⟩ := new_box w2 (w.heap.size + 1 + 1) hs2 [.bool bxm, .slice bxo bxn bxc, .slice bxp bxk bxd, .bool bym, .slice byo byn byc, .slice byp byk byd] 33
  have hb3' : Below w2.heap.size w2 w3 := hb3.mono (by omega)
  clear hb3
  have hB_3 := hB_2.trans (hb3'.mono hB_2.size)
  have fsx_3 := fsx_2.below hb3'
  have fsy_3 := fsy_2.below hb3'
  have fax_3 := fax_2.below hb3'
  have fay_3 := fay_2.below hb3'
  have fbx_3 := fbx_2.below hb3'
  have fby_3 := fby_2.below hb3'
  have ps_2 := ps_1.below hb3'
  have pa_1 := pa_0.below hb3'
  clear hb3' hB_2 fsx_2 fsy_2 fax_2 fay_2 fbx_2 fby_2 ps_1 pa_0
  go_enter Try.func26, Try.ntmps26
  obtain ⟨pse0, pse1, pse2, pse3, pse4, pse5, pse6, pse7, pse8, pse9, pse10, pse11⟩ := ps_2.open6
  obtain ⟨pae0, pae1, pae2, pae3, pae4, pae5, pae6, pae7, pae8, pae9, pae10, pae11⟩ := pa_1.open6
  obtain ⟨pbe0, pbe1, pbe2, pbe3, pbe4, pbe5, pbe6, pbe7, pbe8, pbe9, pbe10, pbe11⟩ := pb_0.open6
  go_wp2_with fail
  refine (sWithin_any Ls La Lb sxq axq bxq _ (by have := HLa.out; have := HLb.out; have := HLs.out; omega) (by have := HLa.out; have := HLb.out; have := HLs.out; omega) (by have := HLa.out; have := HLb.out; have := HLs.out; omega) fsx_3 fax_3 fbx_3 false H1.out).mono ?_
  rintro e w4 ⟨rfl, hb4⟩
  clear pse0 pse1 pse2 pse3 pse4 pse5 pse6 pse7 pse8 pse9 pse10 pse11 pae0 pae1 pae2 pae3 pae4 pae5 pae6 pae7 pae8 pae9 pae10 pae11 pbe0 pbe1 pbe2 pbe3 pbe4 pbe5 pbe6 pbe7 pbe8 pbe9 pbe10 pbe11
  have hB_4 := hB_3.trans (hb4.mono hB_3.size)
  have fsx_4 := fsx_3.below hb4
  have fsy_4 := fsy_3.below hb4
  have fax_4 := fax_3.below hb4
  have fay_4 := fay_3.below hb4
  have fbx_4 := fbx_3.below hb4
  have fby_4 := fby_3.below hb4
  have ps_3 := ps_2.below hb4
  have pa_2 := pa_1.below hb4
  have pb_1 := pb_0.below hb4
  clear hb4 hB_3 fsx_3 fsy_3 fax_3 fay_3 fbx_3 fby_3 ps_2 pa_1 pb_0
  obtain ⟨pse0, pse1, pse2, pse3, pse4, pse5, pse6, pse7, pse8, pse9, pse10, pse11⟩ := ps_3.open6
  obtain ⟨pae0, pae1, pae2, pae3, pae4, pae5, pae6, pae7, pae8, pae9, pae10, pae11⟩ := pa_2.open6
  obtain ⟨pbe0, pbe1, pbe2, pbe3, pbe4, pbe5, pbe6, pbe7, pbe8, pbe9, pbe10, pbe11⟩ := pb_1.open6
  go_wp2
  go_ret
  exact ⟨rfl, hB_4⟩
set_option maxHeartbeats 4000000 in
theorem sOn_tf {sxm : Bool} {sxo : Option Addr} {sxn sxc : Nat} {sxp : Option Addr} {sxk sxd : Nat} {sym : Bool} {syo : Option Addr} {syn syc : Nat} {syp : Option Addr} {syk syd : Nat} {axm : Bool} {axo : Option Addr} {axn axc : Nat} {axp : Option Addr} {axk axd : Nat} {aym : Bool} {ayo : Option Addr} {ayn ayc : Nat} {ayp : Option Addr} {ayk ayd : Nat} {bxm : Bool} {bxo : Option Addr} {bxn bxc : Nat} {bxp : Option Addr} {bxk bxd : Nat} {bym : Bool} {byo : Option Addr} {byn byc : Nat} {byp : Option Addr} {byk byd : Nat} (Ls : Nat) (sxq syq : Rat) (La : Nat) (axq ayq : Rat) (Lb : Nat) (bxq byq : Rat) (w : World) (hLs : Ls ≤ 1000000) (hLa : La ≤ 1000000) (hLb : Lb ≤ 1000000) (fsx_0 : FQ w (.agg #[.bool sxm, .slice sxo sxn sxc, .slice sxp sxk sxd]) Ls sxq) (fsy_0 : FQ w (.agg #[.bool sym, .slice syo syn syc, .slice syp syk syd]) Ls syq) (fax_0 : FQ w (.agg #[.bool axm, .slice axo axn axc, .slice axp axk axd]) La axq) (fay_0 : FQ w (.agg #[.bool aym, .slice ayo ayn ayc, .slice ayp ayk ayd]) La ayq) (fbx_0 : FQ w (.agg #[.bool bxm, .slice bxo bxn bxc, .slice bxp bxk bxd]) Lb bxq) (fby_0 : FQ w (.agg #[.bool bym, .slice byo byn byc, .slice byp byk byd]) Lb byq) (h1 : withinQ sxq axq bxq = true) (h2 : withinQ syq ayq byq = false) :
    Calls Try.prog 26 #[.agg #[.bool sxm, .slice sxo sxn sxc, .slice sxp sxk sxd, .bool sym, .slice syo syn syc, .slice syp syk syd], .agg #[.bool axm, .slice axo axn axc, .slice axp axk axd, .bool aym, .slice ayo ayn ayc, .slice ayp ayk ayd], .agg #[.bool bxm, .slice bxo bxn bxc, .slice bxp bxk bxd, .bool bym, .slice byo byn byc, .slice byp byk byd]] w fun e w' => e = .returned (.bool false) ∧ Below w.heap.size w w' := by
  have hB_0 := Below.refl w.heap.size w
  have HLs := Lib.hid hLs; have HLa := Lib.hid hLa; have HLb := Lib.hid hLb
  clear hLs hLa hLb
  have H1 := Lib.hid h1; have H2 := Lib.hid h2
  clear h1 h2
  obtain ⟨w1, hw1, ps_0, hb1, hs1⟩ := new_box w (w.heap.size) rfl [.bool sxm, .slice sxo sxn sxc, .slice sxp sxk sxd, .bool sym, .slice syo syn syc, .slice syp syk syd] 33
  have hb1' : Below w.heap.size w w1 := hb1.mono (by omega)
  clear hb1
  have hB_1 := hB_0.trans (hb1'.mono hB_0.size)
  have fsx_1 := fsx_0.below hb1'
  have fsy_1 := fsy_0.below hb1'
  have fax_1 := fax_0.below hb1'
  have fay_1 := fay_0.below hb1'
  have fbx_1 := fbx_0.below hb1'
  have fby_1 := fby_0.below hb1'
  clear hb1' hB_0 fsx_0 fsy_0 fax_0 fay_0 fbx_0 fby_0
  obtain ⟨w2, hw2, pa_0, hb2, hs2⟩ := new_box w1 (w.heap.size + 1) hs1 [.bool axm, .slice axo axn axc, .slice axp axk axd, .bool aym, .slice ayo ayn ayc, .slice ayp ayk ayd] 33
  have hb2' : Below w1.heap.size w1 w2 := hb2.mono (by omega)
  clear hb2
  have hB_2 := hB_1.trans (hb2'.mono hB_1.size)
  have fsx_2 := fsx_1.below hb2'
  have fsy_2 := fsy_1.below hb2'
  have fax_2 := fax_1.below hb2'
  have fay_2 := fay_1.below hb2'
  have fbx_2 := fbx_1.below hb2'
  have fby_2 := fby_1.below hb2'
  have ps_1 := ps_0.below hb2'
  clear hb2' hB_1 fsx_1 fsy_1 fax_1 fay_1 fbx_1 fby_1 ps_0
  obtain ⟨w3, hw3, pb_0, hb3, hs3⟩ := new_box w2 (w.heap.size + 1 + 1) hs2 [.bool bxm, .slice bxo bxn bxc, .slice bxp bxk bxd, .bool bym, .slice byo byn byc, .slice byp byk byd] 33
  have hb3' : Below w2.heap.size w2 w3 := hb3.mono (by omega)
  clear hb3
  have hB_3 := hB_2.trans (hb3'.mono hB_2.size)
  have fsx_3 := fsx_2.below hb3'
  have fsy_3 := fsy_2.below hb3'
  have fax_3 := fax_2.below hb3'
  have fay_3 := fay_2.below hb3'
  have fbx_3 := fbx_2.below hb3'
  have fby_3 := fby_2.below hb3'
  have ps_2 := ps_1.below hb3'
  have pa_1 := pa_0.below hb3'
  clear hb3' hB_2 fsx_2 fsy_2 fax_2 fay_2 fbx_2 fby_2 ps_1 pa_0
  go_enter Try.func26, Try.ntmps26
  obtain ⟨pse0, pse1, pse2, pse3, pse4, pse5, pse6, pse7, pse8, pse9, pse10, pse11⟩ := ps_2.open6
  obtain ⟨pae0, pae1, pae2, pae3, pae4, pae5, pae6, pae7, pae8, pae9, pae10, pae11⟩ := pa_1.open6
  obtain ⟨pbe0, pbe1, pbe2, pbe3, pbe4, pbe5, pbe6, pbe7, pbe8, pbe9, pbe10, pbe11⟩ := pb_0.open6
  go_wp2_with fail
  refine (sWithin_any Ls La Lb sxq axq bxq _ (by have := HLa.out; have := HLb.out; have := HLs.out; omega) (by have := HLa.out; have := HLb.out; have := HLs.out; omega) (by have := HLa.out; have := HLb.out; have := HLs.out; omega) fsx_3 fax_3 fbx_3 true H1.out).mono ?_
  rintro e w4 ⟨rfl, hb4⟩
  clear pse0 pse1 pse2 pse3 pse4 pse5 pse6 pse7 pse8 pse9 pse10 pse11 pae0 pae1 pae2 pae3 pae4 pae5 pae6 pae7 pae8 pae9 pae10 pae11 pbe0 pbe1 pbe2 pbe3 pbe4 pbe5 pbe6 pbe7 pbe8 pbe9 pbe10 pbe11
  have hB_4 := hB_3.trans (hb4.mono hB_3.size)
  have fsx_4 := fsx_3.below hb4
  have fsy_4 := fsy_3.below hb4
  have fax_4 := fax_3.below hb4
  have fay_4 := fay_3.below hb4
  have fbx_4 := fbx_3.below hb4
  have fby_4 := fby_3.below hb4
  have ps_3 := ps_2.below hb4
  have pa_2 := pa_1.below hb4
  have pb_1 := pb_0.below hb4
  clear hb4 hB_3 fsx_3 fsy_3 fax_3 fay_3 fbx_3 fby_3 ps_2 pa_1 pb_0
  obtain ⟨pse0, pse1, pse2, pse3, pse4, pse5, pse6, pse7, pse8, pse9, pse10, pse11⟩ := ps_3.open6
  obtain ⟨pae0, pae1, pae2, pae3, pae4, pae5, pae6, pae7, pae8, pae9, pae10, pae11⟩ := pa_2.open6
  obtain ⟨pbe0, pbe1, pbe2, pbe3, pbe4, pbe5, pbe6, pbe7, pbe8, pbe9, pbe10, pbe11⟩ := pb_1.open6
  go_wp2_with fail
  refine (sWithin_any Ls La Lb syq ayq byq _ (by have := HLa.out; have := HLb.out; have := HLs.out; omega) (by have := HLa.out; have := HLb.out; have := HLs.out; omega) (by have := HLa.out; have := HLb.out; have := HLs.out; omega) fsy_4 fay_4 fby_4 false H2.out).mono ?_
  rintro e w5 ⟨rfl, hb5⟩
  clear pse0 pse1 pse2 pse3 pse4 pse5 pse6 pse7 pse8 pse9 pse10 pse11 pae0 pae1 pae2 pae3 pae4 pae5 pae6 pae7 pae8 pae9 pae10 pae11 pbe0 pbe1 pbe2 pbe3 pbe4 pbe5 pbe6 pbe7 pbe8 pbe9 pbe10 pbe11
  have hB_5 := hB_4.trans (hb5.mono hB_4.size)
  have fsx_5 := fsx_4.below hb5
  have fsy_5 := fsy_4.below hb5
  have fax_5 := fax_4.below hb5
  have fay_5 := fay_4.below hb5
  have fbx_5 := fbx_4.below hb5
  have fby_5 := fby_4.below hb5
  have ps_4 := ps_3.below hb5
  have pa_3 := pa_2.below hb5
  have pb_2 := pb_1.below hb5
  clear hb5 hB_4 fsx_4 fsy_4 fax_4 fay_4 fbx_4 fby_4 ps_3 pa_2 pb_1
  obtain ⟨pse0, pse1, pse2, pse3, pse4, pse5, pse6, pse7, pse8, pse9, pse10, pse11⟩ := ps_4.open6
  obtain ⟨pae0, pae1, pae2, pae3, pae4, pae5, pae6, pae7, pae8, pae9, pae10, pae11⟩ := pa_3.open6
  obtain ⟨pbe0, pbe1, pbe2, pbe3, pbe4, pbe5, pbe6, pbe7, pbe8, pbe9, pbe10, pbe11⟩ := pb_2.open6
  go_wp2
  go_ret
  exact ⟨rfl, hB_5⟩
set_option maxHeartbeats 4000000 in
theorem sOn_tt {sxm : Bool} {sxo : Option Addr} {sxn sxc : Nat} {sxp : Option Addr} {sxk sxd : Nat} {sym : Bool} {syo : Option Addr} {syn syc : Nat} {syp : Option Addr} {syk syd : Nat} {axm : Bool} {axo : Option Addr} {axn axc : Nat} {axp : Option Addr} {axk axd : Nat} {aym : Bool} {ayo : Option Addr} {ayn ayc : Nat} {ayp : Option Addr} {ayk ayd : Nat} {bxm : Bool} {bxo : Option Addr} {bxn bxc : Nat} {bxp : Option Addr} {bxk bxd : Nat} {bym : Bool} {byo : Option Addr} {byn byc : Nat} {byp : Option Addr} {byk byd : Nat} (Ls : Nat) (sxq syq : Rat) (La : Nat) (axq ayq : Rat) (Lb : Nat) (bxq byq : Rat) (w : World) (hLs : Ls ≤ 1000000) (hLa : La ≤ 1000000) (hLb : Lb ≤ 1000000) (fsx_0 : FQ w (.agg #[.bool sxm, .slice sxo sxn sxc, .slice sxp sxk sxd]) Ls sxq) (fsy_0 : FQ w (.agg #[.bool sym, .slice syo syn syc, .slice syp syk syd]) Ls syq) (fax_0 : FQ w (.agg #[.bool axm, .slice axo axn axc, .slice axp axk axd]) La axq) (fay_0 : FQ w (.agg #[.bool aym, .slice ayo ayn ayc, .slice ayp ayk ayd]) La ayq) (fbx_0 : FQ w (.agg #[.bool bxm, .slice bxo bxn bxc, .slice bxp bxk bxd]) Lb bxq) (fby_0 : FQ w (.agg #[.bool bym, .slice byo byn byc, .slice byp byk byd]) Lb byq) (h1 : withinQ sxq axq bxq = true) (h2 : withinQ syq ayq byq = true) (d : Int) (q : Bool) (h3 : sideQ axq ayq bxq byq sxq syq = d) (h4 : (d == 0) = q) :
    Calls Try.prog 26 #[.agg #[.bool sxm, .slice sxo sxn sxc, .slice sxp sxk sxd, .bool sym, .slice syo syn syc, .slice syp syk syd], .agg #[.bool axm, .slice axo axn axc, .slice axp axk axd, .bool aym, .slice ayo ayn ayc, .slice ayp ayk ayd], .agg #[.bool bxm, .slice bxo bxn bxc, .slice bxp bxk bxd, .bool bym, .slice byo byn byc, .slice byp byk byd]] w fun e w' => e = .returned (.bool q) ∧ Below w.heap.size w w' := by
  have hB_0 := Below.refl w.heap.size w
  have HLs := Lib.hid hLs; have HLa := Lib.hid hLa; have HLb := Lib.hid hLb
  clear hLs hLa hLb
  have H1 := Lib.hid h1; have H2 := Lib.hid h2; have H3 := Lib.hid h3; have H4 := Lib.hid h4
  clear h1 h2 h3 h4
  have e4 := H4.out
  obtain ⟨w1, hw1, ps_0, hb1, hs1⟩ := new_box w (w.heap.size) rfl [.bool sxm, .slice sxo sxn sxc, .slice sxp sxk sxd, .bool sym, .slice syo syn syc, .slice syp syk syd] 33
  have hb1' : Below w.heap.size w w1 := hb1.mono (by omega)
  clear hb1
  have hB_1 := hB_0.trans (hb1'.mono hB_0.size)
  have fsx_1 := fsx_0.below hb1'
  have fsy_1 := fsy_0.below hb1'
  have fax_1 := fax_0.below hb1'
  have fay_1 := fay_0.below hb1'
  have fbx_1 := fbx_0.below hb1'
  have fby_1 := fby_0.below hb1'
  clear hb1' hB_0 fsx_0 fsy_0 fax_0 fay_0 fbx_0 fby_0
  obtain ⟨w2, hw2, pa_0, hb2, hs2⟩ := new_box w1 (w.heap.size + 1) hs1 [.bool axm, .slice axo axn axc, .slice axp axk axd, .bool aym, .slice ayo ayn ayc, .slice ayp ayk ayd] 33
  have hb2' : Below w1.heap.size w1 w2 := hb2.mono (by omega)
  clear hb2
  have hB_2 := hB_1.trans (hb2'.mono hB_1.size)
  have fsx_2 := fsx_1.below hb2'
  have fsy_2 := fsy_1.below hb2'
  have fax_2 := fax_1.below hb2'
  have fay_2 := fay_1.below hb2'
  have fbx_2 := fbx_1.below hb2'
  have fby_2 := fby_1.below hb2'
  have ps_1 := ps_0.below hb2'
  clear hb2' hB_1 fsx_1 fsy_1 fax_1 fay_1 fbx_1 fby_1 ps_0
  obtain ⟨w3, hw3, pb_0, hb3, hs3⟩ := new_box w2 (w.heap.size + 1 + 1) hs2 [.bool bxm, .slice bxo bxn bxc, .slice bxp bxk bxd, .bool bym, .slice byo byn byc, .slice byp byk byd] 33
  have hb3' : Below w2.heap.size w2 w3 := hb3.mono (by omega)
  clear hb3
  have hB_3 := hB_2.trans (hb3'.mono hB_2.size)
  have fsx_3 := fsx_2.below hb3'
  have fsy_3 := fsy_2.below hb3'
  have fax_3 := fax_2.below hb3'
  have fay_3 := fay_2.below hb3'
  have fbx_3 := fbx_2.below hb3'
  have fby_3 := fby_2.below hb3'
  have ps_2 := ps_1.below hb3'
  have pa_1 := pa_0.below hb3'
  clear hb3' hB_2 fsx_2 fsy_2 fax_2 fay_2 fbx_2 fby_2 ps_1 pa_0
  go_enter Try.func26, Try.ntmps26
  obtain ⟨pse0, pse1, pse2, pse3, pse4, pse5, pse6, pse7, pse8, pse9, pse10, pse11⟩ := ps_2.open6
  obtain ⟨pae0, pae1, pae2, pae3, pae4, pae5, pae6, pae7, pae8, pae9, pae10, pae11⟩ := pa_1.open6
  obtain ⟨pbe0, pbe1, pbe2, pbe3, pbe4, pbe5, pbe6, pbe7, pbe8, pbe9, pbe10, pbe11⟩ := pb_0.open6
  go_wp2_with fail
  refine (sWithin_any Ls La Lb sxq axq bxq _ (by have := HLa.out; have := HLb.out; have := HLs.out; omega) (by have := HLa.out; have := HLb.out; have := HLs.out; omega) (by have := HLa.out; have := HLb.out; have := HLs.out; omega) fsx_3 fax_3 fbx_3 true H1.out).mono ?_
  rintro e w4 ⟨rfl, hb4⟩
  clear pse0 pse1 pse2 pse3 pse4 pse5 pse6 pse7 pse8 pse9 pse10 pse11 pae0 pae1 pae2 pae3 pae4 pae5 pae6 pae7 pae8 pae9 pae10 pae11 pbe0 pbe1 pbe2 pbe3 pbe4 pbe5 pbe6 pbe7 pbe8 pbe9 pbe10 pbe11
  have hB_4 := hB_3.trans (hb4.mono hB_3.size)
  have fsx_4 := fsx_3.below hb4
  have fsy_4 := fsy_3.below hb4
  have fax_4 := fax_3.below hb4
  have fay_4 := fay_3.below hb4
  have fbx_4 := fbx_3.below hb4
  have fby_4 := fby_3.below hb4
  have ps_3 := ps_2.below hb4
  have pa_2 := pa_1.below hb4
  have pb_1 := pb_0.below hb4
  clear hb4 hB_3 fsx_3 fsy_3 fax_3 fay_3 fbx_3 fby_3 ps_2 pa_1 pb_0
  obtain ⟨pse0, pse1, pse2, pse3, pse4, pse5, pse6, pse7, pse8, pse9, pse10, pse11⟩ := ps_3.open6
  obtain ⟨pae0, pae1, pae2, pae3, pae4, pae5, pae6, pae7, pae8, pae9, pae10, pae11⟩ := pa_2.open6
  obtain ⟨pbe0, pbe1, pbe2, pbe3, pbe4, pbe5, pbe6, pbe7, pbe8, pbe9, pbe10, pbe11⟩ := pb_1.open6
  go_wp2_with fail
  refine (sWithin_any Ls La Lb syq ayq byq _ (by have := HLa.out; have := HLb.out; have := HLs.out; omega) (by have := HLa.out; have := HLb.out; have := HLs.out; omega) (by have := HLa.out; have := HLb.out; have := HLs.out; omega) fsy_4 fay_4 fby_4 true H2.out).mono ?_
  rintro e w5 ⟨rfl, hb5⟩
  clear pse0 pse1 pse2 pse3 pse4 pse5 pse6 pse7 pse8 pse9 pse10 pse11 pae0 pae1 pae2 pae3 pae4 pae5 pae6 pae7 pae8 pae9 pae10 pae11 pbe0 pbe1 pbe2 pbe3 pbe4 pbe5 pbe6 pbe7 pbe8 pbe9 pbe10 pbe11
  have hB_5 := hB_4.trans (hb5.mono hB_4.size)
  have fsx_5 := fsx_4.below hb5
  have fsy_5 := fsy_4.below hb5
  have fax_5 := fax_4.below hb5
  have fay_5 := fay_4.below hb5
  have fbx_5 := fbx_4.below hb5
  have fby_5 := fby_4.below hb5
  have ps_4 := ps_3.below hb5
  have pa_3 := pa_2.below hb5
  have pb_2 := pb_1.below hb5
  clear hb5 hB_4 fsx_4 fsy_4 fax_4 fay_4 fbx_4 fby_4 ps_3 pa_2 pb_1
  obtain ⟨pse0, pse1, pse2, pse3, pse4, pse5, pse6, pse7, pse8, pse9, pse10, pse11⟩ := ps_4.open6
  obtain ⟨pae0, pae1, pae2, pae3, pae4, pae5, pae6, pae7, pae8, pae9, pae10, pae11⟩ := pa_3.open6
  obtain ⟨pbe0, pbe1, pbe2, pbe3, pbe4, pbe5, pbe6, pbe7, pbe8, pbe9, pbe10, pbe11⟩ := pb_2.open6
  go_wp2_with fail
  refine (sSide_any La axq ayq Lb bxq byq Ls sxq syq d _ (by have := HLa.out; have := HLb.out; have := HLs.out; omega) (by have := HLa.out; have := HLb.out; have := HLs.out; omega) (by have := HLa.out; have := HLb.out; have := HLs.out; omega) fax_5 fay_5 fbx_5 fby_5 fsx_5 fsy_5 H3.out).mono ?_
  rintro e w6 ⟨rfl, hb6⟩
  clear pse0 pse1 pse2 pse3 pse4 pse5 pse6 pse7 pse8 pse9 pse10 pse11 pae0 pae1 pae2 pae3 pae4 pae5 pae6 pae7 pae8 pae9 pae10 pae11 pbe0 pbe1 pbe2 pbe3 pbe4 pbe5 pbe6 pbe7 pbe8 pbe9 pbe10 pbe11
  have hB_6 := hB_5.trans (hb6.mono hB_5.size)
  have fsx_6 := fsx_5.below hb6
  have fsy_6 := fsy_5.below hb6
  have fax_6 := fax_5.below hb6
  have fay_6 := fay_5.below hb6
  have fbx_6 := fbx_5.below hb6
  have fby_6 := fby_5.below hb6
  have ps_5 := ps_4.below hb6
  have pa_4 := pa_3.below hb6
  have pb_3 := pb_2.below hb6
  clear hb6 hB_5 fsx_5 fsy_5 fax_5 fay_5 fbx_5 fby_5 ps_4 pa_3 pb_2
  obtain ⟨pse0, pse1, pse2, pse3, pse4, pse5, pse6, pse7, pse8, pse9, pse10, pse11⟩ := ps_5.open6
  obtain ⟨pae0, pae1, pae2, pae3, pae4, pae5, pae6, pae7, pae8, pae9, pae10, pae11⟩ := pa_4.open6
  obtain ⟨pbe0, pbe1, pbe2, pbe3, pbe4, pbe5, pbe6, pbe7, pbe8, pbe9, pbe10, pbe11⟩ := pb_3.open6
  go_wp2
  go_ret
  exact ⟨rfl, hB_6⟩
theorem sOn_any {sxm : Bool} {sxo : Option Addr} {sxn sxc : Nat} {sxp : Option Addr} {sxk sxd : Nat} {sym : Bool} {syo : Option Addr} {syn syc : Nat} {syp : Option Addr} {syk syd : Nat} {axm : Bool} {axo : Option Addr} {axn axc : Nat} {axp : Option Addr} {axk axd : Nat} {aym : Bool} {ayo : Option Addr} {ayn ayc : Nat} {ayp : Option Addr} {ayk ayd : Nat} {bxm : Bool} {bxo : Option Addr} {bxn bxc : Nat} {bxp : Option Addr} {bxk bxd : Nat} {bym : Bool} {byo : Option Addr} {byn byc : Nat} {byp : Option Addr} {byk byd : Nat} (Ls : Nat) (sxq syq : Rat) (La : Nat) (axq ayq : Rat) (Lb : Nat) (bxq byq : Rat) (w : World) (hLs : Ls ≤ 1000000) (hLa : La ≤ 1000000) (hLb : Lb ≤ 1000000) (fsx_0 : FQ w (.agg #[.bool sxm, .slice sxo sxn sxc, .slice sxp sxk sxd]) Ls sxq) (fsy_0 : FQ w (.agg #[.bool sym, .slice syo syn syc, .slice syp syk syd]) Ls syq) (fax_0 : FQ w (.agg #[.bool axm, .slice axo axn axc, .slice axp axk axd]) La axq) (fay_0 : FQ w (.agg #[.bool aym, .slice ayo ayn ayc, .slice ayp ayk ayd]) La ayq) (fbx_0 : FQ w (.agg #[.bool bxm, .slice bxo bxn bxc, .slice bxp bxk bxd]) Lb bxq) (fby_0 : FQ w (.agg #[.bool bym, .slice byo byn byc, .slice byp byk byd]) Lb byq) (q : Bool) (h : onQ sxq syq axq ayq bxq byq = q) :
    Calls Try.prog 26 #[.agg #[.bool sxm, .slice sxo sxn sxc, .slice sxp sxk sxd, .bool sym, .slice syo syn syc, .slice syp syk syd], .agg #[.bool axm, .slice axo axn axc, .slice axp axk axd, .bool aym, .slice ayo ayn ayc, .slice ayp ayk ayd], .agg #[.bool bxm, .slice bxo bxn bxc, .slice bxp bxk bxd, .bool bym, .slice byo byn byc, .slice byp byk byd]] w fun e w' => e = .returned (.bool q) ∧ Below w.heap.size w w' := by
  subst h; unfold onQ
  cases h1 : withinQ sxq axq bxq with
  | false => exact sOn_n Ls sxq syq La axq ayq Lb bxq byq w hLs hLa hLb fsx_0 fsy_0 fax_0 fay_0 fbx_0 fby_0 h1
  | true =>
    cases h2 : withinQ syq ayq byq with
    | false => exact sOn_tf Ls sxq syq La axq ayq Lb bxq byq w hLs hLa hLb fsx_0 fsy_0 fax_0 fay_0 fbx_0 fby_0 h1 h2
    | true => exact sOn_tt Ls sxq syq La axq ayq Lb bxq byq w hLs hLa hLb fsx_0 fsy_0 fax_0 fay_0 fbx_0 fby_0 h1 h2 _ _ rfl (by simp)
end Go.Proofs.Ytkcfaddilknelaa
/- Sums of two and three, and of none. -/
namespace Go.Proofs.Ytkcfaddilknelaa
open Go.RowKit Go.MagM
theorem nums_two (w : World) (T : TypeId) {L1 L2 : Nat} {X Y : Int} {m1 m2 : Bool} {o1 o2 : Option Addr} {n1 c1 n2 c2 : Nat} (h1 : Num w (.agg #[.bool m1, .slice o1 n1 c1]) L1 X) (h2 : Num w (.agg #[.bool m2, .slice o2 n2 c2]) L2 Y) :
    Nums (w.alloc (.cells #[.bool m1, .slice o1 n1 c1, .bool m2, .slice o2 n2 c2] T)) (some ⟨w.heap.size, 0, none⟩) [(L1, X), (L2, Y)] := by
  have hb : Below w.heap.size w (w.alloc (.cells #[.bool m1, .slice o1 n1 c1, .bool m2, .slice o2 n2 c2] T)) := (Below.refl _ _).alloc (Nat.le_refl _) _
  intro i L Z hi
  have hi2 : i < 2 := by have := (List.getElem?_eq_some_iff.1 hi).1; simpa using this
  obtain rfl | rfl : i = 0 ∨ i = 1 := by omega
  · simp at hi; obtain ⟨rfl, rfl⟩ := hi
    exact ⟨_, 0, m1, o1, n1, c1, rfl, by simp [go_sem], by simp [go_sem], h1.below hb⟩
  · simp at hi; obtain ⟨rfl, rfl⟩ := hi
    exact ⟨_, 0, m2, o2, n2, c2, rfl, by simp [go_sem], by simp [go_sem], h2.below hb⟩
theorem nums_three (w : World) (T : TypeId) {L1 L2 L3 : Nat} {X Y Z : Int} {m1 m2 m3 : Bool} {o1 o2 o3 : Option Addr} {n1 c1 n2 c2 n3 c3 : Nat} (h1 : Num w (.agg #[.bool m1, .slice o1 n1 c1]) L1 X) (h2 : Num w (.agg #[.bool m2, .slice o2 n2 c2]) L2 Y) (h3 : Num w (.agg #[.bool m3, .slice o3 n3 c3]) L3 Z) :
    Nums (w.alloc (.cells #[.bool m1, .slice o1 n1 c1, .bool m2, .slice o2 n2 c2, .bool m3, .slice o3 n3 c3] T)) (some ⟨w.heap.size, 0, none⟩) [(L1, X), (L2, Y), (L3, Z)] := by
  have hb : Below w.heap.size w (w.alloc (.cells #[.bool m1, .slice o1 n1 c1, .bool m2, .slice o2 n2 c2, .bool m3, .slice o3 n3 c3] T)) := (Below.refl _ _).alloc (Nat.le_refl _) _
  intro i L Z hi
  have hi2 : i < 3 := by have := (List.getElem?_eq_some_iff.1 hi).1; simpa using this
  obtain rfl | rfl | rfl : i = 0 ∨ i = 1 ∨ i = 2 := by omega
  · simp at hi; obtain ⟨rfl, rfl⟩ := hi
    exact ⟨_, 0, m1, o1, n1, c1, rfl, by simp [go_sem], by simp [go_sem], h1.below hb⟩
  · simp at hi; obtain ⟨rfl, rfl⟩ := hi
    exact ⟨_, 0, m2, o2, n2, c2, rfl, by simp [go_sem], by simp [go_sem], h2.below hb⟩
  · simp at hi; obtain ⟨rfl, rfl⟩ := hi
    exact ⟨_, 0, m3, o3, n3, c3, rfl, by simp [go_sem], by simp [go_sem], h3.below hb⟩
theorem box_lt {w : World} {g : Nat} {u v : Value} (h : Box2 w g u v) : g < w.heap.size := World.block_lt_of_cell? w ⟨g, 0, none⟩ h.c0
theorem Nums.drew {w : World} {ao : Option Addr} {l : List (Nat × Int)} (h : Nums w ao l) : Nums w.drew ao l := h
end Go.Proofs.Ytkcfaddilknelaa
/- The calls of pred: Circle. -/
namespace Go.Proofs.Ytkcfaddilknelaa
open Go.RowKit Go.MagM
theorem nums3_box {w : World} {g : Nat} {L1 L2 L3 : Nat} {X Y Z : Int} {m1 m2 m3 : Bool} {o1 o2 o3 : Option Addr} {n1 c1 n2 c2 n3 c3 : Nat} (h : Box w g [.bool m1, .slice o1 n1 c1, .bool m2, .slice o2 n2 c2, .bool m3, .slice o3 n3 c3])
    (h1 : Num w (.agg #[.bool m1, .slice o1 n1 c1]) L1 X) (h2 : Num w (.agg #[.bool m2, .slice o2 n2 c2]) L2 Y) (h3 : Num w (.agg #[.bool m3, .slice o3 n3 c3]) L3 Z) :
    Nums w (some ⟨g, 0, none⟩) [(L1, X), (L2, Y), (L3, Z)] := by
  intro i L Z hi
  have hi2 : i < 3 := by have := (List.getElem?_eq_some_iff.1 hi).1; simpa using this
  obtain rfl | rfl | rfl : i = 0 ∨ i = 1 ∨ i = 2 := by omega
  · simp at hi; obtain ⟨rfl, rfl⟩ := hi
    exact ⟨_, 0, m1, o1, n1, c1, rfl, h.c0, h.c1, h1⟩
  · simp at hi; obtain ⟨rfl, rfl⟩ := hi
    exact ⟨_, 0, m2, o2, n2, c2, rfl, h.c2, h.c3, h2⟩
  · simp at hi; obtain ⟨rfl, rfl⟩ := hi
    exact ⟨_, 0, m3, o3, n3, c3, rfl, h.c4, h.c5, h3⟩
theorem Sign_named (va : Value) (L : Nat) (X s : Int) (w : World) (hL : L ≤ 4000000000) (ha : Num w va L X) (h : X.sign = s) :
    Calls Try.prog 41 #[va] w fun e w' => e = .returned (.int .i64 s) ∧ Below w.heap.size w w' := by
  subst h; exact Sign_any va L X w hL ha
theorem Cmp_named (va vb : Value) (L L' : Nat) (X Y s : Int) (w : World) (hL : L ≤ 4000000000) (hL' : L' ≤ 4000000000) (ha : Num w va L X) (hb : Num w vb L' Y) (h : icmp X Y = s) :
    Calls Try.prog 58 #[va, vb] w fun e w' => e = .returned (.int .i64 s) ∧ Below w.heap.size w w' := by
  subst h; exact nCmp_any va vb L L' X Y w hL hL' ha hb
end Go.Proofs.Ytkcfaddilknelaa
/- The calls of spot: less, beyond, Centre. -/
namespace Go.Proofs.Ytkcfaddilknelaa
open Go.RowKit Go.MagM
def AnsSt (w w' : World) (e : Ending) (L : Nat) (p q : Rat) : Prop := ∃ m ao n c bo k d m2 ao2 n2 c2 bo2 k2 d2, e = .returned (.tuple #[.agg #[.bool m, .slice ao n c, .slice bo k d, .bool m2, .slice ao2 n2 c2, .slice bo2 k2 d2], .bool true]) ∧
  RF w' (.agg #[.bool m, .slice ao n c, .slice bo k d]) L p ∧ RF w' (.agg #[.bool m2, .slice ao2 n2 c2, .slice bo2 k2 d2]) L q ∧ Below w.heap.size w w'
theorem AnsSt.of {w w' : World} {e : Ending} {L L' : Nat} {p q p' q' : Rat} (h : AnsSt w w' e L p q) (hL : L ≤ L') (hp : p = p') (hq : q = q') : AnsSt w w' e L' p' q' := by
  subst hp hq; obtain ⟨m, ao, n, c, bo, k, d, m2, ao2, n2, c2, bo2, k2, d2, h1, h2, h3, h4⟩ := h; exact ⟨m, ao, n, c, bo, k, d, m2, ao2, n2, c2, bo2, k2, d2, h1, h2.more hL, h3.more hL, h4⟩
set_option maxHeartbeats 4000000 in
theorem sless_any {am : Bool} {ao : Option Addr} {an ac : Nat} {bm : Bool} {bo : Option Addr} {bn bc : Nat} (La Lb : Nat) (Xa Xb p q : Int) (w : World) (ha : La ≤ 1000000) (hb : Lb ≤ 1000000) (hp1 : -9223372036854775808 ≤ p) (hp2 : p < 9223372036854775808) (hq1 : -9223372036854775808 ≤ q) (hq2 : q < 9223372036854775808) (fa_0 : Num w (.agg #[.bool am, .slice ao an ac]) La Xa) (fb_0 : Num w (.agg #[.bool bm, .slice bo bn bc]) Lb Xb) :
    Calls Try.prog 42 #[.agg #[.bool am, .slice ao an ac], .int .i64 p, .agg #[.bool bm, .slice bo bn bc], .int .i64 q] w fun e w' => AnsNum w w' e (max (La + 1) (Lb + 1) + 1) (Xa * p - Xb * q) := by
  have hB_0 := Below.refl w.heap.size w
  have HP1 := Lib.hid hp1; have HP2 := Lib.hid hp2; have HQ1 := Lib.hid hq1; have HQ2 := Lib.hid hq2; have HA := Lib.hid ha; have HB := Lib.hid hb
  clear hp1 hp2 hq1 hq2 ha hb
  obtain ⟨w1, hw1, pa_0, hb1, hs1⟩ := new_box w (w.heap.size) rfl [.bool am, .slice ao an ac] 29
  have hb1' : Below w.heap.size w w1 := hb1.mono (by omega)
  clear hb1
  have hB_1 := hB_0.trans (hb1'.mono hB_0.size)
  have fa_1 := fa_0.below hb1'
  have fb_1 := fb_0.below hb1'
  clear hb1' hB_0 fa_0 fb_0
  obtain ⟨w2, hw2, pb_0, hb2, hs2⟩ := new_box w1 (w.heap.size + 1) hs1 [.bool bm, .slice bo bn bc] 29
  have hb2' : Below w1.heap.size w1 w2 := hb2.mono (by omega)
  clear hb2
  have hB_2 := hB_1.trans (hb2'.mono hB_1.size)
  have fa_2 := fa_1.below hb2'
  have fb_2 := fb_1.below hb2'
  have pa_1 := pa_0.below hb2'
  clear hb2' hB_1 fa_1 fb_1 pa_0
  obtain ⟨w3, hw3, pr_0, hb3, hs3⟩ := new_box w2 (w.heap.size + 1 + 1) hs2 [.bool false, .slice none 0 0] 29
  have hb3' : Below w2.heap.size w2 w3 := hb3.mono (by omega)
  clear hb3
  have hB_3 := hB_2.trans (hb3'.mono hB_2.size)
  have fa_3 := fa_2.below hb3'
  have fb_3 := fb_2.below hb3'
  have pa_2 := pa_1.below hb3'
  have pb_1 := pb_0.below hb3'
  clear hb3' hB_2 fa_2 fb_2 pa_1 pb_0
  go_enter Try.func42, Try.ntmps42
  go_wp2
  have hB_4 := hB_3.drew'
  have fa_4 := fa_3.drew
  have fb_4 := fb_3.drew
  have pa_3 := pa_2.drew
  have pb_2 := pb_1.drew
  have pr_1 := pr_0.drew
  clear hB_3 fa_3 fb_3 pa_2 pb_1 pr_0
  go_region_held3 (fun w' => w'.cell? ⟨w.heap.size, 0, none⟩ = some (.bool am) ∧ w'.cell? ⟨w.heap.size, 1, none⟩ = some (.slice ao an ac) ∧ w'.cell? ⟨w.heap.size + 1, 0, none⟩ = some (.bool bm) ∧ w'.cell? ⟨w.heap.size + 1, 1, none⟩ = some (.slice bo bn bc))
    (first | with_reducible exact ⟨pa_3.c0, pa_3.c1, pb_2.c0, pb_2.c1⟩ | with_reducible exact ⟨pa_4.c0, pa_4.c1, pb_3.c0, pb_3.c1⟩ | with_reducible exact ⟨pa_5.c0, pa_5.c1, pb_4.c0, pb_4.c1⟩ | with_reducible exact ⟨pa_6.c0, pa_6.c1, pb_5.c0, pb_5.c1⟩ | with_reducible exact ⟨pa_7.c0, pa_7.c1, pb_6.c0, pb_6.c1⟩ | with_reducible exact ⟨pa_8.c0, pa_8.c1, pb_7.c0, pb_7.c1⟩ | with_reducible exact ⟨pa_9.c0, pa_9.c1, pb_8.c0, pb_8.c1⟩ | fail)
    (first
      | (go_at_call 31; (with_reducible refine (nOf_any p HP1.out HP2.out _).mono ?_); rintro e w4 ⟨m1, o1, n1, c1, rfl, f1_0, hb4⟩; have hB_5 := hB_4.trans (hb4.mono hB_4.size); have fa_5 := fa_4.below hb4; have fb_5 := fb_4.below hb4; have pa_4 := pa_3.below hb4; have pb_3 := pb_2.below hb4; have pr_2 := pr_1.below hb4; clear hb4 hB_4 fa_4 fb_4 pa_3 pb_2 pr_1)
      | (go_at_call 37; (with_reducible refine (nMul_any _ _ La 1 Xa p _ (by have := HA.out; have := HB.out; omega) (by omega) fa_5 f1_0.num).mono ?_); rintro e w5 ⟨m2, o2, n2, c2, rfl, f2_0, hb5⟩; have hB_6 := hB_5.trans (hb5.mono hB_5.size); have fa_6 := fa_5.below hb5; have fb_6 := fb_5.below hb5; have pa_5 := pa_4.below hb5; have pb_4 := pb_3.below hb5; have pr_3 := pr_2.below hb5; have f1_1 := f1_0.below hb5; clear hb5 hB_5 fa_5 fb_5 pa_4 pb_3 pr_2 f1_0)
      | (go_at_call 31; (with_reducible refine (nOf_any q HQ1.out HQ2.out _).mono ?_); rintro e w6 ⟨m3, o3, n3, c3, rfl, f3_0, hb6⟩; have hB_7 := hB_6.trans (hb6.mono hB_6.size); have fa_7 := fa_6.below hb6; have fb_7 := fb_6.below hb6; have pa_6 := pa_5.below hb6; have pb_5 := pb_4.below hb6; have pr_4 := pr_3.below hb6; have f1_2 := f1_1.below hb6; have f2_1 := f2_0.below hb6; clear hb6 hB_6 fa_6 fb_6 pa_5 pb_4 pr_3 f1_1 f2_0)
      | (go_at_call 37; (with_reducible refine (nMul_any _ _ Lb 1 Xb q _ (by have := HA.out; have := HB.out; omega) (by omega) fb_7 f3_0.num).mono ?_); rintro e w7 ⟨m4, o4, n4, c4, rfl, f4_0, hb7⟩; have hB_8 := hB_7.trans (hb7.mono hB_7.size); have fa_8 := fa_7.below hb7; have fb_8 := fb_7.below hb7; have pa_7 := pa_6.below hb7; have pb_6 := pb_5.below hb7; have pr_5 := pr_4.below hb7; have f1_3 := f1_2.below hb7; have f2_2 := f2_1.below hb7; have f3_1 := f3_0.below hb7; clear hb7 hB_7 fa_7 fb_7 pa_6 pb_5 pr_4 f1_2 f2_1 f3_0)
      | (go_at_call 68; (with_reducible refine (nSub_any _ _ (La + 1) (Lb + 1) _ _ _ (by have := HA.out; have := HB.out; omega) (by have := HA.out; have := HB.out; omega) f2_2.num f4_0.num).mono ?_); rintro e w8 ⟨m5, o5, n5, c5, rfl, f5_0, hb8⟩; have hB_9 := hB_8.trans (hb8.mono hB_8.size); have fa_9 := fa_8.below hb8; have fb_9 := fb_8.below hb8; have pa_8 := pa_7.below hb8; have pb_7 := pb_6.below hb8; have pr_6 := pr_5.below hb8; have f1_4 := f1_3.below hb8; have f2_3 := f2_2.below hb8; have f3_2 := f3_1.below hb8; have f4_1 := f4_0.below hb8; clear hb8 hB_8 fa_8 fb_8 pa_7 pb_6 pr_5 f1_3 f2_2 f3_1 f4_0; obtain ⟨sf1a, sf1b, sf1c, sf1d⟩ := pr_6.open2; obtain ⟨sg1a, sg1b⟩ := Box.put2 pr_6 (.bool m5); have hB_10 := below_setAll hB_9 (g := w.heap.size + 1 + 1) (by omega) [.bool m5, .slice o5 n5 c5]; have fa_10 := fa_9.setAll pr_6 (noWord2 _ _ _ _) [.bool m5, .slice o5 n5 c5] rfl; have fb_10 := fb_9.setAll pr_6 (noWord2 _ _ _ _) [.bool m5, .slice o5 n5 c5] rfl; have pa_9 := pa_8.farAll (g' := w.heap.size + 1 + 1) (by omega) [.bool m5, .slice o5 n5 c5]; have pb_8 := pb_7.farAll (g' := w.heap.size + 1 + 1) (by omega) [.bool m5, .slice o5 n5 c5]; have f1_5 := f1_4.setAll pr_6 (noWord2 _ _ _ _) [.bool m5, .slice o5 n5 c5] rfl; have f2_4 := f2_3.setAll pr_6 (noWord2 _ _ _ _) [.bool m5, .slice o5 n5 c5] rfl; have f3_3 := f3_2.setAll pr_6 (noWord2 _ _ _ _) [.bool m5, .slice o5 n5 c5] rfl; have f4_2 := f4_1.setAll pr_6 (noWord2 _ _ _ _) [.bool m5, .slice o5 n5 c5] rfl; have f5_1 := f5_0.setAll pr_6 (noWord2 _ _ _ _) [.bool m5, .slice o5 n5 c5] rfl; have pr_7 := pr_6.setAll [.bool m5, .slice o5 n5 c5] rfl; simp only [setAll, Nat.zero_add] at hB_10 fa_10 fb_10 pa_9 pb_8 pr_7 f1_5 f2_4 f3_3 f4_2 f5_1))
  clear hB_9 fa_9 fb_9 pa_8 pb_7 f1_4 f2_3 f3_2 f4_1 f5_0 pr_6
  clear sf1a sf1b sf1c sf1d sg1a sg1b
  generalize (World.setCell (World.setCell w8 ⟨w.heap.size + 1 + 1, 0, none⟩ (.bool m5)) ⟨w.heap.size + 1 + 1, 1, none⟩ (.slice o5 n5 c5)) = w9 at *
  go_wp2
  obtain ⟨pre0, pre1, pre2, pre3⟩ := pr_7.open2
  exact bodyPost_ret (v := .agg #[.bool m5, .slice o5 n5 c5]) (by simp [results, Try.results42, go_sem, pre0, pre1]) rfl ⟨_, _, _, _, rfl, f5_1, hB_10⟩
set_option maxHeartbeats 4000000 in
theorem sbeyond_any {am : Bool} {ao : Option Addr} {an ac : Nat} {bm : Bool} {bo : Option Addr} {bn bc : Nat} (p : Int) (La Lb : Nat) (Xa Xb : Int) (w : World) (ha : La ≤ 1000000) (hb : Lb ≤ 1000000) (hp1 : -9223372036854775808 ≤ p) (hp2 : p < 9223372036854775808) (h0 : Xb ≠ 0) (fa_0 : Num w (.agg #[.bool am, .slice ao an ac]) La Xa) (fb_0 : Num w (.agg #[.bool bm, .slice bo bn bc]) Lb Xb) :
    Calls Try.prog 44 #[.int .i64 p, .agg #[.bool am, .slice ao an ac], .agg #[.bool bm, .slice bo bn bc]] w fun e w' => AnsF w w' e (1 + max La Lb + 2) ((p : Rat) + (Xa : Rat) / (Xb : Rat)) := by
  have hB_0 := Below.refl w.heap.size w
  have HP1 := Lib.hid hp1; have HP2 := Lib.hid hp2; have HA := Lib.hid ha; have HB := Lib.hid hb; have H0 := Lib.hid h0
  clear hp1 hp2 ha hb h0
  obtain ⟨w1, hw1, pa_0, hb1, hs1⟩ := new_box w (w.heap.size) rfl [.bool am, .slice ao an ac] 29
  have hb1' : Below w.heap.size w w1 := hb1.mono (by omega)
  clear hb1
  have hB_1 := hB_0.trans (hb1'.mono hB_0.size)
  have fa_1 := fa_0.below hb1'
  have fb_1 := fb_0.below hb1'
  clear hb1' hB_0 fa_0 fb_0
  obtain ⟨w2, hw2, pb_0, hb2, hs2⟩ := new_box w1 (w.heap.size + 1) hs1 [.bool bm, .slice bo bn bc] 29
  have hb2' : Below w1.heap.size w1 w2 := hb2.mono (by omega)
  clear hb2
  have hB_2 := hB_1.trans (hb2'.mono hB_1.size)
  have fa_2 := fa_1.below hb2'
  have fb_2 := fb_1.below hb2'
  have pa_1 := pa_0.below hb2'
  clear hb2' hB_1 fa_1 fb_1 pa_0
  obtain ⟨w3, hw3, pr_0, hb3, hs3⟩ := new_box w2 (w.heap.size + 1 + 1) hs2 [.bool false, .slice none 0 0, .slice none 0 0] 31
  have hb3' : Below w2.heap.size w2 w3 := hb3.mono (by omega)
  clear hb3
  have hB_3 := hB_2.trans (hb3'.mono hB_2.size)
  have fa_3 := fa_2.below hb3'
  have fb_3 := fb_2.below hb3'
  have pa_2 := pa_1.below hb3'
  have pb_1 := pb_0.below hb3'
  clear hb3' hB_2 fa_2 fb_2 pa_1 pb_0
  go_enter Try.func44, Try.ntmps44
  obtain ⟨pae0, pae1, pae2, pae3⟩ := pa_2.open2
  obtain ⟨pbe0, pbe1, pbe2, pbe3⟩ := pb_1.open2
  go_wp2_with fail
  refine (fMake_some _ _ La Lb Xa Xb _ (by have := HA.out; have := HB.out; omega) (by have := HA.out; have := HB.out; omega) fa_3 fb_3 H0.out).mono ?_
  rintro e w4 ⟨m1, o1, n1, c1, p1, k1, d1, rfl, f1_0, hb4⟩
  clear pae0 pae1 pae2 pae3 pbe0 pbe1 pbe2 pbe3
  have hB_4 := hB_3.trans (hb4.mono hB_3.size)
  have fa_4 := fa_3.below hb4
  have fb_4 := fb_3.below hb4
  have pa_3 := pa_2.below hb4
  have pb_2 := pb_1.below hb4
  have pr_1 := pr_0.below hb4
  clear hb4 hB_3 fa_3 fb_3 pa_2 pb_1 pr_0
  have hl1pa := pa_3.lt
  have hl1pb := pb_2.lt
  have hl1pr := pr_1.lt
  have hl1B := hB_4.size
  obtain ⟨w5, hw5, pq_0, hb5, hs5⟩ := new_box w4 (w4.heap.size) rfl [.bool m1, .slice o1 n1 c1, .slice p1 k1 d1] 31
  have hb5' : Below w4.heap.size w4 w5 := hb5.mono (by omega)
  clear hb5
  have hB_5 := hB_4.trans (hb5'.mono hB_4.size)
  have fa_5 := fa_4.below hb5'
  have fb_5 := fb_4.below hb5'
  have pa_4 := pa_3.below hb5'
  have pb_3 := pb_2.below hb5'
  have pr_2 := pr_1.below hb5'
  have f1_1 := f1_0.below hb5'
  clear hb5' hB_4 fa_4 fb_4 pa_3 pb_2 pr_1 f1_0
  go_wp2
  try rw [hw5]
  have hB_6 := hB_5.drew'
  have fa_6 := fa_5.drew
  have fb_6 := fb_5.drew
  have pa_5 := pa_4.drew
  have pb_4 := pb_3.drew
  have pr_3 := pr_2.drew
  have f1_2 := f1_1.drew
  have pq_1 := pq_0.drew
  clear hB_5 fa_5 fb_5 pa_4 pb_3 pr_2 f1_1 pq_0
  go_region_held3 (fun w' => w'.cell? ⟨w4.heap.size, 0, none⟩ = some (.bool m1) ∧ w'.cell? ⟨w4.heap.size, 1, none⟩ = some (.slice o1 n1 c1) ∧ w'.cell? ⟨w4.heap.size, 2, none⟩ = some (.slice p1 k1 d1))
    (first | with_reducible exact ⟨pq_1.c0, pq_1.c1, pq_1.c2⟩ | with_reducible exact ⟨pq_2.c0, pq_2.c1, pq_2.c2⟩ | with_reducible exact ⟨pq_3.c0, pq_3.c1, pq_3.c2⟩ | with_reducible exact ⟨pq_4.c0, pq_4.c1, pq_4.c2⟩ | fail)
    (first
      | (go_at_call 21; (with_reducible refine (fOf_any p HP1.out HP2.out _).mono ?_); rintro e w6 ⟨m2, o2, n2, c2, p2, k2, d2, rfl, f2_0, hb6⟩; have hB_7 := hB_6.trans (hb6.mono hB_6.size); have fa_7 := fa_6.below hb6; have fb_7 := fb_6.below hb6; have pa_6 := pa_5.below hb6; have pb_5 := pb_4.below hb6; have pr_4 := pr_3.below hb6; have f1_3 := f1_2.below hb6; have pq_2 := pq_1.below hb6; clear hb6 hB_6 fa_6 fb_6 pa_5 pb_4 pr_3 f1_2 pq_1)
      | (go_at_call 27; (with_reducible refine (qAdd _ _ 1 (max La Lb) _ _ _ (by omega) (by have := HA.out; have := HB.out; omega) f2_0.q f1_3.q).mono ?_); rintro e w7 ⟨m3, o3, n3, c3, p3, k3, d3, rfl, f3_0, hb7⟩; have hB_8 := hB_7.trans (hb7.mono hB_7.size); have fa_8 := fa_7.below hb7; have fb_8 := fb_7.below hb7; have pa_7 := pa_6.below hb7; have pb_6 := pb_5.below hb7; have pr_5 := pr_4.below hb7; have f1_4 := f1_3.below hb7; have pq_3 := pq_2.below hb7; have f2_1 := f2_0.below hb7; clear hb7 hB_7 fa_7 fb_7 pa_6 pb_5 pr_4 f1_3 pq_2 f2_0; obtain ⟨sf1a, sf1b, sf1c, sf1d, sf1e, sf1f⟩ := pr_5.open3; obtain ⟨sg1a, sg1b, sg1c, sg1d⟩ := Box.put3 pr_5 (.bool m3) (.slice o3 n3 c3); have hB_9 := below_setAll hB_8 (g := w.heap.size + 1 + 1) (by omega) [.bool m3, .slice o3 n3 c3, .slice p3 k3 d3]; have fa_9 := fa_8.setAll pr_5 (noWord3 _ _ _ _ _ _ _) [.bool m3, .slice o3 n3 c3, .slice p3 k3 d3] rfl; have fb_9 := fb_8.setAll pr_5 (noWord3 _ _ _ _ _ _ _) [.bool m3, .slice o3 n3 c3, .slice p3 k3 d3] rfl; have pa_8 := pa_7.farAll (g' := w.heap.size + 1 + 1) (by omega) [.bool m3, .slice o3 n3 c3, .slice p3 k3 d3]; have pb_7 := pb_6.farAll (g' := w.heap.size + 1 + 1) (by omega) [.bool m3, .slice o3 n3 c3, .slice p3 k3 d3]; have f1_5 := f1_4.setAll pr_5 (noWord3 _ _ _ _ _ _ _) [.bool m3, .slice o3 n3 c3, .slice p3 k3 d3] rfl; have pq_4 := pq_3.farAll (g' := w.heap.size + 1 + 1) (by omega) [.bool m3, .slice o3 n3 c3, .slice p3 k3 d3]; have f2_2 := f2_1.setAll pr_5 (noWord3 _ _ _ _ _ _ _) [.bool m3, .slice o3 n3 c3, .slice p3 k3 d3] rfl; have f3_1 := f3_0.setAll pr_5 (noWord3 _ _ _ _ _ _ _) [.bool m3, .slice o3 n3 c3, .slice p3 k3 d3] rfl; have pr_6 := pr_5.setAll [.bool m3, .slice o3 n3 c3, .slice p3 k3 d3] rfl; simp only [setAll, Nat.zero_add, Nat.reduceAdd] at hB_9 fa_9 fb_9 pa_8 pb_7 pr_6 f1_5 pq_4 f2_2 f3_1))
  clear hB_8 fa_8 fb_8 pa_7 pb_6 f1_4 pq_3 f2_1 f3_0 pr_5
  clear sf1a sf1b sf1c sf1d sf1e sf1f sg1a sg1b sg1c sg1d
  generalize (World.setCell (World.setCell (World.setCell w7 ⟨w.heap.size + 1 + 1, 0, none⟩ (.bool m3)) ⟨w.heap.size + 1 + 1, 1, none⟩ (.slice o3 n3 c3)) ⟨w.heap.size + 1 + 1, 2, none⟩ (.slice p3 k3 d3)) = w8 at *
  go_wp2
  obtain ⟨pre0, pre1, pre2, pre3, pre4, pre5⟩ := pr_6.open3
  exact bodyPost_ret (v := .agg #[.bool m3, .slice o3 n3 c3, .slice p3 k3 d3]) (by simp [results, Try.results44, go_sem, pre0, pre1, pre2]) rfl ⟨_, _, _, _, _, _, _, rfl, f3_1, hB_9⟩
end Go.Proofs.Ytkcfaddilknelaa
/- The calls of spot: Centre. -/
namespace Go.Proofs.Ytkcfaddilknelaa
open Go.RowKit Go.MagM
set_option maxHeartbeats 4000000 in
theorem sCentre_n (a0 a1 b0 b1 v0 v1 : Int) (ha0 : InP a0) (ha1 : InP a1) (hb0 : InP b0) (hb1 : InP b1) (hv0 : InP v0) (hv1 : InP v1) (hs : (crs a0 a1 b0 b1 v0 v1).sign = 0) (w : World) :
    Calls Try.prog 11 #[.agg #[.int .i64 a0, .int .i64 a1], .agg #[.int .i64 b0, .int .i64 b1], .agg #[.int .i64 v0, .int .i64 v1]] w fun e w' => e = .returned (.tuple #[.agg #[.bool false, .slice none 0 0, .slice none 0 0, .bool false, .slice none 0 0, .slice none 0 0], .bool false]) ∧ Below w.heap.size w w' := by
  have hB_0 := Below.refl w.heap.size w
  have HA0 := Lib.hid ha0; have HA1 := Lib.hid ha1; have HB0 := Lib.hid hb0; have HB1 := Lib.hid hb1; have HV0 := Lib.hid hv0; have HV1 := Lib.hid hv1; have HS := Lib.hid hs
  clear ha0 ha1 hb0 hb1 hv0 hv1 hs
  obtain ⟨w1, hw1, pa_0, hb1, hs1⟩ := new_box w (w.heap.size) rfl [.int .i64 a0, .int .i64 a1] 23
  have hb1' : Below w.heap.size w w1 := hb1.mono (by omega)
  clear hb1
  have hB_1 := hB_0.trans (hb1'.mono hB_0.size)
  clear hb1' hB_0
  obtain ⟨w2, hw2, pb_0, hb2, hs2⟩ := new_box w1 (w.heap.size + 1) hs1 [.int .i64 b0, .int .i64 b1] 23
  have hb2' : Below w1.heap.size w1 w2 := hb2.mono (by omega)
  clear hb2
  have hB_2 := hB_1.trans (hb2'.mono hB_1.size)
  have pa_1 := pa_0.below hb2'
  clear hb2' hB_1 pa_0
  obtain ⟨w3, hw3, pv_0, hb3, hs3⟩ := new_box w2 (w.heap.size + 1 + 1) hs2 [.int .i64 v0, .int .i64 v1] 23
  have hb3' : Below w2.heap.size w2 w3 := hb3.mono (by omega)
  clear hb3
  have hB_3 := hB_2.trans (hb3'.mono hB_2.size)
  have pa_2 := pa_1.below hb3'
  have pb_1 := pb_0.below hb3'
  clear hb3' hB_2 pa_1 pb_0
  obtain ⟨w4, hw4, pr_0, hb4, hs4⟩ := new_box w3 (w.heap.size + 1 + 1 + 1) hs3 [.bool false, .slice none 0 0, .slice none 0 0, .bool false, .slice none 0 0, .slice none 0 0] 33
  have hb4' : Below w3.heap.size w3 w4 := hb4.mono (by omega)
  clear hb4
  have hB_4 := hB_3.trans (hb4'.mono hB_3.size)
  have pa_3 := pa_2.below hb4'
  have pb_2 := pb_1.below hb4'
  have pv_1 := pv_0.below hb4'
  clear hb4' hB_3 pa_2 pb_1 pv_0
  go_enter Try.func11, Try.ntmps11
  obtain ⟨pae0, pae1, pae2, pae3⟩ := pa_3.open2
  obtain ⟨pbe0, pbe1, pbe2, pbe3⟩ := pb_2.open2
  obtain ⟨pve0, pve1, pve2, pve3⟩ := pv_1.open2
  go_wp2_with fail
  refine (Area2_any a0 a1 b0 b1 v0 v1 HA0.out HA1.out HB0.out HB1.out HV0.out HV1.out _).mono ?_
  rintro e w5 ⟨m1, o1, n1, c1, rfl, f1_0, hb5⟩
  clear pae0 pae1 pae2 pae3 pbe0 pbe1 pbe2 pbe3 pve0 pve1 pve2 pve3
  have hB_5 := hB_4.trans (hb5.mono hB_4.size)
  have pa_4 := pa_3.below hb5
  have pb_3 := pb_2.below hb5
  have pv_2 := pv_1.below hb5
  have pr_1 := pr_0.below hb5
  clear hb5 hB_4 pa_3 pb_2 pv_1 pr_0
  have hl1pa := pa_4.lt
  have hl1pb := pb_3.lt
  have hl1pv := pv_2.lt
  have hl1pr := pr_1.lt
  have hl1B := hB_5.size
  obtain ⟨w6, hw6, pn_0, hb6, hs6⟩ := new_box w5 (w5.heap.size) rfl [.bool m1, .slice o1 n1 c1] 29
  have hb6' : Below w5.heap.size w5 w6 := hb6.mono (by omega)
  clear hb6
  have hB_6 := hB_5.trans (hb6'.mono hB_5.size)
  have pa_5 := pa_4.below hb6'
  have pb_4 := pb_3.below hb6'
  have pv_3 := pv_2.below hb6'
  have pr_2 := pr_1.below hb6'
  have f1_1 := f1_0.below hb6'
  clear hb6' hB_5 pa_4 pb_3 pv_2 pr_1 f1_0
  obtain ⟨pne0, pne1, pne2, pne3⟩ := pn_0.open2
  go_wp2_with fail
  refine (Sign_named _ 2 _ 0 _ (by omega) f1_1.num HS.out).mono ?_
  rintro e w7 ⟨rfl, hb7⟩
  clear pne0 pne1 pne2 pne3
  have hB_7 := hB_6.trans (hb7.mono hB_6.size)
  have pa_6 := pa_5.below hb7
  have pb_5 := pb_4.below hb7
  have pv_4 := pv_3.below hb7
  have pr_3 := pr_2.below hb7
  have f1_2 := f1_1.below hb7
  have pn_1 := pn_0.below hb7
  clear hb7 hB_6 pa_5 pb_4 pv_3 pr_2 f1_1 pn_0
  obtain ⟨pae0, pae1, pae2, pae3⟩ := pa_6.open2
  obtain ⟨pbe0, pbe1, pbe2, pbe3⟩ := pb_5.open2
  obtain ⟨pve0, pve1, pve2, pve3⟩ := pv_4.open2
  obtain ⟨pne0, pne1, pne2, pne3⟩ := pn_1.open2
  obtain ⟨sf1a, sf1b, sf1c, sf1d, sf1e, sf1f, sf1g, sf1h, sf1i, sf1j, sf1k, sf1l⟩ := pr_3.open6
  obtain ⟨sg1a, sg1b, sg1c, sg1d, sg1e, sg1f, sg1g, sg1h, sg1i, sg1j⟩ := Box.put6 pr_3 (.bool false) (.slice none 0 0) (.slice none 0 0) (.bool false) (.slice none 0 0)
  go_wp2
  clear pae0 pae1 pae2 pae3 pbe0 pbe1 pbe2 pbe3 pve0 pve1 pve2 pve3 pne0 pne1 pne2 pne3 sf1a sf1b sf1c sf1d sf1e sf1f sf1g sf1h sf1i sf1j sf1k sf1l sg1a sg1b sg1c sg1d sg1e sg1f sg1g sg1h sg1i sg1j
  have hB_8 := below_setAll hB_7 (g := w.heap.size + 1 + 1 + 1) (by omega) [.bool false, .slice none 0 0, .slice none 0 0, .bool false, .slice none 0 0, .slice none 0 0]
  have pa_7 := pa_6.farAll (g' := w.heap.size + 1 + 1 + 1) (by omega) [.bool false, .slice none 0 0, .slice none 0 0, .bool false, .slice none 0 0, .slice none 0 0]
  have pb_6 := pb_5.farAll (g' := w.heap.size + 1 + 1 + 1) (by omega) [.bool false, .slice none 0 0, .slice none 0 0, .bool false, .slice none 0 0, .slice none 0 0]
  have pv_5 := pv_4.farAll (g' := w.heap.size + 1 + 1 + 1) (by omega) [.bool false, .slice none 0 0, .slice none 0 0, .bool false, .slice none 0 0, .slice none 0 0]
  have f1_3 := f1_2.setAll pr_3 (noWord6 _ _ _ _ _ _ _ _ _ _ _ _ _ _) [.bool false, .slice none 0 0, .slice none 0 0, .bool false, .slice none 0 0, .slice none 0 0] rfl
  have pn_2 := pn_1.farAll (g' := w.heap.size + 1 + 1 + 1) (by omega) [.bool false, .slice none 0 0, .slice none 0 0, .bool false, .slice none 0 0, .slice none 0 0]
  have pr_4 := pr_3.setAll [.bool false, .slice none 0 0, .slice none 0 0, .bool false, .slice none 0 0, .slice none 0 0] rfl
  simp only [setAll, Nat.zero_add, Nat.reduceAdd] at hB_8 pa_7 pb_6 pv_5 pr_4 f1_3 pn_2
  clear hB_7 pa_6 pb_5 pv_4 f1_2 pn_1 pr_3
  generalize (World.setCell (World.setCell (World.setCell (World.setCell (World.setCell (World.setCell w7 ⟨w.heap.size + 1 + 1 + 1, 0, none⟩ (.bool false)) ⟨w.heap.size + 1 + 1 + 1, 1, none⟩ (.slice none 0 0)) ⟨w.heap.size + 1 + 1 + 1, 2, none⟩ (.slice none 0 0)) ⟨w.heap.size + 1 + 1 + 1, 3, none⟩ (.bool false)) ⟨w.heap.size + 1 + 1 + 1, 4, none⟩ (.slice none 0 0)) ⟨w.heap.size + 1 + 1 + 1, 5, none⟩ (.slice none 0 0)) = w8 at *
  go_wp2
  obtain ⟨pre0, pre1, pre2, pre3, pre4, pre5, pre6, pre7, pre8, pre9, pre10, pre11⟩ := pr_4.open6
  exact bodyPost_ret (v := .tuple #[.agg #[.bool false, .slice none 0 0, .slice none 0 0, .bool false, .slice none 0 0, .slice none 0 0], .bool false]) (by simp [results, Try.results11, go_sem, pre0, pre1, pre2, pre3, pre4, pre5]) rfl ⟨rfl, hB_8⟩
set_option maxRecDepth 100000 in
set_option maxHeartbeats 16000000 in
theorem sCentre_w (a0 a1 b0 b1 v0 v1 : Int) (ha0 : InP a0) (ha1 : InP a1) (hb0 : InP b0) (hb1 : InP b1) (hv0 : InP v0) (hv1 : InP v1) (s : Int) (hs : (crs a0 a1 b0 b1 v0 v1).sign = s) (HE0 : (s == 0) = false) (he : crs a0 a1 b0 b1 v0 v1 + crs a0 a1 b0 b1 v0 v1 ≠ 0) (hw : IntKind.i64.wrap (v1 - a1) = v1 - a1 ∧ IntKind.i64.wrap (b1 - a1) = b1 - a1 ∧ IntKind.i64.wrap (b0 - a0) = b0 - a0 ∧ IntKind.i64.wrap (v0 - a0) = v0 - a0) (w : World) :
    Calls Try.prog 11 #[.agg #[.int .i64 a0, .int .i64 a1], .agg #[.int .i64 b0, .int .i64 b1], .agg #[.int .i64 v0, .int .i64 v1]] w fun e w' => AnsSt w w' e 7 (cx a0 a1 b0 b1 v0 v1) (cy a0 a1 b0 b1 v0 v1) := by
  have hB_0 := Below.refl w.heap.size w
  have HA0 := Lib.hid ha0; have HA1 := Lib.hid ha1; have HB0 := Lib.hid hb0; have HB1 := Lib.hid hb1; have HV0 := Lib.hid hv0; have HV1 := Lib.hid hv1; have HS := Lib.hid hs
  clear ha0 ha1 hb0 hb1 hv0 hv1 hs
  have HE := Lib.hid he; have HW := Lib.hid hw; clear he hw
  have e0 := HE0; clear HE0
  obtain ⟨e1, e2, e3, e4⟩ := HW.out
  obtain ⟨w1, hw1, pa_0, hb1, hs1⟩ := new_box w (w.heap.size) rfl [.int .i64 a0, .int .i64 a1] 23
  have hb1' : Below w.heap.size w w1 := hb1.mono (by omega)
  clear hb1
  have hB_1 := hB_0.trans (hb1'.mono hB_0.size)
  clear hb1' hB_0
  obtain ⟨w2, hw2, pb_0, hb2, hs2⟩ := new_box w1 (w.heap.size + 1) hs1 [.int .i64 b0, .int .i64 b1] 23
  have hb2' : Below w1.heap.size w1 w2 := hb2.mono (by omega)
  clear hb2
  have hB_2 := hB_1.trans (hb2'.mono hB_1.size)
  have pa_1 := pa_0.below hb2'
  clear hb2' hB_1 pa_0
  obtain ⟨w3, hw3, pv_0, hb3, hs3⟩ := new_box w2 (w.heap.size + 1 + 1) hs2 [.int .i64 v0, .int .i64 v1] 23
  have hb3' : Below w2.heap.size w2 w3 := hb3.mono (by omega)
  clear hb3
  have hB_3 := hB_2.trans (hb3'.mono hB_2.size)
  have pa_2 := pa_1.below hb3'
  have pb_1 := pb_0.below hb3'
  clear hb3' hB_2 pa_1 pb_0
  obtain ⟨w4, hw4, pr_0, hb4, hs4⟩ := new_box w3 (w.heap.size + 1 + 1 + 1) hs3 [.bool false, .slice none 0 0, .slice none 0 0, .bool false, .slice none 0 0, .slice none 0 0] 33
  have hb4' : Below w3.heap.size w3 w4 := hb4.mono (by omega)
  clear hb4
  have hB_4 := hB_3.trans (hb4'.mono hB_3.size)
  have pa_3 := pa_2.below hb4'
  have pb_2 := pb_1.below hb4'
  have pv_1 := pv_0.below hb4'
  clear hb4' hB_3 pa_2 pb_1 pv_0
  go_enter Try.func11, Try.ntmps11
  obtain ⟨pae0, pae1, pae2, pae3⟩ := pa_3.open2
  obtain ⟨pbe0, pbe1, pbe2, pbe3⟩ := pb_2.open2
  obtain ⟨pve0, pve1, pve2, pve3⟩ := pv_1.open2
  go_wp2_with fail
  refine (Area2_any a0 a1 b0 b1 v0 v1 HA0.out HA1.out HB0.out HB1.out HV0.out HV1.out _).mono ?_
  rintro e w5 ⟨m1, o1, n1, c1, rfl, f1_0, hb5⟩
  clear pae0 pae1 pae2 pae3 pbe0 pbe1 pbe2 pbe3 pve0 pve1 pve2 pve3
  have hB_5 := hB_4.trans (hb5.mono hB_4.size)
  have pa_4 := pa_3.below hb5
  have pb_3 := pb_2.below hb5
  have pv_2 := pv_1.below hb5
  have pr_1 := pr_0.below hb5
  clear hb5 hB_4 pa_3 pb_2 pv_1 pr_0
  have hl1pa := pa_4.lt
  have hl1pb := pb_3.lt
  have hl1pv := pv_2.lt
  have hl1pr := pr_1.lt
  have hl1B := hB_5.size
  obtain ⟨w6, hw6, pn_0, hb6, hs6⟩ := new_box w5 (w5.heap.size) rfl [.bool m1, .slice o1 n1 c1] 29
  have hb6' : Below w5.heap.size w5 w6 := hb6.mono (by omega)
  clear hb6
  have hB_6 := hB_5.trans (hb6'.mono hB_5.size)
  have pa_5 := pa_4.below hb6'
  have pb_4 := pb_3.below hb6'
  have pv_3 := pv_2.below hb6'
  have pr_2 := pr_1.below hb6'
  have f1_1 := f1_0.below hb6'
  clear hb6' hB_5 pa_4 pb_3 pv_2 pr_1 f1_0
  obtain ⟨pne0, pne1, pne2, pne3⟩ := pn_0.open2
  go_wp2_with fail
  refine (Sign_named _ 2 _ s _ (by omega) f1_1.num HS.out).mono ?_
  rintro e w7 ⟨rfl, hb7⟩
  clear pne0 pne1 pne2 pne3
  have hB_7 := hB_6.trans (hb7.mono hB_6.size)
  have pa_6 := pa_5.below hb7
  have pb_5 := pb_4.below hb7
  have pv_4 := pv_3.below hb7
  have pr_3 := pr_2.below hb7
  have f1_2 := f1_1.below hb7
  have pn_1 := pn_0.below hb7
  clear hb7 hB_6 pa_5 pb_4 pv_3 pr_2 f1_1 pn_0
  obtain ⟨pae0, pae1, pae2, pae3⟩ := pa_6.open2
  obtain ⟨pbe0, pbe1, pbe2, pbe3⟩ := pb_5.open2
  obtain ⟨pve0, pve1, pve2, pve3⟩ := pv_4.open2
  obtain ⟨pne0, pne1, pne2, pne3⟩ := pn_1.open2
  go_wp2
  clear pae0 pae1 pae2 pae3 pbe0 pbe1 pbe2 pbe3 pve0 pve1 pve2 pve3 pne0 pne1 pne2 pne3
  have hWi_0 := Below.refl w7.heap.size w7
  have hsi : w.heap.size ≤ w7.heap.size := hB_7.size
  have hlipa := pa_6.lt
  have hlipb := pb_5.lt
  have hlipv := pv_4.lt
  have hlipr := pr_3.lt
  have hlipn := pn_1.lt
  have hB_8 := hB_7.drew'
  have pa_7 := pa_6.drew
  have pb_6 := pb_5.drew
  have pv_5 := pv_4.drew
  have pr_4 := pr_3.drew
  have f1_3 := f1_2.drew
  have pn_2 := pn_1.drew
  have hWi_1 := hWi_0.drew'
  clear hB_7 pa_6 pb_5 pv_4 pr_3 f1_2 pn_1 hWi_0
  obtain ⟨FFi, hFFi⟩ : ∃ F : World → Prop, ∀ w', F w' ↔ (Below w.heap.size w w' ∧ Box w' (w.heap.size) [.int .i64 a0, .int .i64 a1] ∧ Box w' (w.heap.size + 1) [.int .i64 b0, .int .i64 b1] ∧ Box w' (w.heap.size + 1 + 1) [.int .i64 v0, .int .i64 v1] ∧ Box w' (w.heap.size + 1 + 1 + 1) [.bool false, .slice none 0 0, .slice none 0 0, .bool false, .slice none 0 0, .slice none 0 0] ∧ RNum w' (.agg #[.bool m1, .slice o1 n1 c1]) 2 (crs a0 a1 b0 b1 v0 v1) ∧ Box w' (w5.heap.size) [.bool m1, .slice o1 n1 c1] ∧ Below w7.heap.size w7 w') := ⟨_, fun _ => Iff.rfl⟩
  have cFi : ∀ {w' w'' : World}, FFi w' → Below w'.heap.size w' w'' → FFi w'' := by
    intro w' w'' h hb
    obtain ⟨y0, y1, y2, y3, y4, y5, y6, y7⟩ := (hFFi _).1 h
    exact (hFFi _).2 ⟨y0.trans (hb.mono y0.size), y1.below hb, y2.below hb, y3.below hb, y4.below hb, y5.below hb, y6.below hb, y7.trans (hb.mono y7.size)⟩
  have mFi : ∀ {w' : World}, FFi w' → w7.heap.size ≤ w'.heap.size := by
    intro w' h
    obtain ⟨y0, y1, y2, y3, y4, y5, y6, y7⟩ := (hFFi _).1 h
    exact y7.size
  have sFi : ∀ {w' : World}, FFi w' → (w'.cell? ⟨w.heap.size, 0, none⟩ = some (.int .i64 a0) ∧ w'.cell? ⟨w.heap.size, 1, none⟩ = some (.int .i64 a1) ∧ w'.cell? ⟨w.heap.size + 1, 0, none⟩ = some (.int .i64 b0) ∧ w'.cell? ⟨w.heap.size + 1, 1, none⟩ = some (.int .i64 b1) ∧ w'.cell? ⟨w.heap.size + 1 + 1, 0, none⟩ = some (.int .i64 v0) ∧ w'.cell? ⟨w.heap.size + 1 + 1, 1, none⟩ = some (.int .i64 v1)) := by
    intro w' h
    obtain ⟨y0, y1, y2, y3, y4, y5, y6, y7⟩ := (hFFi _).1 h
    exact ⟨y1.c0, y1.c1, y2.c0, y2.c1, y3.c0, y3.c1⟩
  have zF : FFi w7.drew := (hFFi _).2 ⟨hB_8, pa_7, pb_6, pv_5, pr_4, f1_3, pn_2, hWi_1⟩
  clear hB_8 pa_7 pb_6 pv_5 pr_4 f1_3 pn_2 hWi_1
  refine wp_region_noPanic ?_
  refine wp_region_held_drew (S := fun w' => w'.cell? ⟨w.heap.size, 0, none⟩ = some (.int .i64 a0) ∧ w'.cell? ⟨w.heap.size, 1, none⟩ = some (.int .i64 a1) ∧ w'.cell? ⟨w.heap.size + 1, 0, none⟩ = some (.int .i64 b0) ∧ w'.cell? ⟨w.heap.size + 1, 1, none⟩ = some (.int .i64 b1) ∧ w'.cell? ⟨w.heap.size + 1 + 1, 0, none⟩ = some (.int .i64 v0) ∧ w'.cell? ⟨w.heap.size + 1 + 1, 1, none⟩ = some (.int .i64 v1)) (by kernel_rfl) (sFi zF) (fun hHeld => ?_)
  refine reg_take 0 ?_ ?_ ?_ (by kernel_rfl) (by kernel_rfl) (by kernel_rfl) (fun _ _ _ h => h) ?_ ?_ (by assumption) ?_
  rotate_left 2
  · simp only [List.getElem?_toArray, List.getElem?_cons_zero]; exact rfl
  · rfl
  · intro w hSw; (try dsimp only at hSw); go_simp; try with_reducible rfl
  try simp only [Act.put]
  try simp only [List.setIfInBounds_toArray, List.set_cons_zero, List.set_cons_succ]
  refine reg_take 1 ?_ ?_ ?_ (by kernel_rfl) (by kernel_rfl) (by kernel_rfl) (fun _ _ _ h => h) ?_ ?_ (by assumption) ?_
  rotate_left 2
  · simp only [List.getElem?_toArray, List.getElem?_cons_succ, List.getElem?_cons_zero]; exact rfl
  · rfl
  · intro w hSw; (try dsimp only at hSw); go_simp; try with_reducible rfl
  try simp only [Act.put]
  try simp only [List.setIfInBounds_toArray, List.set_cons_zero, List.set_cons_succ]
  refine reg_take 3 ?_ ?_ ?_ (by kernel_rfl) (by kernel_rfl) (by kernel_rfl) (fun _ _ _ h => h) ?_ ?_ (by assumption) ?_
  rotate_left 2
  · simp only [List.getElem?_toArray, List.getElem?_cons_succ, List.getElem?_cons_zero]; exact rfl
  · rfl
  · intro w hSw; (try dsimp only at hSw); go_simp; try with_reducible rfl
  try simp only [Act.put]
  try simp only [List.setIfInBounds_toArray, List.set_cons_zero, List.set_cons_succ]
  refine reg_take 4 ?_ ?_ ?_ (by kernel_rfl) (by kernel_rfl) (by kernel_rfl) (fun _ _ _ h => h) ?_ ?_ (by assumption) ?_
  rotate_left 2
  · simp only [List.getElem?_toArray, List.getElem?_cons_succ, List.getElem?_cons_zero]; exact rfl
  · rfl
  · intro w hSw; (try dsimp only at hSw); go_simp; try with_reducible rfl
  try simp only [Act.put]
  try simp only [List.setIfInBounds_toArray, List.set_cons_zero, List.set_cons_succ]
  refine reg_grab (fun WWi ai hWW hAA => ?_)
  rw [hWW]
  have HAi := Lib.hid hAA; clear hWW hAA hHeld
  obtain ⟨IVi, hIVi⟩ : ∃ IV : Array Bool → Act → World → Prop, ∀ l a w', IV l a w' ↔ ∃ (lb2 lb5 lb6 lb7 : Bool) (lv2 lv5 lv6 lv7 : Value) (m2 : Bool) (o2 : Option Addr) (n2 : Nat) (c2 : Nat) (m3 : Bool) (o3 : Option Addr) (n3 : Nat) (c3 : Nat) (gqb gqc : Nat), l = #[true, true, lb2, true, true, lb5, lb6, lb7, false, false] ∧ a = ((((ai.put (some 24) lv2).put (some 27) lv5).put (some 9) lv6).put (some 10) lv7) ∧ FFi w' ∧ (lb2 = true → lv2 = .agg #[.bool m2, .slice o2 n2 c2] ∧ RNum w' (.agg #[.bool m2, .slice o2 n2 c2]) (2) (sqd a0 a1 b0 b1)) ∧ (lb5 = true → lv5 = .agg #[.bool m3, .slice o3 n3 c3] ∧ RNum w' (.agg #[.bool m3, .slice o3 n3 c3]) (2) (sqd a0 a1 v0 v1)) ∧ (lb6 = true → lv6 = .pointer (some ⟨gqb, 0, none⟩) ∧ Box w' gqb [.bool false, .slice none 0 0] ∧ w7.heap.size ≤ gqb) ∧ (lb7 = true → lv7 = .pointer (some ⟨gqc, 0, none⟩) ∧ Box w' gqc [.bool false, .slice none 0 0] ∧ w7.heap.size ≤ gqc) ∧ (lb5 = true → lb2 = true) ∧ (lb6 = true → lb7 = true → gqb ≠ gqc) := ⟨_, fun _ _ _ => Iff.rfl⟩
  refine wpAnyH_until IVi ?_ _ _ _ _ ((hIVi _ _ _).2 ⟨false, false, false, false, (ai.tmps.getD 24 undef), (ai.tmps.getD 27 undef), (ai.tmps.getD 9 undef), (ai.tmps.getD 10 undef), false, none, 0, 0, false, none, 0, 0, 0, 0, rfl, (by simp only [put_same]), zF, (fun h => by cases h), (fun h => by cases h), (fun h => by cases h), (fun h => by cases h), (fun h => by cases h), (fun h => by cases h)⟩) (by kernel_rfl)
  clear zF
  intro ll aa w8 hI
  obtain ⟨lb2, lb5, lb6, lb7, lv2, lv5, lv6, lv7, m2, o2, n2, c2, m3, o3, n3, c3, gqb, gqc, rfl, rfl, zF, F2, F5, F6, F7, dp5_2, nq6_7⟩ := (hIVi _ _ _).1 hI
  clear hI
  by_cases hL : lb2 = true ∧ lb5 = true ∧ lb6 = true ∧ lb7 = true
  · left
    obtain ⟨rfl, rfl, rfl, rfl⟩ := hL
    obtain ⟨rfl, f2_0⟩ := F2 rfl
    clear F2
    obtain ⟨rfl, f3_0⟩ := F5 rfl
    clear F5
    obtain ⟨rfl, qb_0, hgqb⟩ := F6 rfl
    clear F6
    obtain ⟨rfl, qc_0, hgqc⟩ := F7 rfl
    clear F7
    have hnqbqc := nq6_7 rfl rfl
    clear dp5_2 nq6_7
    show wpAnyH _ _ _ _ _ 2 _ _ _
    rw [HAi.out]
    try simp only [Act.put]
    try simp only [List.setIfInBounds_toArray, List.set_cons_zero, List.set_cons_succ]
    obtain ⟨hB_0, pa_0, pb_0, pv_0, pr_0, f1_0, pn_0, hWi_0⟩ := (hFFi _).1 zF
    clear zF
    clear hWi_0
    obtain ⟨sf1a, sf1b, sf1c, sf1d⟩ := qb_0.open2
    obtain ⟨sg1a, sg1b⟩ := Box.put2 qb_0 (.bool m2)
    refine reg_call 8 ?_ (by kernel_rfl) ?_ (fun K hK => ?_)
    rotate_left 1
    · simp only [List.getElem?_toArray, List.getElem?_cons_succ, List.getElem?_cons_zero]; exact rfl
    go_simp
    have hB_1 := below_setAll hB_0 (g := gqb) (by omega) [.bool m2, .slice o2 n2 c2]
    have pa_1 := pa_0.farAll (g' := gqb) (by omega) [.bool m2, .slice o2 n2 c2]
    have pb_1 := pb_0.farAll (g' := gqb) (by omega) [.bool m2, .slice o2 n2 c2]
    have pv_1 := pv_0.farAll (g' := gqb) (by omega) [.bool m2, .slice o2 n2 c2]
    have pr_1 := pr_0.farAll (g' := gqb) (by omega) [.bool m2, .slice o2 n2 c2]
    have f1_1 := f1_0.setAll qb_0 (noWord2 _ _ _ _) [.bool m2, .slice o2 n2 c2] rfl
    have pn_1 := pn_0.farAll (g' := gqb) (by omega) [.bool m2, .slice o2 n2 c2]
    have f2_1 := f2_0.setAll qb_0 (noWord2 _ _ _ _) [.bool m2, .slice o2 n2 c2] rfl
    have f3_1 := f3_0.setAll qb_0 (noWord2 _ _ _ _) [.bool m2, .slice o2 n2 c2] rfl
    have qc_1 := qc_0.farAll (g' := gqb) (by omega) [.bool m2, .slice o2 n2 c2]
    have qb_1 := qb_0.setAll [.bool m2, .slice o2 n2 c2] rfl
    simp only [setAll, Nat.zero_add] at hB_1 pa_1 pb_1 pv_1 pr_1 f1_1 pn_1 f2_1 f3_1 qb_1 qc_1
    clear sf1a sf1b sf1c sf1d sg1a sg1b
    clear hB_0 pa_0 pb_0 pv_0 pr_0 f1_0 pn_0 f2_0 f3_0 qc_0 qb_0
    refine hK.out _ _ ⟨pa_1.c0, pa_1.c1, pb_1.c0, pb_1.c1, pv_1.c0, pv_1.c1⟩ (fun hHeld => ?_)
    clear hK K
    try simp only [Act.put]
    try simp only [List.setIfInBounds_toArray, List.set_cons_zero, List.set_cons_succ]
    generalize (World.setCell (World.setCell w8 ⟨gqb, 0, none⟩ (.bool m2)) ⟨gqb, 1, none⟩ (.slice o2 n2 c2)) = w9 at *
    obtain ⟨sf2a, sf2b, sf2c, sf2d⟩ := qc_1.open2
    obtain ⟨sg2a, sg2b⟩ := Box.put2 qc_1 (.bool m3)
    refine reg_call 9 ?_ (by kernel_rfl) ?_ (fun K hK => ?_)
    rotate_left 1
    · simp only [List.getElem?_toArray, List.getElem?_cons_succ, List.getElem?_cons_zero]; exact rfl
    go_simp
    have hB_2 := below_setAll hB_1 (g := gqc) (by omega) [.bool m3, .slice o3 n3 c3]
    have pa_2 := pa_1.farAll (g' := gqc) (by omega) [.bool m3, .slice o3 n3 c3]
    have pb_2 := pb_1.farAll (g' := gqc) (by omega) [.bool m3, .slice o3 n3 c3]
    have pv_2 := pv_1.farAll (g' := gqc) (by omega) [.bool m3, .slice o3 n3 c3]
    have pr_2 := pr_1.farAll (g' := gqc) (by omega) [.bool m3, .slice o3 n3 c3]
    have f1_2 := f1_1.setAll qc_1 (noWord2 _ _ _ _) [.bool m3, .slice o3 n3 c3] rfl
    have pn_2 := pn_1.farAll (g' := gqc) (by omega) [.bool m3, .slice o3 n3 c3]
    have f2_2 := f2_1.setAll qc_1 (noWord2 _ _ _ _) [.bool m3, .slice o3 n3 c3] rfl
    have f3_2 := f3_1.setAll qc_1 (noWord2 _ _ _ _) [.bool m3, .slice o3 n3 c3] rfl
    have qb_2 := qb_1.farAll (g' := gqc) (by omega) [.bool m3, .slice o3 n3 c3]
    have qc_2 := qc_1.setAll [.bool m3, .slice o3 n3 c3] rfl
    simp only [setAll, Nat.zero_add] at hB_2 pa_2 pb_2 pv_2 pr_2 f1_2 pn_2 f2_2 f3_2 qb_2 qc_2
    clear sf2a sf2b sf2c sf2d sg2a sg2b
    clear hB_1 pa_1 pb_1 pv_1 pr_1 f1_1 pn_1 f2_1 f3_1 qb_1 qc_1
    refine hK.out _ _ ⟨pa_2.c0, pa_2.c1, pb_2.c0, pb_2.c1, pv_2.c0, pv_2.c1⟩ (fun hHeld => ?_)
    clear hK K
    try simp only [Act.put]
    try simp only [List.setIfInBounds_toArray, List.set_cons_zero, List.set_cons_succ]
    generalize (World.setCell (World.setCell w9 ⟨gqc, 0, none⟩ (.bool m3)) ⟨gqc, 1, none⟩ (.slice o3 n3 c3)) = w10 at *
    refine wpAnyH_done (by kernel_rfl) ?_ _
    refine NoPanic.normal ?_
    obtain ⟨pae0, pae1, pae2, pae3⟩ := pa_2.open2
    obtain ⟨pbe0, pbe1, pbe2, pbe3⟩ := pb_2.open2
    obtain ⟨pve0, pve1, pve2, pve3⟩ := pv_2.open2
    obtain ⟨qbe0, qbe1, qbe2, qbe3⟩ := qb_2.open2
    obtain ⟨qce0, qce1, qce2, qce3⟩ := qc_2.open2
    go_wp2_with fail
    refine (sless_any 2 2 _ _ (v1 - a1) (b1 - a1) _ (by omega) (by omega) (InP.lo HV1.out HA1.out) (InP.hi HV1.out HA1.out) (InP.lo HB1.out HA1.out) (InP.hi HB1.out HA1.out) f2_2.num f3_2.num).mono ?_
    rintro e w11 ⟨m4, o4, n4, c4, rfl, f4_0, hb11⟩
    clear pae0 pae1 pae2 pae3 pbe0 pbe1 pbe2 pbe3 pve0 pve1 pve2 pve3 qbe0 qbe1 qbe2 qbe3 qce0 qce1 qce2 qce3
    have hB_3 := hB_2.trans (hb11.mono hB_2.size)
    have pa_3 := pa_2.below hb11
    have pb_3 := pb_2.below hb11
    have pv_3 := pv_2.below hb11
    have pr_3 := pr_2.below hb11
    have f1_3 := f1_2.below hb11
    have pn_3 := pn_2.below hb11
    have f2_3 := f2_2.below hb11
    have f3_3 := f3_2.below hb11
    have qb_3 := qb_2.below hb11
    have qc_3 := qc_2.below hb11
    clear hb11 hB_2 pa_2 pb_2 pv_2 pr_2 f1_2 pn_2 f2_2 f3_2 qb_2 qc_2
    have hl2pa := pa_3.lt
    have hl2pb := pb_3.lt
    have hl2pv := pv_3.lt
    have hl2pr := pr_3.lt
    have hl2pn := pn_3.lt
    have hl2qb := qb_3.lt
    have hl2qc := qc_3.lt
    have hl2B := hB_3.size
    obtain ⟨w12, hw12, px_0, hb12, hs12⟩ := new_box w11 (w11.heap.size) rfl [.bool m4, .slice o4 n4 c4] 29
    have hb12' : Below w11.heap.size w11 w12 := hb12.mono (by omega)
    clear hb12
    have hB_4 := hB_3.trans (hb12'.mono hB_3.size)
    have pa_4 := pa_3.below hb12'
    have pb_4 := pb_3.below hb12'
    have pv_4 := pv_3.below hb12'
    have pr_4 := pr_3.below hb12'
    have f1_4 := f1_3.below hb12'
    have pn_4 := pn_3.below hb12'
    have f2_4 := f2_3.below hb12'
    have f3_4 := f3_3.below hb12'
    have qb_4 := qb_3.below hb12'
    have qc_4 := qc_3.below hb12'
    have f4_1 := f4_0.below hb12'
    clear hb12' hB_3 pa_3 pb_3 pv_3 pr_3 f1_3 pn_3 f2_3 f3_3 qb_3 qc_3 f4_0
    obtain ⟨pae0, pae1, pae2, pae3⟩ := pa_4.open2
    obtain ⟨pbe0, pbe1, pbe2, pbe3⟩ := pb_4.open2
    obtain ⟨pve0, pve1, pve2, pve3⟩ := pv_4.open2
    obtain ⟨qbe0, qbe1, qbe2, qbe3⟩ := qb_4.open2
    obtain ⟨qce0, qce1, qce2, qce3⟩ := qc_4.open2
    go_wp2_with fail
    refine (sless_any 2 2 _ _ (b0 - a0) (v0 - a0) _ (by omega) (by omega) (InP.lo HB0.out HA0.out) (InP.hi HB0.out HA0.out) (InP.lo HV0.out HA0.out) (InP.hi HV0.out HA0.out) f3_4.num f2_4.num).mono ?_
    rintro e w13 ⟨m5, o5, n5, c5, rfl, f5_0, hb13⟩
    clear pae0 pae1 pae2 pae3 pbe0 pbe1 pbe2 pbe3 pve0 pve1 pve2 pve3 qbe0 qbe1 qbe2 qbe3 qce0 qce1 qce2 qce3
    have hB_5 := hB_4.trans (hb13.mono hB_4.size)
    have pa_5 := pa_4.below hb13
    have pb_5 := pb_4.below hb13
    have pv_5 := pv_4.below hb13
    have pr_5 := pr_4.below hb13
    have f1_5 := f1_4.below hb13
    have pn_5 := pn_4.below hb13
    have f2_5 := f2_4.below hb13
    have f3_5 := f3_4.below hb13
    have qb_5 := qb_4.below hb13
    have qc_5 := qc_4.below hb13
    have f4_2 := f4_1.below hb13
    have px_1 := px_0.below hb13
    clear hb13 hB_4 pa_4 pb_4 pv_4 pr_4 f1_4 pn_4 f2_4 f3_4 qb_4 qc_4 f4_1 px_0
    have hl3pa := pa_5.lt
    have hl3pb := pb_5.lt
    have hl3pv := pv_5.lt
    have hl3pr := pr_5.lt
    have hl3pn := pn_5.lt
    have hl3qb := qb_5.lt
    have hl3qc := qc_5.lt
    have hl3px := px_1.lt
    have hl3B := hB_5.size
    obtain ⟨w14, hw14, py_0, hb14, hs14⟩ := new_box w13 (w13.heap.size) rfl [.bool m5, .slice o5 n5 c5] 29
    have hb14' : Below w13.heap.size w13 w14 := hb14.mono (by omega)
    clear hb14
    have hB_6 := hB_5.trans (hb14'.mono hB_5.size)
    have pa_6 := pa_5.below hb14'
    have pb_6 := pb_5.below hb14'
    have pv_6 := pv_5.below hb14'
    have pr_6 := pr_5.below hb14'
    have f1_6 := f1_5.below hb14'
    have pn_6 := pn_5.below hb14'
    have f2_6 := f2_5.below hb14'
    have f3_6 := f3_5.below hb14'
    have qb_6 := qb_5.below hb14'
    have qc_6 := qc_5.below hb14'
    have f4_3 := f4_2.below hb14'
    have px_2 := px_1.below hb14'
    have f5_1 := f5_0.below hb14'
    clear hb14' hB_5 pa_5 pb_5 pv_5 pr_5 f1_5 pn_5 f2_5 f3_5 qb_5 qc_5 f4_2 px_1 f5_0
    obtain ⟨pne0, pne1, pne2, pne3⟩ := pn_6.open2
    go_wp2_with fail
    refine (nAdd_any _ _ 2 2 _ _ _ (by omega) (by omega) f1_6.num f1_6.num).mono ?_
    rintro e w15 ⟨m6, o6, n6, c6, rfl, f6_0, hb15⟩
    clear pne0 pne1 pne2 pne3
    have hB_7 := hB_6.trans (hb15.mono hB_6.size)
    have pa_7 := pa_6.below hb15
    have pb_7 := pb_6.below hb15
    have pv_7 := pv_6.below hb15
    have pr_7 := pr_6.below hb15
    have f1_7 := f1_6.below hb15
    have pn_7 := pn_6.below hb15
    have f2_7 := f2_6.below hb15
    have f3_7 := f3_6.below hb15
    have qb_7 := qb_6.below hb15
    have qc_7 := qc_6.below hb15
    have f4_4 := f4_3.below hb15
    have px_3 := px_2.below hb15
    have f5_2 := f5_1.below hb15
    have py_1 := py_0.below hb15
    clear hb15 hB_6 pa_6 pb_6 pv_6 pr_6 f1_6 pn_6 f2_6 f3_6 qb_6 qc_6 f4_3 px_2 f5_1 py_0
    have hl4pa := pa_7.lt
    have hl4pb := pb_7.lt
    have hl4pv := pv_7.lt
    have hl4pr := pr_7.lt
    have hl4pn := pn_7.lt
    have hl4qb := qb_7.lt
    have hl4qc := qc_7.lt
    have hl4px := px_3.lt
    have hl4py := py_1.lt
    have hl4B := hB_7.size
    obtain ⟨w16, hw16, pd_0, hb16, hs16⟩ := new_box w15 (w15.heap.size) rfl [.bool m6, .slice o6 n6 c6] 29
    have hb16' : Below w15.heap.size w15 w16 := hb16.mono (by omega)
    clear hb16
    have hB_8 := hB_7.trans (hb16'.mono hB_7.size)
    have pa_8 := pa_7.below hb16'
    have pb_8 := pb_7.below hb16'
    have pv_8 := pv_7.below hb16'
    have pr_8 := pr_7.below hb16'
    have f1_8 := f1_7.below hb16'
    have pn_8 := pn_7.below hb16'
    have f2_8 := f2_7.below hb16'
    have f3_8 := f3_7.below hb16'
    have qb_8 := qb_7.below hb16'
    have qc_8 := qc_7.below hb16'
    have f4_5 := f4_4.below hb16'
    have px_4 := px_3.below hb16'
    have f5_3 := f5_2.below hb16'
    have py_2 := py_1.below hb16'
    have f6_1 := f6_0.below hb16'
    clear hb16' hB_7 pa_7 pb_7 pv_7 pr_7 f1_7 pn_7 f2_7 f3_7 qb_7 qc_7 f4_4 px_3 f5_2 py_1 f6_0
    go_wp2
    try rw [hw16]
    have hB_9 := hB_8.drew'
    have pa_9 := pa_8.drew
    have pb_9 := pb_8.drew
    have pv_9 := pv_8.drew
    have pr_9 := pr_8.drew
    have f1_9 := f1_8.drew
    have pn_9 := pn_8.drew
    have f2_9 := f2_8.drew
    have f3_9 := f3_8.drew
    have qb_9 := qb_8.drew
    have qc_9 := qc_8.drew
    have f4_6 := f4_5.drew
    have px_5 := px_4.drew
    have f5_4 := f5_3.drew
    have py_3 := py_2.drew
    have f6_2 := f6_1.drew
    have pd_1 := pd_0.drew
    clear hB_8 pa_8 pb_8 pv_8 pr_8 f1_8 pn_8 f2_8 f3_8 qb_8 qc_8 f4_5 px_4 f5_3 py_2 f6_1 pd_0
    go_region_held3 (fun w' => w'.cell? ⟨w.heap.size, 0, none⟩ = some (.int .i64 a0) ∧ w'.cell? ⟨w.heap.size, 1, none⟩ = some (.int .i64 a1) ∧ w'.cell? ⟨w11.heap.size, 0, none⟩ = some (.bool m4) ∧ w'.cell? ⟨w11.heap.size, 1, none⟩ = some (.slice o4 n4 c4) ∧ w'.cell? ⟨w13.heap.size, 0, none⟩ = some (.bool m5) ∧ w'.cell? ⟨w13.heap.size, 1, none⟩ = some (.slice o5 n5 c5) ∧ w'.cell? ⟨w15.heap.size, 0, none⟩ = some (.bool m6) ∧ w'.cell? ⟨w15.heap.size, 1, none⟩ = some (.slice o6 n6 c6))
      (first | with_reducible exact ⟨pa_9.c0, pa_9.c1, px_5.c0, px_5.c1, py_3.c0, py_3.c1, pd_1.c0, pd_1.c1⟩ | with_reducible exact ⟨pa_10.c0, pa_10.c1, px_6.c0, px_6.c1, py_4.c0, py_4.c1, pd_2.c0, pd_2.c1⟩ | with_reducible exact ⟨pa_11.c0, pa_11.c1, px_7.c0, px_7.c1, py_5.c0, py_5.c1, pd_3.c0, pd_3.c1⟩ | with_reducible exact ⟨pa_12.c0, pa_12.c1, px_8.c0, px_8.c1, py_6.c0, py_6.c1, pd_4.c0, pd_4.c1⟩ | fail)
      (first
        | (go_at_call 44; (with_reducible refine (sbeyond_any a0 4 3 _ _ _ (by omega) (by omega) (by have := HA0.out; unfold InP at this; omega) (by have := HA0.out; unfold InP at this; omega) HE.out f4_6.num f6_2.num).mono ?_); rintro e w17 ⟨m7x, o7x, n7x, c7x, p7x, k7x, d7x, rfl, f7x_0, hb17⟩; have hB_10 := hB_9.trans (hb17.mono hB_9.size); have pa_10 := pa_9.below hb17; have pb_10 := pb_9.below hb17; have pv_10 := pv_9.below hb17; have pr_10 := pr_9.below hb17; have f1_10 := f1_9.below hb17; have pn_10 := pn_9.below hb17; have f2_10 := f2_9.below hb17; have f3_10 := f3_9.below hb17; have qb_10 := qb_9.below hb17; have qc_10 := qc_9.below hb17; have f4_7 := f4_6.below hb17; have px_6 := px_5.below hb17; have f5_5 := f5_4.below hb17; have py_4 := py_3.below hb17; have f6_3 := f6_2.below hb17; have pd_2 := pd_1.below hb17; clear hb17 hB_9 pa_9 pb_9 pv_9 pr_9 f1_9 pn_9 f2_9 f3_9 qb_9 qc_9 f4_6 px_5 f5_4 py_3 f6_2 pd_1)
        | (go_at_call 44; (with_reducible refine (sbeyond_any a1 4 3 _ _ _ (by omega) (by omega) (by have := HA1.out; unfold InP at this; omega) (by have := HA1.out; unfold InP at this; omega) HE.out f5_5.num f6_3.num).mono ?_); rintro e w18 ⟨m7y, o7y, n7y, c7y, p7y, k7y, d7y, rfl, f7y_0, hb18⟩; have hB_11 := hB_10.trans (hb18.mono hB_10.size); have pa_11 := pa_10.below hb18; have pb_11 := pb_10.below hb18; have pv_11 := pv_10.below hb18; have pr_11 := pr_10.below hb18; have f1_11 := f1_10.below hb18; have pn_11 := pn_10.below hb18; have f2_11 := f2_10.below hb18; have f3_11 := f3_10.below hb18; have qb_11 := qb_10.below hb18; have qc_11 := qc_10.below hb18; have f4_8 := f4_7.below hb18; have px_7 := px_6.below hb18; have f5_6 := f5_5.below hb18; have py_5 := py_4.below hb18; have f6_4 := f6_3.below hb18; have pd_3 := pd_2.below hb18; have f7x_1 := f7x_0.below hb18; clear hb18 hB_10 pa_10 pb_10 pv_10 pr_10 f1_10 pn_10 f2_10 f3_10 qb_10 qc_10 f4_7 px_6 f5_5 py_4 f6_3 pd_2 f7x_0; obtain ⟨sf3a, sf3b, sf3c, sf3d, sf3e, sf3f, sf3g, sf3h, sf3i, sf3j, sf3k, sf3l⟩ := pr_11.open6; obtain ⟨sg3a, sg3b, sg3c, sg3d, sg3e, sg3f, sg3g, sg3h, sg3i, sg3j⟩ := Box.put6 pr_11 (.bool m7x) (.slice o7x n7x c7x) (.slice p7x k7x d7x) (.bool m7y) (.slice o7y n7y c7y); have hB_12 := below_setAll hB_11 (g := w.heap.size + 1 + 1 + 1) (by omega) [.bool m7x, .slice o7x n7x c7x, .slice p7x k7x d7x, .bool m7y, .slice o7y n7y c7y, .slice p7y k7y d7y]; have pa_12 := pa_11.farAll (g' := w.heap.size + 1 + 1 + 1) (by omega) [.bool m7x, .slice o7x n7x c7x, .slice p7x k7x d7x, .bool m7y, .slice o7y n7y c7y, .slice p7y k7y d7y]; have pb_12 := pb_11.farAll (g' := w.heap.size + 1 + 1 + 1) (by omega) [.bool m7x, .slice o7x n7x c7x, .slice p7x k7x d7x, .bool m7y, .slice o7y n7y c7y, .slice p7y k7y d7y]; have pv_12 := pv_11.farAll (g' := w.heap.size + 1 + 1 + 1) (by omega) [.bool m7x, .slice o7x n7x c7x, .slice p7x k7x d7x, .bool m7y, .slice o7y n7y c7y, .slice p7y k7y d7y]; have f1_12 := f1_11.setAll pr_11 (noWord6 _ _ _ _ _ _ _ _ _ _ _ _ _ _) [.bool m7x, .slice o7x n7x c7x, .slice p7x k7x d7x, .bool m7y, .slice o7y n7y c7y, .slice p7y k7y d7y] rfl; have pn_12 := pn_11.farAll (g' := w.heap.size + 1 + 1 + 1) (by omega) [.bool m7x, .slice o7x n7x c7x, .slice p7x k7x d7x, .bool m7y, .slice o7y n7y c7y, .slice p7y k7y d7y]; have f2_12 := f2_11.setAll pr_11 (noWord6 _ _ _ _ _ _ _ _ _ _ _ _ _ _) [.bool m7x, .slice o7x n7x c7x, .slice p7x k7x d7x, .bool m7y, .slice o7y n7y c7y, .slice p7y k7y d7y] rfl; have f3_12 := f3_11.setAll pr_11 (noWord6 _ _ _ _ _ _ _ _ _ _ _ _ _ _) [.bool m7x, .slice o7x n7x c7x, .slice p7x k7x d7x, .bool m7y, .slice o7y n7y c7y, .slice p7y k7y d7y] rfl; have qb_12 := qb_11.farAll (g' := w.heap.size + 1 + 1 + 1) (by omega) [.bool m7x, .slice o7x n7x c7x, .slice p7x k7x d7x, .bool m7y, .slice o7y n7y c7y, .slice p7y k7y d7y]; have qc_12 := qc_11.farAll (g' := w.heap.size + 1 + 1 + 1) (by omega) [.bool m7x, .slice o7x n7x c7x, .slice p7x k7x d7x, .bool m7y, .slice o7y n7y c7y, .slice p7y k7y d7y]; have f4_9 := f4_8.setAll pr_11 (noWord6 _ _ _ _ _ _ _ _ _ _ _ _ _ _) [.bool m7x, .slice o7x n7x c7x, .slice p7x k7x d7x, .bool m7y, .slice o7y n7y c7y, .slice p7y k7y d7y] rfl; have px_8 := px_7.farAll (g' := w.heap.size + 1 + 1 + 1) (by omega) [.bool m7x, .slice o7x n7x c7x, .slice p7x k7x d7x, .bool m7y, .slice o7y n7y c7y, .slice p7y k7y d7y]; have f5_7 := f5_6.setAll pr_11 (noWord6 _ _ _ _ _ _ _ _ _ _ _ _ _ _) [.bool m7x, .slice o7x n7x c7x, .slice p7x k7x d7x, .bool m7y, .slice o7y n7y c7y, .slice p7y k7y d7y] rfl; have py_6 := py_5.farAll (g' := w.heap.size + 1 + 1 + 1) (by omega) [.bool m7x, .slice o7x n7x c7x, .slice p7x k7x d7x, .bool m7y, .slice o7y n7y c7y, .slice p7y k7y d7y]; have f6_5 := f6_4.setAll pr_11 (noWord6 _ _ _ _ _ _ _ _ _ _ _ _ _ _) [.bool m7x, .slice o7x n7x c7x, .slice p7x k7x d7x, .bool m7y, .slice o7y n7y c7y, .slice p7y k7y d7y] rfl; have pd_4 := pd_3.farAll (g' := w.heap.size + 1 + 1 + 1) (by omega) [.bool m7x, .slice o7x n7x c7x, .slice p7x k7x d7x, .bool m7y, .slice o7y n7y c7y, .slice p7y k7y d7y]; have f7x_2 := f7x_1.setAll pr_11 (noWord6 _ _ _ _ _ _ _ _ _ _ _ _ _ _) [.bool m7x, .slice o7x n7x c7x, .slice p7x k7x d7x, .bool m7y, .slice o7y n7y c7y, .slice p7y k7y d7y] rfl; have f7y_1 := f7y_0.setAll pr_11 (noWord6 _ _ _ _ _ _ _ _ _ _ _ _ _ _) [.bool m7x, .slice o7x n7x c7x, .slice p7x k7x d7x, .bool m7y, .slice o7y n7y c7y, .slice p7y k7y d7y] rfl; have pr_12 := pr_11.setAll [.bool m7x, .slice o7x n7x c7x, .slice p7x k7x d7x, .bool m7y, .slice o7y n7y c7y, .slice p7y k7y d7y] rfl; simp only [setAll, Nat.zero_add, Nat.reduceAdd] at hB_12 pa_12 pb_12 pv_12 pr_12 f1_12 pn_12 f2_12 f3_12 qb_12 qc_12 f4_9 px_8 f5_7 py_6 f6_5 pd_4 f7x_2 f7y_1))
    clear hB_11 pa_11 pb_11 pv_11 f1_11 pn_11 f2_11 f3_11 qb_11 qc_11 f4_8 px_7 f5_6 py_5 f6_4 pd_3 f7x_1 f7y_0 pr_11
    clear sf3a sf3b sf3c sf3d sf3e sf3f sf3g sf3h sf3i sf3j sf3k sf3l sg3a sg3b sg3c sg3d sg3e sg3f sg3g sg3h sg3i sg3j
    generalize (World.setCell (World.setCell (World.setCell (World.setCell (World.setCell (World.setCell w18 ⟨w.heap.size + 1 + 1 + 1, 0, none⟩ (.bool m7x)) ⟨w.heap.size + 1 + 1 + 1, 1, none⟩ (.slice o7x n7x c7x)) ⟨w.heap.size + 1 + 1 + 1, 2, none⟩ (.slice p7x k7x d7x)) ⟨w.heap.size + 1 + 1 + 1, 3, none⟩ (.bool m7y)) ⟨w.heap.size + 1 + 1 + 1, 4, none⟩ (.slice o7y n7y c7y)) ⟨w.heap.size + 1 + 1 + 1, 5, none⟩ (.slice p7y k7y d7y)) = w19 at *
    go_wp2
    obtain ⟨pre0, pre1, pre2, pre3, pre4, pre5, pre6, pre7, pre8, pre9, pre10, pre11⟩ := pr_12.open6
    exact bodyPost_ret (v := .tuple #[.agg #[.bool m7x, .slice o7x n7x c7x, .slice p7x k7x d7x, .bool m7y, .slice o7y n7y c7y, .slice p7y k7y d7y], .bool true]) (by simp [results, Try.results11, go_sem, pre0, pre1, pre2, pre3, pre4, pre5]) rfl ⟨_, _, _, _, _, _, _, _, _, _, _, _, _, _, rfl, f7x_2, f7y_1, hB_12⟩
  · right
    refine ⟨?_, fun i hi => ?_⟩
    · clear zF F2 F5 F6 F7 nq6_7
      cases lb2
      · exact ready_of 2 _ rfl rfl (by kernel_rfl)
      cases lb5
      · exact ready_of 5 _ rfl rfl (by kernel_rfl)
      cases lb6
      · exact ready_of 6 _ rfl rfl (by kernel_rfl)
      cases lb7
      · exact ready_of 7 _ rfl rfl (by kernel_rfl)
      exact absurd ⟨rfl, rfl, rfl, rfl⟩ hL
    have hd : (lb2 = false ∧ i = 2) ∨ (lb5 = false ∧ lb2 = true ∧ i = 5) ∨ (lb6 = false ∧ i = 6) ∨ (lb7 = false ∧ i = 7) := by
      have hin := ready_lt hi
      obtain rfl | rfl | rfl | rfl | rfl | rfl | rfl | rfl | rfl | rfl : i = 0 ∨ i = 1 ∨ i = 2 ∨ i = 3 ∨ i = 4 ∨ i = 5 ∨ i = 6 ∨ i = 7 ∨ i = 8 ∨ i = 9 := by have hin' : i < 10 := hin; omega
      · exact absurd (ready_off hi) (fun h => Bool.noConfusion (show true = false from h))
      · exact absurd (ready_off hi) (fun h => Bool.noConfusion (show true = false from h))
      · exact .inl ⟨ready_off hi, rfl⟩
      · exact absurd (ready_off hi) (fun h => Bool.noConfusion (show true = false from h))
      · exact absurd (ready_off hi) (fun h => Bool.noConfusion (show true = false from h))
      · exact .inr (.inl ⟨ready_off hi, ready_dep (d := 2) hi (by kernel_rfl), rfl⟩)
      · exact .inr (.inr (.inl ⟨ready_off hi, rfl⟩))
      · exact .inr (.inr (.inr (⟨ready_off hi, rfl⟩)))
      · have k6 : lb6 = true := ready_dep (d := 6) hi (by kernel_rfl); have k2 : lb2 = true := ready_dep (d := 2) hi (by kernel_rfl); have k5 : lb5 = true := ready_dep (d := 5) hi (by kernel_rfl); have k7 : lb7 = true := ready_dep (d := 7) hi (by kernel_rfl)
        exact absurd ⟨k2, k5, k6, k7⟩ hL
      · exact absurd (ready_dep (d := 8) hi (by kernel_rfl)) (fun h => Bool.noConfusion (show false = true from h))
    clear hi hL
    rcases hd with ⟨rfl, rfl⟩ | ⟨rfl, rfl, rfl⟩ | ⟨rfl, rfl⟩ | ⟨rfl, rfl⟩
    · refine step_of 2 ?_ ?_ (fun K hK => ?_)
      rotate_left 1
      · simp only [List.getElem?_toArray, List.getElem?_cons_succ, List.getElem?_cons_zero]; exact rfl
      rw [HAi.out]
      try simp only [Act.put]
      try simp only [List.setIfInBounds_toArray, List.set_cons_zero, List.set_cons_succ]
      go_simp
      refine (Dist2_any a0 a1 b0 b1 HA0.out HA1.out HB0.out HB1.out _).mono ?_
      rintro e w20 ⟨m2, o2, n2, c2, rfl, f2_0, hb⟩
      go_wp2_with fail
      refine hK.out _ _ (sFi (cFi zF hb)) ?_
      exact (hIVi _ _ _).2 ⟨true, lb5, lb6, lb7, (.agg #[.bool m2, .slice o2 n2 c2]), lv5, lv6, lv7, m2, o2, n2, c2, m3, o3, n3, c3, gqb, gqc, rfl, (by simp only [HAi.out, Act.put, List.setIfInBounds_toArray, List.set_cons_zero, List.set_cons_succ]), (cFi zF hb), (fun _ => ⟨rfl, f2_0⟩), (fun h => absurd (dp5_2 h) (by decide)), (fun h => ⟨(F6 h).1, (F6 h).2.1.below hb, (F6 h).2.2⟩), (fun h => ⟨(F7 h).1, (F7 h).2.1.below hb, (F7 h).2.2⟩), (fun _ => rfl), nq6_7⟩
    · obtain ⟨rfl, f2_0⟩ := F2 rfl
      clear F2
      refine step_of 5 ?_ ?_ (fun K hK => ?_)
      rotate_left 1
      · simp only [List.getElem?_toArray, List.getElem?_cons_succ, List.getElem?_cons_zero]; exact rfl
      rw [HAi.out]
      try simp only [Act.put]
      try simp only [List.setIfInBounds_toArray, List.set_cons_zero, List.set_cons_succ]
      go_simp
      refine (Dist2_any a0 a1 v0 v1 HA0.out HA1.out HV0.out HV1.out _).mono ?_
      rintro e w21 ⟨m3, o3, n3, c3, rfl, f3_0, hb⟩
      go_wp2_with fail
      refine hK.out _ _ (sFi (cFi zF hb)) ?_
      exact (hIVi _ _ _).2 ⟨true, true, lb6, lb7, _, (.agg #[.bool m3, .slice o3 n3 c3]), lv6, lv7, m2, o2, n2, c2, m3, o3, n3, c3, gqb, gqc, rfl, (by simp only [HAi.out, Act.put, List.setIfInBounds_toArray, List.set_cons_zero, List.set_cons_succ]), (cFi zF hb), (fun _ => ⟨rfl, f2_0.below hb⟩), (fun _ => ⟨rfl, f3_0⟩), (fun h => ⟨(F6 h).1, (F6 h).2.1.below hb, (F6 h).2.2⟩), (fun h => ⟨(F7 h).1, (F7 h).2.1.below hb, (F7 h).2.2⟩), (fun _ => rfl), nq6_7⟩
    · refine step_of 6 ?_ ?_ (fun K hK => ?_)
      rotate_left 1
      · simp only [List.getElem?_toArray, List.getElem?_cons_succ, List.getElem?_cons_zero]; exact rfl
      rw [HAi.out]
      try simp only [Act.put]
      try simp only [List.setIfInBounds_toArray, List.set_cons_zero, List.set_cons_succ]
      go_simp
      have hgn := mFi zF
      have hq7 : lb7 = true → gqc < w8.heap.size := fun h => (F7 h).2.1.lt
      obtain ⟨wn, hwn, qb_0, hb, -⟩ := new_box w8 _ rfl [.bool false, .slice none 0 0] 29
      rw [hwn]
      refine hK.out _ _ (sFi (cFi zF hb)) ?_
      exact (hIVi _ _ _).2 ⟨lb2, lb5, true, lb7, lv2, lv5, (.pointer (some ⟨w8.heap.size, 0, none⟩)), lv7, m2, o2, n2, c2, m3, o3, n3, c3, w8.heap.size, gqc, rfl, (by simp only [HAi.out, Act.put, List.setIfInBounds_toArray, List.set_cons_zero, List.set_cons_succ]), (cFi zF hb), (fun h => ⟨(F2 h).1, (F2 h).2.below hb⟩), (fun h => ⟨(F5 h).1, (F5 h).2.below hb⟩), (fun _ => ⟨rfl, qb_0, hgn⟩), (fun h => ⟨(F7 h).1, (F7 h).2.1.below hb, (F7 h).2.2⟩), dp5_2, (fun _ h => by have := hq7 h; omega)⟩
    · refine step_of 7 ?_ ?_ (fun K hK => ?_)
      rotate_left 1
      · simp only [List.getElem?_toArray, List.getElem?_cons_succ, List.getElem?_cons_zero]; exact rfl
      rw [HAi.out]
      try simp only [Act.put]
      try simp only [List.setIfInBounds_toArray, List.set_cons_zero, List.set_cons_succ]
      go_simp
      have hgn := mFi zF
      have hq6 : lb6 = true → gqb < w8.heap.size := fun h => (F6 h).2.1.lt
      obtain ⟨wn, hwn, qc_0, hb, -⟩ := new_box w8 _ rfl [.bool false, .slice none 0 0] 29
      rw [hwn]
      refine hK.out _ _ (sFi (cFi zF hb)) ?_
      exact (hIVi _ _ _).2 ⟨lb2, lb5, lb6, true, lv2, lv5, lv6, (.pointer (some ⟨w8.heap.size, 0, none⟩)), m2, o2, n2, c2, m3, o3, n3, c3, gqb, w8.heap.size, rfl, (by simp only [HAi.out, Act.put, List.setIfInBounds_toArray, List.set_cons_zero, List.set_cons_succ]), (cFi zF hb), (fun h => ⟨(F2 h).1, (F2 h).2.below hb⟩), (fun h => ⟨(F5 h).1, (F5 h).2.below hb⟩), (fun h => ⟨(F6 h).1, (F6 h).2.1.below hb, (F6 h).2.2⟩), (fun _ => ⟨rfl, qc_0, hgn⟩), dp5_2, (fun h _ => by have := hq6 h; omega)⟩
theorem sCentre_s (a0 a1 b0 b1 v0 v1 : Int) (ha0 : InP a0) (ha1 : InP a1) (hb0 : InP b0) (hb1 : InP b1) (hv0 : InP v0) (hv1 : InP v1) (h : crs a0 a1 b0 b1 v0 v1 ≠ 0) (w : World) : Calls Try.prog 11 #[.agg #[.int .i64 a0, .int .i64 a1], .agg #[.int .i64 b0, .int .i64 b1], .agg #[.int .i64 v0, .int .i64 v1]] w fun e w' => AnsSt w w' e 7 (cx a0 a1 b0 b1 v0 v1) (cy a0 a1 b0 b1 v0 v1) :=
  sCentre_w a0 a1 b0 b1 v0 v1 ha0 ha1 hb0 hb1 hv0 hv1 _ rfl (beq_eq_false_iff_ne.2 (fun k => h (Int.sign_eq_zero_iff_zero.1 k))) (by omega) ⟨hv1.wrap ha1, hb1.wrap ha1, hb0.wrap ha0, hv0.wrap ha0⟩ w
end Go.Proofs.Ytkcfaddilknelaa
/- The statements' own fit. -/
namespace Go.Proofs.Ytkcfaddilknelaa
open Go.RowKit Go.MagM
theorem in0 : InP 0 := by unfold InP; omega
theorem in1 : InP 1 := by unfold InP; omega
theorem in2 : InP 2 := by unfold InP; omega
theorem cx_fit : cx 0 0 2 0 0 2 = ((1 : Int) : Rat) := by
  have h := cx_mul (a0 := 0) (a1 := 0) (b0 := 2) (b1 := 0) (v0 := 0) (v1 := 2) (by decide)
  apply mul_cancel (d := ((crs 0 0 2 0 0 2 + crs 0 0 2 0 0 2 : Int) : Rat)) (ic_ne (by decide))
  rw [show ((0 : Int) : Rat) = 0 from rfl] at h
  rw [← ic_mul, show (1 : Int) * (crs 0 0 2 0 0 2 + crs 0 0 2 0 0 2) = cxN 0 0 2 0 0 2 from by decide, ← h]
  grind
theorem cy_fit : cy 0 0 2 0 0 2 = ((1 : Int) : Rat) := by
  have h := cy_mul (a0 := 0) (a1 := 0) (b0 := 2) (b1 := 0) (v0 := 0) (v1 := 2) (by decide)
  apply mul_cancel (d := ((crs 0 0 2 0 0 2 + crs 0 0 2 0 0 2 : Int) : Rat)) (ic_ne (by decide))
  rw [show ((0 : Int) : Rat) = 0 from rfl] at h
  rw [← ic_mul, show (1 : Int) * (crs 0 0 2 0 0 2 + crs 0 0 2 0 0 2) = cyN 0 0 2 0 0 2 from by decide, ← h]
  grind
theorem dist_fit : (distQ ((1 : Int) : Rat) ((1 : Int) : Rat) ((0 : Int) : Rat) ((0 : Int) : Rat)).num.sign = 1 := by
  rw [dist_int, Rat.num_intCast]; decide
set_option maxHeartbeats 4000000 in
theorem sfit_any (w : World) :
    Calls Try.prog 9 #[] w fun e w' => e = .returned (.bool true) ∧ Below w.heap.size w w' := by
  have hB_0 := Below.refl w.heap.size w
  go_enter Try.func9, Try.ntmps9
  go_wp2_with fail
  refine (sCentre_s 0 0 2 0 0 2 in0 in0 in2 in0 in0 in2 (by decide) _).mono ?_
  rintro e w1 ⟨m1x, o1x, n1x, c1x, p1x, k1x, d1x, m1y, o1y, n1y, c1y, p1y, k1y, d1y, rfl, f1x_0, f1y_0, hb1⟩
  have hB_1 := hB_0.trans (hb1.mono hB_0.size)
  clear hb1 hB_0
  rw [cx_fit] at f1x_0
  rw [cy_fit] at f1y_0
  have hl1B := hB_1.size
  obtain ⟨w2, hw2, pc_0, hb2, hs2⟩ := new_box w1 (w1.heap.size) rfl [.bool m1x, .slice o1x n1x c1x, .slice p1x k1x d1x, .bool m1y, .slice o1y n1y c1y, .slice p1y k1y d1y] 33
  have hb2' : Below w1.heap.size w1 w2 := hb2.mono (by omega)
  clear hb2
  have hB_2 := hB_1.trans (hb2'.mono hB_1.size)
  have f1x_1 := f1x_0.below hb2'
  have f1y_1 := f1y_0.below hb2'
  clear hb2' hB_1 f1x_0 f1y_0
  go_wp2
  try rw [hw2]
  have hB_3 := hB_2.drew'
  have f1x_2 := f1x_1.drew
  have f1y_2 := f1y_1.drew
  have pc_1 := pc_0.drew
  clear hB_2 f1x_1 f1y_1 pc_0
  go_region_held3 (fun w' => w'.cell? ⟨w1.heap.size, 0, none⟩ = some (.bool m1x) ∧ w'.cell? ⟨w1.heap.size, 1, none⟩ = some (.slice o1x n1x c1x) ∧ w'.cell? ⟨w1.heap.size, 2, none⟩ = some (.slice p1x k1x d1x) ∧ w'.cell? ⟨w1.heap.size, 3, none⟩ = some (.bool m1y) ∧ w'.cell? ⟨w1.heap.size, 4, none⟩ = some (.slice o1y n1y c1y) ∧ w'.cell? ⟨w1.heap.size, 5, none⟩ = some (.slice p1y k1y d1y))
    (first | with_reducible exact ⟨pc_1.c0, pc_1.c1, pc_1.c2, pc_1.c3, pc_1.c4, pc_1.c5⟩ | with_reducible exact ⟨pc_2.c0, pc_2.c1, pc_2.c2, pc_2.c3, pc_2.c4, pc_2.c5⟩ | with_reducible exact ⟨pc_3.c0, pc_3.c1, pc_3.c2, pc_3.c3, pc_3.c4, pc_3.c5⟩ | with_reducible exact ⟨pc_4.c0, pc_4.c1, pc_4.c2, pc_4.c3, pc_4.c4, pc_4.c5⟩ | with_reducible exact ⟨pc_5.c0, pc_5.c1, pc_5.c2, pc_5.c3, pc_5.c4, pc_5.c5⟩ | with_reducible exact ⟨pc_6.c0, pc_6.c1, pc_6.c2, pc_6.c3, pc_6.c4, pc_6.c5⟩ | with_reducible exact ⟨pc_7.c0, pc_7.c1, pc_7.c2, pc_7.c3, pc_7.c4, pc_7.c5⟩ | with_reducible exact ⟨pc_8.c0, pc_8.c1, pc_8.c2, pc_8.c3, pc_8.c4, pc_8.c5⟩ | fail)
    (first
      | (go_at_call 15; (with_reducible refine (sOf_any 1 1 in1 in1 _).mono ?_); rintro e w3 ⟨m2x, o2x, n2x, c2x, p2x, k2x, d2x, m2y, o2y, n2y, c2y, p2y, k2y, d2y, rfl, f2x_0, f2y_0, hb3⟩; have hB_4 := hB_3.trans (hb3.mono hB_3.size); have f1x_3 := f1x_2.below hb3; have f1y_3 := f1y_2.below hb3; have pc_2 := pc_1.below hb3; clear hb3 hB_3 f1x_2 f1y_2 pc_1)
      | (go_at_call 17; (with_reducible refine (sSame_any 7 _ _ 1 _ _ _ (by omega) (by omega) f1x_3.q f1y_3.q f2x_0.q f2y_0.q true ⟨fun _ => rfl, fun _ => ⟨rfl, rfl⟩⟩).mono ?_); rintro e w4 ⟨rfl, hb4⟩; have hB_5 := hB_4.trans (hb4.mono hB_4.size); have f1x_4 := f1x_3.below hb4; have f1y_4 := f1y_3.below hb4; have pc_3 := pc_2.below hb4; have f2x_1 := f2x_0.below hb4; have f2y_1 := f2y_0.below hb4; clear hb4 hB_4 f1x_3 f1y_3 pc_2 f2x_0 f2y_0)
      | (go_at_call 15; (with_reducible refine (sOf_any 0 0 in0 in0 _).mono ?_); rintro e w5 ⟨m3x, o3x, n3x, c3x, p3x, k3x, d3x, m3y, o3y, n3y, c3y, p3y, k3y, d3y, rfl, f3x_0, f3y_0, hb5⟩; have hB_6 := hB_5.trans (hb5.mono hB_5.size); have f1x_5 := f1x_4.below hb5; have f1y_5 := f1y_4.below hb5; have pc_4 := pc_3.below hb5; have f2x_2 := f2x_1.below hb5; have f2y_2 := f2y_1.below hb5; clear hb5 hB_5 f1x_4 f1y_4 pc_3 f2x_1 f2y_1)
      | (go_at_call 17; (with_reducible refine (sSame_any 7 _ _ 1 _ _ _ (by omega) (by omega) f1x_5.q f1y_5.q f3x_0.q f3y_0.q false ⟨fun k => absurd (Rat.intCast_inj.1 k.1) (by decide), fun k => by cases k⟩).mono ?_); rintro e w6 ⟨rfl, hb6⟩; have hB_7 := hB_6.trans (hb6.mono hB_6.size); have f1x_6 := f1x_5.below hb6; have f1y_6 := f1y_5.below hb6; have pc_5 := pc_4.below hb6; have f2x_3 := f2x_2.below hb6; have f2y_3 := f2y_2.below hb6; have f3x_1 := f3x_0.below hb6; have f3y_1 := f3y_0.below hb6; clear hb6 hB_6 f1x_5 f1y_5 pc_4 f2x_2 f2y_2 f3x_0 f3y_0)
      | (go_at_call 15; (with_reducible refine (sOf_any 0 0 in0 in0 _).mono ?_); rintro e w7 ⟨m4x, o4x, n4x, c4x, p4x, k4x, d4x, m4y, o4y, n4y, c4y, p4y, k4y, d4y, rfl, f4x_0, f4y_0, hb7⟩; have hB_8 := hB_7.trans (hb7.mono hB_7.size); have f1x_7 := f1x_6.below hb7; have f1y_7 := f1y_6.below hb7; have pc_6 := pc_5.below hb7; have f2x_4 := f2x_3.below hb7; have f2y_4 := f2y_3.below hb7; have f3x_2 := f3x_1.below hb7; have f3y_2 := f3y_1.below hb7; clear hb7 hB_7 f1x_6 f1y_6 pc_5 f2x_3 f2y_3 f3x_1 f3y_1)
      | (go_at_call 14; (with_reducible refine (sDist2_any 7 _ _ 1 _ _ _ (by omega) (by omega) f1x_7.q f1y_7.q f4x_0.q f4y_0.q).mono ?_); rintro e w8 ⟨m5, o5, n5, c5, p5, k5, d5, rfl, f5_0, hb8⟩; have hB_9 := hB_8.trans (hb8.mono hB_8.size); have f1x_8 := f1x_7.below hb8; have f1y_8 := f1y_7.below hb8; have pc_7 := pc_6.below hb8; have f2x_5 := f2x_4.below hb8; have f2y_5 := f2y_4.below hb8; have f3x_3 := f3x_2.below hb8; have f3y_3 := f3y_2.below hb8; have f4x_1 := f4x_0.below hb8; have f4y_1 := f4y_0.below hb8; clear hb8 hB_8 f1x_7 f1y_7 pc_6 f2x_4 f2y_4 f3x_2 f3y_2 f4x_0 f4y_0)
      | (go_at_call 13; (with_reducible refine (qSign _ _ _ _ (by omega) f5_0.q 1 dist_fit).mono ?_); rintro e w9 ⟨rfl, hb9⟩; have hB_10 := hB_9.trans (hb9.mono hB_9.size); have f1x_9 := f1x_8.below hb9; have f1y_9 := f1y_8.below hb9; have pc_8 := pc_7.below hb9; have f2x_6 := f2x_5.below hb9; have f2y_6 := f2y_5.below hb9; have f3x_4 := f3x_3.below hb9; have f3y_4 := f3y_3.below hb9; have f4x_2 := f4x_1.below hb9; have f4y_2 := f4y_1.below hb9; have f5_1 := f5_0.below hb9; clear hb9 hB_9 f1x_8 f1y_8 pc_7 f2x_5 f2y_5 f3x_3 f3y_3 f4x_1 f4y_1 f5_0))
  go_wp2
  go_ret
  exact ⟨rfl, hB_10⟩
end Go.Proofs.Ytkcfaddilknelaa
/- Boxes of ints hold no word. Over no program. -/
namespace Go.MagM
theorem noWordI2 (x y : Int) : ∀ u ∈ [Value.int .i64 x, Value.int .i64 y], NoWord u := by
  intro u hu; simp at hu; rcases hu with rfl | rfl <;> exact NoWord.int _
theorem noWordI6 (x0 x1 x2 x3 x4 x5 : Int) : ∀ u ∈ [Value.int .i64 x0, Value.int .i64 x1, Value.int .i64 x2, Value.int .i64 x3, Value.int .i64 x4, Value.int .i64 x5], NoWord u := by
  intro u hu; simp at hu; rcases hu with rfl | rfl | rfl | rfl | rfl | rfl <;> exact NoWord.int _
end Go.MagM
/- A part of a box is written. Over no program. -/
namespace Go.MagM
open Go.RowKit
/-- No word, by looking. -/
def isNW : Value → Bool
  | .int .u64 _ => false
  | _ => true
theorem noWordB (l : List Value) (h : l.all isNW = true) : ∀ u ∈ l, NoWord u := by
  intro u hu x e
  rw [List.all_eq_true] at h
  have := h u hu
  rw [e] at this
  cases this
theorem Kept.setFrom {g : Nat} : ∀ (xs : List Value) (off : Nat) {w : World} {vs : List Value}, Box w g vs → (∀ i u, off ≤ i → vs[i]? = some u → NoWord u) → off + xs.length ≤ vs.length → Kept w (Go.MagM.setAll w g off xs)
  | [], _, w, _, _, _, _ => Kept.refl w
  | x :: xs, off, w, vs, hb, hv, hl => by
    have hl' : off + (xs.length + 1) ≤ vs.length := by simpa using hl
    have ho : vs[off]? = some (vs[off]'(by omega)) := List.getElem?_eq_getElem (by omega)
    have h1 := Kept.setOne (hb.c off _ ho) (hv off _ (Nat.le_refl _) ho) x
    refine h1.trans (Kept.setFrom xs (off + 1) (hb.set off x) (fun i u hi hu => hv i u (by omega) ?_) (by simpa using by omega))
    rwa [List.getElem?_set_ne (by omega)] at hu
theorem Kept.setPart {w : World} {g : Nat} {vs : List Value} (hb : Box w g vs) (hv : ∀ u ∈ vs, NoWord u) (off : Nat) (xs : List Value) (hl : off + xs.length ≤ vs.length) : Kept w (Go.MagM.setAll w g off xs) :=
  Kept.setFrom xs off hb (fun _ _ _ hu => hv _ (List.mem_of_getElem? hu)) hl
end Go.MagM
