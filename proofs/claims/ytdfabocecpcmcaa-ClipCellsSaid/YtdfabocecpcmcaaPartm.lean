/- The calls of clip: Value, twice, Nearer, crossing. -/
import Derived.Test.YtdfabocecpcmcaaPartl
import Derived.Test.YtdfabocecpcmcaaPartk
import Derived.Test.YtdfabocecpcmcaaParti
namespace Go.Proofs.Ytdfabocecpcmcaa
open Go.RowKit Go.MagM
/-- A call's answer is a Half: three right Fracs. -/
def AnsH (w w' : World) (e : Ending) (L M N : Nat) (p q r : Rat) : Prop := ∃ m ao n c bo k d m2 ao2 n2 c2 bo2 k2 d2 m3 ao3 n3 c3 bo3 k3 d3, e = .returned (.agg #[.bool m, .slice ao n c, .slice bo k d, .bool m2, .slice ao2 n2 c2, .slice bo2 k2 d2, .bool m3, .slice ao3 n3 c3, .slice bo3 k3 d3]) ∧
  RF w' (.agg #[.bool m, .slice ao n c, .slice bo k d]) L p ∧ RF w' (.agg #[.bool m2, .slice ao2 n2 c2, .slice bo2 k2 d2]) M q ∧ RF w' (.agg #[.bool m3, .slice ao3 n3 c3, .slice bo3 k3 d3]) N r ∧ Below w.heap.size w w'
set_option maxHeartbeats 4000000 in
theorem cValue_any {ham : Bool} {hao : Option Addr} {han hac : Nat} {hap : Option Addr} {hak had : Nat} {hbm : Bool} {hbo : Option Addr} {hbn hbc : Nat} {hbp : Option Addr} {hbk hbd : Nat} {hcm : Bool} {hco : Option Addr} {hcn hcc : Nat} {hcp : Option Addr} {hck hcd : Nat} {sxm : Bool} {sxo : Option Addr} {sxn sxc : Nat} {sxp : Option Addr} {sxk sxd : Nat} {sym : Bool} {syo : Option Addr} {syn syc : Nat} {syp : Option Addr} {syk syd : Nat} (Lh : Nat) (haq hbq hcq : Rat) (Ls : Nat) (sxq syq : Rat) (w : World) (hLh : Lh ≤ 1000000) (hLs : Ls ≤ 1000000) (fha_0 : FQ w (.agg #[.bool ham, .slice hao han hac, .slice hap hak had]) Lh haq) (fhb_0 : FQ w (.agg #[.bool hbm, .slice hbo hbn hbc, .slice hbp hbk hbd]) Lh hbq) (fhc_0 : FQ w (.agg #[.bool hcm, .slice hco hcn hcc, .slice hcp hck hcd]) Lh hcq) (fsx_0 : FQ w (.agg #[.bool sxm, .slice sxo sxn sxc, .slice sxp sxk sxd]) Ls sxq) (fsy_0 : FQ w (.agg #[.bool sym, .slice syo syn syc, .slice syp syk syd]) Ls syq) :
    Calls Try.prog 19 #[.agg #[.bool ham, .slice hao han hac, .slice hap hak had, .bool hbm, .slice hbo hbn hbc, .slice hbp hbk hbd, .bool hcm, .slice hco hcn hcc, .slice hcp hck hcd], .agg #[.bool sxm, .slice sxo sxn sxc, .slice sxp sxk sxd, .bool sym, .slice syo syn syc, .slice syp syk syd]] w fun e w' => AnsF w w' e (((Lh + Ls + 2) + (Lh + Ls + 2) + 2) + Lh + 2) (fvQ haq hbq hcq (sxq, syq)) := by
  have hB_0 := Below.refl w.heap.size w
  have HLh := Lib.hid hLh; have HLs := Lib.hid hLs
  clear hLh hLs
  obtain ⟨w1, hw1, ph_0, hb1, hs1⟩ := new_box w (w.heap.size) rfl [.bool ham, .slice hao han hac, .slice hap hak had, .bool hbm, .slice hbo hbn hbc, .slice hbp hbk hbd, .bool hcm, .slice hco hcn hcc, .slice hcp hck hcd] 30
  have hb1' : Below w.heap.size w w1 := hb1.mono (by omega)
  clear hb1
  have hB_1 := hB_0.trans (hb1'.mono hB_0.size)
  have fha_1 := fha_0.below hb1'
  have fhb_1 := fhb_0.below hb1'
  have fhc_1 := fhc_0.below hb1'
  have fsx_1 := fsx_0.below hb1'
  have fsy_1 := fsy_0.below hb1'
  clear hb1' hB_0 fha_0 fhb_0 fhc_0 fsx_0 fsy_0
  obtain ⟨w2, hw2, ps_0, hb2, hs2⟩ := new_box w1 (w.heap.size + 1) hs1 [.bool sxm, .slice sxo sxn sxc, .slice sxp sxk sxd, .bool sym, .slice syo syn syc, .slice syp syk syd] 42
  have hb2' : Below w1.heap.size w1 w2 := hb2.mono (by omega)
  clear hb2
  have hB_2 := hB_1.trans (hb2'.mono hB_1.size)
  have fha_2 := fha_1.below hb2'
  have fhb_2 := fhb_1.below hb2'
  have fhc_2 := fhc_1.below hb2'
  have fsx_2 := fsx_1.below hb2'
  have fsy_2 := fsy_1.below hb2'
  have ph_1 := ph_0.below hb2'
  clear hb2' hB_1 fha_1 fhb_1 fhc_1 fsx_1 fsy_1 ph_0
  obtain ⟨w3, hw3, pr_0, hb3, hs3⟩ := new_box w2 (w.heap.size + 1 + 1) hs2 [.bool false, .slice none 0 0, .slice none 0 0] 28
  have hb3' : Below w2.heap.size w2 w3 := hb3.mono (by omega)
  clear hb3
  have hB_3 := hB_2.trans (hb3'.mono hB_2.size)
  have fha_3 := fha_2.below hb3'
  have fhb_3 := fhb_2.below hb3'
  have fhc_3 := fhc_2.below hb3'
  have fsx_3 := fsx_2.below hb3'
  have fsy_3 := fsy_2.below hb3'
  have ph_2 := ph_1.below hb3'
  have ps_1 := ps_0.below hb3'
  clear hb3' hB_2 fha_2 fhb_2 fhc_2 fsx_2 fsy_2 ph_1 ps_0
  go_enter Try.func19, Try.ntmps19
  go_wp2
  have hB_4 := hB_3.drew'
  have fha_4 := fha_3.drew
  have fhb_4 := fhb_3.drew
  have fhc_4 := fhc_3.drew
  have fsx_4 := fsx_3.drew
  have fsy_4 := fsy_3.drew
  have ph_3 := ph_2.drew
  have ps_2 := ps_1.drew
  have pr_1 := pr_0.drew
  clear hB_3 fha_3 fhb_3 fhc_3 fsx_3 fsy_3 ph_2 ps_1 pr_0
  go_region_held3 (fun w' => w'.cell? ⟨w.heap.size, 0, none⟩ = some (.bool ham) ∧ w'.cell? ⟨w.heap.size, 1, none⟩ = some (.slice hao han hac) ∧ w'.cell? ⟨w.heap.size, 2, none⟩ = some (.slice hap hak had) ∧ w'.cell? ⟨w.heap.size, 3, none⟩ = some (.bool hbm) ∧ w'.cell? ⟨w.heap.size, 4, none⟩ = some (.slice hbo hbn hbc) ∧ w'.cell? ⟨w.heap.size, 5, none⟩ = some (.slice hbp hbk hbd) ∧ w'.cell? ⟨w.heap.size, 6, none⟩ = some (.bool hcm) ∧ w'.cell? ⟨w.heap.size, 7, none⟩ = some (.slice hco hcn hcc) ∧ w'.cell? ⟨w.heap.size, 8, none⟩ = some (.slice hcp hck hcd) ∧ w'.cell? ⟨w.heap.size + 1, 0, none⟩ = some (.bool sxm) ∧ w'.cell? ⟨w.heap.size + 1, 1, none⟩ = some (.slice sxo sxn sxc) ∧ w'.cell? ⟨w.heap.size + 1, 2, none⟩ = some (.slice sxp sxk sxd) ∧ w'.cell? ⟨w.heap.size + 1, 3, none⟩ = some (.bool sym) ∧ w'.cell? ⟨w.heap.size + 1, 4, none⟩ = some (.slice syo syn syc) ∧ w'.cell? ⟨w.heap.size + 1, 5, none⟩ = some (.slice syp syk syd))
    (first | with_reducible exact ⟨ph_3.c0, ph_3.c1, ph_3.c2, ph_3.c3, ph_3.c4, ph_3.c5, ph_3.c6, ph_3.c7, ph_3.c8, ps_2.c0, ps_2.c1, ps_2.c2, ps_2.c3, ps_2.c4, ps_2.c5⟩ | with_reducible exact ⟨ph_4.c0, ph_4.c1, ph_4.c2, ph_4.c3, ph_4.c4, ph_4.c5, ph_4.c6, ph_4.c7, ph_4.c8, ps_3.c0, ps_3.c1, ps_3.c2, ps_3.c3, ps_3.c4, ps_3.c5⟩ | with_reducible exact ⟨ph_5.c0, ph_5.c1, ph_5.c2, ph_5.c3, ph_5.c4, ph_5.c5, ph_5.c6, ph_5.c7, ph_5.c8, ps_4.c0, ps_4.c1, ps_4.c2, ps_4.c3, ps_4.c4, ps_4.c5⟩ | with_reducible exact ⟨ph_6.c0, ph_6.c1, ph_6.c2, ph_6.c3, ph_6.c4, ph_6.c5, ph_6.c6, ph_6.c7, ph_6.c8, ps_5.c0, ps_5.c1, ps_5.c2, ps_5.c3, ps_5.c4, ps_5.c5⟩ | with_reducible exact ⟨ph_7.c0, ph_7.c1, ph_7.c2, ph_7.c3, ph_7.c4, ph_7.c5, ph_7.c6, ph_7.c7, ph_7.c8, ps_6.c0, ps_6.c1, ps_6.c2, ps_6.c3, ps_6.c4, ps_6.c5⟩ | with_reducible exact ⟨ph_8.c0, ph_8.c1, ph_8.c2, ph_8.c3, ph_8.c4, ph_8.c5, ph_8.c6, ph_8.c7, ph_8.c8, ps_7.c0, ps_7.c1, ps_7.c2, ps_7.c3, ps_7.c4, ps_7.c5⟩ | fail)
    (first
      | (go_at_call 23; (with_reducible refine (qMul _ _ Lh Ls haq sxq _ (by have := HLh.out; have := HLs.out; omega) (by have := HLh.out; have := HLs.out; omega) fha_4 fsx_4).mono ?_); rintro e w4 ⟨m1, o1, n1, c1, p1, k1, d1, rfl, f1_0, hb4⟩; have hB_5 := hB_4.trans (hb4.mono hB_4.size); have fha_5 := fha_4.below hb4; have fhb_5 := fhb_4.below hb4; have fhc_5 := fhc_4.below hb4; have fsx_5 := fsx_4.below hb4; have fsy_5 := fsy_4.below hb4; have ph_4 := ph_3.below hb4; have ps_3 := ps_2.below hb4; have pr_2 := pr_1.below hb4; clear hb4 hB_4 fha_4 fhb_4 fhc_4 fsx_4 fsy_4 ph_3 ps_2 pr_1)
      | (go_at_call 23; (with_reducible refine (qMul _ _ Lh Ls hbq syq _ (by have := HLh.out; have := HLs.out; omega) (by have := HLh.out; have := HLs.out; omega) fhb_5 fsy_5).mono ?_); rintro e w5 ⟨m2, o2, n2, c2, p2, k2, d2, rfl, f2_0, hb5⟩; have hB_6 := hB_5.trans (hb5.mono hB_5.size); have fha_6 := fha_5.below hb5; have fhb_6 := fhb_5.below hb5; have fhc_6 := fhc_5.below hb5; have fsx_6 := fsx_5.below hb5; have fsy_6 := fsy_5.below hb5; have ph_5 := ph_4.below hb5; have ps_4 := ps_3.below hb5; have pr_3 := pr_2.below hb5; have f1_1 := f1_0.below hb5; clear hb5 hB_5 fha_5 fhb_5 fhc_5 fsx_5 fsy_5 ph_4 ps_3 pr_2 f1_0)
      | (go_at_call 16; (with_reducible refine (qAdd _ _ (Lh + Ls + 2) (Lh + Ls + 2) _ _ _ (by have := HLh.out; have := HLs.out; omega) (by have := HLh.out; have := HLs.out; omega) f1_1.q f2_0.q).mono ?_); rintro e w6 ⟨m3, o3, n3, c3, p3, k3, d3, rfl, f3_0, hb6⟩; have hB_7 := hB_6.trans (hb6.mono hB_6.size); have fha_7 := fha_6.below hb6; have fhb_7 := fhb_6.below hb6; have fhc_7 := fhc_6.below hb6; have fsx_7 := fsx_6.below hb6; have fsy_7 := fsy_6.below hb6; have ph_6 := ph_5.below hb6; have ps_5 := ps_4.below hb6; have pr_4 := pr_3.below hb6; have f1_2 := f1_1.below hb6; have f2_1 := f2_0.below hb6; clear hb6 hB_6 fha_6 fhb_6 fhc_6 fsx_6 fsy_6 ph_5 ps_4 pr_3 f1_1 f2_0)
      | (go_at_call 22; (with_reducible refine (qSub _ _ ((Lh + Ls + 2) + (Lh + Ls + 2) + 2) Lh _ hcq _ (by have := HLh.out; have := HLs.out; omega) (by have := HLh.out; have := HLs.out; omega) f3_0.q fhc_7).mono ?_); rintro e w7 ⟨m4, o4, n4, c4, p4, k4, d4, rfl, f4_0, hb7⟩; have hB_8 := hB_7.trans (hb7.mono hB_7.size); have fha_8 := fha_7.below hb7; have fhb_8 := fhb_7.below hb7; have fhc_8 := fhc_7.below hb7; have fsx_8 := fsx_7.below hb7; have fsy_8 := fsy_7.below hb7; have ph_7 := ph_6.below hb7; have ps_6 := ps_5.below hb7; have pr_5 := pr_4.below hb7; have f1_3 := f1_2.below hb7; have f2_2 := f2_1.below hb7; have f3_1 := f3_0.below hb7; clear hb7 hB_7 fha_7 fhb_7 fhc_7 fsx_7 fsy_7 ph_6 ps_5 pr_4 f1_2 f2_1 f3_0; obtain ⟨sf1a, sf1b, sf1c, sf1d, sf1e, sf1f⟩ := pr_5.open3; obtain ⟨sg1a, sg1b, sg1c, sg1d⟩ := Box.put3 pr_5 (.bool m4) (.slice o4 n4 c4); have hB_9 := below_setAll hB_8 (g := w.heap.size + 1 + 1) (by omega) [.bool m4, .slice o4 n4 c4, .slice p4 k4 d4]; have fha_9 := fha_8.setAll pr_5 (noWord3 _ _ _ _ _ _ _) [.bool m4, .slice o4 n4 c4, .slice p4 k4 d4] rfl; have fhb_9 := fhb_8.setAll pr_5 (noWord3 _ _ _ _ _ _ _) [.bool m4, .slice o4 n4 c4, .slice p4 k4 d4] rfl; have fhc_9 := fhc_8.setAll pr_5 (noWord3 _ _ _ _ _ _ _) [.bool m4, .slice o4 n4 c4, .slice p4 k4 d4] rfl; have fsx_9 := fsx_8.setAll pr_5 (noWord3 _ _ _ _ _ _ _) [.bool m4, .slice o4 n4 c4, .slice p4 k4 d4] rfl; have fsy_9 := fsy_8.setAll pr_5 (noWord3 _ _ _ _ _ _ _) [.bool m4, .slice o4 n4 c4, .slice p4 k4 d4] rfl; have ph_8 := ph_7.farAll (g' := w.heap.size + 1 + 1) (by omega) [.bool m4, .slice o4 n4 c4, .slice p4 k4 d4]; have ps_7 := ps_6.farAll (g' := w.heap.size + 1 + 1) (by omega) [.bool m4, .slice o4 n4 c4, .slice p4 k4 d4]; have f1_4 := f1_3.setAll pr_5 (noWord3 _ _ _ _ _ _ _) [.bool m4, .slice o4 n4 c4, .slice p4 k4 d4] rfl; have f2_3 := f2_2.setAll pr_5 (noWord3 _ _ _ _ _ _ _) [.bool m4, .slice o4 n4 c4, .slice p4 k4 d4] rfl; have f3_2 := f3_1.setAll pr_5 (noWord3 _ _ _ _ _ _ _) [.bool m4, .slice o4 n4 c4, .slice p4 k4 d4] rfl; have f4_1 := f4_0.setAll pr_5 (noWord3 _ _ _ _ _ _ _) [.bool m4, .slice o4 n4 c4, .slice p4 k4 d4] rfl; have pr_6 := pr_5.setAll [.bool m4, .slice o4 n4 c4, .slice p4 k4 d4] rfl; simp only [setAll, Nat.zero_add, Nat.reduceAdd] at hB_9 fha_9 fhb_9 fhc_9 fsx_9 fsy_9 ph_8 ps_7 pr_6 f1_4 f2_3 f3_2 f4_1))
  clear hB_8 fha_8 fhb_8 fhc_8 fsx_8 fsy_8 ph_7 ps_6 f1_3 f2_2 f3_1 f4_0 pr_5
  clear sf1a sf1b sf1c sf1d sf1e sf1f sg1a sg1b sg1c sg1d
  generalize (World.setCell (World.setCell (World.setCell w7 ⟨w.heap.size + 1 + 1, 0, none⟩ (.bool m4)) ⟨w.heap.size + 1 + 1, 1, none⟩ (.slice o4 n4 c4)) ⟨w.heap.size + 1 + 1, 2, none⟩ (.slice p4 k4 d4)) = w8 at *
  go_wp2
  obtain ⟨pre0, pre1, pre2, pre3, pre4, pre5⟩ := pr_6.open3
  exact bodyPost_ret (v := .agg #[.bool m4, .slice o4 n4 c4, .slice p4 k4 d4]) (by simp [results, Try.results19, go_sem, pre0, pre1, pre2]) rfl ⟨_, _, _, _, _, _, _, rfl, f4_1, hB_9⟩
set_option maxHeartbeats 4000000 in
theorem cTwice_any {am : Bool} {ao : Option Addr} {an ac : Nat} {ap : Option Addr} {ak ad : Nat} (La : Nat) (aq : Rat) (w : World) (hLa : La ≤ 1000000) (fa_0 : FQ w (.agg #[.bool am, .slice ao an ac, .slice ap ak ad]) La aq) :
    Calls Try.prog 46 #[.agg #[.bool am, .slice ao an ac, .slice ap ak ad]] w fun e w' => AnsF w w' e (La + La + 2) (aq + aq) := by
  have hB_0 := Below.refl w.heap.size w
  have HLa := Lib.hid hLa
  clear hLa
  obtain ⟨w1, hw1, pa_0, hb1, hs1⟩ := new_box w (w.heap.size) rfl [.bool am, .slice ao an ac, .slice ap ak ad] 28
  have hb1' : Below w.heap.size w w1 := hb1.mono (by omega)
  clear hb1
  have hB_1 := hB_0.trans (hb1'.mono hB_0.size)
  have fa_1 := fa_0.below hb1'
  clear hb1' hB_0 fa_0
  obtain ⟨w2, hw2, pr_0, hb2, hs2⟩ := new_box w1 (w.heap.size + 1) hs1 [.bool false, .slice none 0 0, .slice none 0 0] 28
  have hb2' : Below w1.heap.size w1 w2 := hb2.mono (by omega)
  clear hb2
  have hB_2 := hB_1.trans (hb2'.mono hB_1.size)
  have fa_2 := fa_1.below hb2'
  have pa_1 := pa_0.below hb2'
  clear hb2' hB_1 fa_1 pa_0
  go_enter Try.func46, Try.ntmps46
  obtain ⟨pae0, pae1, pae2, pae3, pae4, pae5⟩ := pa_1.open3
  go_wp2_with fail
  refine (qAdd _ _ La La aq aq _ (by have := HLa.out; omega) (by have := HLa.out; omega) fa_2 fa_2).mono ?_
  rintro e w3 ⟨m1, o1, n1, c1, p1, k1, d1, rfl, f1_0, hb3⟩
  clear pae0 pae1 pae2 pae3 pae4 pae5
  have hB_3 := hB_2.trans (hb3.mono hB_2.size)
  have fa_3 := fa_2.below hb3
  have pa_2 := pa_1.below hb3
  have pr_1 := pr_0.below hb3
  clear hb3 hB_2 fa_2 pa_1 pr_0
  obtain ⟨pae0, pae1, pae2, pae3, pae4, pae5⟩ := pa_2.open3
  obtain ⟨sf1a, sf1b, sf1c, sf1d, sf1e, sf1f⟩ := pr_1.open3
  obtain ⟨sg1a, sg1b, sg1c, sg1d⟩ := Box.put3 pr_1 (.bool m1) (.slice o1 n1 c1)
  go_wp2
  clear pae0 pae1 pae2 pae3 pae4 pae5 sf1a sf1b sf1c sf1d sf1e sf1f sg1a sg1b sg1c sg1d
  have hB_4 := below_setAll hB_3 (g := w.heap.size + 1) (by omega) [.bool m1, .slice o1 n1 c1, .slice p1 k1 d1]
  have fa_4 := fa_3.setAll pr_1 (noWord3 _ _ _ _ _ _ _) [.bool m1, .slice o1 n1 c1, .slice p1 k1 d1] rfl
  have pa_3 := pa_2.farAll (g' := w.heap.size + 1) (by omega) [.bool m1, .slice o1 n1 c1, .slice p1 k1 d1]
  have f1_1 := f1_0.setAll pr_1 (noWord3 _ _ _ _ _ _ _) [.bool m1, .slice o1 n1 c1, .slice p1 k1 d1] rfl
  have pr_2 := pr_1.setAll [.bool m1, .slice o1 n1 c1, .slice p1 k1 d1] rfl
  simp only [setAll, Nat.zero_add, Nat.reduceAdd] at hB_4 fa_4 pa_3 pr_2 f1_1
  clear hB_3 fa_3 pa_2 f1_0 pr_1
  generalize (World.setCell (World.setCell (World.setCell w3 ⟨w.heap.size + 1, 0, none⟩ (.bool m1)) ⟨w.heap.size + 1, 1, none⟩ (.slice o1 n1 c1)) ⟨w.heap.size + 1, 2, none⟩ (.slice p1 k1 d1)) = w4 at *
  go_wp2
  obtain ⟨pre0, pre1, pre2, pre3, pre4, pre5⟩ := pr_2.open3
  exact bodyPost_ret (v := .agg #[.bool m1, .slice o1 n1 c1, .slice p1 k1 d1]) (by simp [results, Try.results46, go_sem, pre0, pre1, pre2]) rfl ⟨_, _, _, _, _, _, _, rfl, f1_1, hB_4⟩
theorem in0' : InP 0 := by unfold InP; omega
theorem near_a (p q : Rat) : (q - p) + (q - p) = 2 * (q - p) := by grind
theorem near_c (p0 p1 q0 q1 : Int) : distQ ((0 : Int) : Rat) ((0 : Int) : Rat) q0 q1 - distQ ((0 : Int) : Rat) ((0 : Int) : Rat) p0 p1 = (q0 : Rat) * q0 + (q1 : Rat) * q1 - (p0 : Rat) * p0 - (p1 : Rat) * p1 := by
  have z : ((0 : Int) : Rat) = 0 := rfl
  unfold distQ; rw [z]; grind
set_option maxHeartbeats 8000000 in
theorem cNearer_any (p0 p1 q0 q1 : Int) (hp0 : InP p0) (hp1 : InP p1) (hq0 : InP q0) (hq1 : InP q1) (w : World) :
    Calls Try.prog 25 #[.agg #[.int .i64 p0, .int .i64 p1], .agg #[.int .i64 q0, .int .i64 q1]] w fun e w' => AnsH w w' e ((1 + 1 + 2) + (1 + 1 + 2) + 2) ((1 + 1 + 2) + (1 + 1 + 2) + 2) ((((1 + 1 + 2) + (1 + 1 + 2) + 2) + ((1 + 1 + 2) + (1 + 1 + 2) + 2) + 2) + (((1 + 1 + 2) + (1 + 1 + 2) + 2) + ((1 + 1 + 2) + (1 + 1 + 2) + 2) + 2) + 2) ((nearH ((p0 : Rat), (p1 : Rat)) ((q0 : Rat), (q1 : Rat))).1) ((nearH ((p0 : Rat), (p1 : Rat)) ((q0 : Rat), (q1 : Rat))).2.1) ((nearH ((p0 : Rat), (p1 : Rat)) ((q0 : Rat), (q1 : Rat))).2.2) := by
  have hB_0 := Below.refl w.heap.size w
  have HP0 := Lib.hid hp0; have HP1 := Lib.hid hp1; have HQ0 := Lib.hid hq0; have HQ1 := Lib.hid hq1
  clear hp0 hp1 hq0 hq1
  obtain ⟨w1, hw1, pp_0, hb1, hs1⟩ := new_box w (w.heap.size) rfl [.int .i64 p0, .int .i64 p1] 50
  have hb1' : Below w.heap.size w w1 := hb1.mono (by omega)
  clear hb1
  have hB_1 := hB_0.trans (hb1'.mono hB_0.size)
  clear hb1' hB_0
  obtain ⟨w2, hw2, pq_0, hb2, hs2⟩ := new_box w1 (w.heap.size + 1) hs1 [.int .i64 q0, .int .i64 q1] 50
  have hb2' : Below w1.heap.size w1 w2 := hb2.mono (by omega)
  clear hb2
  have hB_2 := hB_1.trans (hb2'.mono hB_1.size)
  have pp_1 := pp_0.below hb2'
  clear hb2' hB_1 pp_0
  obtain ⟨w3, hw3, pr_0, hb3, hs3⟩ := new_box w2 (w.heap.size + 1 + 1) hs2 [.bool false, .slice none 0 0, .slice none 0 0, .bool false, .slice none 0 0, .slice none 0 0, .bool false, .slice none 0 0, .slice none 0 0] 30
  have hb3' : Below w2.heap.size w2 w3 := hb3.mono (by omega)
  clear hb3
  have hB_3 := hB_2.trans (hb3'.mono hB_2.size)
  have pp_2 := pp_1.below hb3'
  have pq_1 := pq_0.below hb3'
  clear hb3' hB_2 pp_1 pq_0
  go_enter Try.func25, Try.ntmps25
  obtain ⟨ppe0, ppe1, ppe2, ppe3⟩ := pp_2.open2
  obtain ⟨pqe0, pqe1, pqe2, pqe3⟩ := pq_1.open2
  go_wp2
  clear ppe0 ppe1 ppe2 ppe3 pqe0 pqe1 pqe2 pqe3
  have hWi_0 := Below.refl w3.heap.size w3
  have hsi : w.heap.size ≤ w3.heap.size := hB_3.size
  have hlipp := pp_2.lt
  have hlipq := pq_1.lt
  have hlipr := pr_0.lt
  have hB_4 := hB_3.drew'
  have pp_3 := pp_2.drew
  have pq_2 := pq_1.drew
  have pr_1 := pr_0.drew
  have hWi_1 := hWi_0.drew'
  clear hB_3 pp_2 pq_1 pr_0 hWi_0
  obtain ⟨FFi, hFFi⟩ : ∃ F : World → Prop, ∀ w', F w' ↔ (Below w.heap.size w w' ∧ Box w' (w.heap.size) [.int .i64 p0, .int .i64 p1] ∧ Box w' (w.heap.size + 1) [.int .i64 q0, .int .i64 q1] ∧ Box w' (w.heap.size + 1 + 1) [.bool false, .slice none 0 0, .slice none 0 0, .bool false, .slice none 0 0, .slice none 0 0, .bool false, .slice none 0 0, .slice none 0 0] ∧ Below w3.heap.size w3 w') := ⟨_, fun _ => Iff.rfl⟩
  have cFi : ∀ {w' w'' : World}, FFi w' → Below w'.heap.size w' w'' → FFi w'' := by
    intro w' w'' h hb
    obtain ⟨y0, y1, y2, y3, y4⟩ := (hFFi _).1 h
    exact (hFFi _).2 ⟨y0.trans (hb.mono y0.size), y1.below hb, y2.below hb, y3.below hb, y4.trans (hb.mono y4.size)⟩
  have mFi : ∀ {w' : World}, FFi w' → w3.heap.size ≤ w'.heap.size := by
    intro w' h
    obtain ⟨y0, y1, y2, y3, y4⟩ := (hFFi _).1 h
    exact y4.size
  have sFi : ∀ {w' : World}, FFi w' → (w'.cell? ⟨w.heap.size, 0, none⟩ = some (.int .i64 p0) ∧ w'.cell? ⟨w.heap.size, 1, none⟩ = some (.int .i64 p1) ∧ w'.cell? ⟨w.heap.size + 1, 0, none⟩ = some (.int .i64 q0) ∧ w'.cell? ⟨w.heap.size + 1, 1, none⟩ = some (.int .i64 q1)) := by
    intro w' h
    obtain ⟨y0, y1, y2, y3, y4⟩ := (hFFi _).1 h
    exact ⟨y1.c0, y1.c1, y2.c0, y2.c1⟩
  have zF : FFi w3.drew := (hFFi _).2 ⟨hB_4, pp_3, pq_2, pr_1, hWi_1⟩
  clear hB_4 pp_3 pq_2 pr_1 hWi_1
  refine wp_region_noPanic ?_
  refine wp_region_held_drew (S := fun w' => w'.cell? ⟨w.heap.size, 0, none⟩ = some (.int .i64 p0) ∧ w'.cell? ⟨w.heap.size, 1, none⟩ = some (.int .i64 p1) ∧ w'.cell? ⟨w.heap.size + 1, 0, none⟩ = some (.int .i64 q0) ∧ w'.cell? ⟨w.heap.size + 1, 1, none⟩ = some (.int .i64 q1)) (by kernel_rfl) (sFi zF) (fun hHeld => ?_)
  refine reg_take 0 ?_ ?_ ?_ (by kernel_rfl) (by kernel_rfl) (by kernel_rfl) (fun _ _ _ h => h) ?_ ?_ (by assumption) ?_
  rotate_left 2
  · simp only [List.getElem?_toArray, List.getElem?_cons_zero]; exact rfl
  · rfl
  · intro w hSw; (try dsimp only at hSw); go_simp; try with_reducible rfl
  try simp only [Act.put]
  try simp only [List.setIfInBounds_toArray, List.set_cons_zero, List.set_cons_succ]
  refine reg_take 2 ?_ ?_ ?_ (by kernel_rfl) (by kernel_rfl) (by kernel_rfl) (fun _ _ _ h => h) ?_ ?_ (by assumption) ?_
  rotate_left 2
  · simp only [List.getElem?_toArray, List.getElem?_cons_succ, List.getElem?_cons_zero]; exact rfl
  · rfl
  · intro w hSw; (try dsimp only at hSw); go_simp; try with_reducible rfl
  try simp only [Act.put]
  try simp only [List.setIfInBounds_toArray, List.set_cons_zero, List.set_cons_succ]
  refine reg_take 4 ?_ ?_ ?_ (by kernel_rfl) (by kernel_rfl) (by kernel_rfl) (fun _ _ _ h => h) ?_ ?_ (by assumption) ?_
  rotate_left 2
  · simp only [List.getElem?_toArray, List.getElem?_cons_succ, List.getElem?_cons_zero]; exact rfl
  · rfl
  · intro w hSw; (try dsimp only at hSw); go_simp; try with_reducible rfl
  try simp only [Act.put]
  try simp only [List.setIfInBounds_toArray, List.set_cons_zero, List.set_cons_succ]
  refine reg_grab (fun WWi ai hWW hAA => ?_)
  rw [hWW]
  have HAi := Lib.hid hAA; clear hWW hAA hHeld
  obtain ⟨IVi, hIVi⟩ : ∃ IV : Array Bool → Act → World → Prop, ∀ l a w', IV l a w' ↔ ∀ CC : Prop, (∀ (lb1 lb3 lb5 lb6 lb7 lb8 : Bool) (lv1 lv3 lv5 lv6 lv7 lv8 : Value) (m1x : Bool) (o1x : Option Addr) (n1x : Nat) (c1x : Nat) (p1x : Option Addr) (k1x : Nat) (d1x : Nat) (m1y : Bool) (o1y : Option Addr) (n1y : Nat) (c1y : Nat) (p1y : Option Addr) (k1y : Nat) (d1y : Nat) (m2x : Bool) (o2x : Option Addr) (n2x : Nat) (c2x : Nat) (p2x : Option Addr) (k2x : Nat) (d2x : Nat) (m2y : Bool) (o2y : Option Addr) (n2y : Nat) (c2y : Nat) (p2y : Option Addr) (k2y : Nat) (d2y : Nat) (m3x : Bool) (o3x : Option Addr) (n3x : Nat) (c3x : Nat) (p3x : Option Addr) (k3x : Nat) (d3x : Nat) (m3y : Bool) (o3y : Option Addr) (n3y : Nat) (c3y : Nat) (p3y : Option Addr) (k3y : Nat) (d3y : Nat) (gla glb glc : Nat), (l = #[true, lb1, true, lb3, true, lb5, lb6, lb7, lb8, false, false, false]) → (a = ((((((ai.put (some 9) lv1).put (some 11) lv3).put (some 13) lv5).put (some 5) lv6).put (some 6) lv7).put (some 7) lv8)) → (FFi w') → ((lb1 = true → lv1 = .agg #[.bool m1x, .slice o1x n1x c1x, .slice p1x k1x d1x, .bool m1y, .slice o1y n1y c1y, .slice p1y k1y d1y] ∧ RF w' (.agg #[.bool m1x, .slice o1x n1x c1x, .slice p1x k1x d1x]) (1) ((p0 : Rat)) ∧ RF w' (.agg #[.bool m1y, .slice o1y n1y c1y, .slice p1y k1y d1y]) (1) ((p1 : Rat)))) → ((lb3 = true → lv3 = .agg #[.bool m2x, .slice o2x n2x c2x, .slice p2x k2x d2x, .bool m2y, .slice o2y n2y c2y, .slice p2y k2y d2y] ∧ RF w' (.agg #[.bool m2x, .slice o2x n2x c2x, .slice p2x k2x d2x]) (1) ((q0 : Rat)) ∧ RF w' (.agg #[.bool m2y, .slice o2y n2y c2y, .slice p2y k2y d2y]) (1) ((q1 : Rat)))) → ((lb5 = true → lv5 = .agg #[.bool m3x, .slice o3x n3x c3x, .slice p3x k3x d3x, .bool m3y, .slice o3y n3y c3y, .slice p3y k3y d3y] ∧ RF w' (.agg #[.bool m3x, .slice o3x n3x c3x, .slice p3x k3x d3x]) (1) (((0 : Int) : Rat)) ∧ RF w' (.agg #[.bool m3y, .slice o3y n3y c3y, .slice p3y k3y d3y]) (1) (((0 : Int) : Rat)))) → ((lb6 = true → lv6 = .pointer (some ⟨gla, 0, none⟩) ∧ Box w' gla [.bool false, .slice none 0 0, .slice none 0 0, .bool false, .slice none 0 0, .slice none 0 0] ∧ w3.heap.size ≤ gla)) → ((lb7 = true → lv7 = .pointer (some ⟨glb, 0, none⟩) ∧ Box w' glb [.bool false, .slice none 0 0, .slice none 0 0, .bool false, .slice none 0 0, .slice none 0 0] ∧ w3.heap.size ≤ glb)) → ((lb8 = true → lv8 = .pointer (some ⟨glc, 0, none⟩) ∧ Box w' glc [.bool false, .slice none 0 0, .slice none 0 0, .bool false, .slice none 0 0, .slice none 0 0] ∧ w3.heap.size ≤ glc)) → ((lb3 = true → lb1 = true)) → ((lb5 = true → lb3 = true)) → ((lb6 = true → lb7 = true → gla ≠ glb)) → ((lb6 = true → lb8 = true → gla ≠ glc)) → ((lb7 = true → lb8 = true → glb ≠ glc)) → CC) → CC := ⟨_, fun _ _ _ => Iff.rfl⟩
  refine wpAnyH_until IVi ?_ _ _ _ _ ((hIVi _ _ _).2 (fun CC kk => kk false false false false false false (ai.tmps.getD 9 undef) (ai.tmps.getD 11 undef) (ai.tmps.getD 13 undef) (ai.tmps.getD 5 undef) (ai.tmps.getD 6 undef) (ai.tmps.getD 7 undef) false none 0 0 none 0 0 false none 0 0 none 0 0 false none 0 0 none 0 0 false none 0 0 none 0 0 false none 0 0 none 0 0 false none 0 0 none 0 0 0 0 0 rfl (by simp only [put_same]) zF (fun h => by cases h) (fun h => by cases h) (fun h => by cases h) (fun h => by cases h) (fun h => by cases h) (fun h => by cases h) (fun h => by cases h) (fun h => by cases h) (fun h => by cases h) (fun h => by cases h) (fun h => by cases h))) (by kernel_rfl)
  clear zF
  intro ll aa w4 hI
  refine (hIVi _ _ _).1 hI _ ?_
  clear hI
  intro lb1 lb3 lb5 lb6 lb7 lb8 lv1 lv3 lv5 lv6 lv7 lv8 m1x o1x n1x c1x p1x k1x d1x m1y o1y n1y c1y p1y k1y d1y m2x o2x n2x c2x p2x k2x d2x m2y o2y n2y c2y p2y k2y d2y m3x o3x n3x c3x p3x k3x d3x m3y o3y n3y c3y p3y k3y d3y gla glb glc hll haa zF F1 F3 F5 F6 F7 F8 dp3_1 dp5_3 nq6_7 nq6_8 nq7_8
  subst hll haa
  by_cases hL : lb1 = true ∧ lb3 = true ∧ lb5 = true ∧ lb6 = true ∧ lb7 = true ∧ lb8 = true
  · left
    obtain ⟨rfl, rfl, rfl, rfl, rfl, rfl⟩ := hL
    obtain ⟨rfl, f1x_0, f1y_0⟩ := F1 rfl
    clear F1
    obtain ⟨rfl, f2x_0, f2y_0⟩ := F3 rfl
    clear F3
    obtain ⟨rfl, f3x_0, f3y_0⟩ := F5 rfl
    clear F5
    obtain ⟨rfl, la_0, hgla⟩ := F6 rfl
    clear F6
    obtain ⟨rfl, lb_0, hglb⟩ := F7 rfl
    clear F7
    obtain ⟨rfl, lc_0, hglc⟩ := F8 rfl
    clear F8
    have hnlalb := nq6_7 rfl rfl
    have hnlalc := nq6_8 rfl rfl
    have hnlblc := nq7_8 rfl rfl
    clear dp3_1 dp5_3 nq6_7 nq6_8 nq7_8
    show wpAnyH _ _ _ _ _ 3 _ _ _
    rw [HAi.out]
    try simp only [Act.put]
    try simp only [List.setIfInBounds_toArray, List.set_cons_zero, List.set_cons_succ]
    obtain ⟨hB_0, pp_0, pq_0, pr_0, hWi_0⟩ := (hFFi _).1 zF
    clear zF
    clear hWi_0
    obtain ⟨sf1a, sf1b, sf1c, sf1d, sf1e, sf1f, sf1g, sf1h, sf1i, sf1j, sf1k, sf1l⟩ := la_0.open6
    obtain ⟨sg1a, sg1b, sg1c, sg1d, sg1e, sg1f, sg1g, sg1h, sg1i, sg1j⟩ := Box.put6 la_0 (.bool m1x) (.slice o1x n1x c1x) (.slice p1x k1x d1x) (.bool m1y) (.slice o1y n1y c1y)
    refine reg_call 9 ?_ (by kernel_rfl) ?_ (fun K hK => ?_)
    rotate_left 1
    · simp only [List.getElem?_toArray, List.getElem?_cons_succ, List.getElem?_cons_zero]; exact rfl
    go_simp
    have hB_1 := below_setAll hB_0 (g := gla) (by omega) [.bool m1x, .slice o1x n1x c1x, .slice p1x k1x d1x, .bool m1y, .slice o1y n1y c1y, .slice p1y k1y d1y]
    have pp_1 := pp_0.farAll (g' := gla) (by omega) [.bool m1x, .slice o1x n1x c1x, .slice p1x k1x d1x, .bool m1y, .slice o1y n1y c1y, .slice p1y k1y d1y]
    have pq_1 := pq_0.farAll (g' := gla) (by omega) [.bool m1x, .slice o1x n1x c1x, .slice p1x k1x d1x, .bool m1y, .slice o1y n1y c1y, .slice p1y k1y d1y]
    have pr_1 := pr_0.farAll (g' := gla) (by omega) [.bool m1x, .slice o1x n1x c1x, .slice p1x k1x d1x, .bool m1y, .slice o1y n1y c1y, .slice p1y k1y d1y]
    have f1x_1 := f1x_0.setAll la_0 (noWord6 _ _ _ _ _ _ _ _ _ _ _ _ _ _) [.bool m1x, .slice o1x n1x c1x, .slice p1x k1x d1x, .bool m1y, .slice o1y n1y c1y, .slice p1y k1y d1y] rfl
    have f1y_1 := f1y_0.setAll la_0 (noWord6 _ _ _ _ _ _ _ _ _ _ _ _ _ _) [.bool m1x, .slice o1x n1x c1x, .slice p1x k1x d1x, .bool m1y, .slice o1y n1y c1y, .slice p1y k1y d1y] rfl
    have f2x_1 := f2x_0.setAll la_0 (noWord6 _ _ _ _ _ _ _ _ _ _ _ _ _ _) [.bool m1x, .slice o1x n1x c1x, .slice p1x k1x d1x, .bool m1y, .slice o1y n1y c1y, .slice p1y k1y d1y] rfl
    have f2y_1 := f2y_0.setAll la_0 (noWord6 _ _ _ _ _ _ _ _ _ _ _ _ _ _) [.bool m1x, .slice o1x n1x c1x, .slice p1x k1x d1x, .bool m1y, .slice o1y n1y c1y, .slice p1y k1y d1y] rfl
    have f3x_1 := f3x_0.setAll la_0 (noWord6 _ _ _ _ _ _ _ _ _ _ _ _ _ _) [.bool m1x, .slice o1x n1x c1x, .slice p1x k1x d1x, .bool m1y, .slice o1y n1y c1y, .slice p1y k1y d1y] rfl
    have f3y_1 := f3y_0.setAll la_0 (noWord6 _ _ _ _ _ _ _ _ _ _ _ _ _ _) [.bool m1x, .slice o1x n1x c1x, .slice p1x k1x d1x, .bool m1y, .slice o1y n1y c1y, .slice p1y k1y d1y] rfl
    have lb_1 := lb_0.farAll (g' := gla) (by omega) [.bool m1x, .slice o1x n1x c1x, .slice p1x k1x d1x, .bool m1y, .slice o1y n1y c1y, .slice p1y k1y d1y]
    have lc_1 := lc_0.farAll (g' := gla) (by omega) [.bool m1x, .slice o1x n1x c1x, .slice p1x k1x d1x, .bool m1y, .slice o1y n1y c1y, .slice p1y k1y d1y]
    have la_1 := la_0.setAll [.bool m1x, .slice o1x n1x c1x, .slice p1x k1x d1x, .bool m1y, .slice o1y n1y c1y, .slice p1y k1y d1y] rfl
    simp only [setAll, Nat.zero_add, Nat.reduceAdd] at hB_1 pp_1 pq_1 pr_1 f1x_1 f1y_1 f2x_1 f2y_1 f3x_1 f3y_1 la_1 lb_1 lc_1
    clear sf1a sf1b sf1c sf1d sf1e sf1f sf1g sf1h sf1i sf1j sf1k sf1l sg1a sg1b sg1c sg1d sg1e sg1f sg1g sg1h sg1i sg1j
    clear hB_0 pp_0 pq_0 pr_0 f1x_0 f1y_0 f2x_0 f2y_0 f3x_0 f3y_0 lb_0 lc_0 la_0
    refine hK.out _ _ ⟨pp_1.c0, pp_1.c1, pq_1.c0, pq_1.c1⟩ (fun hHeld => ?_)
    clear hK K
    try simp only [Act.put]
    try simp only [List.setIfInBounds_toArray, List.set_cons_zero, List.set_cons_succ]
    generalize (World.setCell (World.setCell (World.setCell (World.setCell (World.setCell (World.setCell w4 ⟨gla, 0, none⟩ (.bool m1x)) ⟨gla, 1, none⟩ (.slice o1x n1x c1x)) ⟨gla, 2, none⟩ (.slice p1x k1x d1x)) ⟨gla, 3, none⟩ (.bool m1y)) ⟨gla, 4, none⟩ (.slice o1y n1y c1y)) ⟨gla, 5, none⟩ (.slice p1y k1y d1y)) = w5 at *
    obtain ⟨sf2a, sf2b, sf2c, sf2d, sf2e, sf2f, sf2g, sf2h, sf2i, sf2j, sf2k, sf2l⟩ := lb_1.open6
    obtain ⟨sg2a, sg2b, sg2c, sg2d, sg2e, sg2f, sg2g, sg2h, sg2i, sg2j⟩ := Box.put6 lb_1 (.bool m2x) (.slice o2x n2x c2x) (.slice p2x k2x d2x) (.bool m2y) (.slice o2y n2y c2y)
    refine reg_call 10 ?_ (by kernel_rfl) ?_ (fun K hK => ?_)
    rotate_left 1
    · simp only [List.getElem?_toArray, List.getElem?_cons_succ, List.getElem?_cons_zero]; exact rfl
    go_simp
    have hB_2 := below_setAll hB_1 (g := glb) (by omega) [.bool m2x, .slice o2x n2x c2x, .slice p2x k2x d2x, .bool m2y, .slice o2y n2y c2y, .slice p2y k2y d2y]
    have pp_2 := pp_1.farAll (g' := glb) (by omega) [.bool m2x, .slice o2x n2x c2x, .slice p2x k2x d2x, .bool m2y, .slice o2y n2y c2y, .slice p2y k2y d2y]
    have pq_2 := pq_1.farAll (g' := glb) (by omega) [.bool m2x, .slice o2x n2x c2x, .slice p2x k2x d2x, .bool m2y, .slice o2y n2y c2y, .slice p2y k2y d2y]
    have pr_2 := pr_1.farAll (g' := glb) (by omega) [.bool m2x, .slice o2x n2x c2x, .slice p2x k2x d2x, .bool m2y, .slice o2y n2y c2y, .slice p2y k2y d2y]
    have f1x_2 := f1x_1.setAll lb_1 (noWord6 _ _ _ _ _ _ _ _ _ _ _ _ _ _) [.bool m2x, .slice o2x n2x c2x, .slice p2x k2x d2x, .bool m2y, .slice o2y n2y c2y, .slice p2y k2y d2y] rfl
    have f1y_2 := f1y_1.setAll lb_1 (noWord6 _ _ _ _ _ _ _ _ _ _ _ _ _ _) [.bool m2x, .slice o2x n2x c2x, .slice p2x k2x d2x, .bool m2y, .slice o2y n2y c2y, .slice p2y k2y d2y] rfl
    have f2x_2 := f2x_1.setAll lb_1 (noWord6 _ _ _ _ _ _ _ _ _ _ _ _ _ _) [.bool m2x, .slice o2x n2x c2x, .slice p2x k2x d2x, .bool m2y, .slice o2y n2y c2y, .slice p2y k2y d2y] rfl
    have f2y_2 := f2y_1.setAll lb_1 (noWord6 _ _ _ _ _ _ _ _ _ _ _ _ _ _) [.bool m2x, .slice o2x n2x c2x, .slice p2x k2x d2x, .bool m2y, .slice o2y n2y c2y, .slice p2y k2y d2y] rfl
    have f3x_2 := f3x_1.setAll lb_1 (noWord6 _ _ _ _ _ _ _ _ _ _ _ _ _ _) [.bool m2x, .slice o2x n2x c2x, .slice p2x k2x d2x, .bool m2y, .slice o2y n2y c2y, .slice p2y k2y d2y] rfl
    have f3y_2 := f3y_1.setAll lb_1 (noWord6 _ _ _ _ _ _ _ _ _ _ _ _ _ _) [.bool m2x, .slice o2x n2x c2x, .slice p2x k2x d2x, .bool m2y, .slice o2y n2y c2y, .slice p2y k2y d2y] rfl
    have la_2 := la_1.farAll (g' := glb) (by omega) [.bool m2x, .slice o2x n2x c2x, .slice p2x k2x d2x, .bool m2y, .slice o2y n2y c2y, .slice p2y k2y d2y]
    have lc_2 := lc_1.farAll (g' := glb) (by omega) [.bool m2x, .slice o2x n2x c2x, .slice p2x k2x d2x, .bool m2y, .slice o2y n2y c2y, .slice p2y k2y d2y]
    have lb_2 := lb_1.setAll [.bool m2x, .slice o2x n2x c2x, .slice p2x k2x d2x, .bool m2y, .slice o2y n2y c2y, .slice p2y k2y d2y] rfl
    simp only [setAll, Nat.zero_add, Nat.reduceAdd] at hB_2 pp_2 pq_2 pr_2 f1x_2 f1y_2 f2x_2 f2y_2 f3x_2 f3y_2 la_2 lb_2 lc_2
    clear sf2a sf2b sf2c sf2d sf2e sf2f sf2g sf2h sf2i sf2j sf2k sf2l sg2a sg2b sg2c sg2d sg2e sg2f sg2g sg2h sg2i sg2j
    clear hB_1 pp_1 pq_1 pr_1 f1x_1 f1y_1 f2x_1 f2y_1 f3x_1 f3y_1 la_1 lc_1 lb_1
    refine hK.out _ _ ⟨pp_2.c0, pp_2.c1, pq_2.c0, pq_2.c1⟩ (fun hHeld => ?_)
    clear hK K
    try simp only [Act.put]
    try simp only [List.setIfInBounds_toArray, List.set_cons_zero, List.set_cons_succ]
    generalize (World.setCell (World.setCell (World.setCell (World.setCell (World.setCell (World.setCell w5 ⟨glb, 0, none⟩ (.bool m2x)) ⟨glb, 1, none⟩ (.slice o2x n2x c2x)) ⟨glb, 2, none⟩ (.slice p2x k2x d2x)) ⟨glb, 3, none⟩ (.bool m2y)) ⟨glb, 4, none⟩ (.slice o2y n2y c2y)) ⟨glb, 5, none⟩ (.slice p2y k2y d2y)) = w6 at *
    obtain ⟨sf3a, sf3b, sf3c, sf3d, sf3e, sf3f, sf3g, sf3h, sf3i, sf3j, sf3k, sf3l⟩ := lc_2.open6
    obtain ⟨sg3a, sg3b, sg3c, sg3d, sg3e, sg3f, sg3g, sg3h, sg3i, sg3j⟩ := Box.put6 lc_2 (.bool m3x) (.slice o3x n3x c3x) (.slice p3x k3x d3x) (.bool m3y) (.slice o3y n3y c3y)
    refine reg_call 11 ?_ (by kernel_rfl) ?_ (fun K hK => ?_)
    rotate_left 1
    · simp only [List.getElem?_toArray, List.getElem?_cons_succ, List.getElem?_cons_zero]; exact rfl
    go_simp
    have hB_3 := below_setAll hB_2 (g := glc) (by omega) [.bool m3x, .slice o3x n3x c3x, .slice p3x k3x d3x, .bool m3y, .slice o3y n3y c3y, .slice p3y k3y d3y]
    have pp_3 := pp_2.farAll (g' := glc) (by omega) [.bool m3x, .slice o3x n3x c3x, .slice p3x k3x d3x, .bool m3y, .slice o3y n3y c3y, .slice p3y k3y d3y]
    have pq_3 := pq_2.farAll (g' := glc) (by omega) [.bool m3x, .slice o3x n3x c3x, .slice p3x k3x d3x, .bool m3y, .slice o3y n3y c3y, .slice p3y k3y d3y]
    have pr_3 := pr_2.farAll (g' := glc) (by omega) [.bool m3x, .slice o3x n3x c3x, .slice p3x k3x d3x, .bool m3y, .slice o3y n3y c3y, .slice p3y k3y d3y]
    have f1x_3 := f1x_2.setAll lc_2 (noWord6 _ _ _ _ _ _ _ _ _ _ _ _ _ _) [.bool m3x, .slice o3x n3x c3x, .slice p3x k3x d3x, .bool m3y, .slice o3y n3y c3y, .slice p3y k3y d3y] rfl
    have f1y_3 := f1y_2.setAll lc_2 (noWord6 _ _ _ _ _ _ _ _ _ _ _ _ _ _) [.bool m3x, .slice o3x n3x c3x, .slice p3x k3x d3x, .bool m3y, .slice o3y n3y c3y, .slice p3y k3y d3y] rfl
    have f2x_3 := f2x_2.setAll lc_2 (noWord6 _ _ _ _ _ _ _ _ _ _ _ _ _ _) [.bool m3x, .slice o3x n3x c3x, .slice p3x k3x d3x, .bool m3y, .slice o3y n3y c3y, .slice p3y k3y d3y] rfl
    have f2y_3 := f2y_2.setAll lc_2 (noWord6 _ _ _ _ _ _ _ _ _ _ _ _ _ _) [.bool m3x, .slice o3x n3x c3x, .slice p3x k3x d3x, .bool m3y, .slice o3y n3y c3y, .slice p3y k3y d3y] rfl
    have f3x_3 := f3x_2.setAll lc_2 (noWord6 _ _ _ _ _ _ _ _ _ _ _ _ _ _) [.bool m3x, .slice o3x n3x c3x, .slice p3x k3x d3x, .bool m3y, .slice o3y n3y c3y, .slice p3y k3y d3y] rfl
    have f3y_3 := f3y_2.setAll lc_2 (noWord6 _ _ _ _ _ _ _ _ _ _ _ _ _ _) [.bool m3x, .slice o3x n3x c3x, .slice p3x k3x d3x, .bool m3y, .slice o3y n3y c3y, .slice p3y k3y d3y] rfl
    have la_3 := la_2.farAll (g' := glc) (by omega) [.bool m3x, .slice o3x n3x c3x, .slice p3x k3x d3x, .bool m3y, .slice o3y n3y c3y, .slice p3y k3y d3y]
    have lb_3 := lb_2.farAll (g' := glc) (by omega) [.bool m3x, .slice o3x n3x c3x, .slice p3x k3x d3x, .bool m3y, .slice o3y n3y c3y, .slice p3y k3y d3y]
    have lc_3 := lc_2.setAll [.bool m3x, .slice o3x n3x c3x, .slice p3x k3x d3x, .bool m3y, .slice o3y n3y c3y, .slice p3y k3y d3y] rfl
    simp only [setAll, Nat.zero_add, Nat.reduceAdd] at hB_3 pp_3 pq_3 pr_3 f1x_3 f1y_3 f2x_3 f2y_3 f3x_3 f3y_3 la_3 lb_3 lc_3
    clear sf3a sf3b sf3c sf3d sf3e sf3f sf3g sf3h sf3i sf3j sf3k sf3l sg3a sg3b sg3c sg3d sg3e sg3f sg3g sg3h sg3i sg3j
    clear hB_2 pp_2 pq_2 pr_2 f1x_2 f1y_2 f2x_2 f2y_2 f3x_2 f3y_2 la_2 lb_2 lc_2
    refine hK.out _ _ ⟨pp_3.c0, pp_3.c1, pq_3.c0, pq_3.c1⟩ (fun hHeld => ?_)
    clear hK K
    try simp only [Act.put]
    try simp only [List.setIfInBounds_toArray, List.set_cons_zero, List.set_cons_succ]
    generalize (World.setCell (World.setCell (World.setCell (World.setCell (World.setCell (World.setCell w6 ⟨glc, 0, none⟩ (.bool m3x)) ⟨glc, 1, none⟩ (.slice o3x n3x c3x)) ⟨glc, 2, none⟩ (.slice p3x k3x d3x)) ⟨glc, 3, none⟩ (.bool m3y)) ⟨glc, 4, none⟩ (.slice o3y n3y c3y)) ⟨glc, 5, none⟩ (.slice p3y k3y d3y)) = w7 at *
    refine wpAnyH_done (by kernel_rfl) ?_ _
    refine NoPanic.normal ?_
    clear pp_3 pq_3
    obtain ⟨lae0, lae1, lae2, lae3, lae4, lae5, lae6, lae7, lae8, lae9, lae10, lae11⟩ := la_3.open6
    obtain ⟨lbe0, lbe1, lbe2, lbe3, lbe4, lbe5, lbe6, lbe7, lbe8, lbe9, lbe10, lbe11⟩ := lb_3.open6
    obtain ⟨lce0, lce1, lce2, lce3, lce4, lce5, lce6, lce7, lce8, lce9, lce10, lce11⟩ := lc_3.open6
    go_wp2
    clear lae0 lae1 lae2 lae3 lae4 lae5 lae6 lae7 lae8 lae9 lae10 lae11 lbe0 lbe1 lbe2 lbe3 lbe4 lbe5 lbe6 lbe7 lbe8 lbe9 lbe10 lbe11 lce0 lce1 lce2 lce3 lce4 lce5 lce6 lce7 lce8 lce9 lce10 lce11
    have hB_4 := hB_3.drew'
    have pr_4 := pr_3.drew
    have f1x_4 := f1x_3.drew
    have f1y_4 := f1y_3.drew
    have f2x_4 := f2x_3.drew
    have f2y_4 := f2y_3.drew
    have f3x_4 := f3x_3.drew
    have f3y_4 := f3y_3.drew
    have la_4 := la_3.drew
    have lb_4 := lb_3.drew
    have lc_4 := lc_3.drew
    clear hB_3 pr_3 f1x_3 f1y_3 f2x_3 f2y_3 f3x_3 f3y_3 la_3 lb_3 lc_3
    go_region_held3 (fun w' => w'.cell? ⟨gla, 0, none⟩ = some (.bool m1x) ∧ w'.cell? ⟨gla, 1, none⟩ = some (.slice o1x n1x c1x) ∧ w'.cell? ⟨gla, 2, none⟩ = some (.slice p1x k1x d1x) ∧ w'.cell? ⟨gla, 3, none⟩ = some (.bool m1y) ∧ w'.cell? ⟨gla, 4, none⟩ = some (.slice o1y n1y c1y) ∧ w'.cell? ⟨gla, 5, none⟩ = some (.slice p1y k1y d1y) ∧ w'.cell? ⟨glb, 0, none⟩ = some (.bool m2x) ∧ w'.cell? ⟨glb, 1, none⟩ = some (.slice o2x n2x c2x) ∧ w'.cell? ⟨glb, 2, none⟩ = some (.slice p2x k2x d2x) ∧ w'.cell? ⟨glb, 3, none⟩ = some (.bool m2y) ∧ w'.cell? ⟨glb, 4, none⟩ = some (.slice o2y n2y c2y) ∧ w'.cell? ⟨glb, 5, none⟩ = some (.slice p2y k2y d2y) ∧ w'.cell? ⟨glc, 0, none⟩ = some (.bool m3x) ∧ w'.cell? ⟨glc, 1, none⟩ = some (.slice o3x n3x c3x) ∧ w'.cell? ⟨glc, 2, none⟩ = some (.slice p3x k3x d3x) ∧ w'.cell? ⟨glc, 3, none⟩ = some (.bool m3y) ∧ w'.cell? ⟨glc, 4, none⟩ = some (.slice o3y n3y c3y) ∧ w'.cell? ⟨glc, 5, none⟩ = some (.slice p3y k3y d3y))
      (first | with_reducible exact ⟨la_4.c0, la_4.c1, la_4.c2, la_4.c3, la_4.c4, la_4.c5, lb_4.c0, lb_4.c1, lb_4.c2, lb_4.c3, lb_4.c4, lb_4.c5, lc_4.c0, lc_4.c1, lc_4.c2, lc_4.c3, lc_4.c4, lc_4.c5⟩ | with_reducible exact ⟨la_5.c0, la_5.c1, la_5.c2, la_5.c3, la_5.c4, la_5.c5, lb_5.c0, lb_5.c1, lb_5.c2, lb_5.c3, lb_5.c4, lb_5.c5, lc_5.c0, lc_5.c1, lc_5.c2, lc_5.c3, lc_5.c4, lc_5.c5⟩ | with_reducible exact ⟨la_6.c0, la_6.c1, la_6.c2, la_6.c3, la_6.c4, la_6.c5, lb_6.c0, lb_6.c1, lb_6.c2, lb_6.c3, lb_6.c4, lb_6.c5, lc_6.c0, lc_6.c1, lc_6.c2, lc_6.c3, lc_6.c4, lc_6.c5⟩ | with_reducible exact ⟨la_7.c0, la_7.c1, la_7.c2, la_7.c3, la_7.c4, la_7.c5, lb_7.c0, lb_7.c1, lb_7.c2, lb_7.c3, lb_7.c4, lb_7.c5, lc_7.c0, lc_7.c1, lc_7.c2, lc_7.c3, lc_7.c4, lc_7.c5⟩ | with_reducible exact ⟨la_8.c0, la_8.c1, la_8.c2, la_8.c3, la_8.c4, la_8.c5, lb_8.c0, lb_8.c1, lb_8.c2, lb_8.c3, lb_8.c4, lb_8.c5, lc_8.c0, lc_8.c1, lc_8.c2, lc_8.c3, lc_8.c4, lc_8.c5⟩ | with_reducible exact ⟨la_9.c0, la_9.c1, la_9.c2, la_9.c3, la_9.c4, la_9.c5, lb_9.c0, lb_9.c1, lb_9.c2, lb_9.c3, lb_9.c4, lb_9.c5, lc_9.c0, lc_9.c1, lc_9.c2, lc_9.c3, lc_9.c4, lc_9.c5⟩ | with_reducible exact ⟨la_10.c0, la_10.c1, la_10.c2, la_10.c3, la_10.c4, la_10.c5, lb_10.c0, lb_10.c1, lb_10.c2, lb_10.c3, lb_10.c4, lb_10.c5, lc_10.c0, lc_10.c1, lc_10.c2, lc_10.c3, lc_10.c4, lc_10.c5⟩ | with_reducible exact ⟨la_11.c0, la_11.c1, la_11.c2, la_11.c3, la_11.c4, la_11.c5, lb_11.c0, lb_11.c1, lb_11.c2, lb_11.c3, lb_11.c4, lb_11.c5, lc_11.c0, lc_11.c1, lc_11.c2, lc_11.c3, lc_11.c4, lc_11.c5⟩ | with_reducible exact ⟨la_12.c0, la_12.c1, la_12.c2, la_12.c3, la_12.c4, la_12.c5, lb_12.c0, lb_12.c1, lb_12.c2, lb_12.c3, lb_12.c4, lb_12.c5, lc_12.c0, lc_12.c1, lc_12.c2, lc_12.c3, lc_12.c4, lc_12.c5⟩ | fail)
      (first
        | (go_at_call 22; (with_reducible refine (qSub _ _ 1 1 _ _ _ (by omega) (by omega) f2x_4.q f1x_4.q).mono ?_); rintro e w8 ⟨m4, o4, n4, c4, p4, k4, d4, rfl, f4_0, hb8⟩; have hB_5 := hB_4.trans (hb8.mono hB_4.size); have pr_5 := pr_4.below hb8; have f1x_5 := f1x_4.below hb8; have f1y_5 := f1y_4.below hb8; have f2x_5 := f2x_4.below hb8; have f2y_5 := f2y_4.below hb8; have f3x_5 := f3x_4.below hb8; have f3y_5 := f3y_4.below hb8; have la_5 := la_4.below hb8; have lb_5 := lb_4.below hb8; have lc_5 := lc_4.below hb8; clear hb8 hB_4 pr_4 f1x_4 f1y_4 f2x_4 f2y_4 f3x_4 f3y_4 la_4 lb_4 lc_4)
        | (go_at_call 46; (with_reducible refine (cTwice_any (1 + 1 + 2) _ _ (by omega) f4_0.q).mono ?_); rintro e w9 ⟨m5, o5, n5, c5, p5, k5, d5, rfl, f5_0, hb9⟩; have hB_6 := hB_5.trans (hb9.mono hB_5.size); have pr_6 := pr_5.below hb9; have f1x_6 := f1x_5.below hb9; have f1y_6 := f1y_5.below hb9; have f2x_6 := f2x_5.below hb9; have f2y_6 := f2y_5.below hb9; have f3x_6 := f3x_5.below hb9; have f3y_6 := f3y_5.below hb9; have la_6 := la_5.below hb9; have lb_6 := lb_5.below hb9; have lc_6 := lc_5.below hb9; have f4_1 := f4_0.below hb9; clear hb9 hB_5 pr_5 f1x_5 f1y_5 f2x_5 f2y_5 f3x_5 f3y_5 la_5 lb_5 lc_5 f4_0)
        | (go_at_call 22; (with_reducible refine (qSub _ _ 1 1 _ _ _ (by omega) (by omega) f2y_6.q f1y_6.q).mono ?_); rintro e w10 ⟨m6, o6, n6, c6, p6, k6, d6, rfl, f6_0, hb10⟩; have hB_7 := hB_6.trans (hb10.mono hB_6.size); have pr_7 := pr_6.below hb10; have f1x_7 := f1x_6.below hb10; have f1y_7 := f1y_6.below hb10; have f2x_7 := f2x_6.below hb10; have f2y_7 := f2y_6.below hb10; have f3x_7 := f3x_6.below hb10; have f3y_7 := f3y_6.below hb10; have la_7 := la_6.below hb10; have lb_7 := lb_6.below hb10; have lc_7 := lc_6.below hb10; have f4_2 := f4_1.below hb10; have f5_1 := f5_0.below hb10; clear hb10 hB_6 pr_6 f1x_6 f1y_6 f2x_6 f2y_6 f3x_6 f3y_6 la_6 lb_6 lc_6 f4_1 f5_0)
        | (go_at_call 46; (with_reducible refine (cTwice_any (1 + 1 + 2) _ _ (by omega) f6_0.q).mono ?_); rintro e w11 ⟨m7, o7, n7, c7, p7, k7, d7, rfl, f7_0, hb11⟩; have hB_8 := hB_7.trans (hb11.mono hB_7.size); have pr_8 := pr_7.below hb11; have f1x_8 := f1x_7.below hb11; have f1y_8 := f1y_7.below hb11; have f2x_8 := f2x_7.below hb11; have f2y_8 := f2y_7.below hb11; have f3x_8 := f3x_7.below hb11; have f3y_8 := f3y_7.below hb11; have la_8 := la_7.below hb11; have lb_8 := lb_7.below hb11; have lc_8 := lc_7.below hb11; have f4_3 := f4_2.below hb11; have f5_2 := f5_1.below hb11; have f6_1 := f6_0.below hb11; clear hb11 hB_7 pr_7 f1x_7 f1y_7 f2x_7 f2y_7 f3x_7 f3y_7 la_7 lb_7 lc_7 f4_2 f5_1 f6_0)
        | (go_at_call 27; (with_reducible refine (sDist2_any 1 _ _ 1 _ _ _ (by omega) (by omega) f3x_8.q f3y_8.q f2x_8.q f2y_8.q).mono ?_); rintro e w12 ⟨m8, o8, n8, c8, p8, k8, d8, rfl, f8_0, hb12⟩; have hB_9 := hB_8.trans (hb12.mono hB_8.size); have pr_9 := pr_8.below hb12; have f1x_9 := f1x_8.below hb12; have f1y_9 := f1y_8.below hb12; have f2x_9 := f2x_8.below hb12; have f2y_9 := f2y_8.below hb12; have f3x_9 := f3x_8.below hb12; have f3y_9 := f3y_8.below hb12; have la_9 := la_8.below hb12; have lb_9 := lb_8.below hb12; have lc_9 := lc_8.below hb12; have f4_4 := f4_3.below hb12; have f5_3 := f5_2.below hb12; have f6_2 := f6_1.below hb12; have f7_1 := f7_0.below hb12; clear hb12 hB_8 pr_8 f1x_8 f1y_8 f2x_8 f2y_8 f3x_8 f3y_8 la_8 lb_8 lc_8 f4_3 f5_2 f6_1 f7_0)
        | (go_at_call 27; (with_reducible refine (sDist2_any 1 _ _ 1 _ _ _ (by omega) (by omega) f3x_9.q f3y_9.q f1x_9.q f1y_9.q).mono ?_); rintro e w13 ⟨m9, o9, n9, c9, p9, k9, d9, rfl, f9_0, hb13⟩; have hB_10 := hB_9.trans (hb13.mono hB_9.size); have pr_10 := pr_9.below hb13; have f1x_10 := f1x_9.below hb13; have f1y_10 := f1y_9.below hb13; have f2x_10 := f2x_9.below hb13; have f2y_10 := f2y_9.below hb13; have f3x_10 := f3x_9.below hb13; have f3y_10 := f3y_9.below hb13; have la_10 := la_9.below hb13; have lb_10 := lb_9.below hb13; have lc_10 := lc_9.below hb13; have f4_5 := f4_4.below hb13; have f5_4 := f5_3.below hb13; have f6_3 := f6_2.below hb13; have f7_2 := f7_1.below hb13; have f8_1 := f8_0.below hb13; clear hb13 hB_9 pr_9 f1x_9 f1y_9 f2x_9 f2y_9 f3x_9 f3y_9 la_9 lb_9 lc_9 f4_4 f5_3 f6_2 f7_1 f8_0)
        | (go_at_call 22; (with_reducible refine (qSub _ _ (((1 + 1 + 2) + (1 + 1 + 2) + 2) + ((1 + 1 + 2) + (1 + 1 + 2) + 2) + 2) (((1 + 1 + 2) + (1 + 1 + 2) + 2) + ((1 + 1 + 2) + (1 + 1 + 2) + 2) + 2) _ _ _ (by omega) (by omega) f8_1.q f9_0.q).mono ?_); rintro e w14 ⟨m10, o10, n10, c10, p10, k10, d10, rfl, f10_0, hb14⟩; have hB_11 := hB_10.trans (hb14.mono hB_10.size); have pr_11 := pr_10.below hb14; have f1x_11 := f1x_10.below hb14; have f1y_11 := f1y_10.below hb14; have f2x_11 := f2x_10.below hb14; have f2y_11 := f2y_10.below hb14; have f3x_11 := f3x_10.below hb14; have f3y_11 := f3y_10.below hb14; have la_11 := la_10.below hb14; have lb_11 := lb_10.below hb14; have lc_11 := lc_10.below hb14; have f4_6 := f4_5.below hb14; have f5_5 := f5_4.below hb14; have f6_4 := f6_3.below hb14; have f7_3 := f7_2.below hb14; have f8_2 := f8_1.below hb14; have f9_1 := f9_0.below hb14; clear hb14 hB_10 pr_10 f1x_10 f1y_10 f2x_10 f2y_10 f3x_10 f3y_10 la_10 lb_10 lc_10 f4_5 f5_4 f6_3 f7_2 f8_1 f9_0; obtain ⟨sf4a, sf4b, sf4c, sf4d, sf4e, sf4f, sf4g, sf4h, sf4i, sf4j, sf4k, sf4l, sf4m, sf4n, sf4o, sf4p, sf4q, sf4r⟩ := pr_11.open9; obtain ⟨sg4a, sg4b, sg4c, sg4d, sg4e, sg4f, sg4g, sg4h, sg4i, sg4j, sg4k, sg4l, sg4m, sg4n, sg4o, sg4p⟩ := Box.put9 pr_11 (.bool m5) (.slice o5 n5 c5) (.slice p5 k5 d5) (.bool m7) (.slice o7 n7 c7) (.slice p7 k7 d7) (.bool m10) (.slice o10 n10 c10); have hB_12 := below_setAll hB_11 (g := w.heap.size + 1 + 1) (by omega) [.bool m5, .slice o5 n5 c5, .slice p5 k5 d5, .bool m7, .slice o7 n7 c7, .slice p7 k7 d7, .bool m10, .slice o10 n10 c10, .slice p10 k10 d10]; have f1x_12 := f1x_11.setAll pr_11 (noWordB _ rfl) [.bool m5, .slice o5 n5 c5, .slice p5 k5 d5, .bool m7, .slice o7 n7 c7, .slice p7 k7 d7, .bool m10, .slice o10 n10 c10, .slice p10 k10 d10] rfl; have f1y_12 := f1y_11.setAll pr_11 (noWordB _ rfl) [.bool m5, .slice o5 n5 c5, .slice p5 k5 d5, .bool m7, .slice o7 n7 c7, .slice p7 k7 d7, .bool m10, .slice o10 n10 c10, .slice p10 k10 d10] rfl; have f2x_12 := f2x_11.setAll pr_11 (noWordB _ rfl) [.bool m5, .slice o5 n5 c5, .slice p5 k5 d5, .bool m7, .slice o7 n7 c7, .slice p7 k7 d7, .bool m10, .slice o10 n10 c10, .slice p10 k10 d10] rfl; have f2y_12 := f2y_11.setAll pr_11 (noWordB _ rfl) [.bool m5, .slice o5 n5 c5, .slice p5 k5 d5, .bool m7, .slice o7 n7 c7, .slice p7 k7 d7, .bool m10, .slice o10 n10 c10, .slice p10 k10 d10] rfl; have f3x_12 := f3x_11.setAll pr_11 (noWordB _ rfl) [.bool m5, .slice o5 n5 c5, .slice p5 k5 d5, .bool m7, .slice o7 n7 c7, .slice p7 k7 d7, .bool m10, .slice o10 n10 c10, .slice p10 k10 d10] rfl; have f3y_12 := f3y_11.setAll pr_11 (noWordB _ rfl) [.bool m5, .slice o5 n5 c5, .slice p5 k5 d5, .bool m7, .slice o7 n7 c7, .slice p7 k7 d7, .bool m10, .slice o10 n10 c10, .slice p10 k10 d10] rfl; have la_12 := la_11.farAll (g' := w.heap.size + 1 + 1) (by omega) [.bool m5, .slice o5 n5 c5, .slice p5 k5 d5, .bool m7, .slice o7 n7 c7, .slice p7 k7 d7, .bool m10, .slice o10 n10 c10, .slice p10 k10 d10]; have lb_12 := lb_11.farAll (g' := w.heap.size + 1 + 1) (by omega) [.bool m5, .slice o5 n5 c5, .slice p5 k5 d5, .bool m7, .slice o7 n7 c7, .slice p7 k7 d7, .bool m10, .slice o10 n10 c10, .slice p10 k10 d10]; have lc_12 := lc_11.farAll (g' := w.heap.size + 1 + 1) (by omega) [.bool m5, .slice o5 n5 c5, .slice p5 k5 d5, .bool m7, .slice o7 n7 c7, .slice p7 k7 d7, .bool m10, .slice o10 n10 c10, .slice p10 k10 d10]; have f4_7 := f4_6.setAll pr_11 (noWordB _ rfl) [.bool m5, .slice o5 n5 c5, .slice p5 k5 d5, .bool m7, .slice o7 n7 c7, .slice p7 k7 d7, .bool m10, .slice o10 n10 c10, .slice p10 k10 d10] rfl; have f5_6 := f5_5.setAll pr_11 (noWordB _ rfl) [.bool m5, .slice o5 n5 c5, .slice p5 k5 d5, .bool m7, .slice o7 n7 c7, .slice p7 k7 d7, .bool m10, .slice o10 n10 c10, .slice p10 k10 d10] rfl; have f6_5 := f6_4.setAll pr_11 (noWordB _ rfl) [.bool m5, .slice o5 n5 c5, .slice p5 k5 d5, .bool m7, .slice o7 n7 c7, .slice p7 k7 d7, .bool m10, .slice o10 n10 c10, .slice p10 k10 d10] rfl; have f7_4 := f7_3.setAll pr_11 (noWordB _ rfl) [.bool m5, .slice o5 n5 c5, .slice p5 k5 d5, .bool m7, .slice o7 n7 c7, .slice p7 k7 d7, .bool m10, .slice o10 n10 c10, .slice p10 k10 d10] rfl; have f8_3 := f8_2.setAll pr_11 (noWordB _ rfl) [.bool m5, .slice o5 n5 c5, .slice p5 k5 d5, .bool m7, .slice o7 n7 c7, .slice p7 k7 d7, .bool m10, .slice o10 n10 c10, .slice p10 k10 d10] rfl; have f9_2 := f9_1.setAll pr_11 (noWordB _ rfl) [.bool m5, .slice o5 n5 c5, .slice p5 k5 d5, .bool m7, .slice o7 n7 c7, .slice p7 k7 d7, .bool m10, .slice o10 n10 c10, .slice p10 k10 d10] rfl; have f10_1 := f10_0.setAll pr_11 (noWordB _ rfl) [.bool m5, .slice o5 n5 c5, .slice p5 k5 d5, .bool m7, .slice o7 n7 c7, .slice p7 k7 d7, .bool m10, .slice o10 n10 c10, .slice p10 k10 d10] rfl; have pr_12 := pr_11.setAll [.bool m5, .slice o5 n5 c5, .slice p5 k5 d5, .bool m7, .slice o7 n7 c7, .slice p7 k7 d7, .bool m10, .slice o10 n10 c10, .slice p10 k10 d10] rfl; simp only [setAll, Nat.zero_add, Nat.reduceAdd] at hB_12 pr_12 f1x_12 f1y_12 f2x_12 f2y_12 f3x_12 f3y_12 la_12 lb_12 lc_12 f4_7 f5_6 f6_5 f7_4 f8_3 f9_2 f10_1))
    clear hB_11 f1x_11 f1y_11 f2x_11 f2y_11 f3x_11 f3y_11 la_11 lb_11 lc_11 f4_6 f5_5 f6_4 f7_3 f8_2 f9_1 f10_0 pr_11
    clear sf4a sf4b sf4c sf4d sf4e sf4f sf4g sf4h sf4i sf4j sf4k sf4l sf4m sf4n sf4o sf4p sf4q sf4r sg4a sg4b sg4c sg4d sg4e sg4f sg4g sg4h sg4i sg4j sg4k sg4l sg4m sg4n sg4o sg4p
    generalize (World.setCell (World.setCell (World.setCell (World.setCell (World.setCell (World.setCell (World.setCell (World.setCell (World.setCell w14 ⟨w.heap.size + 1 + 1, 0, none⟩ (.bool m5)) ⟨w.heap.size + 1 + 1, 1, none⟩ (.slice o5 n5 c5)) ⟨w.heap.size + 1 + 1, 2, none⟩ (.slice p5 k5 d5)) ⟨w.heap.size + 1 + 1, 3, none⟩ (.bool m7)) ⟨w.heap.size + 1 + 1, 4, none⟩ (.slice o7 n7 c7)) ⟨w.heap.size + 1 + 1, 5, none⟩ (.slice p7 k7 d7)) ⟨w.heap.size + 1 + 1, 6, none⟩ (.bool m10)) ⟨w.heap.size + 1 + 1, 7, none⟩ (.slice o10 n10 c10)) ⟨w.heap.size + 1 + 1, 8, none⟩ (.slice p10 k10 d10)) = w15 at *
    go_wp2
    obtain ⟨pre0, pre1, pre2, pre3, pre4, pre5, pre6, pre7, pre8, pre9, pre10, pre11, pre12, pre13, pre14, pre15, pre16, pre17⟩ := pr_12.open9
    exact bodyPost_ret (v := .agg #[.bool m5, .slice o5 n5 c5, .slice p5 k5 d5, .bool m7, .slice o7 n7 c7, .slice p7 k7 d7, .bool m10, .slice o10 n10 c10, .slice p10 k10 d10]) (by simp [results, Try.results25, go_sem, pre0, pre1, pre2, pre3, pre4, pre5, pre6, pre7, pre8]) rfl ⟨_, _, _, _, _, _, _, _, _, _, _, _, _, _, _, _, _, _, _, _, _, rfl, f5_6.of (near_a _ _), f7_4.of (near_a _ _), f10_1.of (near_c _ _ _ _), hB_12⟩
  · right
    refine ⟨?_, fun i hi => ?_⟩
    · clear zF F1 F3 F5 F6 F7 F8 nq6_7 nq6_8 nq7_8
      cases lb1
      · exact ready_of 1 _ rfl rfl (by kernel_rfl)
      cases lb3
      · exact ready_of 3 _ rfl rfl (by kernel_rfl)
      cases lb5
      · exact ready_of 5 _ rfl rfl (by kernel_rfl)
      cases lb6
      · exact ready_of 6 _ rfl rfl (by kernel_rfl)
      cases lb7
      · exact ready_of 7 _ rfl rfl (by kernel_rfl)
      cases lb8
      · exact ready_of 8 _ rfl rfl (by kernel_rfl)
      exact absurd ⟨rfl, rfl, rfl, rfl, rfl, rfl⟩ hL
    have hd : (lb1 = false ∧ i = 1) ∨ (lb3 = false ∧ lb1 = true ∧ i = 3) ∨ (lb5 = false ∧ lb3 = true ∧ i = 5) ∨ (lb6 = false ∧ i = 6) ∨ (lb7 = false ∧ i = 7) ∨ (lb8 = false ∧ i = 8) := by
      have hin := ready_lt hi
      obtain rfl | rfl | rfl | rfl | rfl | rfl | rfl | rfl | rfl | rfl | rfl | rfl : i = 0 ∨ i = 1 ∨ i = 2 ∨ i = 3 ∨ i = 4 ∨ i = 5 ∨ i = 6 ∨ i = 7 ∨ i = 8 ∨ i = 9 ∨ i = 10 ∨ i = 11 := by have hin' : i < 12 := hin; omega
      · exact absurd (ready_off hi) (fun h => Bool.noConfusion (show true = false from h))
      · exact .inl ⟨ready_off hi, rfl⟩
      · exact absurd (ready_off hi) (fun h => Bool.noConfusion (show true = false from h))
      · exact .inr (.inl ⟨ready_off hi, ready_dep (d := 1) hi (by kernel_rfl), rfl⟩)
      · exact absurd (ready_off hi) (fun h => Bool.noConfusion (show true = false from h))
      · exact .inr (.inr (.inl ⟨ready_off hi, ready_dep (d := 3) hi (by kernel_rfl), rfl⟩))
      · exact .inr (.inr (.inr (.inl ⟨ready_off hi, rfl⟩)))
      · exact .inr (.inr (.inr (.inr (.inl ⟨ready_off hi, rfl⟩))))
      · exact .inr (.inr (.inr (.inr (.inr (⟨ready_off hi, rfl⟩)))))
      · have k6 : lb6 = true := ready_dep (d := 6) hi (by kernel_rfl); have k1 : lb1 = true := ready_dep (d := 1) hi (by kernel_rfl); have k5 : lb5 = true := ready_dep (d := 5) hi (by kernel_rfl); have k7 : lb7 = true := ready_dep (d := 7) hi (by kernel_rfl); have k8 : lb8 = true := ready_dep (d := 8) hi (by kernel_rfl)
        have k3 := dp5_3 k5
        exact absurd ⟨k1, k3, k5, k6, k7, k8⟩ hL
      · exact absurd (ready_dep (d := 9) hi (by kernel_rfl)) (fun h => Bool.noConfusion (show false = true from h))
      · exact absurd (ready_dep (d := 10) hi (by kernel_rfl)) (fun h => Bool.noConfusion (show false = true from h))
    clear hi hL
    rcases hd with ⟨rfl, rfl⟩ | ⟨rfl, rfl, rfl⟩ | ⟨rfl, rfl, rfl⟩ | ⟨rfl, rfl⟩ | ⟨rfl, rfl⟩ | ⟨rfl, rfl⟩
    · refine step_of 1 ?_ ?_ (fun K hK => ?_)
      rotate_left 1
      · simp only [List.getElem?_toArray, List.getElem?_cons_succ, List.getElem?_cons_zero]; exact rfl
      rw [HAi.out]
      try simp only [Act.put]
      try simp only [List.setIfInBounds_toArray, List.set_cons_zero, List.set_cons_succ]
      go_simp
      refine (sOf_any p0 p1 HP0.out HP1.out _).mono ?_
      rintro e w16 ⟨m1x, o1x, n1x, c1x, p1x, k1x, d1x, m1y, o1y, n1y, c1y, p1y, k1y, d1y, rfl, f1x_0, f1y_0, hb⟩
      go_wp2_with fail
      refine hK.out _ _ (sFi (cFi zF hb)) ?_
      exact (hIVi _ _ _).2 (fun CC kk => kk true lb3 lb5 lb6 lb7 lb8 (.agg #[.bool m1x, .slice o1x n1x c1x, .slice p1x k1x d1x, .bool m1y, .slice o1y n1y c1y, .slice p1y k1y d1y]) lv3 lv5 lv6 lv7 lv8 m1x o1x n1x c1x p1x k1x d1x m1y o1y n1y c1y p1y k1y d1y m2x o2x n2x c2x p2x k2x d2x m2y o2y n2y c2y p2y k2y d2y m3x o3x n3x c3x p3x k3x d3x m3y o3y n3y c3y p3y k3y d3y gla glb glc rfl (by simp only [HAi.out, Act.put, List.setIfInBounds_toArray, List.set_cons_zero, List.set_cons_succ]) (cFi zF hb) (fun _ => ⟨rfl, f1x_0, f1y_0⟩) (fun h => absurd (dp3_1 h) (by decide)) (fun h => absurd (dp3_1 (dp5_3 h)) (by decide)) (fun h => ⟨(F6 h).1, (F6 h).2.1.below hb, (F6 h).2.2⟩) (fun h => ⟨(F7 h).1, (F7 h).2.1.below hb, (F7 h).2.2⟩) (fun h => ⟨(F8 h).1, (F8 h).2.1.below hb, (F8 h).2.2⟩) (fun _ => rfl) dp5_3 nq6_7 nq6_8 nq7_8)
    · obtain ⟨rfl, f1x_0, f1y_0⟩ := F1 rfl
      clear F1
      refine step_of 3 ?_ ?_ (fun K hK => ?_)
      rotate_left 1
      · simp only [List.getElem?_toArray, List.getElem?_cons_succ, List.getElem?_cons_zero]; exact rfl
      rw [HAi.out]
      try simp only [Act.put]
      try simp only [List.setIfInBounds_toArray, List.set_cons_zero, List.set_cons_succ]
      go_simp
      refine (sOf_any q0 q1 HQ0.out HQ1.out _).mono ?_
      rintro e w17 ⟨m2x, o2x, n2x, c2x, p2x, k2x, d2x, m2y, o2y, n2y, c2y, p2y, k2y, d2y, rfl, f2x_0, f2y_0, hb⟩
      go_wp2_with fail
      refine hK.out _ _ (sFi (cFi zF hb)) ?_
      exact (hIVi _ _ _).2 (fun CC kk => kk true true lb5 lb6 lb7 lb8 _ (.agg #[.bool m2x, .slice o2x n2x c2x, .slice p2x k2x d2x, .bool m2y, .slice o2y n2y c2y, .slice p2y k2y d2y]) lv5 lv6 lv7 lv8 m1x o1x n1x c1x p1x k1x d1x m1y o1y n1y c1y p1y k1y d1y m2x o2x n2x c2x p2x k2x d2x m2y o2y n2y c2y p2y k2y d2y m3x o3x n3x c3x p3x k3x d3x m3y o3y n3y c3y p3y k3y d3y gla glb glc rfl (by simp only [HAi.out, Act.put, List.setIfInBounds_toArray, List.set_cons_zero, List.set_cons_succ]) (cFi zF hb) (fun _ => ⟨rfl, f1x_0.below hb, f1y_0.below hb⟩) (fun _ => ⟨rfl, f2x_0, f2y_0⟩) (fun h => absurd (dp5_3 h) (by decide)) (fun h => ⟨(F6 h).1, (F6 h).2.1.below hb, (F6 h).2.2⟩) (fun h => ⟨(F7 h).1, (F7 h).2.1.below hb, (F7 h).2.2⟩) (fun h => ⟨(F8 h).1, (F8 h).2.1.below hb, (F8 h).2.2⟩) (fun _ => rfl) (fun _ => rfl) nq6_7 nq6_8 nq7_8)
    · obtain rfl := dp3_1 rfl
      obtain ⟨rfl, f1x_0, f1y_0⟩ := F1 rfl
      clear F1
      obtain ⟨rfl, f2x_0, f2y_0⟩ := F3 rfl
      clear F3
      refine step_of 5 ?_ ?_ (fun K hK => ?_)
      rotate_left 1
      · simp only [List.getElem?_toArray, List.getElem?_cons_succ, List.getElem?_cons_zero]; exact rfl
      rw [HAi.out]
      try simp only [Act.put]
      try simp only [List.setIfInBounds_toArray, List.set_cons_zero, List.set_cons_succ]
      go_simp
      refine (sOf_any 0 0 in0' in0' _).mono ?_
      rintro e w18 ⟨m3x, o3x, n3x, c3x, p3x, k3x, d3x, m3y, o3y, n3y, c3y, p3y, k3y, d3y, rfl, f3x_0, f3y_0, hb⟩
      go_wp2_with fail
      refine hK.out _ _ (sFi (cFi zF hb)) ?_
      exact (hIVi _ _ _).2 (fun CC kk => kk true true true lb6 lb7 lb8 _ _ (.agg #[.bool m3x, .slice o3x n3x c3x, .slice p3x k3x d3x, .bool m3y, .slice o3y n3y c3y, .slice p3y k3y d3y]) lv6 lv7 lv8 m1x o1x n1x c1x p1x k1x d1x m1y o1y n1y c1y p1y k1y d1y m2x o2x n2x c2x p2x k2x d2x m2y o2y n2y c2y p2y k2y d2y m3x o3x n3x c3x p3x k3x d3x m3y o3y n3y c3y p3y k3y d3y gla glb glc rfl (by simp only [HAi.out, Act.put, List.setIfInBounds_toArray, List.set_cons_zero, List.set_cons_succ]) (cFi zF hb) (fun _ => ⟨rfl, f1x_0.below hb, f1y_0.below hb⟩) (fun _ => ⟨rfl, f2x_0.below hb, f2y_0.below hb⟩) (fun _ => ⟨rfl, f3x_0, f3y_0⟩) (fun h => ⟨(F6 h).1, (F6 h).2.1.below hb, (F6 h).2.2⟩) (fun h => ⟨(F7 h).1, (F7 h).2.1.below hb, (F7 h).2.2⟩) (fun h => ⟨(F8 h).1, (F8 h).2.1.below hb, (F8 h).2.2⟩) (fun _ => rfl) (fun _ => rfl) nq6_7 nq6_8 nq7_8)
    · refine step_of 6 ?_ ?_ (fun K hK => ?_)
      rotate_left 1
      · simp only [List.getElem?_toArray, List.getElem?_cons_succ, List.getElem?_cons_zero]; exact rfl
      rw [HAi.out]
      try simp only [Act.put]
      try simp only [List.setIfInBounds_toArray, List.set_cons_zero, List.set_cons_succ]
      go_simp
      have hgn := mFi zF
      have hq7 : lb7 = true → glb < w4.heap.size := fun h => (F7 h).2.1.lt
      have hq8 : lb8 = true → glc < w4.heap.size := fun h => (F8 h).2.1.lt
      obtain ⟨wn, hwn, la_0, hb, -⟩ := new_box w4 _ rfl [.bool false, .slice none 0 0, .slice none 0 0, .bool false, .slice none 0 0, .slice none 0 0] 42
      rw [hwn]
      refine hK.out _ _ (sFi (cFi zF hb)) ?_
      exact (hIVi _ _ _).2 (fun CC kk => kk lb1 lb3 lb5 true lb7 lb8 lv1 lv3 lv5 (.pointer (some ⟨w4.heap.size, 0, none⟩)) lv7 lv8 m1x o1x n1x c1x p1x k1x d1x m1y o1y n1y c1y p1y k1y d1y m2x o2x n2x c2x p2x k2x d2x m2y o2y n2y c2y p2y k2y d2y m3x o3x n3x c3x p3x k3x d3x m3y o3y n3y c3y p3y k3y d3y w4.heap.size glb glc rfl (by simp only [HAi.out, Act.put, List.setIfInBounds_toArray, List.set_cons_zero, List.set_cons_succ]) (cFi zF hb) (fun h => ⟨(F1 h).1, (F1 h).2.1.below hb, (F1 h).2.2.below hb⟩) (fun h => ⟨(F3 h).1, (F3 h).2.1.below hb, (F3 h).2.2.below hb⟩) (fun h => ⟨(F5 h).1, (F5 h).2.1.below hb, (F5 h).2.2.below hb⟩) (fun _ => ⟨rfl, la_0, hgn⟩) (fun h => ⟨(F7 h).1, (F7 h).2.1.below hb, (F7 h).2.2⟩) (fun h => ⟨(F8 h).1, (F8 h).2.1.below hb, (F8 h).2.2⟩) dp3_1 dp5_3 (fun _ h => by have := hq7 h; omega) (fun _ h => by have := hq8 h; omega) nq7_8)
    · refine step_of 7 ?_ ?_ (fun K hK => ?_)
      rotate_left 1
      · simp only [List.getElem?_toArray, List.getElem?_cons_succ, List.getElem?_cons_zero]; exact rfl
      rw [HAi.out]
      try simp only [Act.put]
      try simp only [List.setIfInBounds_toArray, List.set_cons_zero, List.set_cons_succ]
      go_simp
      have hgn := mFi zF
      have hq6 : lb6 = true → gla < w4.heap.size := fun h => (F6 h).2.1.lt
      have hq8 : lb8 = true → glc < w4.heap.size := fun h => (F8 h).2.1.lt
      obtain ⟨wn, hwn, lb_0, hb, -⟩ := new_box w4 _ rfl [.bool false, .slice none 0 0, .slice none 0 0, .bool false, .slice none 0 0, .slice none 0 0] 42
      rw [hwn]
      refine hK.out _ _ (sFi (cFi zF hb)) ?_
      exact (hIVi _ _ _).2 (fun CC kk => kk lb1 lb3 lb5 lb6 true lb8 lv1 lv3 lv5 lv6 (.pointer (some ⟨w4.heap.size, 0, none⟩)) lv8 m1x o1x n1x c1x p1x k1x d1x m1y o1y n1y c1y p1y k1y d1y m2x o2x n2x c2x p2x k2x d2x m2y o2y n2y c2y p2y k2y d2y m3x o3x n3x c3x p3x k3x d3x m3y o3y n3y c3y p3y k3y d3y gla w4.heap.size glc rfl (by simp only [HAi.out, Act.put, List.setIfInBounds_toArray, List.set_cons_zero, List.set_cons_succ]) (cFi zF hb) (fun h => ⟨(F1 h).1, (F1 h).2.1.below hb, (F1 h).2.2.below hb⟩) (fun h => ⟨(F3 h).1, (F3 h).2.1.below hb, (F3 h).2.2.below hb⟩) (fun h => ⟨(F5 h).1, (F5 h).2.1.below hb, (F5 h).2.2.below hb⟩) (fun h => ⟨(F6 h).1, (F6 h).2.1.below hb, (F6 h).2.2⟩) (fun _ => ⟨rfl, lb_0, hgn⟩) (fun h => ⟨(F8 h).1, (F8 h).2.1.below hb, (F8 h).2.2⟩) dp3_1 dp5_3 (fun h _ => by have := hq6 h; omega) nq6_8 (fun _ h => by have := hq8 h; omega))
    · refine step_of 8 ?_ ?_ (fun K hK => ?_)
      rotate_left 1
      · simp only [List.getElem?_toArray, List.getElem?_cons_succ, List.getElem?_cons_zero]; exact rfl
      rw [HAi.out]
      try simp only [Act.put]
      try simp only [List.setIfInBounds_toArray, List.set_cons_zero, List.set_cons_succ]
      go_simp
      have hgn := mFi zF
      have hq6 : lb6 = true → gla < w4.heap.size := fun h => (F6 h).2.1.lt
      have hq7 : lb7 = true → glb < w4.heap.size := fun h => (F7 h).2.1.lt
      obtain ⟨wn, hwn, lc_0, hb, -⟩ := new_box w4 _ rfl [.bool false, .slice none 0 0, .slice none 0 0, .bool false, .slice none 0 0, .slice none 0 0] 42
      rw [hwn]
      refine hK.out _ _ (sFi (cFi zF hb)) ?_
      exact (hIVi _ _ _).2 (fun CC kk => kk lb1 lb3 lb5 lb6 lb7 true lv1 lv3 lv5 lv6 lv7 (.pointer (some ⟨w4.heap.size, 0, none⟩)) m1x o1x n1x c1x p1x k1x d1x m1y o1y n1y c1y p1y k1y d1y m2x o2x n2x c2x p2x k2x d2x m2y o2y n2y c2y p2y k2y d2y m3x o3x n3x c3x p3x k3x d3x m3y o3y n3y c3y p3y k3y d3y gla glb w4.heap.size rfl (by simp only [HAi.out, Act.put, List.setIfInBounds_toArray, List.set_cons_zero, List.set_cons_succ]) (cFi zF hb) (fun h => ⟨(F1 h).1, (F1 h).2.1.below hb, (F1 h).2.2.below hb⟩) (fun h => ⟨(F3 h).1, (F3 h).2.1.below hb, (F3 h).2.2.below hb⟩) (fun h => ⟨(F5 h).1, (F5 h).2.1.below hb, (F5 h).2.2.below hb⟩) (fun h => ⟨(F6 h).1, (F6 h).2.1.below hb, (F6 h).2.2⟩) (fun h => ⟨(F7 h).1, (F7 h).2.1.below hb, (F7 h).2.2⟩) (fun _ => ⟨rfl, lc_0, hgn⟩) dp3_1 dp5_3 nq6_7 (fun h _ => by have := hq6 h; omega) (fun h _ => by have := hq7 h; omega))
set_option maxHeartbeats 8000000 in
theorem cCrossing_any {axm : Bool} {axo : Option Addr} {axn axc : Nat} {axp : Option Addr} {axk axd : Nat} {aym : Bool} {ayo : Option Addr} {ayn ayc : Nat} {ayp : Option Addr} {ayk ayd : Nat} {bxm : Bool} {bxo : Option Addr} {bxn bxc : Nat} {bxp : Option Addr} {bxk bxd : Nat} {bym : Bool} {byo : Option Addr} {byn byc : Nat} {byp : Option Addr} {byk byd : Nat} {um : Bool} {uo : Option Addr} {un uc : Nat} {up : Option Addr} {uk ud : Nat} {vm : Bool} {vo : Option Addr} {vn vc : Nat} {vp : Option Addr} {vk vd : Nat} (La : Nat) (axq ayq : Rat) (Lb : Nat) (bxq byq : Rat) (Lu : Nat) (uq : Rat) (Lv : Nat) (vq : Rat) (w : World) (hLa : La ≤ 100000) (hLb : Lb ≤ 100000) (hLu : Lu ≤ 100000) (hLv : Lv ≤ 100000) (fax_0 : FQ w (.agg #[.bool axm, .slice axo axn axc, .slice axp axk axd]) La axq) (fay_0 : FQ w (.agg #[.bool aym, .slice ayo ayn ayc, .slice ayp ayk ayd]) La ayq) (fbx_0 : FQ w (.agg #[.bool bxm, .slice bxo bxn bxc, .slice bxp bxk bxd]) Lb bxq) (fby_0 : FQ w (.agg #[.bool bym, .slice byo byn byc, .slice byp byk byd]) Lb byq) (fu_0 : FQ w (.agg #[.bool um, .slice uo un uc, .slice up uk ud]) Lu uq) (fv_0 : FQ w (.agg #[.bool vm, .slice vo vn vc, .slice vp vk vd]) Lv vq) (hne : uq - vq ≠ 0) :
    Calls Try.prog 32 #[.agg #[.bool axm, .slice axo axn axc, .slice axp axk axd, .bool aym, .slice ayo ayn ayc, .slice ayp ayk ayd], .agg #[.bool bxm, .slice bxo bxn bxc, .slice bxp bxk bxd, .bool bym, .slice byo byn byc, .slice byp byk byd], .agg #[.bool um, .slice uo un uc, .slice up uk ud], .agg #[.bool vm, .slice vo vn vc, .slice vp vk vd]] w fun e w' => AnsS w w' e (La + ((Lu + (Lu + Lv + 2) + 3) + (Lb + La + 2) + 2) + 2) (axq + uq / (uq - vq) * (bxq - axq)) (ayq + uq / (uq - vq) * (byq - ayq)) := by
  have hB_0 := Below.refl w.heap.size w
  have HLa := Lib.hid hLa; have HLb := Lib.hid hLb; have HLu := Lib.hid hLu; have HLv := Lib.hid hLv
  clear hLa hLb hLu hLv
  have HN := Lib.hid hne; clear hne
  obtain ⟨w1, hw1, pa_0, hb1, hs1⟩ := new_box w (w.heap.size) rfl [.bool axm, .slice axo axn axc, .slice axp axk axd, .bool aym, .slice ayo ayn ayc, .slice ayp ayk ayd] 42
  have hb1' : Below w.heap.size w w1 := hb1.mono (by omega)
  clear hb1
  have hB_1 := hB_0.trans (hb1'.mono hB_0.size)
  have fax_1 := fax_0.below hb1'
  have fay_1 := fay_0.below hb1'
  have fbx_1 := fbx_0.below hb1'
  have fby_1 := fby_0.below hb1'
  have fu_1 := fu_0.below hb1'
  have fv_1 := fv_0.below hb1'
  clear hb1' hB_0 fax_0 fay_0 fbx_0 fby_0 fu_0 fv_0
  obtain ⟨w2, hw2, pb_0, hb2, hs2⟩ := new_box w1 (w.heap.size + 1) hs1 [.bool bxm, .slice bxo bxn bxc, .slice bxp bxk bxd, .bool bym, .slice byo byn byc, .slice byp byk byd] 42
  have hb2' : Below w1.heap.size w1 w2 := hb2.mono (by omega)
  clear hb2
  have hB_2 := hB_1.trans (hb2'.mono hB_1.size)
  have fax_2 := fax_1.below hb2'
  have fay_2 := fay_1.below hb2'
  have fbx_2 := fbx_1.below hb2'
  have fby_2 := fby_1.below hb2'
  have fu_2 := fu_1.below hb2'
  have fv_2 := fv_1.below hb2'
  have pa_1 := pa_0.below hb2'
  clear hb2' hB_1 fax_1 fay_1 fbx_1 fby_1 fu_1 fv_1 pa_0
  obtain ⟨w3, hw3, pu_0, hb3, hs3⟩ := new_box w2 (w.heap.size + 1 + 1) hs2 [.bool um, .slice uo un uc, .slice up uk ud] 28
  have hb3' : Below w2.heap.size w2 w3 := hb3.mono (by omega)
  clear hb3
  have hB_3 := hB_2.trans (hb3'.mono hB_2.size)
  have fax_3 := fax_2.below hb3'
  have fay_3 := fay_2.below hb3'
  have fbx_3 := fbx_2.below hb3'
  have fby_3 := fby_2.below hb3'
  have fu_3 := fu_2.below hb3'
  have fv_3 := fv_2.below hb3'
  have pa_2 := pa_1.below hb3'
  have pb_1 := pb_0.below hb3'
  clear hb3' hB_2 fax_2 fay_2 fbx_2 fby_2 fu_2 fv_2 pa_1 pb_0
  obtain ⟨w4, hw4, pv_0, hb4, hs4⟩ := new_box w3 (w.heap.size + 1 + 1 + 1) hs3 [.bool vm, .slice vo vn vc, .slice vp vk vd] 28
  have hb4' : Below w3.heap.size w3 w4 := hb4.mono (by omega)
  clear hb4
  have hB_4 := hB_3.trans (hb4'.mono hB_3.size)
  have fax_4 := fax_3.below hb4'
  have fay_4 := fay_3.below hb4'
  have fbx_4 := fbx_3.below hb4'
  have fby_4 := fby_3.below hb4'
  have fu_4 := fu_3.below hb4'
  have fv_4 := fv_3.below hb4'
  have pa_3 := pa_2.below hb4'
  have pb_2 := pb_1.below hb4'
  have pu_1 := pu_0.below hb4'
  clear hb4' hB_3 fax_3 fay_3 fbx_3 fby_3 fu_3 fv_3 pa_2 pb_1 pu_0
  obtain ⟨w5, hw5, pr_0, hb5, hs5⟩ := new_box w4 (w.heap.size + 1 + 1 + 1 + 1) hs4 [.bool false, .slice none 0 0, .slice none 0 0, .bool false, .slice none 0 0, .slice none 0 0] 42
  have hb5' : Below w4.heap.size w4 w5 := hb5.mono (by omega)
  clear hb5
  have hB_5 := hB_4.trans (hb5'.mono hB_4.size)
  have fax_5 := fax_4.below hb5'
  have fay_5 := fay_4.below hb5'
  have fbx_5 := fbx_4.below hb5'
  have fby_5 := fby_4.below hb5'
  have fu_5 := fu_4.below hb5'
  have fv_5 := fv_4.below hb5'
  have pa_4 := pa_3.below hb5'
  have pb_3 := pb_2.below hb5'
  have pu_2 := pu_1.below hb5'
  have pv_1 := pv_0.below hb5'
  clear hb5' hB_4 fax_4 fay_4 fbx_4 fby_4 fu_4 fv_4 pa_3 pb_2 pu_1 pv_0
  go_enter Try.func32, Try.ntmps32
  obtain ⟨pue0, pue1, pue2, pue3, pue4, pue5⟩ := pu_2.open3
  obtain ⟨pve0, pve1, pve2, pve3, pve4, pve5⟩ := pv_1.open3
  go_wp2
  clear pue0 pue1 pue2 pue3 pue4 pue5 pve0 pve1 pve2 pve3 pve4 pve5
  have hWi_0 := Below.refl w5.heap.size w5
  have hsi : w.heap.size ≤ w5.heap.size := hB_5.size
  have hlipa := pa_4.lt
  have hlipb := pb_3.lt
  have hlipu := pu_2.lt
  have hlipv := pv_1.lt
  have hlipr := pr_0.lt
  have hB_6 := hB_5.drew'
  have fax_6 := fax_5.drew
  have fay_6 := fay_5.drew
  have fbx_6 := fbx_5.drew
  have fby_6 := fby_5.drew
  have fu_6 := fu_5.drew
  have fv_6 := fv_5.drew
  have pa_5 := pa_4.drew
  have pb_4 := pb_3.drew
  have pu_3 := pu_2.drew
  have pv_2 := pv_1.drew
  have pr_1 := pr_0.drew
  have hWi_1 := hWi_0.drew'
  clear hB_5 fax_5 fay_5 fbx_5 fby_5 fu_5 fv_5 pa_4 pb_3 pu_2 pv_1 pr_0 hWi_0
  refine wp_region_noPanic ?_
  refine wp_region_held_drew (S := fun w' => w'.cell? ⟨w.heap.size + 1 + 1, 0, none⟩ = some (.bool um) ∧ w'.cell? ⟨w.heap.size + 1 + 1, 1, none⟩ = some (.slice uo un uc) ∧ w'.cell? ⟨w.heap.size + 1 + 1, 2, none⟩ = some (.slice up uk ud) ∧ w'.cell? ⟨w.heap.size + 1 + 1 + 1, 0, none⟩ = some (.bool vm) ∧ w'.cell? ⟨w.heap.size + 1 + 1 + 1, 1, none⟩ = some (.slice vo vn vc) ∧ w'.cell? ⟨w.heap.size + 1 + 1 + 1, 2, none⟩ = some (.slice vp vk vd)) (by kernel_rfl) (⟨pu_3.c0, pu_3.c1, pu_3.c2, pv_2.c0, pv_2.c1, pv_2.c2⟩) (fun hHeld => ?_)
  refine reg_take 0 ?_ ?_ ?_ (by kernel_rfl) (by kernel_rfl) (by kernel_rfl) (fun _ _ _ h => h) ?_ ?_ (by assumption) ?_
  rotate_left 2
  · simp only [List.getElem?_toArray, List.getElem?_cons_zero]; exact rfl
  · rfl
  · intro w hSw; (try dsimp only at hSw); go_simp; try with_reducible rfl
  try simp only [Act.put]
  try simp only [List.setIfInBounds_toArray, List.set_cons_zero, List.set_cons_succ]
  refine reg_take 1 ?_ ?_ ?_ (by kernel_rfl) (by kernel_rfl) (by kernel_rfl) (fun _ _ _ h => h) ?_ ?_ (by assumption) ?_
  rotate_left 2
  · simp only [List.getElem?_toArray, List.getElem?_cons_succ, List.getElem?_cons_zero]; exact rfl
  · rfl
  · intro w hSw; (try dsimp only at hSw); go_simp; try with_reducible rfl
  try simp only [Act.put]
  try simp only [List.setIfInBounds_toArray, List.set_cons_zero, List.set_cons_succ]
  refine reg_take 2 ?_ ?_ ?_ (by kernel_rfl) (by kernel_rfl) (by kernel_rfl) (fun _ _ _ h => h) ?_ ?_ (by assumption) ?_
  rotate_left 2
  · simp only [List.getElem?_toArray, List.getElem?_cons_succ, List.getElem?_cons_zero]; exact rfl
  · rfl
  · intro w hSw; (try dsimp only at hSw); go_simp; try with_reducible rfl
  try simp only [Act.put]
  try simp only [List.setIfInBounds_toArray, List.set_cons_zero, List.set_cons_succ]
  refine reg_grab (fun WWi ai hWW hAA => ?_)
  have HWi := Lib.hid hWW; have HAi := Lib.hid hAA; clear hWW hAA hHeld
  have sti_2t : ∀ (w' : World) (m1 : Bool) (o1 : Option Addr) (n1 : Nat) (c1 : Nat) (p1 : Option Addr) (k1 : Nat) (d1 : Nat) (m2 : Bool) (o2 : Option Addr) (n2 : Nat) (c2 : Nat) (p2 : Option Addr) (k2 : Nat) (d2 : Nat) (glp : Nat), Below w.heap.size w w' → FQ w' (.agg #[.bool axm, .slice axo axn axc, .slice axp axk axd]) La axq → FQ w' (.agg #[.bool aym, .slice ayo ayn ayc, .slice ayp ayk ayd]) La ayq → FQ w' (.agg #[.bool bxm, .slice bxo bxn bxc, .slice bxp bxk bxd]) Lb bxq → FQ w' (.agg #[.bool bym, .slice byo byn byc, .slice byp byk byd]) Lb byq → FQ w' (.agg #[.bool um, .slice uo un uc, .slice up uk ud]) Lu uq → FQ w' (.agg #[.bool vm, .slice vo vn vc, .slice vp vk vd]) Lv vq → Box w' (w.heap.size) [.bool axm, .slice axo axn axc, .slice axp axk axd, .bool aym, .slice ayo ayn ayc, .slice ayp ayk ayd] → Box w' (w.heap.size + 1) [.bool bxm, .slice bxo bxn bxc, .slice bxp bxk bxd, .bool bym, .slice byo byn byc, .slice byp byk byd] → Box w' (w.heap.size + 1 + 1) [.bool um, .slice uo un uc, .slice up uk ud] → Box w' (w.heap.size + 1 + 1 + 1) [.bool vm, .slice vo vn vc, .slice vp vk vd] → Box w' (w.heap.size + 1 + 1 + 1 + 1) [.bool false, .slice none 0 0, .slice none 0 0, .bool false, .slice none 0 0, .slice none 0 0] → Below w5.heap.size w5 w' → RF w' (.agg #[.bool m1, .slice o1 n1 c1, .slice p1 k1 d1]) (Lu + Lv + 2) (uq - vq) → RF w' (.agg #[.bool m2, .slice o2 n2 c2, .slice p2 k2 d2]) (Lu + (Lu + Lv + 2) + 3) (uq / (uq - vq)) → Box w' glp [.bool false, .slice none 0 0, .slice none 0 0] → w5.heap.size ≤ glp → WWi 2 #[true, true, true, true, true, true, true, true, true, false, false] ((((((ai.put (some 15) (.agg #[.bool m1, .slice o1 n1 c1, .slice p1 k1 d1])).put (some 16) (.tuple #[.agg #[.bool m2, .slice o2 n2 c2, .slice p2 k2 d2], .bool true])).put (some 11) (.tuple #[.agg #[.bool m2, .slice o2 n2 c2, .slice p2 k2 d2], .bool true])).put (some 17) (.agg #[.bool m2, .slice o2 n2 c2, .slice p2 k2 d2])).put (some 18) (.bool true)).put (some 9) (.pointer (some ⟨glp, 0, none⟩))) w' := by
    intro w6 m1 o1 n1 c1 p1 k1 d1 m2 o2 n2 c2 p2 k2 d2 glp hB_0 fax_0 fay_0 fbx_0 fby_0 fu_0 fv_0 pa_0 pb_0 pu_0 pv_0 pr_0 hWi_0 f1_0 f2_0 lp_0 hglp
    rw [HWi.out, HAi.out]
    try simp only [Act.put]
    try simp only [List.setIfInBounds_toArray, List.set_cons_zero, List.set_cons_succ]
    clear hWi_0
    obtain ⟨sf1a, sf1b, sf1c, sf1d, sf1e, sf1f⟩ := lp_0.open3
    obtain ⟨sg1a, sg1b, sg1c, sg1d⟩ := Box.put3 lp_0 (.bool m2) (.slice o2 n2 c2)
    refine reg_call 9 ?_ (by kernel_rfl) ?_ (fun K hK => ?_)
    rotate_left 1
    · simp only [List.getElem?_toArray, List.getElem?_cons_succ, List.getElem?_cons_zero]; exact rfl
    go_simp
    have hB_1 := below_setAll hB_0 (g := glp) (by omega) [.bool m2, .slice o2 n2 c2, .slice p2 k2 d2]
    have fax_1 := fax_0.setAll lp_0 (noWord3 _ _ _ _ _ _ _) [.bool m2, .slice o2 n2 c2, .slice p2 k2 d2] rfl
    have fay_1 := fay_0.setAll lp_0 (noWord3 _ _ _ _ _ _ _) [.bool m2, .slice o2 n2 c2, .slice p2 k2 d2] rfl
    have fbx_1 := fbx_0.setAll lp_0 (noWord3 _ _ _ _ _ _ _) [.bool m2, .slice o2 n2 c2, .slice p2 k2 d2] rfl
    have fby_1 := fby_0.setAll lp_0 (noWord3 _ _ _ _ _ _ _) [.bool m2, .slice o2 n2 c2, .slice p2 k2 d2] rfl
    have fu_1 := fu_0.setAll lp_0 (noWord3 _ _ _ _ _ _ _) [.bool m2, .slice o2 n2 c2, .slice p2 k2 d2] rfl
    have fv_1 := fv_0.setAll lp_0 (noWord3 _ _ _ _ _ _ _) [.bool m2, .slice o2 n2 c2, .slice p2 k2 d2] rfl
    have pa_1 := pa_0.farAll (g' := glp) (by omega) [.bool m2, .slice o2 n2 c2, .slice p2 k2 d2]
    have pb_1 := pb_0.farAll (g' := glp) (by omega) [.bool m2, .slice o2 n2 c2, .slice p2 k2 d2]
    have pu_1 := pu_0.farAll (g' := glp) (by omega) [.bool m2, .slice o2 n2 c2, .slice p2 k2 d2]
    have pv_1 := pv_0.farAll (g' := glp) (by omega) [.bool m2, .slice o2 n2 c2, .slice p2 k2 d2]
    have pr_1 := pr_0.farAll (g' := glp) (by omega) [.bool m2, .slice o2 n2 c2, .slice p2 k2 d2]
    have f1_1 := f1_0.setAll lp_0 (noWord3 _ _ _ _ _ _ _) [.bool m2, .slice o2 n2 c2, .slice p2 k2 d2] rfl
    have f2_1 := f2_0.setAll lp_0 (noWord3 _ _ _ _ _ _ _) [.bool m2, .slice o2 n2 c2, .slice p2 k2 d2] rfl
    have lp_1 := lp_0.setAll [.bool m2, .slice o2 n2 c2, .slice p2 k2 d2] rfl
    simp only [setAll, Nat.zero_add, Nat.reduceAdd] at hB_1 fax_1 fay_1 fbx_1 fby_1 fu_1 fv_1 pa_1 pb_1 pu_1 pv_1 pr_1 f1_1 f2_1 lp_1
    clear sf1a sf1b sf1c sf1d sf1e sf1f sg1a sg1b sg1c sg1d
    clear hB_0 fax_0 fay_0 fbx_0 fby_0 fu_0 fv_0 pa_0 pb_0 pu_0 pv_0 pr_0 f1_0 f2_0 lp_0
    refine hK.out _ _ ⟨pu_1.c0, pu_1.c1, pu_1.c2, pv_1.c0, pv_1.c1, pv_1.c2⟩ (fun hHeld => ?_)
    clear hK K
    try simp only [Act.put]
    try simp only [List.setIfInBounds_toArray, List.set_cons_zero, List.set_cons_succ]
    generalize (World.setCell (World.setCell (World.setCell w6 ⟨glp, 0, none⟩ (.bool m2)) ⟨glp, 1, none⟩ (.slice o2 n2 c2)) ⟨glp, 2, none⟩ (.slice p2 k2 d2)) = w7 at *
    refine reg_take 10 ?_ ?_ ?_ (by kernel_rfl) (by kernel_rfl) (by kernel_rfl) (fun _ _ _ h => h) ?_ ?_ (by assumption) ?_
    rotate_left 2
    · simp only [List.getElem?_toArray, List.getElem?_cons_succ, List.getElem?_cons_zero]; exact rfl
    · rfl
    · intro w hSw; (try dsimp only at hSw); go_simp; try with_reducible rfl
    try simp only [Act.put]
    try simp only [List.setIfInBounds_toArray, List.set_cons_zero, List.set_cons_succ]
    refine wpAnyH_done (by kernel_rfl) ?_ _
    refine NoPanic.normal ?_
    clear pu_1 pv_1 fu_1 fv_1
    obtain ⟨pae0, pae1, pae2, pae3, pae4, pae5, pae6, pae7, pae8, pae9, pae10, pae11⟩ := pa_1.open6
    obtain ⟨pbe0, pbe1, pbe2, pbe3, pbe4, pbe5, pbe6, pbe7, pbe8, pbe9, pbe10, pbe11⟩ := pb_1.open6
    obtain ⟨lpe0, lpe1, lpe2, lpe3, lpe4, lpe5⟩ := lp_1.open3
    go_wp2_with fail
    refine (sAlong_any La axq ayq Lb bxq byq (Lu + (Lu + Lv + 2) + 3) _ _ (by have := HLa.out; have := HLb.out; have := HLu.out; have := HLv.out; omega) (by have := HLa.out; have := HLb.out; have := HLu.out; have := HLv.out; omega) (by have := HLa.out; have := HLb.out; have := HLu.out; have := HLv.out; omega) fax_1 fay_1 fbx_1 fby_1 f2_1.q).mono ?_
    rintro e w8 ⟨m3x, o3x, n3x, c3x, p3x, k3x, d3x, m3y, o3y, n3y, c3y, p3y, k3y, d3y, rfl, f3x_0, f3y_0, hb8⟩
    clear pae0 pae1 pae2 pae3 pae4 pae5 pae6 pae7 pae8 pae9 pae10 pae11 pbe0 pbe1 pbe2 pbe3 pbe4 pbe5 pbe6 pbe7 pbe8 pbe9 pbe10 pbe11 lpe0 lpe1 lpe2 lpe3 lpe4 lpe5
    have hB_2 := hB_1.trans (hb8.mono hB_1.size)
    have fax_2 := fax_1.below hb8
    have fay_2 := fay_1.below hb8
    have fbx_2 := fbx_1.below hb8
    have fby_2 := fby_1.below hb8
    have pa_2 := pa_1.below hb8
    have pb_2 := pb_1.below hb8
    have pr_2 := pr_1.below hb8
    have f1_2 := f1_1.below hb8
    have f2_2 := f2_1.below hb8
    have lp_2 := lp_1.below hb8
    clear hb8 hB_1 fax_1 fay_1 fbx_1 fby_1 pa_1 pb_1 pr_1 f1_1 f2_1 lp_1
    obtain ⟨pae0, pae1, pae2, pae3, pae4, pae5, pae6, pae7, pae8, pae9, pae10, pae11⟩ := pa_2.open6
    obtain ⟨pbe0, pbe1, pbe2, pbe3, pbe4, pbe5, pbe6, pbe7, pbe8, pbe9, pbe10, pbe11⟩ := pb_2.open6
    obtain ⟨lpe0, lpe1, lpe2, lpe3, lpe4, lpe5⟩ := lp_2.open3
    obtain ⟨sf2a, sf2b, sf2c, sf2d, sf2e, sf2f, sf2g, sf2h, sf2i, sf2j, sf2k, sf2l⟩ := pr_2.open6
    obtain ⟨sg2a, sg2b, sg2c, sg2d, sg2e, sg2f, sg2g, sg2h, sg2i, sg2j⟩ := Box.put6 pr_2 (.bool m3x) (.slice o3x n3x c3x) (.slice p3x k3x d3x) (.bool m3y) (.slice o3y n3y c3y)
    go_wp2
    clear pae0 pae1 pae2 pae3 pae4 pae5 pae6 pae7 pae8 pae9 pae10 pae11 pbe0 pbe1 pbe2 pbe3 pbe4 pbe5 pbe6 pbe7 pbe8 pbe9 pbe10 pbe11 lpe0 lpe1 lpe2 lpe3 lpe4 lpe5 sf2a sf2b sf2c sf2d sf2e sf2f sf2g sf2h sf2i sf2j sf2k sf2l sg2a sg2b sg2c sg2d sg2e sg2f sg2g sg2h sg2i sg2j
    have hB_3 := below_setAll hB_2 (g := w.heap.size + 1 + 1 + 1 + 1) (by omega) [.bool m3x, .slice o3x n3x c3x, .slice p3x k3x d3x, .bool m3y, .slice o3y n3y c3y, .slice p3y k3y d3y]
    have fax_3 := fax_2.setAll pr_2 (noWord6 _ _ _ _ _ _ _ _ _ _ _ _ _ _) [.bool m3x, .slice o3x n3x c3x, .slice p3x k3x d3x, .bool m3y, .slice o3y n3y c3y, .slice p3y k3y d3y] rfl
    have fay_3 := fay_2.setAll pr_2 (noWord6 _ _ _ _ _ _ _ _ _ _ _ _ _ _) [.bool m3x, .slice o3x n3x c3x, .slice p3x k3x d3x, .bool m3y, .slice o3y n3y c3y, .slice p3y k3y d3y] rfl
    have fbx_3 := fbx_2.setAll pr_2 (noWord6 _ _ _ _ _ _ _ _ _ _ _ _ _ _) [.bool m3x, .slice o3x n3x c3x, .slice p3x k3x d3x, .bool m3y, .slice o3y n3y c3y, .slice p3y k3y d3y] rfl
    have fby_3 := fby_2.setAll pr_2 (noWord6 _ _ _ _ _ _ _ _ _ _ _ _ _ _) [.bool m3x, .slice o3x n3x c3x, .slice p3x k3x d3x, .bool m3y, .slice o3y n3y c3y, .slice p3y k3y d3y] rfl
    have pa_3 := pa_2.farAll (g' := w.heap.size + 1 + 1 + 1 + 1) (by omega) [.bool m3x, .slice o3x n3x c3x, .slice p3x k3x d3x, .bool m3y, .slice o3y n3y c3y, .slice p3y k3y d3y]
    have pb_3 := pb_2.farAll (g' := w.heap.size + 1 + 1 + 1 + 1) (by omega) [.bool m3x, .slice o3x n3x c3x, .slice p3x k3x d3x, .bool m3y, .slice o3y n3y c3y, .slice p3y k3y d3y]
    have f1_3 := f1_2.setAll pr_2 (noWord6 _ _ _ _ _ _ _ _ _ _ _ _ _ _) [.bool m3x, .slice o3x n3x c3x, .slice p3x k3x d3x, .bool m3y, .slice o3y n3y c3y, .slice p3y k3y d3y] rfl
    have f2_3 := f2_2.setAll pr_2 (noWord6 _ _ _ _ _ _ _ _ _ _ _ _ _ _) [.bool m3x, .slice o3x n3x c3x, .slice p3x k3x d3x, .bool m3y, .slice o3y n3y c3y, .slice p3y k3y d3y] rfl
    have lp_3 := lp_2.farAll (g' := w.heap.size + 1 + 1 + 1 + 1) (by omega) [.bool m3x, .slice o3x n3x c3x, .slice p3x k3x d3x, .bool m3y, .slice o3y n3y c3y, .slice p3y k3y d3y]
    have f3x_1 := f3x_0.setAll pr_2 (noWord6 _ _ _ _ _ _ _ _ _ _ _ _ _ _) [.bool m3x, .slice o3x n3x c3x, .slice p3x k3x d3x, .bool m3y, .slice o3y n3y c3y, .slice p3y k3y d3y] rfl
    have f3y_1 := f3y_0.setAll pr_2 (noWord6 _ _ _ _ _ _ _ _ _ _ _ _ _ _) [.bool m3x, .slice o3x n3x c3x, .slice p3x k3x d3x, .bool m3y, .slice o3y n3y c3y, .slice p3y k3y d3y] rfl
    have pr_3 := pr_2.setAll [.bool m3x, .slice o3x n3x c3x, .slice p3x k3x d3x, .bool m3y, .slice o3y n3y c3y, .slice p3y k3y d3y] rfl
    simp only [setAll, Nat.zero_add, Nat.reduceAdd] at hB_3 fax_3 fay_3 fbx_3 fby_3 pa_3 pb_3 pr_3 f1_3 f2_3 lp_3 f3x_1 f3y_1
    clear hB_2 fax_2 fay_2 fbx_2 fby_2 pa_2 pb_2 f1_2 f2_2 lp_2 f3x_0 f3y_0 pr_2
    generalize (World.setCell (World.setCell (World.setCell (World.setCell (World.setCell (World.setCell w8 ⟨w.heap.size + 1 + 1 + 1 + 1, 0, none⟩ (.bool m3x)) ⟨w.heap.size + 1 + 1 + 1 + 1, 1, none⟩ (.slice o3x n3x c3x)) ⟨w.heap.size + 1 + 1 + 1 + 1, 2, none⟩ (.slice p3x k3x d3x)) ⟨w.heap.size + 1 + 1 + 1 + 1, 3, none⟩ (.bool m3y)) ⟨w.heap.size + 1 + 1 + 1 + 1, 4, none⟩ (.slice o3y n3y c3y)) ⟨w.heap.size + 1 + 1 + 1 + 1, 5, none⟩ (.slice p3y k3y d3y)) = w9 at *
    go_wp2
    obtain ⟨pre0, pre1, pre2, pre3, pre4, pre5, pre6, pre7, pre8, pre9, pre10, pre11⟩ := pr_3.open6
    exact bodyPost_ret (v := .agg #[.bool m3x, .slice o3x n3x c3x, .slice p3x k3x d3x, .bool m3y, .slice o3y n3y c3y, .slice p3y k3y d3y]) (by simp [results, Try.results32, go_sem, pre0, pre1, pre2, pre3, pre4, pre5]) rfl ⟨_, _, _, _, _, _, _, _, _, _, _, _, _, _, rfl, f3x_1, f3y_1, hB_3⟩
  simp only [HAi.out, Act.put, List.setIfInBounds_toArray, List.set_cons_zero, List.set_cons_succ] at sti_2t
  have sti_2f : ∀ (w' : World) (m1 : Bool) (o1 : Option Addr) (n1 : Nat) (c1 : Nat) (p1 : Option Addr) (k1 : Nat) (d1 : Nat) (m2 : Bool) (o2 : Option Addr) (n2 : Nat) (c2 : Nat) (p2 : Option Addr) (k2 : Nat) (d2 : Nat), Below w.heap.size w w' → FQ w' (.agg #[.bool axm, .slice axo axn axc, .slice axp axk axd]) La axq → FQ w' (.agg #[.bool aym, .slice ayo ayn ayc, .slice ayp ayk ayd]) La ayq → FQ w' (.agg #[.bool bxm, .slice bxo bxn bxc, .slice bxp bxk bxd]) Lb bxq → FQ w' (.agg #[.bool bym, .slice byo byn byc, .slice byp byk byd]) Lb byq → FQ w' (.agg #[.bool um, .slice uo un uc, .slice up uk ud]) Lu uq → FQ w' (.agg #[.bool vm, .slice vo vn vc, .slice vp vk vd]) Lv vq → Box w' (w.heap.size) [.bool axm, .slice axo axn axc, .slice axp axk axd, .bool aym, .slice ayo ayn ayc, .slice ayp ayk ayd] → Box w' (w.heap.size + 1) [.bool bxm, .slice bxo bxn bxc, .slice bxp bxk bxd, .bool bym, .slice byo byn byc, .slice byp byk byd] → Box w' (w.heap.size + 1 + 1) [.bool um, .slice uo un uc, .slice up uk ud] → Box w' (w.heap.size + 1 + 1 + 1) [.bool vm, .slice vo vn vc, .slice vp vk vd] → Box w' (w.heap.size + 1 + 1 + 1 + 1) [.bool false, .slice none 0 0, .slice none 0 0, .bool false, .slice none 0 0, .slice none 0 0] → Below w5.heap.size w5 w' → RF w' (.agg #[.bool m1, .slice o1 n1 c1, .slice p1 k1 d1]) (Lu + Lv + 2) (uq - vq) → RF w' (.agg #[.bool m2, .slice o2 n2 c2, .slice p2 k2 d2]) (Lu + (Lu + Lv + 2) + 3) (uq / (uq - vq)) → WWi 3 #[true, true, true, true, true, true, true, true, false, false, false] (((((ai.put (some 15) (.agg #[.bool m1, .slice o1 n1 c1, .slice p1 k1 d1])).put (some 16) (.tuple #[.agg #[.bool m2, .slice o2 n2 c2, .slice p2 k2 d2], .bool true])).put (some 11) (.tuple #[.agg #[.bool m2, .slice o2 n2 c2, .slice p2 k2 d2], .bool true])).put (some 17) (.agg #[.bool m2, .slice o2 n2 c2, .slice p2 k2 d2])).put (some 18) (.bool true)) w' := by
    intro w10 m1 o1 n1 c1 p1 k1 d1 m2 o2 n2 c2 p2 k2 d2 hB_0 fax_0 fay_0 fbx_0 fby_0 fu_0 fv_0 pa_0 pb_0 pu_0 pv_0 pr_0 hWi_0 f1_0 f2_0
    rw [HWi.out, HAi.out]
    try simp only [Act.put]
    try simp only [List.setIfInBounds_toArray, List.set_cons_zero, List.set_cons_succ]
    refine reg_all1 8 ?_ (by kernel_rfl) ?_ (fun K hK => ?_)
    rotate_left 1
    · simp only [List.getElem?_toArray, List.getElem?_cons_succ, List.getElem?_cons_zero]; exact rfl
    · go_simp
      have hgn : w5.heap.size ≤ w10.heap.size := hWi_0.size
      obtain ⟨w11, hww11, lp_0, hb11, -⟩ := new_box w10 _ rfl [.bool false, .slice none 0 0, .slice none 0 0] 28
      rw [hww11]
      have hB_1 := hB_0.trans (hb11.mono hB_0.size)
      have fax_1 := fax_0.below hb11
      have fay_1 := fay_0.below hb11
      have fbx_1 := fbx_0.below hb11
      have fby_1 := fby_0.below hb11
      have fu_1 := fu_0.below hb11
      have fv_1 := fv_0.below hb11
      have pa_1 := pa_0.below hb11
      have pb_1 := pb_0.below hb11
      have pu_1 := pu_0.below hb11
      have pv_1 := pv_0.below hb11
      have pr_1 := pr_0.below hb11
      have hWi_1 := hWi_0.trans (hb11.mono hWi_0.size)
      have f1_1 := f1_0.below hb11
      have f2_1 := f2_0.below hb11
      clear hb11 hB_0 fax_0 fay_0 fbx_0 fby_0 fu_0 fv_0 pa_0 pb_0 pu_0 pv_0 pr_0 hWi_0 f1_0 f2_0
      refine hK.out _ _ ⟨pu_1.c0, pu_1.c1, pu_1.c2, pv_1.c0, pv_1.c1, pv_1.c2⟩ (fun hHeld => ?_)
      clear hK K
      try simp only [Act.put]
      try simp only [List.setIfInBounds_toArray, List.set_cons_zero, List.set_cons_succ]
      rw [← HWi.out]
      exact sti_2t _ m1 o1 n1 c1 p1 k1 d1 m2 o2 n2 c2 p2 k2 d2 w10.heap.size hB_1 fax_1 fay_1 fbx_1 fby_1 fu_1 fv_1 pa_1 pb_1 pu_1 pv_1 pr_1 hWi_1 f1_1 f2_1 lp_0 (by omega)
  try simp only [HAi.out, Act.put, List.setIfInBounds_toArray, List.set_cons_zero, List.set_cons_succ] at sti_2f
  have sti_1t : ∀ (w' : World) (m1 : Bool) (o1 : Option Addr) (n1 : Nat) (c1 : Nat) (p1 : Option Addr) (k1 : Nat) (d1 : Nat) (glp : Nat), Below w.heap.size w w' → FQ w' (.agg #[.bool axm, .slice axo axn axc, .slice axp axk axd]) La axq → FQ w' (.agg #[.bool aym, .slice ayo ayn ayc, .slice ayp ayk ayd]) La ayq → FQ w' (.agg #[.bool bxm, .slice bxo bxn bxc, .slice bxp bxk bxd]) Lb bxq → FQ w' (.agg #[.bool bym, .slice byo byn byc, .slice byp byk byd]) Lb byq → FQ w' (.agg #[.bool um, .slice uo un uc, .slice up uk ud]) Lu uq → FQ w' (.agg #[.bool vm, .slice vo vn vc, .slice vp vk vd]) Lv vq → Box w' (w.heap.size) [.bool axm, .slice axo axn axc, .slice axp axk axd, .bool aym, .slice ayo ayn ayc, .slice ayp ayk ayd] → Box w' (w.heap.size + 1) [.bool bxm, .slice bxo bxn bxc, .slice bxp bxk bxd, .bool bym, .slice byo byn byc, .slice byp byk byd] → Box w' (w.heap.size + 1 + 1) [.bool um, .slice uo un uc, .slice up uk ud] → Box w' (w.heap.size + 1 + 1 + 1) [.bool vm, .slice vo vn vc, .slice vp vk vd] → Box w' (w.heap.size + 1 + 1 + 1 + 1) [.bool false, .slice none 0 0, .slice none 0 0, .bool false, .slice none 0 0, .slice none 0 0] → Below w5.heap.size w5 w' → RF w' (.agg #[.bool m1, .slice o1 n1 c1, .slice p1 k1 d1]) (Lu + Lv + 2) (uq - vq) → Box w' glp [.bool false, .slice none 0 0, .slice none 0 0] → w5.heap.size ≤ glp → WWi 6 #[true, true, true, true, false, false, false, false, true, false, false] ((ai.put (some 15) (.agg #[.bool m1, .slice o1 n1 c1, .slice p1 k1 d1])).put (some 9) (.pointer (some ⟨glp, 0, none⟩))) w' := by
    intro w12 m1 o1 n1 c1 p1 k1 d1 glp hB_0 fax_0 fay_0 fbx_0 fby_0 fu_0 fv_0 pa_0 pb_0 pu_0 pv_0 pr_0 hWi_0 f1_0 lp_0 hglp
    rw [HWi.out, HAi.out]
    try simp only [Act.put]
    try simp only [List.setIfInBounds_toArray, List.set_cons_zero, List.set_cons_succ]
    refine reg_all1 4 ?_ (by kernel_rfl) ?_ (fun K hK => ?_)
    rotate_left 1
    · simp only [List.getElem?_toArray, List.getElem?_cons_succ, List.getElem?_cons_zero]; exact rfl
    · go_simp
      refine (qDiv _ _ Lu (Lu + Lv + 2) uq _ _ (by have := HLa.out; have := HLb.out; have := HLu.out; have := HLv.out; omega) (by have := HLa.out; have := HLb.out; have := HLu.out; have := HLv.out; omega) fu_0 f1_0.q HN.out).mono ?_
      rintro e w13 ⟨m2, o2, n2, c2, p2, k2, d2, rfl, f2_0, hb13⟩
      have hB_1 := hB_0.trans (hb13.mono hB_0.size)
      have fax_1 := fax_0.below hb13
      have fay_1 := fay_0.below hb13
      have fbx_1 := fbx_0.below hb13
      have fby_1 := fby_0.below hb13
      have fu_1 := fu_0.below hb13
      have fv_1 := fv_0.below hb13
      have pa_1 := pa_0.below hb13
      have pb_1 := pb_0.below hb13
      have pu_1 := pu_0.below hb13
      have pv_1 := pv_0.below hb13
      have pr_1 := pr_0.below hb13
      have hWi_1 := hWi_0.trans (hb13.mono hWi_0.size)
      have f1_1 := f1_0.below hb13
      have lp_1 := lp_0.below hb13
      clear hb13 hB_0 fax_0 fay_0 fbx_0 fby_0 fu_0 fv_0 pa_0 pb_0 pu_0 pv_0 pr_0 hWi_0 f1_0 lp_0
      go_wp2_with fail
      refine hK.out _ _ ⟨pu_1.c0, pu_1.c1, pu_1.c2, pv_1.c0, pv_1.c1, pv_1.c2⟩ (fun hHeld => ?_)
      clear hK K
      try simp only [Act.put]
      try simp only [List.setIfInBounds_toArray, List.set_cons_zero, List.set_cons_succ]
      refine reg_take 5 ?_ ?_ ?_ (by kernel_rfl) (by kernel_rfl) (by kernel_rfl) (fun _ _ _ h => h) ?_ ?_ (by assumption) ?_
      rotate_left 2
      · simp only [List.getElem?_toArray, List.getElem?_cons_succ, List.getElem?_cons_zero]; exact rfl
      · rfl
      · intro w hSw; (try dsimp only at hSw); go_simp; try with_reducible rfl
      try simp only [Act.put]
      try simp only [List.setIfInBounds_toArray, List.set_cons_zero, List.set_cons_succ]
      refine reg_take 6 ?_ ?_ ?_ (by kernel_rfl) (by kernel_rfl) (by kernel_rfl) (fun _ _ _ h => h) ?_ ?_ (by assumption) ?_
      rotate_left 2
      · simp only [List.getElem?_toArray, List.getElem?_cons_succ, List.getElem?_cons_zero]; exact rfl
      · rfl
      · intro w hSw; (try dsimp only at hSw); go_simp; try with_reducible rfl
      try simp only [Act.put]
      try simp only [List.setIfInBounds_toArray, List.set_cons_zero, List.set_cons_succ]
      refine reg_take 7 ?_ ?_ ?_ (by kernel_rfl) (by kernel_rfl) (by kernel_rfl) (fun _ _ _ h => h) ?_ ?_ (by assumption) ?_
      rotate_left 2
      · simp only [List.getElem?_toArray, List.getElem?_cons_succ, List.getElem?_cons_zero]; exact rfl
      · rfl
      · intro w hSw; (try dsimp only at hSw); go_simp; try with_reducible rfl
      try simp only [Act.put]
      try simp only [List.setIfInBounds_toArray, List.set_cons_zero, List.set_cons_succ]
      rw [← HWi.out]
      exact sti_2t _ m1 o1 n1 c1 p1 k1 d1 m2 o2 n2 c2 p2 k2 d2 glp hB_1 fax_1 fay_1 fbx_1 fby_1 fu_1 fv_1 pa_1 pb_1 pu_1 pv_1 pr_1 hWi_1 f1_1 f2_0 lp_1 (by omega)
  try simp only [HAi.out, Act.put, List.setIfInBounds_toArray, List.set_cons_zero, List.set_cons_succ] at sti_1t
  have sti_1f : ∀ (w' : World) (m1 : Bool) (o1 : Option Addr) (n1 : Nat) (c1 : Nat) (p1 : Option Addr) (k1 : Nat) (d1 : Nat), Below w.heap.size w w' → FQ w' (.agg #[.bool axm, .slice axo axn axc, .slice axp axk axd]) La axq → FQ w' (.agg #[.bool aym, .slice ayo ayn ayc, .slice ayp ayk ayd]) La ayq → FQ w' (.agg #[.bool bxm, .slice bxo bxn bxc, .slice bxp bxk bxd]) Lb bxq → FQ w' (.agg #[.bool bym, .slice byo byn byc, .slice byp byk byd]) Lb byq → FQ w' (.agg #[.bool um, .slice uo un uc, .slice up uk ud]) Lu uq → FQ w' (.agg #[.bool vm, .slice vo vn vc, .slice vp vk vd]) Lv vq → Box w' (w.heap.size) [.bool axm, .slice axo axn axc, .slice axp axk axd, .bool aym, .slice ayo ayn ayc, .slice ayp ayk ayd] → Box w' (w.heap.size + 1) [.bool bxm, .slice bxo bxn bxc, .slice bxp bxk bxd, .bool bym, .slice byo byn byc, .slice byp byk byd] → Box w' (w.heap.size + 1 + 1) [.bool um, .slice uo un uc, .slice up uk ud] → Box w' (w.heap.size + 1 + 1 + 1) [.bool vm, .slice vo vn vc, .slice vp vk vd] → Box w' (w.heap.size + 1 + 1 + 1 + 1) [.bool false, .slice none 0 0, .slice none 0 0, .bool false, .slice none 0 0, .slice none 0 0] → Below w5.heap.size w5 w' → RF w' (.agg #[.bool m1, .slice o1 n1 c1, .slice p1 k1 d1]) (Lu + Lv + 2) (uq - vq) → WWi 7 #[true, true, true, true, false, false, false, false, false, false, false] (ai.put (some 15) (.agg #[.bool m1, .slice o1 n1 c1, .slice p1 k1 d1])) w' := by
    intro w14 m1 o1 n1 c1 p1 k1 d1 hB_0 fax_0 fay_0 fbx_0 fby_0 fu_0 fv_0 pa_0 pb_0 pu_0 pv_0 pr_0 hWi_0 f1_0
    rw [HWi.out, HAi.out]
    try simp only [Act.put]
    try simp only [List.setIfInBounds_toArray, List.set_cons_zero, List.set_cons_succ]
    refine reg_all2 4 8 ?_ ?_ (by kernel_rfl) ?_ ?_ (fun K hK => ?_) (fun K hK => ?_)
    rotate_left 2
    · simp only [List.getElem?_toArray, List.getElem?_cons_succ, List.getElem?_cons_zero]; exact rfl
    · simp only [List.getElem?_toArray, List.getElem?_cons_succ, List.getElem?_cons_zero]; exact rfl
    · go_simp
      refine (qDiv _ _ Lu (Lu + Lv + 2) uq _ _ (by have := HLa.out; have := HLb.out; have := HLu.out; have := HLv.out; omega) (by have := HLa.out; have := HLb.out; have := HLu.out; have := HLv.out; omega) fu_0 f1_0.q HN.out).mono ?_
      rintro e w15 ⟨m2, o2, n2, c2, p2, k2, d2, rfl, f2_0, hb15⟩
      have hB_1 := hB_0.trans (hb15.mono hB_0.size)
      have fax_1 := fax_0.below hb15
      have fay_1 := fay_0.below hb15
      have fbx_1 := fbx_0.below hb15
      have fby_1 := fby_0.below hb15
      have fu_1 := fu_0.below hb15
      have fv_1 := fv_0.below hb15
      have pa_1 := pa_0.below hb15
      have pb_1 := pb_0.below hb15
      have pu_1 := pu_0.below hb15
      have pv_1 := pv_0.below hb15
      have pr_1 := pr_0.below hb15
      have hWi_1 := hWi_0.trans (hb15.mono hWi_0.size)
      have f1_1 := f1_0.below hb15
      clear hb15 hB_0 fax_0 fay_0 fbx_0 fby_0 fu_0 fv_0 pa_0 pb_0 pu_0 pv_0 pr_0 hWi_0 f1_0
      go_wp2_with fail
      refine hK.out _ _ ⟨pu_1.c0, pu_1.c1, pu_1.c2, pv_1.c0, pv_1.c1, pv_1.c2⟩ (fun hHeld => ?_)
      clear hK K
      try simp only [Act.put]
      try simp only [List.setIfInBounds_toArray, List.set_cons_zero, List.set_cons_succ]
      refine reg_take 5 ?_ ?_ ?_ (by kernel_rfl) (by kernel_rfl) (by kernel_rfl) (fun _ _ _ h => h) ?_ ?_ (by assumption) ?_
      rotate_left 2
      · simp only [List.getElem?_toArray, List.getElem?_cons_succ, List.getElem?_cons_zero]; exact rfl
      · rfl
      · intro w hSw; (try dsimp only at hSw); go_simp; try with_reducible rfl
      try simp only [Act.put]
      try simp only [List.setIfInBounds_toArray, List.set_cons_zero, List.set_cons_succ]
      refine reg_take 6 ?_ ?_ ?_ (by kernel_rfl) (by kernel_rfl) (by kernel_rfl) (fun _ _ _ h => h) ?_ ?_ (by assumption) ?_
      rotate_left 2
      · simp only [List.getElem?_toArray, List.getElem?_cons_succ, List.getElem?_cons_zero]; exact rfl
      · rfl
      · intro w hSw; (try dsimp only at hSw); go_simp; try with_reducible rfl
      try simp only [Act.put]
      try simp only [List.setIfInBounds_toArray, List.set_cons_zero, List.set_cons_succ]
      refine reg_take 7 ?_ ?_ ?_ (by kernel_rfl) (by kernel_rfl) (by kernel_rfl) (fun _ _ _ h => h) ?_ ?_ (by assumption) ?_
      rotate_left 2
      · simp only [List.getElem?_toArray, List.getElem?_cons_succ, List.getElem?_cons_zero]; exact rfl
      · rfl
      · intro w hSw; (try dsimp only at hSw); go_simp; try with_reducible rfl
      try simp only [Act.put]
      try simp only [List.setIfInBounds_toArray, List.set_cons_zero, List.set_cons_succ]
      rw [← HWi.out]
      exact sti_2f _ m1 o1 n1 c1 p1 k1 d1 m2 o2 n2 c2 p2 k2 d2 hB_1 fax_1 fay_1 fbx_1 fby_1 fu_1 fv_1 pa_1 pb_1 pu_1 pv_1 pr_1 hWi_1 f1_1 f2_0
    · go_simp
      have hgn : w5.heap.size ≤ w14.heap.size := hWi_0.size
      obtain ⟨w16, hww16, lp_0, hb16, -⟩ := new_box w14 _ rfl [.bool false, .slice none 0 0, .slice none 0 0] 28
      rw [hww16]
      have hB_1 := hB_0.trans (hb16.mono hB_0.size)
      have fax_1 := fax_0.below hb16
      have fay_1 := fay_0.below hb16
      have fbx_1 := fbx_0.below hb16
      have fby_1 := fby_0.below hb16
      have fu_1 := fu_0.below hb16
      have fv_1 := fv_0.below hb16
      have pa_1 := pa_0.below hb16
      have pb_1 := pb_0.below hb16
      have pu_1 := pu_0.below hb16
      have pv_1 := pv_0.below hb16
      have pr_1 := pr_0.below hb16
      have hWi_1 := hWi_0.trans (hb16.mono hWi_0.size)
      have f1_1 := f1_0.below hb16
      clear hb16 hB_0 fax_0 fay_0 fbx_0 fby_0 fu_0 fv_0 pa_0 pb_0 pu_0 pv_0 pr_0 hWi_0 f1_0
      refine hK.out _ _ ⟨pu_1.c0, pu_1.c1, pu_1.c2, pv_1.c0, pv_1.c1, pv_1.c2⟩ (fun hHeld => ?_)
      clear hK K
      try simp only [Act.put]
      try simp only [List.setIfInBounds_toArray, List.set_cons_zero, List.set_cons_succ]
      rw [← HWi.out]
      exact sti_1t _ m1 o1 n1 c1 p1 k1 d1 w14.heap.size hB_1 fax_1 fay_1 fbx_1 fby_1 fu_1 fv_1 pa_1 pb_1 pu_1 pv_1 pr_1 hWi_1 f1_1 lp_0 (by omega)
  try simp only [HAi.out, Act.put, List.setIfInBounds_toArray, List.set_cons_zero, List.set_cons_succ] at sti_1f
  have sti_0t : ∀ (w' : World) (glp : Nat), Below w.heap.size w w' → FQ w' (.agg #[.bool axm, .slice axo axn axc, .slice axp axk axd]) La axq → FQ w' (.agg #[.bool aym, .slice ayo ayn ayc, .slice ayp ayk ayd]) La ayq → FQ w' (.agg #[.bool bxm, .slice bxo bxn bxc, .slice bxp bxk bxd]) Lb bxq → FQ w' (.agg #[.bool bym, .slice byo byn byc, .slice byp byk byd]) Lb byq → FQ w' (.agg #[.bool um, .slice uo un uc, .slice up uk ud]) Lu uq → FQ w' (.agg #[.bool vm, .slice vo vn vc, .slice vp vk vd]) Lv vq → Box w' (w.heap.size) [.bool axm, .slice axo axn axc, .slice axp axk axd, .bool aym, .slice ayo ayn ayc, .slice ayp ayk ayd] → Box w' (w.heap.size + 1) [.bool bxm, .slice bxo bxn bxc, .slice bxp bxk bxd, .bool bym, .slice byo byn byc, .slice byp byk byd] → Box w' (w.heap.size + 1 + 1) [.bool um, .slice uo un uc, .slice up uk ud] → Box w' (w.heap.size + 1 + 1 + 1) [.bool vm, .slice vo vn vc, .slice vp vk vd] → Box w' (w.heap.size + 1 + 1 + 1 + 1) [.bool false, .slice none 0 0, .slice none 0 0, .bool false, .slice none 0 0, .slice none 0 0] → Below w5.heap.size w5 w' → Box w' glp [.bool false, .slice none 0 0, .slice none 0 0] → w5.heap.size ≤ glp → WWi 7 #[true, true, true, false, false, false, false, false, true, false, false] (ai.put (some 9) (.pointer (some ⟨glp, 0, none⟩))) w' := by
    intro w17 glp hB_0 fax_0 fay_0 fbx_0 fby_0 fu_0 fv_0 pa_0 pb_0 pu_0 pv_0 pr_0 hWi_0 lp_0 hglp
    rw [HWi.out, HAi.out]
    try simp only [Act.put]
    try simp only [List.setIfInBounds_toArray, List.set_cons_zero, List.set_cons_succ]
    refine reg_all1 3 ?_ (by kernel_rfl) ?_ (fun K hK => ?_)
    rotate_left 1
    · simp only [List.getElem?_toArray, List.getElem?_cons_succ, List.getElem?_cons_zero]; exact rfl
    · go_simp
      refine (qSub _ _ Lu Lv uq vq _ (by have := HLa.out; have := HLb.out; have := HLu.out; have := HLv.out; omega) (by have := HLa.out; have := HLb.out; have := HLu.out; have := HLv.out; omega) fu_0 fv_0).mono ?_
      rintro e w18 ⟨m1, o1, n1, c1, p1, k1, d1, rfl, f1_0, hb18⟩
      have hB_1 := hB_0.trans (hb18.mono hB_0.size)
      have fax_1 := fax_0.below hb18
      have fay_1 := fay_0.below hb18
      have fbx_1 := fbx_0.below hb18
      have fby_1 := fby_0.below hb18
      have fu_1 := fu_0.below hb18
      have fv_1 := fv_0.below hb18
      have pa_1 := pa_0.below hb18
      have pb_1 := pb_0.below hb18
      have pu_1 := pu_0.below hb18
      have pv_1 := pv_0.below hb18
      have pr_1 := pr_0.below hb18
      have hWi_1 := hWi_0.trans (hb18.mono hWi_0.size)
      have lp_1 := lp_0.below hb18
      clear hb18 hB_0 fax_0 fay_0 fbx_0 fby_0 fu_0 fv_0 pa_0 pb_0 pu_0 pv_0 pr_0 hWi_0 lp_0
      go_wp2_with fail
      refine hK.out _ _ ⟨pu_1.c0, pu_1.c1, pu_1.c2, pv_1.c0, pv_1.c1, pv_1.c2⟩ (fun hHeld => ?_)
      clear hK K
      try simp only [Act.put]
      try simp only [List.setIfInBounds_toArray, List.set_cons_zero, List.set_cons_succ]
      rw [← HWi.out]
      exact sti_1t _ m1 o1 n1 c1 p1 k1 d1 glp hB_1 fax_1 fay_1 fbx_1 fby_1 fu_1 fv_1 pa_1 pb_1 pu_1 pv_1 pr_1 hWi_1 f1_0 lp_1 (by omega)
  try simp only [HAi.out, Act.put, List.setIfInBounds_toArray, List.set_cons_zero, List.set_cons_succ] at sti_0t
  have sti_0f : ∀ (w' : World), Below w.heap.size w w' → FQ w' (.agg #[.bool axm, .slice axo axn axc, .slice axp axk axd]) La axq → FQ w' (.agg #[.bool aym, .slice ayo ayn ayc, .slice ayp ayk ayd]) La ayq → FQ w' (.agg #[.bool bxm, .slice bxo bxn bxc, .slice bxp bxk bxd]) Lb bxq → FQ w' (.agg #[.bool bym, .slice byo byn byc, .slice byp byk byd]) Lb byq → FQ w' (.agg #[.bool um, .slice uo un uc, .slice up uk ud]) Lu uq → FQ w' (.agg #[.bool vm, .slice vo vn vc, .slice vp vk vd]) Lv vq → Box w' (w.heap.size) [.bool axm, .slice axo axn axc, .slice axp axk axd, .bool aym, .slice ayo ayn ayc, .slice ayp ayk ayd] → Box w' (w.heap.size + 1) [.bool bxm, .slice bxo bxn bxc, .slice bxp bxk bxd, .bool bym, .slice byo byn byc, .slice byp byk byd] → Box w' (w.heap.size + 1 + 1) [.bool um, .slice uo un uc, .slice up uk ud] → Box w' (w.heap.size + 1 + 1 + 1) [.bool vm, .slice vo vn vc, .slice vp vk vd] → Box w' (w.heap.size + 1 + 1 + 1 + 1) [.bool false, .slice none 0 0, .slice none 0 0, .bool false, .slice none 0 0, .slice none 0 0] → Below w5.heap.size w5 w' → WWi 8 #[true, true, true, false, false, false, false, false, false, false, false] ai w' := by
    intro w19 hB_0 fax_0 fay_0 fbx_0 fby_0 fu_0 fv_0 pa_0 pb_0 pu_0 pv_0 pr_0 hWi_0
    rw [HWi.out, HAi.out]
    try simp only [Act.put]
    try simp only [List.setIfInBounds_toArray, List.set_cons_zero, List.set_cons_succ]
    refine reg_all2 3 8 ?_ ?_ (by kernel_rfl) ?_ ?_ (fun K hK => ?_) (fun K hK => ?_)
    rotate_left 2
    · simp only [List.getElem?_toArray, List.getElem?_cons_succ, List.getElem?_cons_zero]; exact rfl
    · simp only [List.getElem?_toArray, List.getElem?_cons_succ, List.getElem?_cons_zero]; exact rfl
    · go_simp
      refine (qSub _ _ Lu Lv uq vq _ (by have := HLa.out; have := HLb.out; have := HLu.out; have := HLv.out; omega) (by have := HLa.out; have := HLb.out; have := HLu.out; have := HLv.out; omega) fu_0 fv_0).mono ?_
      rintro e w20 ⟨m1, o1, n1, c1, p1, k1, d1, rfl, f1_0, hb20⟩
      have hB_1 := hB_0.trans (hb20.mono hB_0.size)
      have fax_1 := fax_0.below hb20
      have fay_1 := fay_0.below hb20
      have fbx_1 := fbx_0.below hb20
      have fby_1 := fby_0.below hb20
      have fu_1 := fu_0.below hb20
      have fv_1 := fv_0.below hb20
      have pa_1 := pa_0.below hb20
      have pb_1 := pb_0.below hb20
      have pu_1 := pu_0.below hb20
      have pv_1 := pv_0.below hb20
      have pr_1 := pr_0.below hb20
      have hWi_1 := hWi_0.trans (hb20.mono hWi_0.size)
      clear hb20 hB_0 fax_0 fay_0 fbx_0 fby_0 fu_0 fv_0 pa_0 pb_0 pu_0 pv_0 pr_0 hWi_0
      go_wp2_with fail
      refine hK.out _ _ ⟨pu_1.c0, pu_1.c1, pu_1.c2, pv_1.c0, pv_1.c1, pv_1.c2⟩ (fun hHeld => ?_)
      clear hK K
      try simp only [Act.put]
      try simp only [List.setIfInBounds_toArray, List.set_cons_zero, List.set_cons_succ]
      rw [← HWi.out]
      exact sti_1f _ m1 o1 n1 c1 p1 k1 d1 hB_1 fax_1 fay_1 fbx_1 fby_1 fu_1 fv_1 pa_1 pb_1 pu_1 pv_1 pr_1 hWi_1 f1_0
    · go_simp
      have hgn : w5.heap.size ≤ w19.heap.size := hWi_0.size
      obtain ⟨w21, hww21, lp_0, hb21, -⟩ := new_box w19 _ rfl [.bool false, .slice none 0 0, .slice none 0 0] 28
      rw [hww21]
      have hB_1 := hB_0.trans (hb21.mono hB_0.size)
      have fax_1 := fax_0.below hb21
      have fay_1 := fay_0.below hb21
      have fbx_1 := fbx_0.below hb21
      have fby_1 := fby_0.below hb21
      have fu_1 := fu_0.below hb21
      have fv_1 := fv_0.below hb21
      have pa_1 := pa_0.below hb21
      have pb_1 := pb_0.below hb21
      have pu_1 := pu_0.below hb21
      have pv_1 := pv_0.below hb21
      have pr_1 := pr_0.below hb21
      have hWi_1 := hWi_0.trans (hb21.mono hWi_0.size)
      clear hb21 hB_0 fax_0 fay_0 fbx_0 fby_0 fu_0 fv_0 pa_0 pb_0 pu_0 pv_0 pr_0 hWi_0
      refine hK.out _ _ ⟨pu_1.c0, pu_1.c1, pu_1.c2, pv_1.c0, pv_1.c1, pv_1.c2⟩ (fun hHeld => ?_)
      clear hK K
      try simp only [Act.put]
      try simp only [List.setIfInBounds_toArray, List.set_cons_zero, List.set_cons_succ]
      rw [← HWi.out]
      exact sti_0t _ w19.heap.size hB_1 fax_1 fay_1 fbx_1 fby_1 fu_1 fv_1 pa_1 pb_1 pu_1 pv_1 pr_1 hWi_1 lp_0 (by omega)
  exact sti_0f _ hB_6 fax_6 fay_6 fbx_6 fby_6 fu_6 fv_6 pa_5 pb_4 pu_3 pv_2 pr_1 hWi_1
end Go.Proofs.Ytdfabocecpcmcaa
/- The statements' own Tame. -/
namespace Go.Proofs.Ytdfabocecpcmcaa
open Go.RowKit Go.MagM
set_option maxHeartbeats 8000000 in
theorem tame1_s (am : Bool) (ao : Option Addr) (an ac : Nat) (ap : Option Addr) (ak ad : Nat) (uo up : Option Addr) (h j X D : Nat) (e1 : ∀ w : World, (Instr.slice 24 (Value.slice ao an ac) none (some (Value.int .i64 (((h) : Nat) : Int))) none).run Try.prog w = Result.ok (Value.slice uo h ac) w) (e2 : ∀ w : World, (Instr.slice 24 (Value.slice ap ak ad) none (some (Value.int .i64 (((j) : Nat) : Int))) none).run Try.prog w = Result.ok (Value.slice up j ad) w) (e3 : ∀ w : World, Sem.run Try.prog (Builtin.min_ #[3, 3] 3 #[.int .i64 ((an : Nat) : Int), .int .i64 1]) w = Result.ok (Value.int .i64 (((h) : Nat) : Int)) w) (e4 : ∀ w : World, Sem.run Try.prog (Builtin.min_ #[3, 3] 3 #[.int .i64 ((ak : Nat) : Int), .int .i64 1]) w = Result.ok (Value.int .i64 (((j) : Nat) : Int)) w) (w : World) (fn_0 : Mag w (.slice uo h ac) 1 X) (fd_0 : Mag w (.slice up j ad) 1 D) (h0 : sgn false D ≠ 0) :
    Calls Try.prog 42 #[.agg #[.bool am, .slice ao an ac, .slice ap ak ad]] w fun e w' => AnsF w w' e (1) (((sgn am X : Int) : Rat) / ((sgn false D : Int) : Rat)) := by
  have hB_0 := Below.refl w.heap.size w
  have H0 := Lib.hid h0; clear h0
  obtain ⟨w1, hw1, pa_0, hb1, hs1⟩ := new_box w (w.heap.size) rfl [.bool am, .slice ao an ac, .slice ap ak ad] 28
  have hb1' : Below w.heap.size w w1 := hb1.mono (by omega)
  clear hb1
  have hB_1 := hB_0.trans (hb1'.mono hB_0.size)
  have fn_1 := fn_0.below hb1'
  have fd_1 := fd_0.below hb1'
  clear hb1' hB_0 fn_0 fd_0
  obtain ⟨w2, hw2, pr_0, hb2, hs2⟩ := new_box w1 (w.heap.size + 1) hs1 [.bool false, .slice none 0 0, .slice none 0 0] 28
  have hb2' : Below w1.heap.size w1 w2 := hb2.mono (by omega)
  clear hb2
  have hB_2 := hB_1.trans (hb2'.mono hB_1.size)
  have fn_2 := fn_1.below hb2'
  have fd_2 := fd_1.below hb2'
  have pa_1 := pa_0.below hb2'
  clear hb2' hB_1 fn_1 fd_1 pa_0
  go_enter Try.func42, Try.ntmps42
  obtain ⟨pae0, pae1, pae2, pae3, pae4, pae5⟩ := pa_1.open3
  go_wp2
  clear pae0 pae1 pae2 pae3 pae4 pae5
  have hWq_0 := Below.refl w2.heap.size w2
  have hsq : w.heap.size ≤ w2.heap.size := hB_2.size
  have hlqpa := pa_1.lt
  have hlqpr := pr_0.lt
  have hB_3 := hB_2.drew'
  have fn_3 := fn_2.drew
  have fd_3 := fd_2.drew
  have pa_2 := pa_1.drew
  have pr_1 := pr_0.drew
  have hWq_1 := hWq_0.drew'
  clear hB_2 fn_2 fd_2 pa_1 pr_0 hWq_0
  refine wp_region_noPanic ?_
  refine wp_region_held_drew (S := fun w' => w'.cell? ⟨w.heap.size, 0, none⟩ = some (.bool am) ∧ w'.cell? ⟨w.heap.size, 1, none⟩ = some (.slice ao an ac) ∧ w'.cell? ⟨w.heap.size, 2, none⟩ = some (.slice ap ak ad)) (by kernel_rfl) (⟨pa_2.c0, pa_2.c1, pa_2.c2⟩) (fun hHeld => ?_)
  refine reg_take 0 ?_ ?_ ?_ (by kernel_rfl) (by kernel_rfl) (by kernel_rfl) (fun _ _ _ h => h) ?_ ?_ (by assumption) ?_
  rotate_left 2
  · simp only [List.getElem?_toArray, List.getElem?_cons_zero]; exact rfl
  · rfl
  · intro w hSw; (try dsimp only at hSw); go_simp; try with_reducible rfl
  try simp only [Act.put]
  try simp only [List.setIfInBounds_toArray, List.set_cons_zero, List.set_cons_succ]
  refine reg_take 1 ?_ ?_ ?_ (by kernel_rfl) (by kernel_rfl) (by kernel_rfl) (fun _ _ _ h => h) ?_ ?_ (by assumption) ?_
  rotate_left 2
  · simp only [List.getElem?_toArray, List.getElem?_cons_succ, List.getElem?_cons_zero]; exact rfl
  · rfl
  · intro w hSw; (try dsimp only at hSw); go_simp; try with_reducible rfl
  try simp only [Act.put]
  try simp only [List.setIfInBounds_toArray, List.set_cons_zero, List.set_cons_succ]
  refine reg_take 2 ?_ ?_ ?_ (by kernel_rfl) (by kernel_rfl) (by kernel_rfl) (fun _ _ _ h => h) ?_ ?_ (by assumption) ?_
  rotate_left 2
  · simp only [List.getElem?_toArray, List.getElem?_cons_succ, List.getElem?_cons_zero]; exact rfl
  · rfl
  · intro w hSw; (try dsimp only at hSw); go_simp; try with_reducible rfl
  try simp only [Act.put]
  try simp only [List.setIfInBounds_toArray, List.set_cons_zero, List.set_cons_succ]
  refine reg_take 3 ?_ ?_ ?_ (by kernel_rfl) (by kernel_rfl) (by kernel_rfl) (fun _ _ _ h => h) ?_ ?_ (by assumption) ?_
  rotate_left 2
  · simp only [List.getElem?_toArray, List.getElem?_cons_succ, List.getElem?_cons_zero]; exact rfl
  · rfl
  · intro w hSw; (try dsimp only at hSw); go_simp; try with_reducible rfl
  try simp only [Act.put]
  try simp only [List.setIfInBounds_toArray, List.set_cons_zero, List.set_cons_succ]
  refine reg_take 4 ?_ ?_ ?_ (by kernel_rfl) (by kernel_rfl) (by kernel_rfl) (fun _ _ _ h => h) ?_ ?_ (by assumption) ?_
  rotate_left 2
  · simp only [List.getElem?_toArray, List.getElem?_cons_succ, List.getElem?_cons_zero]; exact rfl
  · rfl
  · intro w hSw; (try dsimp only at hSw); go_simp; try with_reducible rfl
  try simp only [Act.put]
  try simp only [List.setIfInBounds_toArray, List.set_cons_zero, List.set_cons_succ]
  refine reg_take 5 ?_ ?_ ?_ (by kernel_rfl) (by kernel_rfl) (by kernel_rfl) (fun _ _ _ h => h) ?_ ?_ (by assumption) ?_
  rotate_left 2
  · simp only [List.getElem?_toArray, List.getElem?_cons_succ, List.getElem?_cons_zero]; exact rfl
  · rfl
  · intro w hSw; (try dsimp only at hSw); go_simp; try with_reducible rfl
  try simp only [Act.put]
  try simp only [List.setIfInBounds_toArray, List.set_cons_zero, List.set_cons_succ]
  refine reg_take 6 ?_ ?_ ?_ (by kernel_rfl) (by kernel_rfl) (by kernel_rfl) (fun _ _ _ h => h) ?_ ?_ (by assumption) ?_
  rotate_left 2
  · simp only [List.getElem?_toArray, List.getElem?_cons_succ, List.getElem?_cons_zero]; exact rfl
  · rfl
  · intro w hSw; (try dsimp only at hSw); go_simp; try with_reducible rfl
  try simp only [Act.put]
  try simp only [List.setIfInBounds_toArray, List.set_cons_zero, List.set_cons_succ]
  refine reg_take 7 ?_ ?_ ?_ (by kernel_rfl) (by kernel_rfl) (by kernel_rfl) (fun _ _ _ h => h) ?_ ?_ (by assumption) ?_
  rotate_left 2
  · simp only [List.getElem?_toArray, List.getElem?_cons_succ, List.getElem?_cons_zero]; exact rfl
  · rfl
  · intro w hSw; (try dsimp only at hSw); go_simp; try with_reducible rfl
  try simp only [Act.put]
  try simp only [List.setIfInBounds_toArray, List.set_cons_zero, List.set_cons_succ]
  refine reg_take 8 ?_ ?_ ?_ (by kernel_rfl) (by kernel_rfl) (by kernel_rfl) (fun _ _ _ h => h) ?_ ?_ (by assumption) ?_
  rotate_left 2
  · simp only [List.getElem?_toArray, List.getElem?_cons_succ, List.getElem?_cons_zero]; exact rfl
  · rfl
  · intro w hSw; (try dsimp only at hSw); go_simp; try with_reducible rfl
  try simp only [Act.put]
  try simp only [List.setIfInBounds_toArray, List.set_cons_zero, List.set_cons_succ]
  refine reg_take 9 ?_ ?_ ?_ (by kernel_rfl) (by kernel_rfl) (by kernel_rfl) (fun _ _ _ h => h) ?_ ?_ (by assumption) ?_
  rotate_left 2
  · simp only [List.getElem?_toArray, List.getElem?_cons_succ, List.getElem?_cons_zero]; exact rfl
  · rfl
  · intro w hSw; (try dsimp only at hSw); go_simp; try with_reducible rfl
  try simp only [Act.put]
  try simp only [List.setIfInBounds_toArray, List.set_cons_zero, List.set_cons_succ]
  refine reg_take 10 ?_ ?_ ?_ (by kernel_rfl) (by kernel_rfl) (by kernel_rfl) (fun _ _ _ h => h) ?_ ?_ (by assumption) ?_
  rotate_left 2
  · simp only [List.getElem?_toArray, List.getElem?_cons_succ, List.getElem?_cons_zero]; exact rfl
  · rfl
  · intro w hSw; (try dsimp only at hSw); go_simp; try with_reducible rfl
  try simp only [Act.put]
  try simp only [List.setIfInBounds_toArray, List.set_cons_zero, List.set_cons_succ]
  refine reg_take 11 ?_ ?_ ?_ (by kernel_rfl) (by kernel_rfl) (by kernel_rfl) (fun _ _ _ h => h) ?_ ?_ (by assumption) ?_
  rotate_left 2
  · simp only [List.getElem?_toArray, List.getElem?_cons_succ, List.getElem?_cons_zero]; exact rfl
  · rfl
  · intro w hSw; (try dsimp only at hSw); go_simp; try with_reducible rfl
  try simp only [Act.put]
  try simp only [List.setIfInBounds_toArray, List.set_cons_zero, List.set_cons_succ]
  refine reg_take 13 ?_ ?_ ?_ (by kernel_rfl) (by kernel_rfl) (by kernel_rfl) (fun _ _ _ h => h) ?_ ?_ (by assumption) ?_
  rotate_left 2
  · simp only [List.getElem?_toArray, List.getElem?_cons_succ, List.getElem?_cons_zero]; exact rfl
  · rfl
  · intro w hSw; (try dsimp only at hSw); go_simp; try with_reducible rfl
  try simp only [Act.put]
  try simp only [List.setIfInBounds_toArray, List.set_cons_zero, List.set_cons_succ]
  refine reg_take 14 ?_ ?_ ?_ (by kernel_rfl) (by kernel_rfl) (by kernel_rfl) (fun _ _ _ h => h) ?_ ?_ (by assumption) ?_
  rotate_left 2
  · simp only [List.getElem?_toArray, List.getElem?_cons_succ, List.getElem?_cons_zero]; exact rfl
  · rfl
  · intro w hSw; (try dsimp only at hSw); go_simp; try with_reducible rfl
  try simp only [Act.put]
  try simp only [List.setIfInBounds_toArray, List.set_cons_zero, List.set_cons_succ]
  refine reg_take 15 ?_ ?_ ?_ (by kernel_rfl) (by kernel_rfl) (by kernel_rfl) (fun _ _ _ h => h) ?_ ?_ (by assumption) ?_
  rotate_left 2
  · simp only [List.getElem?_toArray, List.getElem?_cons_succ, List.getElem?_cons_zero]; exact rfl
  · rfl
  · intro w hSw; (try dsimp only at hSw); go_simp; try with_reducible rfl
  try simp only [Act.put]
  try simp only [List.setIfInBounds_toArray, List.set_cons_zero, List.set_cons_succ]
  refine reg_take 16 ?_ ?_ ?_ (by kernel_rfl) (by kernel_rfl) (by kernel_rfl) (fun _ _ _ h => h) ?_ ?_ (by assumption) ?_
  rotate_left 2
  · simp only [List.getElem?_toArray, List.getElem?_cons_succ, List.getElem?_cons_zero]; exact rfl
  · rfl
  · intro w hSw; (try dsimp only at hSw); go_simp; try with_reducible rfl
  try simp only [Act.put]
  try simp only [List.setIfInBounds_toArray, List.set_cons_zero, List.set_cons_succ]
  refine reg_take 17 ?_ ?_ ?_ (by kernel_rfl) (by kernel_rfl) (by kernel_rfl) (fun _ _ _ h => h) ?_ ?_ (by assumption) ?_
  rotate_left 2
  · simp only [List.getElem?_toArray, List.getElem?_cons_succ, List.getElem?_cons_zero]; exact rfl
  · rfl
  · intro w hSw; (try dsimp only at hSw); go_simp; try with_reducible rfl
  try simp only [Act.put]
  try simp only [List.setIfInBounds_toArray, List.set_cons_zero, List.set_cons_succ]
  refine reg_take 18 ?_ ?_ ?_ (by kernel_rfl) (by kernel_rfl) (by kernel_rfl) (fun _ _ _ h => h) ?_ ?_ (by assumption) ?_
  rotate_left 2
  · simp only [List.getElem?_toArray, List.getElem?_cons_succ, List.getElem?_cons_zero]; exact rfl
  · rfl
  · intro w hSw; (try dsimp only at hSw); go_simp; try with_reducible rfl
  try simp only [Act.put]
  try simp only [List.setIfInBounds_toArray, List.set_cons_zero, List.set_cons_succ]
  refine reg_take 19 ?_ ?_ ?_ (by kernel_rfl) (by kernel_rfl) (by kernel_rfl) (fun _ _ _ h => h) ?_ ?_ (by assumption) ?_
  rotate_left 2
  · simp only [List.getElem?_toArray, List.getElem?_cons_succ, List.getElem?_cons_zero]; exact rfl
  · rfl
  · intro w hSw; (try dsimp only at hSw); go_simp; try with_reducible rfl
  try simp only [Act.put]
  try simp only [List.setIfInBounds_toArray, List.set_cons_zero, List.set_cons_succ]
  refine reg_grab (fun WWq aq hWW hAA => ?_)
  have HWq := Lib.hid hWW; have HAq := Lib.hid hAA; clear hWW hAA hHeld
  have stq_3t : ∀ (w' : World) (m1 : Bool) (o1 : Option Addr) (n1 : Nat) (c1 : Nat) (m2 : Bool) (o2 : Option Addr) (n2 : Nat) (c2 : Nat) (m3 : Bool) (o3 : Option Addr) (n3 : Nat) (c3 : Nat) (p3 : Option Addr) (k3 : Nat) (d3 : Nat) (gpb : Nat), Below w.heap.size w w' → Mag w' (.slice uo h ac) 1 X → Mag w' (.slice up j ad) 1 D → Box w' (w.heap.size) [.bool am, .slice ao an ac, .slice ap ak ad] → Box w' (w.heap.size + 1) [.bool false, .slice none 0 0, .slice none 0 0] → Below w2.heap.size w2 w' → RNum w' (.agg #[.bool m1, .slice o1 n1 c1]) (1) (sgn am X) → RNum w' (.agg #[.bool m2, .slice o2 n2 c2]) (1) (sgn false D) → RF w' (.agg #[.bool m3, .slice o3 n3 c3, .slice p3 k3 d3]) (max 1 1) (((sgn am X : Int) : Rat) / ((sgn false D : Int) : Rat)) → Box w' gpb [.bool false, .slice none 0 0, .slice none 0 0] → w2.heap.size ≤ gpb → WWq 2 #[true, true, true, true, true, true, true, true, true, true, true, true, true, true, true, true, true, true, true, true, true, true, true, true, true, true, false, false] (((((((aq.put (some 18) (.agg #[.bool m1, .slice o1 n1 c1])).put (some 26) (.agg #[.bool m2, .slice o2 n2 c2])).put (some 27) (.tuple #[.agg #[.bool m3, .slice o3 n3 c3, .slice p3 k3 d3], .bool true])).put (some 5) (.tuple #[.agg #[.bool m3, .slice o3 n3 c3, .slice p3 k3 d3], .bool true])).put (some 28) (.agg #[.bool m3, .slice o3 n3 c3, .slice p3 k3 d3])).put (some 29) (.bool true)).put (some 3) (.pointer (some ⟨gpb, 0, none⟩))) w' := by
    intro w3 m1 o1 n1 c1 m2 o2 n2 c2 m3 o3 n3 c3 p3 k3 d3 gpb hB_0 fn_0 fd_0 pa_0 pr_0 hWq_0 f1_0 f2_0 f3_0 pb_0 hgpb
    rw [HWq.out, HAq.out]
    try simp only [Act.put]
    try simp only [List.setIfInBounds_toArray, List.set_cons_zero, List.set_cons_succ]
    clear hWq_0
    obtain ⟨sf1a, sf1b, sf1c, sf1d, sf1e, sf1f⟩ := pb_0.open3
    obtain ⟨sg1a, sg1b, sg1c, sg1d⟩ := Box.put3 pb_0 (.bool m3) (.slice o3 n3 c3)
    refine reg_call 26 ?_ (by kernel_rfl) ?_ (fun K hK => ?_)
    rotate_left 1
    · simp only [List.getElem?_toArray, List.getElem?_cons_succ, List.getElem?_cons_zero]; exact rfl
    go_simp
    have hB_1 := below_setAll hB_0 (g := gpb) (by omega) [.bool m3, .slice o3 n3 c3, .slice p3 k3 d3]
    have fn_1 := fn_0.setAll pb_0 (noWord3 _ _ _ _ _ _ _) [.bool m3, .slice o3 n3 c3, .slice p3 k3 d3] rfl
    have fd_1 := fd_0.setAll pb_0 (noWord3 _ _ _ _ _ _ _) [.bool m3, .slice o3 n3 c3, .slice p3 k3 d3] rfl
    have pa_1 := pa_0.farAll (g' := gpb) (by omega) [.bool m3, .slice o3 n3 c3, .slice p3 k3 d3]
    have pr_1 := pr_0.farAll (g' := gpb) (by omega) [.bool m3, .slice o3 n3 c3, .slice p3 k3 d3]
    have f1_1 := f1_0.setAll pb_0 (noWord3 _ _ _ _ _ _ _) [.bool m3, .slice o3 n3 c3, .slice p3 k3 d3] rfl
    have f2_1 := f2_0.setAll pb_0 (noWord3 _ _ _ _ _ _ _) [.bool m3, .slice o3 n3 c3, .slice p3 k3 d3] rfl
    have f3_1 := f3_0.setAll pb_0 (noWord3 _ _ _ _ _ _ _) [.bool m3, .slice o3 n3 c3, .slice p3 k3 d3] rfl
    have pb_1 := pb_0.setAll [.bool m3, .slice o3 n3 c3, .slice p3 k3 d3] rfl
    simp only [setAll, Nat.zero_add, Nat.reduceAdd] at hB_1 fn_1 fd_1 pa_1 pr_1 f1_1 f2_1 f3_1 pb_1
    clear sf1a sf1b sf1c sf1d sf1e sf1f sg1a sg1b sg1c sg1d
    clear hB_0 fn_0 fd_0 pa_0 pr_0 f1_0 f2_0 f3_0 pb_0
    refine hK.out _ _ ⟨pa_1.c0, pa_1.c1, pa_1.c2⟩ (fun hHeld => ?_)
    clear hK K
    try simp only [Act.put]
    try simp only [List.setIfInBounds_toArray, List.set_cons_zero, List.set_cons_succ]
    generalize (World.setCell (World.setCell (World.setCell w3 ⟨gpb, 0, none⟩ (.bool m3)) ⟨gpb, 1, none⟩ (.slice o3 n3 c3)) ⟨gpb, 2, none⟩ (.slice p3 k3 d3)) = w4 at *
    refine reg_take 27 ?_ ?_ ?_ (by kernel_rfl) (by kernel_rfl) (by kernel_rfl) (fun _ _ _ h => h) ?_ ?_ (by assumption) ?_
    rotate_left 2
    · simp only [List.getElem?_toArray, List.getElem?_cons_succ, List.getElem?_cons_zero]; exact rfl
    · rfl
    · intro w hSw; (try dsimp only at hSw); go_simp; try with_reducible rfl
    try simp only [Act.put]
    try simp only [List.setIfInBounds_toArray, List.set_cons_zero, List.set_cons_succ]
    refine wpAnyH_done (by kernel_rfl) ?_ _
    refine NoPanic.normal ?_
    obtain ⟨pbe0, pbe1, pbe2, pbe3, pbe4, pbe5⟩ := pb_1.open3
    obtain ⟨pre0, pre1, pre2, pre3, pre4, pre5⟩ := pr_1.open3
    obtain ⟨sf2a, sf2b, sf2c, sf2d, sf2e, sf2f⟩ := pr_1.open3
    obtain ⟨sg2a, sg2b, sg2c, sg2d⟩ := Box.put3 pr_1 (.bool m3) (.slice o3 n3 c3)
    go_wp2
    clear pbe0 pbe1 pbe2 pbe3 pbe4 pbe5 pre0 pre1 pre2 pre3 pre4 pre5 sf2a sf2b sf2c sf2d sf2e sf2f sg2a sg2b sg2c sg2d
    have hB_2 := below_setAll hB_1 (g := w.heap.size + 1) (by omega) [.bool m3, .slice o3 n3 c3, .slice p3 k3 d3]
    have fn_2 := fn_1.setAll pr_1 (noWord3 _ _ _ _ _ _ _) [.bool m3, .slice o3 n3 c3, .slice p3 k3 d3] rfl
    have fd_2 := fd_1.setAll pr_1 (noWord3 _ _ _ _ _ _ _) [.bool m3, .slice o3 n3 c3, .slice p3 k3 d3] rfl
    have pa_2 := pa_1.farAll (g' := w.heap.size + 1) (by omega) [.bool m3, .slice o3 n3 c3, .slice p3 k3 d3]
    have f1_2 := f1_1.setAll pr_1 (noWord3 _ _ _ _ _ _ _) [.bool m3, .slice o3 n3 c3, .slice p3 k3 d3] rfl
    have f2_2 := f2_1.setAll pr_1 (noWord3 _ _ _ _ _ _ _) [.bool m3, .slice o3 n3 c3, .slice p3 k3 d3] rfl
    have f3_2 := f3_1.setAll pr_1 (noWord3 _ _ _ _ _ _ _) [.bool m3, .slice o3 n3 c3, .slice p3 k3 d3] rfl
    have pb_2 := pb_1.farAll (g' := w.heap.size + 1) (by omega) [.bool m3, .slice o3 n3 c3, .slice p3 k3 d3]
    have pr_2 := pr_1.setAll [.bool m3, .slice o3 n3 c3, .slice p3 k3 d3] rfl
    simp only [setAll, Nat.zero_add, Nat.reduceAdd] at hB_2 fn_2 fd_2 pa_2 pr_2 f1_2 f2_2 f3_2 pb_2
    clear hB_1 fn_1 fd_1 pa_1 f1_1 f2_1 f3_1 pb_1 pr_1
    generalize (World.setCell (World.setCell (World.setCell w4 ⟨w.heap.size + 1, 0, none⟩ (.bool m3)) ⟨w.heap.size + 1, 1, none⟩ (.slice o3 n3 c3)) ⟨w.heap.size + 1, 2, none⟩ (.slice p3 k3 d3)) = w5 at *
    go_wp2
    obtain ⟨pre0, pre1, pre2, pre3, pre4, pre5⟩ := pr_2.open3
    exact bodyPost_ret (v := .agg #[.bool m3, .slice o3 n3 c3, .slice p3 k3 d3]) (by simp [results, Try.results42, go_sem, pre0, pre1, pre2]) rfl ⟨_, _, _, _, _, _, _, rfl, f3_2, hB_2⟩
  simp only [HAq.out, Act.put, List.setIfInBounds_toArray, List.set_cons_zero, List.set_cons_succ] at stq_3t
  have stq_3f : ∀ (w' : World) (m1 : Bool) (o1 : Option Addr) (n1 : Nat) (c1 : Nat) (m2 : Bool) (o2 : Option Addr) (n2 : Nat) (c2 : Nat) (m3 : Bool) (o3 : Option Addr) (n3 : Nat) (c3 : Nat) (p3 : Option Addr) (k3 : Nat) (d3 : Nat), Below w.heap.size w w' → Mag w' (.slice uo h ac) 1 X → Mag w' (.slice up j ad) 1 D → Box w' (w.heap.size) [.bool am, .slice ao an ac, .slice ap ak ad] → Box w' (w.heap.size + 1) [.bool false, .slice none 0 0, .slice none 0 0] → Below w2.heap.size w2 w' → RNum w' (.agg #[.bool m1, .slice o1 n1 c1]) (1) (sgn am X) → RNum w' (.agg #[.bool m2, .slice o2 n2 c2]) (1) (sgn false D) → RF w' (.agg #[.bool m3, .slice o3 n3 c3, .slice p3 k3 d3]) (max 1 1) (((sgn am X : Int) : Rat) / ((sgn false D : Int) : Rat)) → WWq 3 #[true, true, true, true, true, true, true, true, true, true, true, true, true, true, true, true, true, true, true, true, true, true, true, true, true, false, false, false] ((((((aq.put (some 18) (.agg #[.bool m1, .slice o1 n1 c1])).put (some 26) (.agg #[.bool m2, .slice o2 n2 c2])).put (some 27) (.tuple #[.agg #[.bool m3, .slice o3 n3 c3, .slice p3 k3 d3], .bool true])).put (some 5) (.tuple #[.agg #[.bool m3, .slice o3 n3 c3, .slice p3 k3 d3], .bool true])).put (some 28) (.agg #[.bool m3, .slice o3 n3 c3, .slice p3 k3 d3])).put (some 29) (.bool true)) w' := by
    intro w6 m1 o1 n1 c1 m2 o2 n2 c2 m3 o3 n3 c3 p3 k3 d3 hB_0 fn_0 fd_0 pa_0 pr_0 hWq_0 f1_0 f2_0 f3_0
    rw [HWq.out, HAq.out]
    try simp only [Act.put]
    try simp only [List.setIfInBounds_toArray, List.set_cons_zero, List.set_cons_succ]
    refine reg_all1 25 ?_ (by kernel_rfl) ?_ (fun K hK => ?_)
    rotate_left 1
    · simp only [List.getElem?_toArray, List.getElem?_cons_succ, List.getElem?_cons_zero]; exact rfl
    · go_simp
      have hgn : w2.heap.size ≤ w6.heap.size := hWq_0.size
      obtain ⟨w7, hww7, pb_0, hb7, -⟩ := new_box w6 _ rfl [.bool false, .slice none 0 0, .slice none 0 0] 28
      rw [hww7]
      have hB_1 := hB_0.trans (hb7.mono hB_0.size)
      have fn_1 := fn_0.below hb7
      have fd_1 := fd_0.below hb7
      have pa_1 := pa_0.below hb7
      have pr_1 := pr_0.below hb7
      have hWq_1 := hWq_0.trans (hb7.mono hWq_0.size)
      have f1_1 := f1_0.below hb7
      have f2_1 := f2_0.below hb7
      have f3_1 := f3_0.below hb7
      clear hb7 hB_0 fn_0 fd_0 pa_0 pr_0 hWq_0 f1_0 f2_0 f3_0
      refine hK.out _ _ ⟨pa_1.c0, pa_1.c1, pa_1.c2⟩ (fun hHeld => ?_)
      clear hK K
      try simp only [Act.put]
      try simp only [List.setIfInBounds_toArray, List.set_cons_zero, List.set_cons_succ]
      rw [← HWq.out]
      exact stq_3t _ m1 o1 n1 c1 m2 o2 n2 c2 m3 o3 n3 c3 p3 k3 d3 w6.heap.size hB_1 fn_1 fd_1 pa_1 pr_1 hWq_1 f1_1 f2_1 f3_1 pb_0 (by omega)
  try simp only [HAq.out, Act.put, List.setIfInBounds_toArray, List.set_cons_zero, List.set_cons_succ] at stq_3f
  have stq_2t : ∀ (w' : World) (m1 : Bool) (o1 : Option Addr) (n1 : Nat) (c1 : Nat) (m2 : Bool) (o2 : Option Addr) (n2 : Nat) (c2 : Nat) (gpb : Nat), Below w.heap.size w w' → Mag w' (.slice uo h ac) 1 X → Mag w' (.slice up j ad) 1 D → Box w' (w.heap.size) [.bool am, .slice ao an ac, .slice ap ak ad] → Box w' (w.heap.size + 1) [.bool false, .slice none 0 0, .slice none 0 0] → Below w2.heap.size w2 w' → RNum w' (.agg #[.bool m1, .slice o1 n1 c1]) (1) (sgn am X) → RNum w' (.agg #[.bool m2, .slice o2 n2 c2]) (1) (sgn false D) → Box w' gpb [.bool false, .slice none 0 0, .slice none 0 0] → w2.heap.size ≤ gpb → WWq 6 #[true, true, true, true, true, true, true, true, true, true, true, true, true, true, true, true, true, true, true, true, true, false, false, false, false, true, false, false] (((aq.put (some 18) (.agg #[.bool m1, .slice o1 n1 c1])).put (some 26) (.agg #[.bool m2, .slice o2 n2 c2])).put (some 3) (.pointer (some ⟨gpb, 0, none⟩))) w' := by
    intro w8 m1 o1 n1 c1 m2 o2 n2 c2 gpb hB_0 fn_0 fd_0 pa_0 pr_0 hWq_0 f1_0 f2_0 pb_0 hgpb
    rw [HWq.out, HAq.out]
    try simp only [Act.put]
    try simp only [List.setIfInBounds_toArray, List.set_cons_zero, List.set_cons_succ]
    refine reg_all1 21 ?_ (by kernel_rfl) ?_ (fun K hK => ?_)
    rotate_left 1
    · simp only [List.getElem?_toArray, List.getElem?_cons_succ, List.getElem?_cons_zero]; exact rfl
    · go_simp
      refine (fMake_some _ _ 1 1 _ _ _ (by omega) (by omega) f1_0.num f2_0.num H0.out).mono ?_
      rintro e w9 ⟨m3, o3, n3, c3, p3, k3, d3, rfl, f3_0, hb9⟩
      have hB_1 := hB_0.trans (hb9.mono hB_0.size)
      have fn_1 := fn_0.below hb9
      have fd_1 := fd_0.below hb9
      have pa_1 := pa_0.below hb9
      have pr_1 := pr_0.below hb9
      have hWq_1 := hWq_0.trans (hb9.mono hWq_0.size)
      have f1_1 := f1_0.below hb9
      have f2_1 := f2_0.below hb9
      have pb_1 := pb_0.below hb9
      clear hb9 hB_0 fn_0 fd_0 pa_0 pr_0 hWq_0 f1_0 f2_0 pb_0
      go_wp2_with fail
      refine hK.out _ _ ⟨pa_1.c0, pa_1.c1, pa_1.c2⟩ (fun hHeld => ?_)
      clear hK K
      try simp only [Act.put]
      try simp only [List.setIfInBounds_toArray, List.set_cons_zero, List.set_cons_succ]
      refine reg_take 22 ?_ ?_ ?_ (by kernel_rfl) (by kernel_rfl) (by kernel_rfl) (fun _ _ _ h => h) ?_ ?_ (by assumption) ?_
      rotate_left 2
      · simp only [List.getElem?_toArray, List.getElem?_cons_succ, List.getElem?_cons_zero]; exact rfl
      · rfl
      · intro w hSw; (try dsimp only at hSw); go_simp; try with_reducible rfl
      try simp only [Act.put]
      try simp only [List.setIfInBounds_toArray, List.set_cons_zero, List.set_cons_succ]
      refine reg_take 23 ?_ ?_ ?_ (by kernel_rfl) (by kernel_rfl) (by kernel_rfl) (fun _ _ _ h => h) ?_ ?_ (by assumption) ?_
      rotate_left 2
      · simp only [List.getElem?_toArray, List.getElem?_cons_succ, List.getElem?_cons_zero]; exact rfl
      · rfl
      · intro w hSw; (try dsimp only at hSw); go_simp; try with_reducible rfl
      try simp only [Act.put]
      try simp only [List.setIfInBounds_toArray, List.set_cons_zero, List.set_cons_succ]
      refine reg_take 24 ?_ ?_ ?_ (by kernel_rfl) (by kernel_rfl) (by kernel_rfl) (fun _ _ _ h => h) ?_ ?_ (by assumption) ?_
      rotate_left 2
      · simp only [List.getElem?_toArray, List.getElem?_cons_succ, List.getElem?_cons_zero]; exact rfl
      · rfl
      · intro w hSw; (try dsimp only at hSw); go_simp; try with_reducible rfl
      try simp only [Act.put]
      try simp only [List.setIfInBounds_toArray, List.set_cons_zero, List.set_cons_succ]
      rw [← HWq.out]
      exact stq_3t _ m1 o1 n1 c1 m2 o2 n2 c2 m3 o3 n3 c3 p3 k3 d3 gpb hB_1 fn_1 fd_1 pa_1 pr_1 hWq_1 f1_1 f2_1 f3_0 pb_1 (by omega)
  try simp only [HAq.out, Act.put, List.setIfInBounds_toArray, List.set_cons_zero, List.set_cons_succ] at stq_2t
  have stq_2f : ∀ (w' : World) (m1 : Bool) (o1 : Option Addr) (n1 : Nat) (c1 : Nat) (m2 : Bool) (o2 : Option Addr) (n2 : Nat) (c2 : Nat), Below w.heap.size w w' → Mag w' (.slice uo h ac) 1 X → Mag w' (.slice up j ad) 1 D → Box w' (w.heap.size) [.bool am, .slice ao an ac, .slice ap ak ad] → Box w' (w.heap.size + 1) [.bool false, .slice none 0 0, .slice none 0 0] → Below w2.heap.size w2 w' → RNum w' (.agg #[.bool m1, .slice o1 n1 c1]) (1) (sgn am X) → RNum w' (.agg #[.bool m2, .slice o2 n2 c2]) (1) (sgn false D) → WWq 7 #[true, true, true, true, true, true, true, true, true, true, true, true, true, true, true, true, true, true, true, true, true, false, false, false, false, false, false, false] ((aq.put (some 18) (.agg #[.bool m1, .slice o1 n1 c1])).put (some 26) (.agg #[.bool m2, .slice o2 n2 c2])) w' := by
    intro w10 m1 o1 n1 c1 m2 o2 n2 c2 hB_0 fn_0 fd_0 pa_0 pr_0 hWq_0 f1_0 f2_0
    rw [HWq.out, HAq.out]
    try simp only [Act.put]
    try simp only [List.setIfInBounds_toArray, List.set_cons_zero, List.set_cons_succ]
    refine reg_all2 21 25 ?_ ?_ (by kernel_rfl) ?_ ?_ (fun K hK => ?_) (fun K hK => ?_)
    rotate_left 2
    · simp only [List.getElem?_toArray, List.getElem?_cons_succ, List.getElem?_cons_zero]; exact rfl
    · simp only [List.getElem?_toArray, List.getElem?_cons_succ, List.getElem?_cons_zero]; exact rfl
    · go_simp
      refine (fMake_some _ _ 1 1 _ _ _ (by omega) (by omega) f1_0.num f2_0.num H0.out).mono ?_
      rintro e w11 ⟨m3, o3, n3, c3, p3, k3, d3, rfl, f3_0, hb11⟩
      have hB_1 := hB_0.trans (hb11.mono hB_0.size)
      have fn_1 := fn_0.below hb11
      have fd_1 := fd_0.below hb11
      have pa_1 := pa_0.below hb11
      have pr_1 := pr_0.below hb11
      have hWq_1 := hWq_0.trans (hb11.mono hWq_0.size)
      have f1_1 := f1_0.below hb11
      have f2_1 := f2_0.below hb11
      clear hb11 hB_0 fn_0 fd_0 pa_0 pr_0 hWq_0 f1_0 f2_0
      go_wp2_with fail
      refine hK.out _ _ ⟨pa_1.c0, pa_1.c1, pa_1.c2⟩ (fun hHeld => ?_)
      clear hK K
      try simp only [Act.put]
      try simp only [List.setIfInBounds_toArray, List.set_cons_zero, List.set_cons_succ]
      refine reg_take 22 ?_ ?_ ?_ (by kernel_rfl) (by kernel_rfl) (by kernel_rfl) (fun _ _ _ h => h) ?_ ?_ (by assumption) ?_
      rotate_left 2
      · simp only [List.getElem?_toArray, List.getElem?_cons_succ, List.getElem?_cons_zero]; exact rfl
      · rfl
      · intro w hSw; (try dsimp only at hSw); go_simp; try with_reducible rfl
      try simp only [Act.put]
      try simp only [List.setIfInBounds_toArray, List.set_cons_zero, List.set_cons_succ]
      refine reg_take 23 ?_ ?_ ?_ (by kernel_rfl) (by kernel_rfl) (by kernel_rfl) (fun _ _ _ h => h) ?_ ?_ (by assumption) ?_
      rotate_left 2
      · simp only [List.getElem?_toArray, List.getElem?_cons_succ, List.getElem?_cons_zero]; exact rfl
      · rfl
      · intro w hSw; (try dsimp only at hSw); go_simp; try with_reducible rfl
      try simp only [Act.put]
      try simp only [List.setIfInBounds_toArray, List.set_cons_zero, List.set_cons_succ]
      refine reg_take 24 ?_ ?_ ?_ (by kernel_rfl) (by kernel_rfl) (by kernel_rfl) (fun _ _ _ h => h) ?_ ?_ (by assumption) ?_
      rotate_left 2
      · simp only [List.getElem?_toArray, List.getElem?_cons_succ, List.getElem?_cons_zero]; exact rfl
      · rfl
      · intro w hSw; (try dsimp only at hSw); go_simp; try with_reducible rfl
      try simp only [Act.put]
      try simp only [List.setIfInBounds_toArray, List.set_cons_zero, List.set_cons_succ]
      rw [← HWq.out]
      exact stq_3f _ m1 o1 n1 c1 m2 o2 n2 c2 m3 o3 n3 c3 p3 k3 d3 hB_1 fn_1 fd_1 pa_1 pr_1 hWq_1 f1_1 f2_1 f3_0
    · go_simp
      have hgn : w2.heap.size ≤ w10.heap.size := hWq_0.size
      obtain ⟨w12, hww12, pb_0, hb12, -⟩ := new_box w10 _ rfl [.bool false, .slice none 0 0, .slice none 0 0] 28
      rw [hww12]
      have hB_1 := hB_0.trans (hb12.mono hB_0.size)
      have fn_1 := fn_0.below hb12
      have fd_1 := fd_0.below hb12
      have pa_1 := pa_0.below hb12
      have pr_1 := pr_0.below hb12
      have hWq_1 := hWq_0.trans (hb12.mono hWq_0.size)
      have f1_1 := f1_0.below hb12
      have f2_1 := f2_0.below hb12
      clear hb12 hB_0 fn_0 fd_0 pa_0 pr_0 hWq_0 f1_0 f2_0
      refine hK.out _ _ ⟨pa_1.c0, pa_1.c1, pa_1.c2⟩ (fun hHeld => ?_)
      clear hK K
      try simp only [Act.put]
      try simp only [List.setIfInBounds_toArray, List.set_cons_zero, List.set_cons_succ]
      rw [← HWq.out]
      exact stq_2t _ m1 o1 n1 c1 m2 o2 n2 c2 w10.heap.size hB_1 fn_1 fd_1 pa_1 pr_1 hWq_1 f1_1 f2_1 pb_0 (by omega)
  try simp only [HAq.out, Act.put, List.setIfInBounds_toArray, List.set_cons_zero, List.set_cons_succ] at stq_2f
  have stq_1t : ∀ (w' : World) (m1 : Bool) (o1 : Option Addr) (n1 : Nat) (c1 : Nat) (gpb : Nat), Below w.heap.size w w' → Mag w' (.slice uo h ac) 1 X → Mag w' (.slice up j ad) 1 D → Box w' (w.heap.size) [.bool am, .slice ao an ac, .slice ap ak ad] → Box w' (w.heap.size + 1) [.bool false, .slice none 0 0, .slice none 0 0] → Below w2.heap.size w2 w' → RNum w' (.agg #[.bool m1, .slice o1 n1 c1]) (1) (sgn am X) → Box w' gpb [.bool false, .slice none 0 0, .slice none 0 0] → w2.heap.size ≤ gpb → WWq 7 #[true, true, true, true, true, true, true, true, true, true, true, true, true, true, true, true, true, true, true, true, false, false, false, false, false, true, false, false] ((aq.put (some 18) (.agg #[.bool m1, .slice o1 n1 c1])).put (some 3) (.pointer (some ⟨gpb, 0, none⟩))) w' := by
    intro w13 m1 o1 n1 c1 gpb hB_0 fn_0 fd_0 pa_0 pr_0 hWq_0 f1_0 pb_0 hgpb
    rw [HWq.out, HAq.out]
    try simp only [Act.put]
    try simp only [List.setIfInBounds_toArray, List.set_cons_zero, List.set_cons_succ]
    refine reg_all1 20 ?_ (by kernel_rfl) ?_ (fun K hK => ?_)
    rotate_left 1
    · simp only [List.getElem?_toArray, List.getElem?_cons_succ, List.getElem?_cons_zero]; exact rfl
    · go_simp
      refine (Make_any false _ 1 D _ (by omega) fd_0).mono ?_
      rintro e w14 ⟨m2, o2, n2, c2, rfl, f2_0, hb14⟩
      have hB_1 := hB_0.trans (hb14.mono hB_0.size)
      have fn_1 := fn_0.below hb14
      have fd_1 := fd_0.below hb14
      have pa_1 := pa_0.below hb14
      have pr_1 := pr_0.below hb14
      have hWq_1 := hWq_0.trans (hb14.mono hWq_0.size)
      have f1_1 := f1_0.below hb14
      have pb_1 := pb_0.below hb14
      clear hb14 hB_0 fn_0 fd_0 pa_0 pr_0 hWq_0 f1_0 pb_0
      go_wp2_with fail
      refine hK.out _ _ ⟨pa_1.c0, pa_1.c1, pa_1.c2⟩ (fun hHeld => ?_)
      clear hK K
      try simp only [Act.put]
      try simp only [List.setIfInBounds_toArray, List.set_cons_zero, List.set_cons_succ]
      rw [← HWq.out]
      exact stq_2t _ m1 o1 n1 c1 m2 o2 n2 c2 gpb hB_1 fn_1 fd_1 pa_1 pr_1 hWq_1 f1_1 f2_0 pb_1 (by omega)
  try simp only [HAq.out, Act.put, List.setIfInBounds_toArray, List.set_cons_zero, List.set_cons_succ] at stq_1t
  have stq_1f : ∀ (w' : World) (m1 : Bool) (o1 : Option Addr) (n1 : Nat) (c1 : Nat), Below w.heap.size w w' → Mag w' (.slice uo h ac) 1 X → Mag w' (.slice up j ad) 1 D → Box w' (w.heap.size) [.bool am, .slice ao an ac, .slice ap ak ad] → Box w' (w.heap.size + 1) [.bool false, .slice none 0 0, .slice none 0 0] → Below w2.heap.size w2 w' → RNum w' (.agg #[.bool m1, .slice o1 n1 c1]) (1) (sgn am X) → WWq 8 #[true, true, true, true, true, true, true, true, true, true, true, true, true, true, true, true, true, true, true, true, false, false, false, false, false, false, false, false] (aq.put (some 18) (.agg #[.bool m1, .slice o1 n1 c1])) w' := by
    intro w15 m1 o1 n1 c1 hB_0 fn_0 fd_0 pa_0 pr_0 hWq_0 f1_0
    rw [HWq.out, HAq.out]
    try simp only [Act.put]
    try simp only [List.setIfInBounds_toArray, List.set_cons_zero, List.set_cons_succ]
    refine reg_all2 20 25 ?_ ?_ (by kernel_rfl) ?_ ?_ (fun K hK => ?_) (fun K hK => ?_)
    rotate_left 2
    · simp only [List.getElem?_toArray, List.getElem?_cons_succ, List.getElem?_cons_zero]; exact rfl
    · simp only [List.getElem?_toArray, List.getElem?_cons_succ, List.getElem?_cons_zero]; exact rfl
    · go_simp
      refine (Make_any false _ 1 D _ (by omega) fd_0).mono ?_
      rintro e w16 ⟨m2, o2, n2, c2, rfl, f2_0, hb16⟩
      have hB_1 := hB_0.trans (hb16.mono hB_0.size)
      have fn_1 := fn_0.below hb16
      have fd_1 := fd_0.below hb16
      have pa_1 := pa_0.below hb16
      have pr_1 := pr_0.below hb16
      have hWq_1 := hWq_0.trans (hb16.mono hWq_0.size)
      have f1_1 := f1_0.below hb16
      clear hb16 hB_0 fn_0 fd_0 pa_0 pr_0 hWq_0 f1_0
      go_wp2_with fail
      refine hK.out _ _ ⟨pa_1.c0, pa_1.c1, pa_1.c2⟩ (fun hHeld => ?_)
      clear hK K
      try simp only [Act.put]
      try simp only [List.setIfInBounds_toArray, List.set_cons_zero, List.set_cons_succ]
      rw [← HWq.out]
      exact stq_2f _ m1 o1 n1 c1 m2 o2 n2 c2 hB_1 fn_1 fd_1 pa_1 pr_1 hWq_1 f1_1 f2_0
    · go_simp
      have hgn : w2.heap.size ≤ w15.heap.size := hWq_0.size
      obtain ⟨w17, hww17, pb_0, hb17, -⟩ := new_box w15 _ rfl [.bool false, .slice none 0 0, .slice none 0 0] 28
      rw [hww17]
      have hB_1 := hB_0.trans (hb17.mono hB_0.size)
      have fn_1 := fn_0.below hb17
      have fd_1 := fd_0.below hb17
      have pa_1 := pa_0.below hb17
      have pr_1 := pr_0.below hb17
      have hWq_1 := hWq_0.trans (hb17.mono hWq_0.size)
      have f1_1 := f1_0.below hb17
      clear hb17 hB_0 fn_0 fd_0 pa_0 pr_0 hWq_0 f1_0
      refine hK.out _ _ ⟨pa_1.c0, pa_1.c1, pa_1.c2⟩ (fun hHeld => ?_)
      clear hK K
      try simp only [Act.put]
      try simp only [List.setIfInBounds_toArray, List.set_cons_zero, List.set_cons_succ]
      rw [← HWq.out]
      exact stq_1t _ m1 o1 n1 c1 w15.heap.size hB_1 fn_1 fd_1 pa_1 pr_1 hWq_1 f1_1 pb_0 (by omega)
  try simp only [HAq.out, Act.put, List.setIfInBounds_toArray, List.set_cons_zero, List.set_cons_succ] at stq_1f
  have stq_0t : ∀ (w' : World) (gpb : Nat), Below w.heap.size w w' → Mag w' (.slice uo h ac) 1 X → Mag w' (.slice up j ad) 1 D → Box w' (w.heap.size) [.bool am, .slice ao an ac, .slice ap ak ad] → Box w' (w.heap.size + 1) [.bool false, .slice none 0 0, .slice none 0 0] → Below w2.heap.size w2 w' → Box w' gpb [.bool false, .slice none 0 0, .slice none 0 0] → w2.heap.size ≤ gpb → WWq 8 #[true, true, true, true, true, true, true, true, true, true, true, true, false, true, true, true, true, true, true, true, false, false, false, false, false, true, false, false] (aq.put (some 3) (.pointer (some ⟨gpb, 0, none⟩))) w' := by
    intro w18 gpb hB_0 fn_0 fd_0 pa_0 pr_0 hWq_0 pb_0 hgpb
    rw [HWq.out, HAq.out]
    try simp only [Act.put]
    try simp only [List.setIfInBounds_toArray, List.set_cons_zero, List.set_cons_succ]
    refine reg_all1 12 ?_ (by kernel_rfl) ?_ (fun K hK => ?_)
    rotate_left 1
    · simp only [List.getElem?_toArray, List.getElem?_cons_succ, List.getElem?_cons_zero]; exact rfl
    · go_simp
      refine (Make_any am _ 1 X _ (by omega) fn_0).mono ?_
      rintro e w19 ⟨m1, o1, n1, c1, rfl, f1_0, hb19⟩
      have hB_1 := hB_0.trans (hb19.mono hB_0.size)
      have fn_1 := fn_0.below hb19
      have fd_1 := fd_0.below hb19
      have pa_1 := pa_0.below hb19
      have pr_1 := pr_0.below hb19
      have hWq_1 := hWq_0.trans (hb19.mono hWq_0.size)
      have pb_1 := pb_0.below hb19
      clear hb19 hB_0 fn_0 fd_0 pa_0 pr_0 hWq_0 pb_0
      go_wp2_with fail
      refine hK.out _ _ ⟨pa_1.c0, pa_1.c1, pa_1.c2⟩ (fun hHeld => ?_)
      clear hK K
      try simp only [Act.put]
      try simp only [List.setIfInBounds_toArray, List.set_cons_zero, List.set_cons_succ]
      rw [← HWq.out]
      exact stq_1t _ m1 o1 n1 c1 gpb hB_1 fn_1 fd_1 pa_1 pr_1 hWq_1 f1_0 pb_1 (by omega)
  try simp only [HAq.out, Act.put, List.setIfInBounds_toArray, List.set_cons_zero, List.set_cons_succ] at stq_0t
  have stq_0f : ∀ (w' : World), Below w.heap.size w w' → Mag w' (.slice uo h ac) 1 X → Mag w' (.slice up j ad) 1 D → Box w' (w.heap.size) [.bool am, .slice ao an ac, .slice ap ak ad] → Box w' (w.heap.size + 1) [.bool false, .slice none 0 0, .slice none 0 0] → Below w2.heap.size w2 w' → WWq 9 #[true, true, true, true, true, true, true, true, true, true, true, true, false, true, true, true, true, true, true, true, false, false, false, false, false, false, false, false] aq w' := by
    intro w20 hB_0 fn_0 fd_0 pa_0 pr_0 hWq_0
    rw [HWq.out, HAq.out]
    try simp only [Act.put]
    try simp only [List.setIfInBounds_toArray, List.set_cons_zero, List.set_cons_succ]
    refine reg_all2 12 25 ?_ ?_ (by kernel_rfl) ?_ ?_ (fun K hK => ?_) (fun K hK => ?_)
    rotate_left 2
    · simp only [List.getElem?_toArray, List.getElem?_cons_succ, List.getElem?_cons_zero]; exact rfl
    · simp only [List.getElem?_toArray, List.getElem?_cons_succ, List.getElem?_cons_zero]; exact rfl
    · go_simp
      refine (Make_any am _ 1 X _ (by omega) fn_0).mono ?_
      rintro e w21 ⟨m1, o1, n1, c1, rfl, f1_0, hb21⟩
      have hB_1 := hB_0.trans (hb21.mono hB_0.size)
      have fn_1 := fn_0.below hb21
      have fd_1 := fd_0.below hb21
      have pa_1 := pa_0.below hb21
      have pr_1 := pr_0.below hb21
      have hWq_1 := hWq_0.trans (hb21.mono hWq_0.size)
      clear hb21 hB_0 fn_0 fd_0 pa_0 pr_0 hWq_0
      go_wp2_with fail
      refine hK.out _ _ ⟨pa_1.c0, pa_1.c1, pa_1.c2⟩ (fun hHeld => ?_)
      clear hK K
      try simp only [Act.put]
      try simp only [List.setIfInBounds_toArray, List.set_cons_zero, List.set_cons_succ]
      rw [← HWq.out]
      exact stq_1f _ m1 o1 n1 c1 hB_1 fn_1 fd_1 pa_1 pr_1 hWq_1 f1_0
    · go_simp
      have hgn : w2.heap.size ≤ w20.heap.size := hWq_0.size
      obtain ⟨w22, hww22, pb_0, hb22, -⟩ := new_box w20 _ rfl [.bool false, .slice none 0 0, .slice none 0 0] 28
      rw [hww22]
      have hB_1 := hB_0.trans (hb22.mono hB_0.size)
      have fn_1 := fn_0.below hb22
      have fd_1 := fd_0.below hb22
      have pa_1 := pa_0.below hb22
      have pr_1 := pr_0.below hb22
      have hWq_1 := hWq_0.trans (hb22.mono hWq_0.size)
      clear hb22 hB_0 fn_0 fd_0 pa_0 pr_0 hWq_0
      refine hK.out _ _ ⟨pa_1.c0, pa_1.c1, pa_1.c2⟩ (fun hHeld => ?_)
      clear hK K
      try simp only [Act.put]
      try simp only [List.setIfInBounds_toArray, List.set_cons_zero, List.set_cons_succ]
      rw [← HWq.out]
      exact stq_0t _ w20.heap.size hB_1 fn_1 fd_1 pa_1 pr_1 hWq_1 pb_0 (by omega)
  exact stq_0f _ hB_3 fn_3 fd_3 pa_2 pr_1 hWq_1
set_option maxHeartbeats 8000000 in
theorem tame1_z (am : Bool) (ao : Option Addr) (an ac : Nat) (ap : Option Addr) (ak ad : Nat) (uo up : Option Addr) (h j X D : Nat) (e1 : ∀ w : World, (Instr.slice 24 (Value.slice ao an ac) none (some (Value.int .i64 (((h) : Nat) : Int))) none).run Try.prog w = Result.ok (Value.slice uo h ac) w) (e2 : ∀ w : World, (Instr.slice 24 (Value.slice ap ak ad) none (some (Value.int .i64 (((j) : Nat) : Int))) none).run Try.prog w = Result.ok (Value.slice up j ad) w) (e3 : ∀ w : World, Sem.run Try.prog (Builtin.min_ #[3, 3] 3 #[.int .i64 ((an : Nat) : Int), .int .i64 1]) w = Result.ok (Value.int .i64 (((h) : Nat) : Int)) w) (e4 : ∀ w : World, Sem.run Try.prog (Builtin.min_ #[3, 3] 3 #[.int .i64 ((ak : Nat) : Int), .int .i64 1]) w = Result.ok (Value.int .i64 (((j) : Nat) : Int)) w) (w : World) (fn_0 : Mag w (.slice uo h ac) 1 X) (fd_0 : Mag w (.slice up j ad) 1 D) (h0 : D = 0) :
    Calls Try.prog 42 #[.agg #[.bool am, .slice ao an ac, .slice ap ak ad]] w fun e w' => AnsF w w' e (1) (0) := by
  have hB_0 := Below.refl w.heap.size w
  obtain ⟨w1, hw1, pa_0, hb1, hs1⟩ := new_box w (w.heap.size) rfl [.bool am, .slice ao an ac, .slice ap ak ad] 28
  have hb1' : Below w.heap.size w w1 := hb1.mono (by omega)
  clear hb1
  have hB_1 := hB_0.trans (hb1'.mono hB_0.size)
  have fn_1 := fn_0.below hb1'
  have fd_1 := fd_0.below hb1'
  clear hb1' hB_0 fn_0 fd_0
  obtain ⟨w2, hw2, pr_0, hb2, hs2⟩ := new_box w1 (w.heap.size + 1) hs1 [.bool false, .slice none 0 0, .slice none 0 0] 28
  have hb2' : Below w1.heap.size w1 w2 := hb2.mono (by omega)
  clear hb2
  have hB_2 := hB_1.trans (hb2'.mono hB_1.size)
  have fn_2 := fn_1.below hb2'
  have fd_2 := fd_1.below hb2'
  have pa_1 := pa_0.below hb2'
  clear hb2' hB_1 fn_1 fd_1 pa_0
  go_enter Try.func42, Try.ntmps42
  obtain ⟨pae0, pae1, pae2, pae3, pae4, pae5⟩ := pa_1.open3
  go_wp2
  clear pae0 pae1 pae2 pae3 pae4 pae5
  have hWq_0 := Below.refl w2.heap.size w2
  have hsq : w.heap.size ≤ w2.heap.size := hB_2.size
  have hlqpa := pa_1.lt
  have hlqpr := pr_0.lt
  have hB_3 := hB_2.drew'
  have fn_3 := fn_2.drew
  have fd_3 := fd_2.drew
  have pa_2 := pa_1.drew
  have pr_1 := pr_0.drew
  have hWq_1 := hWq_0.drew'
  clear hB_2 fn_2 fd_2 pa_1 pr_0 hWq_0
  refine wp_region_noPanic ?_
  refine wp_region_held_drew (S := fun w' => w'.cell? ⟨w.heap.size, 0, none⟩ = some (.bool am) ∧ w'.cell? ⟨w.heap.size, 1, none⟩ = some (.slice ao an ac) ∧ w'.cell? ⟨w.heap.size, 2, none⟩ = some (.slice ap ak ad)) (by kernel_rfl) (⟨pa_2.c0, pa_2.c1, pa_2.c2⟩) (fun hHeld => ?_)
  refine reg_take 0 ?_ ?_ ?_ (by kernel_rfl) (by kernel_rfl) (by kernel_rfl) (fun _ _ _ h => h) ?_ ?_ (by assumption) ?_
  rotate_left 2
  · simp only [List.getElem?_toArray, List.getElem?_cons_zero]; exact rfl
  · rfl
  · intro w hSw; (try dsimp only at hSw); go_simp; try with_reducible rfl
  try simp only [Act.put]
  try simp only [List.setIfInBounds_toArray, List.set_cons_zero, List.set_cons_succ]
  refine reg_take 1 ?_ ?_ ?_ (by kernel_rfl) (by kernel_rfl) (by kernel_rfl) (fun _ _ _ h => h) ?_ ?_ (by assumption) ?_
  rotate_left 2
  · simp only [List.getElem?_toArray, List.getElem?_cons_succ, List.getElem?_cons_zero]; exact rfl
  · rfl
  · intro w hSw; (try dsimp only at hSw); go_simp; try with_reducible rfl
  try simp only [Act.put]
  try simp only [List.setIfInBounds_toArray, List.set_cons_zero, List.set_cons_succ]
  refine reg_take 2 ?_ ?_ ?_ (by kernel_rfl) (by kernel_rfl) (by kernel_rfl) (fun _ _ _ h => h) ?_ ?_ (by assumption) ?_
  rotate_left 2
  · simp only [List.getElem?_toArray, List.getElem?_cons_succ, List.getElem?_cons_zero]; exact rfl
  · rfl
  · intro w hSw; (try dsimp only at hSw); go_simp; try with_reducible rfl
  try simp only [Act.put]
  try simp only [List.setIfInBounds_toArray, List.set_cons_zero, List.set_cons_succ]
  refine reg_take 3 ?_ ?_ ?_ (by kernel_rfl) (by kernel_rfl) (by kernel_rfl) (fun _ _ _ h => h) ?_ ?_ (by assumption) ?_
  rotate_left 2
  · simp only [List.getElem?_toArray, List.getElem?_cons_succ, List.getElem?_cons_zero]; exact rfl
  · rfl
  · intro w hSw; (try dsimp only at hSw); go_simp; try with_reducible rfl
  try simp only [Act.put]
  try simp only [List.setIfInBounds_toArray, List.set_cons_zero, List.set_cons_succ]
  refine reg_take 4 ?_ ?_ ?_ (by kernel_rfl) (by kernel_rfl) (by kernel_rfl) (fun _ _ _ h => h) ?_ ?_ (by assumption) ?_
  rotate_left 2
  · simp only [List.getElem?_toArray, List.getElem?_cons_succ, List.getElem?_cons_zero]; exact rfl
  · rfl
  · intro w hSw; (try dsimp only at hSw); go_simp; try with_reducible rfl
  try simp only [Act.put]
  try simp only [List.setIfInBounds_toArray, List.set_cons_zero, List.set_cons_succ]
  refine reg_take 5 ?_ ?_ ?_ (by kernel_rfl) (by kernel_rfl) (by kernel_rfl) (fun _ _ _ h => h) ?_ ?_ (by assumption) ?_
  rotate_left 2
  · simp only [List.getElem?_toArray, List.getElem?_cons_succ, List.getElem?_cons_zero]; exact rfl
  · rfl
  · intro w hSw; (try dsimp only at hSw); go_simp; try with_reducible rfl
  try simp only [Act.put]
  try simp only [List.setIfInBounds_toArray, List.set_cons_zero, List.set_cons_succ]
  refine reg_take 6 ?_ ?_ ?_ (by kernel_rfl) (by kernel_rfl) (by kernel_rfl) (fun _ _ _ h => h) ?_ ?_ (by assumption) ?_
  rotate_left 2
  · simp only [List.getElem?_toArray, List.getElem?_cons_succ, List.getElem?_cons_zero]; exact rfl
  · rfl
  · intro w hSw; (try dsimp only at hSw); go_simp; try with_reducible rfl
  try simp only [Act.put]
  try simp only [List.setIfInBounds_toArray, List.set_cons_zero, List.set_cons_succ]
  refine reg_take 7 ?_ ?_ ?_ (by kernel_rfl) (by kernel_rfl) (by kernel_rfl) (fun _ _ _ h => h) ?_ ?_ (by assumption) ?_
  rotate_left 2
  · simp only [List.getElem?_toArray, List.getElem?_cons_succ, List.getElem?_cons_zero]; exact rfl
  · rfl
  · intro w hSw; (try dsimp only at hSw); go_simp; try with_reducible rfl
  try simp only [Act.put]
  try simp only [List.setIfInBounds_toArray, List.set_cons_zero, List.set_cons_succ]
  refine reg_take 8 ?_ ?_ ?_ (by kernel_rfl) (by kernel_rfl) (by kernel_rfl) (fun _ _ _ h => h) ?_ ?_ (by assumption) ?_
  rotate_left 2
  · simp only [List.getElem?_toArray, List.getElem?_cons_succ, List.getElem?_cons_zero]; exact rfl
  · rfl
  · intro w hSw; (try dsimp only at hSw); go_simp; try with_reducible rfl
  try simp only [Act.put]
  try simp only [List.setIfInBounds_toArray, List.set_cons_zero, List.set_cons_succ]
  refine reg_take 9 ?_ ?_ ?_ (by kernel_rfl) (by kernel_rfl) (by kernel_rfl) (fun _ _ _ h => h) ?_ ?_ (by assumption) ?_
  rotate_left 2
  · simp only [List.getElem?_toArray, List.getElem?_cons_succ, List.getElem?_cons_zero]; exact rfl
  · rfl
  · intro w hSw; (try dsimp only at hSw); go_simp; try with_reducible rfl
  try simp only [Act.put]
  try simp only [List.setIfInBounds_toArray, List.set_cons_zero, List.set_cons_succ]
  refine reg_take 10 ?_ ?_ ?_ (by kernel_rfl) (by kernel_rfl) (by kernel_rfl) (fun _ _ _ h => h) ?_ ?_ (by assumption) ?_
  rotate_left 2
  · simp only [List.getElem?_toArray, List.getElem?_cons_succ, List.getElem?_cons_zero]; exact rfl
  · rfl
  · intro w hSw; (try dsimp only at hSw); go_simp; try with_reducible rfl
  try simp only [Act.put]
  try simp only [List.setIfInBounds_toArray, List.set_cons_zero, List.set_cons_succ]
  refine reg_take 11 ?_ ?_ ?_ (by kernel_rfl) (by kernel_rfl) (by kernel_rfl) (fun _ _ _ h => h) ?_ ?_ (by assumption) ?_
  rotate_left 2
  · simp only [List.getElem?_toArray, List.getElem?_cons_succ, List.getElem?_cons_zero]; exact rfl
  · rfl
  · intro w hSw; (try dsimp only at hSw); go_simp; try with_reducible rfl
  try simp only [Act.put]
  try simp only [List.setIfInBounds_toArray, List.set_cons_zero, List.set_cons_succ]
  refine reg_take 13 ?_ ?_ ?_ (by kernel_rfl) (by kernel_rfl) (by kernel_rfl) (fun _ _ _ h => h) ?_ ?_ (by assumption) ?_
  rotate_left 2
  · simp only [List.getElem?_toArray, List.getElem?_cons_succ, List.getElem?_cons_zero]; exact rfl
  · rfl
  · intro w hSw; (try dsimp only at hSw); go_simp; try with_reducible rfl
  try simp only [Act.put]
  try simp only [List.setIfInBounds_toArray, List.set_cons_zero, List.set_cons_succ]
  refine reg_take 14 ?_ ?_ ?_ (by kernel_rfl) (by kernel_rfl) (by kernel_rfl) (fun _ _ _ h => h) ?_ ?_ (by assumption) ?_
  rotate_left 2
  · simp only [List.getElem?_toArray, List.getElem?_cons_succ, List.getElem?_cons_zero]; exact rfl
  · rfl
  · intro w hSw; (try dsimp only at hSw); go_simp; try with_reducible rfl
  try simp only [Act.put]
  try simp only [List.setIfInBounds_toArray, List.set_cons_zero, List.set_cons_succ]
  refine reg_take 15 ?_ ?_ ?_ (by kernel_rfl) (by kernel_rfl) (by kernel_rfl) (fun _ _ _ h => h) ?_ ?_ (by assumption) ?_
  rotate_left 2
  · simp only [List.getElem?_toArray, List.getElem?_cons_succ, List.getElem?_cons_zero]; exact rfl
  · rfl
  · intro w hSw; (try dsimp only at hSw); go_simp; try with_reducible rfl
  try simp only [Act.put]
  try simp only [List.setIfInBounds_toArray, List.set_cons_zero, List.set_cons_succ]
  refine reg_take 16 ?_ ?_ ?_ (by kernel_rfl) (by kernel_rfl) (by kernel_rfl) (fun _ _ _ h => h) ?_ ?_ (by assumption) ?_
  rotate_left 2
  · simp only [List.getElem?_toArray, List.getElem?_cons_succ, List.getElem?_cons_zero]; exact rfl
  · rfl
  · intro w hSw; (try dsimp only at hSw); go_simp; try with_reducible rfl
  try simp only [Act.put]
  try simp only [List.setIfInBounds_toArray, List.set_cons_zero, List.set_cons_succ]
  refine reg_take 17 ?_ ?_ ?_ (by kernel_rfl) (by kernel_rfl) (by kernel_rfl) (fun _ _ _ h => h) ?_ ?_ (by assumption) ?_
  rotate_left 2
  · simp only [List.getElem?_toArray, List.getElem?_cons_succ, List.getElem?_cons_zero]; exact rfl
  · rfl
  · intro w hSw; (try dsimp only at hSw); go_simp; try with_reducible rfl
  try simp only [Act.put]
  try simp only [List.setIfInBounds_toArray, List.set_cons_zero, List.set_cons_succ]
  refine reg_take 18 ?_ ?_ ?_ (by kernel_rfl) (by kernel_rfl) (by kernel_rfl) (fun _ _ _ h => h) ?_ ?_ (by assumption) ?_
  rotate_left 2
  · simp only [List.getElem?_toArray, List.getElem?_cons_succ, List.getElem?_cons_zero]; exact rfl
  · rfl
  · intro w hSw; (try dsimp only at hSw); go_simp; try with_reducible rfl
  try simp only [Act.put]
  try simp only [List.setIfInBounds_toArray, List.set_cons_zero, List.set_cons_succ]
  refine reg_take 19 ?_ ?_ ?_ (by kernel_rfl) (by kernel_rfl) (by kernel_rfl) (fun _ _ _ h => h) ?_ ?_ (by assumption) ?_
  rotate_left 2
  · simp only [List.getElem?_toArray, List.getElem?_cons_succ, List.getElem?_cons_zero]; exact rfl
  · rfl
  · intro w hSw; (try dsimp only at hSw); go_simp; try with_reducible rfl
  try simp only [Act.put]
  try simp only [List.setIfInBounds_toArray, List.set_cons_zero, List.set_cons_succ]
  refine reg_grab (fun WWq aq hWW hAA => ?_)
  have HWq := Lib.hid hWW; have HAq := Lib.hid hAA; clear hWW hAA hHeld
  have stq_3t : ∀ (w' : World) (m1 : Bool) (o1 : Option Addr) (n1 : Nat) (c1 : Nat) (m2 : Bool) (o2 : Option Addr) (n2 : Nat) (c2 : Nat) (m3 : Bool) (o3 : Option Addr) (n3 : Nat) (c3 : Nat) (p3 : Option Addr) (k3 : Nat) (d3 : Nat) (gpb : Nat), Below w.heap.size w w' → Mag w' (.slice uo h ac) 1 X → Mag w' (.slice up j ad) 1 D → Box w' (w.heap.size) [.bool am, .slice ao an ac, .slice ap ak ad] → Box w' (w.heap.size + 1) [.bool false, .slice none 0 0, .slice none 0 0] → Below w2.heap.size w2 w' → RNum w' (.agg #[.bool m1, .slice o1 n1 c1]) (1) (sgn am X) → RNum w' (.agg #[.bool m2, .slice o2 n2 c2]) (1) (sgn false D) → RF w' (.agg #[.bool m3, .slice o3 n3 c3, .slice p3 k3 d3]) (1) (0) → Box w' gpb [.bool false, .slice none 0 0, .slice none 0 0] → w2.heap.size ≤ gpb → WWq 2 #[true, true, true, true, true, true, true, true, true, true, true, true, true, true, true, true, true, true, true, true, true, true, true, true, true, true, false, false] (((((((aq.put (some 18) (.agg #[.bool m1, .slice o1 n1 c1])).put (some 26) (.agg #[.bool m2, .slice o2 n2 c2])).put (some 27) (.tuple #[.agg #[.bool m3, .slice o3 n3 c3, .slice p3 k3 d3], .bool false])).put (some 5) (.tuple #[.agg #[.bool m3, .slice o3 n3 c3, .slice p3 k3 d3], .bool false])).put (some 28) (.agg #[.bool m3, .slice o3 n3 c3, .slice p3 k3 d3])).put (some 29) (.bool false)).put (some 3) (.pointer (some ⟨gpb, 0, none⟩))) w' := by
    intro w3 m1 o1 n1 c1 m2 o2 n2 c2 m3 o3 n3 c3 p3 k3 d3 gpb hB_0 fn_0 fd_0 pa_0 pr_0 hWq_0 f1_0 f2_0 f3_0 pb_0 hgpb
    rw [HWq.out, HAq.out]
    try simp only [Act.put]
    try simp only [List.setIfInBounds_toArray, List.set_cons_zero, List.set_cons_succ]
    clear hWq_0
    obtain ⟨sf1a, sf1b, sf1c, sf1d, sf1e, sf1f⟩ := pb_0.open3
    obtain ⟨sg1a, sg1b, sg1c, sg1d⟩ := Box.put3 pb_0 (.bool m3) (.slice o3 n3 c3)
    refine reg_call 26 ?_ (by kernel_rfl) ?_ (fun K hK => ?_)
    rotate_left 1
    · simp only [List.getElem?_toArray, List.getElem?_cons_succ, List.getElem?_cons_zero]; exact rfl
    go_simp
    have hB_1 := below_setAll hB_0 (g := gpb) (by omega) [.bool m3, .slice o3 n3 c3, .slice p3 k3 d3]
    have fn_1 := fn_0.setAll pb_0 (noWord3 _ _ _ _ _ _ _) [.bool m3, .slice o3 n3 c3, .slice p3 k3 d3] rfl
    have fd_1 := fd_0.setAll pb_0 (noWord3 _ _ _ _ _ _ _) [.bool m3, .slice o3 n3 c3, .slice p3 k3 d3] rfl
    have pa_1 := pa_0.farAll (g' := gpb) (by omega) [.bool m3, .slice o3 n3 c3, .slice p3 k3 d3]
    have pr_1 := pr_0.farAll (g' := gpb) (by omega) [.bool m3, .slice o3 n3 c3, .slice p3 k3 d3]
    have f1_1 := f1_0.setAll pb_0 (noWord3 _ _ _ _ _ _ _) [.bool m3, .slice o3 n3 c3, .slice p3 k3 d3] rfl
    have f2_1 := f2_0.setAll pb_0 (noWord3 _ _ _ _ _ _ _) [.bool m3, .slice o3 n3 c3, .slice p3 k3 d3] rfl
    have f3_1 := f3_0.setAll pb_0 (noWord3 _ _ _ _ _ _ _) [.bool m3, .slice o3 n3 c3, .slice p3 k3 d3] rfl
    have pb_1 := pb_0.setAll [.bool m3, .slice o3 n3 c3, .slice p3 k3 d3] rfl
    simp only [setAll, Nat.zero_add, Nat.reduceAdd] at hB_1 fn_1 fd_1 pa_1 pr_1 f1_1 f2_1 f3_1 pb_1
    clear sf1a sf1b sf1c sf1d sf1e sf1f sg1a sg1b sg1c sg1d
    clear hB_0 fn_0 fd_0 pa_0 pr_0 f1_0 f2_0 f3_0 pb_0
    refine hK.out _ _ ⟨pa_1.c0, pa_1.c1, pa_1.c2⟩ (fun hHeld => ?_)
    clear hK K
    try simp only [Act.put]
    try simp only [List.setIfInBounds_toArray, List.set_cons_zero, List.set_cons_succ]
    generalize (World.setCell (World.setCell (World.setCell w3 ⟨gpb, 0, none⟩ (.bool m3)) ⟨gpb, 1, none⟩ (.slice o3 n3 c3)) ⟨gpb, 2, none⟩ (.slice p3 k3 d3)) = w4 at *
    refine reg_take 27 ?_ ?_ ?_ (by kernel_rfl) (by kernel_rfl) (by kernel_rfl) (fun _ _ _ h => h) ?_ ?_ (by assumption) ?_
    rotate_left 2
    · simp only [List.getElem?_toArray, List.getElem?_cons_succ, List.getElem?_cons_zero]; exact rfl
    · rfl
    · intro w hSw; (try dsimp only at hSw); go_simp; try with_reducible rfl
    try simp only [Act.put]
    try simp only [List.setIfInBounds_toArray, List.set_cons_zero, List.set_cons_succ]
    refine wpAnyH_done (by kernel_rfl) ?_ _
    refine NoPanic.normal ?_
    obtain ⟨pbe0, pbe1, pbe2, pbe3, pbe4, pbe5⟩ := pb_1.open3
    obtain ⟨pre0, pre1, pre2, pre3, pre4, pre5⟩ := pr_1.open3
    go_wp2_with fail
    refine (fOf_any 0 (by omega) (by omega) _).mono ?_
    rintro e w5 ⟨m4, o4, n4, c4, p4, k4, d4, rfl, f4_0, hb5⟩
    clear pbe0 pbe1 pbe2 pbe3 pbe4 pbe5 pre0 pre1 pre2 pre3 pre4 pre5
    have hB_2 := hB_1.trans (hb5.mono hB_1.size)
    have fn_2 := fn_1.below hb5
    have fd_2 := fd_1.below hb5
    have pa_2 := pa_1.below hb5
    have pr_2 := pr_1.below hb5
    have f1_2 := f1_1.below hb5
    have f2_2 := f2_1.below hb5
    have f3_2 := f3_1.below hb5
    have pb_2 := pb_1.below hb5
    clear hb5 hB_1 fn_1 fd_1 pa_1 pr_1 f1_1 f2_1 f3_1 pb_1
    obtain ⟨sf2a, sf2b, sf2c, sf2d, sf2e, sf2f⟩ := pr_2.open3
    obtain ⟨sg2a, sg2b, sg2c, sg2d⟩ := Box.put3 pr_2 (.bool m4) (.slice o4 n4 c4)
    go_wp2
    clear sf2a sf2b sf2c sf2d sf2e sf2f sg2a sg2b sg2c sg2d
    have hB_3 := below_setAll hB_2 (g := w.heap.size + 1) (by omega) [.bool m4, .slice o4 n4 c4, .slice p4 k4 d4]
    have fn_3 := fn_2.setAll pr_2 (noWord3 _ _ _ _ _ _ _) [.bool m4, .slice o4 n4 c4, .slice p4 k4 d4] rfl
    have fd_3 := fd_2.setAll pr_2 (noWord3 _ _ _ _ _ _ _) [.bool m4, .slice o4 n4 c4, .slice p4 k4 d4] rfl
    have pa_3 := pa_2.farAll (g' := w.heap.size + 1) (by omega) [.bool m4, .slice o4 n4 c4, .slice p4 k4 d4]
    have f1_3 := f1_2.setAll pr_2 (noWord3 _ _ _ _ _ _ _) [.bool m4, .slice o4 n4 c4, .slice p4 k4 d4] rfl
    have f2_3 := f2_2.setAll pr_2 (noWord3 _ _ _ _ _ _ _) [.bool m4, .slice o4 n4 c4, .slice p4 k4 d4] rfl
    have f3_3 := f3_2.setAll pr_2 (noWord3 _ _ _ _ _ _ _) [.bool m4, .slice o4 n4 c4, .slice p4 k4 d4] rfl
    have pb_3 := pb_2.farAll (g' := w.heap.size + 1) (by omega) [.bool m4, .slice o4 n4 c4, .slice p4 k4 d4]
    have f4_1 := f4_0.setAll pr_2 (noWord3 _ _ _ _ _ _ _) [.bool m4, .slice o4 n4 c4, .slice p4 k4 d4] rfl
    have pr_3 := pr_2.setAll [.bool m4, .slice o4 n4 c4, .slice p4 k4 d4] rfl
    simp only [setAll, Nat.zero_add, Nat.reduceAdd] at hB_3 fn_3 fd_3 pa_3 pr_3 f1_3 f2_3 f3_3 pb_3 f4_1
    clear hB_2 fn_2 fd_2 pa_2 f1_2 f2_2 f3_2 pb_2 f4_0 pr_2
    generalize (World.setCell (World.setCell (World.setCell w5 ⟨w.heap.size + 1, 0, none⟩ (.bool m4)) ⟨w.heap.size + 1, 1, none⟩ (.slice o4 n4 c4)) ⟨w.heap.size + 1, 2, none⟩ (.slice p4 k4 d4)) = w6 at *
    go_wp2
    obtain ⟨pre0, pre1, pre2, pre3, pre4, pre5⟩ := pr_3.open3
    exact bodyPost_ret (v := .agg #[.bool m4, .slice o4 n4 c4, .slice p4 k4 d4]) (by simp [results, Try.results42, go_sem, pre0, pre1, pre2]) rfl ⟨_, _, _, _, _, _, _, rfl, f4_1, hB_3⟩
  simp only [HAq.out, Act.put, List.setIfInBounds_toArray, List.set_cons_zero, List.set_cons_succ] at stq_3t
  have stq_3f : ∀ (w' : World) (m1 : Bool) (o1 : Option Addr) (n1 : Nat) (c1 : Nat) (m2 : Bool) (o2 : Option Addr) (n2 : Nat) (c2 : Nat) (m3 : Bool) (o3 : Option Addr) (n3 : Nat) (c3 : Nat) (p3 : Option Addr) (k3 : Nat) (d3 : Nat), Below w.heap.size w w' → Mag w' (.slice uo h ac) 1 X → Mag w' (.slice up j ad) 1 D → Box w' (w.heap.size) [.bool am, .slice ao an ac, .slice ap ak ad] → Box w' (w.heap.size + 1) [.bool false, .slice none 0 0, .slice none 0 0] → Below w2.heap.size w2 w' → RNum w' (.agg #[.bool m1, .slice o1 n1 c1]) (1) (sgn am X) → RNum w' (.agg #[.bool m2, .slice o2 n2 c2]) (1) (sgn false D) → RF w' (.agg #[.bool m3, .slice o3 n3 c3, .slice p3 k3 d3]) (1) (0) → WWq 3 #[true, true, true, true, true, true, true, true, true, true, true, true, true, true, true, true, true, true, true, true, true, true, true, true, true, false, false, false] ((((((aq.put (some 18) (.agg #[.bool m1, .slice o1 n1 c1])).put (some 26) (.agg #[.bool m2, .slice o2 n2 c2])).put (some 27) (.tuple #[.agg #[.bool m3, .slice o3 n3 c3, .slice p3 k3 d3], .bool false])).put (some 5) (.tuple #[.agg #[.bool m3, .slice o3 n3 c3, .slice p3 k3 d3], .bool false])).put (some 28) (.agg #[.bool m3, .slice o3 n3 c3, .slice p3 k3 d3])).put (some 29) (.bool false)) w' := by
    intro w7 m1 o1 n1 c1 m2 o2 n2 c2 m3 o3 n3 c3 p3 k3 d3 hB_0 fn_0 fd_0 pa_0 pr_0 hWq_0 f1_0 f2_0 f3_0
    rw [HWq.out, HAq.out]
    try simp only [Act.put]
    try simp only [List.setIfInBounds_toArray, List.set_cons_zero, List.set_cons_succ]
    refine reg_all1 25 ?_ (by kernel_rfl) ?_ (fun K hK => ?_)
    rotate_left 1
    · simp only [List.getElem?_toArray, List.getElem?_cons_succ, List.getElem?_cons_zero]; exact rfl
    · go_simp
      have hgn : w2.heap.size ≤ w7.heap.size := hWq_0.size
      obtain ⟨w8, hww8, pb_0, hb8, -⟩ := new_box w7 _ rfl [.bool false, .slice none 0 0, .slice none 0 0] 28
      rw [hww8]
      have hB_1 := hB_0.trans (hb8.mono hB_0.size)
      have fn_1 := fn_0.below hb8
      have fd_1 := fd_0.below hb8
      have pa_1 := pa_0.below hb8
      have pr_1 := pr_0.below hb8
      have hWq_1 := hWq_0.trans (hb8.mono hWq_0.size)
      have f1_1 := f1_0.below hb8
      have f2_1 := f2_0.below hb8
      have f3_1 := f3_0.below hb8
      clear hb8 hB_0 fn_0 fd_0 pa_0 pr_0 hWq_0 f1_0 f2_0 f3_0
      refine hK.out _ _ ⟨pa_1.c0, pa_1.c1, pa_1.c2⟩ (fun hHeld => ?_)
      clear hK K
      try simp only [Act.put]
      try simp only [List.setIfInBounds_toArray, List.set_cons_zero, List.set_cons_succ]
      rw [← HWq.out]
      exact stq_3t _ m1 o1 n1 c1 m2 o2 n2 c2 m3 o3 n3 c3 p3 k3 d3 w7.heap.size hB_1 fn_1 fd_1 pa_1 pr_1 hWq_1 f1_1 f2_1 f3_1 pb_0 (by omega)
  try simp only [HAq.out, Act.put, List.setIfInBounds_toArray, List.set_cons_zero, List.set_cons_succ] at stq_3f
  have stq_2t : ∀ (w' : World) (m1 : Bool) (o1 : Option Addr) (n1 : Nat) (c1 : Nat) (m2 : Bool) (o2 : Option Addr) (n2 : Nat) (c2 : Nat) (gpb : Nat), Below w.heap.size w w' → Mag w' (.slice uo h ac) 1 X → Mag w' (.slice up j ad) 1 D → Box w' (w.heap.size) [.bool am, .slice ao an ac, .slice ap ak ad] → Box w' (w.heap.size + 1) [.bool false, .slice none 0 0, .slice none 0 0] → Below w2.heap.size w2 w' → RNum w' (.agg #[.bool m1, .slice o1 n1 c1]) (1) (sgn am X) → RNum w' (.agg #[.bool m2, .slice o2 n2 c2]) (1) (sgn false D) → Box w' gpb [.bool false, .slice none 0 0, .slice none 0 0] → w2.heap.size ≤ gpb → WWq 6 #[true, true, true, true, true, true, true, true, true, true, true, true, true, true, true, true, true, true, true, true, true, false, false, false, false, true, false, false] (((aq.put (some 18) (.agg #[.bool m1, .slice o1 n1 c1])).put (some 26) (.agg #[.bool m2, .slice o2 n2 c2])).put (some 3) (.pointer (some ⟨gpb, 0, none⟩))) w' := by
    intro w9 m1 o1 n1 c1 m2 o2 n2 c2 gpb hB_0 fn_0 fd_0 pa_0 pr_0 hWq_0 f1_0 f2_0 pb_0 hgpb
    rw [HWq.out, HAq.out]
    try simp only [Act.put]
    try simp only [List.setIfInBounds_toArray, List.set_cons_zero, List.set_cons_succ]
    refine reg_all1 21 ?_ (by kernel_rfl) ?_ (fun K hK => ?_)
    rotate_left 1
    · simp only [List.getElem?_toArray, List.getElem?_cons_succ, List.getElem?_cons_zero]; exact rfl
    · go_simp
      refine (fMake_zero _ _ 1 1 _ _ _ (by omega) (by omega) f1_0.num f2_0.num (by subst h0; rfl)).mono ?_
      rintro e w10 ⟨m3, o3, n3, c3, p3, k3, d3, rfl, f3_0, hb10⟩
      have hB_1 := hB_0.trans (hb10.mono hB_0.size)
      have fn_1 := fn_0.below hb10
      have fd_1 := fd_0.below hb10
      have pa_1 := pa_0.below hb10
      have pr_1 := pr_0.below hb10
      have hWq_1 := hWq_0.trans (hb10.mono hWq_0.size)
      have f1_1 := f1_0.below hb10
      have f2_1 := f2_0.below hb10
      have pb_1 := pb_0.below hb10
      clear hb10 hB_0 fn_0 fd_0 pa_0 pr_0 hWq_0 f1_0 f2_0 pb_0
      go_wp2_with fail
      refine hK.out _ _ ⟨pa_1.c0, pa_1.c1, pa_1.c2⟩ (fun hHeld => ?_)
      clear hK K
      try simp only [Act.put]
      try simp only [List.setIfInBounds_toArray, List.set_cons_zero, List.set_cons_succ]
      refine reg_take 22 ?_ ?_ ?_ (by kernel_rfl) (by kernel_rfl) (by kernel_rfl) (fun _ _ _ h => h) ?_ ?_ (by assumption) ?_
      rotate_left 2
      · simp only [List.getElem?_toArray, List.getElem?_cons_succ, List.getElem?_cons_zero]; exact rfl
      · rfl
      · intro w hSw; (try dsimp only at hSw); go_simp; try with_reducible rfl
      try simp only [Act.put]
      try simp only [List.setIfInBounds_toArray, List.set_cons_zero, List.set_cons_succ]
      refine reg_take 23 ?_ ?_ ?_ (by kernel_rfl) (by kernel_rfl) (by kernel_rfl) (fun _ _ _ h => h) ?_ ?_ (by assumption) ?_
      rotate_left 2
      · simp only [List.getElem?_toArray, List.getElem?_cons_succ, List.getElem?_cons_zero]; exact rfl
      · rfl
      · intro w hSw; (try dsimp only at hSw); go_simp; try with_reducible rfl
      try simp only [Act.put]
      try simp only [List.setIfInBounds_toArray, List.set_cons_zero, List.set_cons_succ]
      refine reg_take 24 ?_ ?_ ?_ (by kernel_rfl) (by kernel_rfl) (by kernel_rfl) (fun _ _ _ h => h) ?_ ?_ (by assumption) ?_
      rotate_left 2
      · simp only [List.getElem?_toArray, List.getElem?_cons_succ, List.getElem?_cons_zero]; exact rfl
      · rfl
      · intro w hSw; (try dsimp only at hSw); go_simp; try with_reducible rfl
      try simp only [Act.put]
      try simp only [List.setIfInBounds_toArray, List.set_cons_zero, List.set_cons_succ]
      rw [← HWq.out]
      exact stq_3t _ m1 o1 n1 c1 m2 o2 n2 c2 m3 o3 n3 c3 p3 k3 d3 gpb hB_1 fn_1 fd_1 pa_1 pr_1 hWq_1 f1_1 f2_1 f3_0 pb_1 (by omega)
  try simp only [HAq.out, Act.put, List.setIfInBounds_toArray, List.set_cons_zero, List.set_cons_succ] at stq_2t
  have stq_2f : ∀ (w' : World) (m1 : Bool) (o1 : Option Addr) (n1 : Nat) (c1 : Nat) (m2 : Bool) (o2 : Option Addr) (n2 : Nat) (c2 : Nat), Below w.heap.size w w' → Mag w' (.slice uo h ac) 1 X → Mag w' (.slice up j ad) 1 D → Box w' (w.heap.size) [.bool am, .slice ao an ac, .slice ap ak ad] → Box w' (w.heap.size + 1) [.bool false, .slice none 0 0, .slice none 0 0] → Below w2.heap.size w2 w' → RNum w' (.agg #[.bool m1, .slice o1 n1 c1]) (1) (sgn am X) → RNum w' (.agg #[.bool m2, .slice o2 n2 c2]) (1) (sgn false D) → WWq 7 #[true, true, true, true, true, true, true, true, true, true, true, true, true, true, true, true, true, true, true, true, true, false, false, false, false, false, false, false] ((aq.put (some 18) (.agg #[.bool m1, .slice o1 n1 c1])).put (some 26) (.agg #[.bool m2, .slice o2 n2 c2])) w' := by
    intro w11 m1 o1 n1 c1 m2 o2 n2 c2 hB_0 fn_0 fd_0 pa_0 pr_0 hWq_0 f1_0 f2_0
    rw [HWq.out, HAq.out]
    try simp only [Act.put]
    try simp only [List.setIfInBounds_toArray, List.set_cons_zero, List.set_cons_succ]
    refine reg_all2 21 25 ?_ ?_ (by kernel_rfl) ?_ ?_ (fun K hK => ?_) (fun K hK => ?_)
    rotate_left 2
    · simp only [List.getElem?_toArray, List.getElem?_cons_succ, List.getElem?_cons_zero]; exact rfl
    · simp only [List.getElem?_toArray, List.getElem?_cons_succ, List.getElem?_cons_zero]; exact rfl
    · go_simp
      refine (fMake_zero _ _ 1 1 _ _ _ (by omega) (by omega) f1_0.num f2_0.num (by subst h0; rfl)).mono ?_
      rintro e w12 ⟨m3, o3, n3, c3, p3, k3, d3, rfl, f3_0, hb12⟩
      have hB_1 := hB_0.trans (hb12.mono hB_0.size)
      have fn_1 := fn_0.below hb12
      have fd_1 := fd_0.below hb12
      have pa_1 := pa_0.below hb12
      have pr_1 := pr_0.below hb12
      have hWq_1 := hWq_0.trans (hb12.mono hWq_0.size)
      have f1_1 := f1_0.below hb12
      have f2_1 := f2_0.below hb12
      clear hb12 hB_0 fn_0 fd_0 pa_0 pr_0 hWq_0 f1_0 f2_0
      go_wp2_with fail
      refine hK.out _ _ ⟨pa_1.c0, pa_1.c1, pa_1.c2⟩ (fun hHeld => ?_)
      clear hK K
      try simp only [Act.put]
      try simp only [List.setIfInBounds_toArray, List.set_cons_zero, List.set_cons_succ]
      refine reg_take 22 ?_ ?_ ?_ (by kernel_rfl) (by kernel_rfl) (by kernel_rfl) (fun _ _ _ h => h) ?_ ?_ (by assumption) ?_
      rotate_left 2
      · simp only [List.getElem?_toArray, List.getElem?_cons_succ, List.getElem?_cons_zero]; exact rfl
      · rfl
      · intro w hSw; (try dsimp only at hSw); go_simp; try with_reducible rfl
      try simp only [Act.put]
      try simp only [List.setIfInBounds_toArray, List.set_cons_zero, List.set_cons_succ]
      refine reg_take 23 ?_ ?_ ?_ (by kernel_rfl) (by kernel_rfl) (by kernel_rfl) (fun _ _ _ h => h) ?_ ?_ (by assumption) ?_
      rotate_left 2
      · simp only [List.getElem?_toArray, List.getElem?_cons_succ, List.getElem?_cons_zero]; exact rfl
      · rfl
      · intro w hSw; (try dsimp only at hSw); go_simp; try with_reducible rfl
      try simp only [Act.put]
      try simp only [List.setIfInBounds_toArray, List.set_cons_zero, List.set_cons_succ]
      refine reg_take 24 ?_ ?_ ?_ (by kernel_rfl) (by kernel_rfl) (by kernel_rfl) (fun _ _ _ h => h) ?_ ?_ (by assumption) ?_
      rotate_left 2
      · simp only [List.getElem?_toArray, List.getElem?_cons_succ, List.getElem?_cons_zero]; exact rfl
      · rfl
      · intro w hSw; (try dsimp only at hSw); go_simp; try with_reducible rfl
      try simp only [Act.put]
      try simp only [List.setIfInBounds_toArray, List.set_cons_zero, List.set_cons_succ]
      rw [← HWq.out]
      exact stq_3f _ m1 o1 n1 c1 m2 o2 n2 c2 m3 o3 n3 c3 p3 k3 d3 hB_1 fn_1 fd_1 pa_1 pr_1 hWq_1 f1_1 f2_1 f3_0
    · go_simp
      have hgn : w2.heap.size ≤ w11.heap.size := hWq_0.size
      obtain ⟨w13, hww13, pb_0, hb13, -⟩ := new_box w11 _ rfl [.bool false, .slice none 0 0, .slice none 0 0] 28
      rw [hww13]
      have hB_1 := hB_0.trans (hb13.mono hB_0.size)
      have fn_1 := fn_0.below hb13
      have fd_1 := fd_0.below hb13
      have pa_1 := pa_0.below hb13
      have pr_1 := pr_0.below hb13
      have hWq_1 := hWq_0.trans (hb13.mono hWq_0.size)
      have f1_1 := f1_0.below hb13
      have f2_1 := f2_0.below hb13
      clear hb13 hB_0 fn_0 fd_0 pa_0 pr_0 hWq_0 f1_0 f2_0
      refine hK.out _ _ ⟨pa_1.c0, pa_1.c1, pa_1.c2⟩ (fun hHeld => ?_)
      clear hK K
      try simp only [Act.put]
      try simp only [List.setIfInBounds_toArray, List.set_cons_zero, List.set_cons_succ]
      rw [← HWq.out]
      exact stq_2t _ m1 o1 n1 c1 m2 o2 n2 c2 w11.heap.size hB_1 fn_1 fd_1 pa_1 pr_1 hWq_1 f1_1 f2_1 pb_0 (by omega)
  try simp only [HAq.out, Act.put, List.setIfInBounds_toArray, List.set_cons_zero, List.set_cons_succ] at stq_2f
  have stq_1t : ∀ (w' : World) (m1 : Bool) (o1 : Option Addr) (n1 : Nat) (c1 : Nat) (gpb : Nat), Below w.heap.size w w' → Mag w' (.slice uo h ac) 1 X → Mag w' (.slice up j ad) 1 D → Box w' (w.heap.size) [.bool am, .slice ao an ac, .slice ap ak ad] → Box w' (w.heap.size + 1) [.bool false, .slice none 0 0, .slice none 0 0] → Below w2.heap.size w2 w' → RNum w' (.agg #[.bool m1, .slice o1 n1 c1]) (1) (sgn am X) → Box w' gpb [.bool false, .slice none 0 0, .slice none 0 0] → w2.heap.size ≤ gpb → WWq 7 #[true, true, true, true, true, true, true, true, true, true, true, true, true, true, true, true, true, true, true, true, false, false, false, false, false, true, false, false] ((aq.put (some 18) (.agg #[.bool m1, .slice o1 n1 c1])).put (some 3) (.pointer (some ⟨gpb, 0, none⟩))) w' := by
    intro w14 m1 o1 n1 c1 gpb hB_0 fn_0 fd_0 pa_0 pr_0 hWq_0 f1_0 pb_0 hgpb
    rw [HWq.out, HAq.out]
    try simp only [Act.put]
    try simp only [List.setIfInBounds_toArray, List.set_cons_zero, List.set_cons_succ]
    refine reg_all1 20 ?_ (by kernel_rfl) ?_ (fun K hK => ?_)
    rotate_left 1
    · simp only [List.getElem?_toArray, List.getElem?_cons_succ, List.getElem?_cons_zero]; exact rfl
    · go_simp
      refine (Make_any false _ 1 D _ (by omega) fd_0).mono ?_
      rintro e w15 ⟨m2, o2, n2, c2, rfl, f2_0, hb15⟩
      have hB_1 := hB_0.trans (hb15.mono hB_0.size)
      have fn_1 := fn_0.below hb15
      have fd_1 := fd_0.below hb15
      have pa_1 := pa_0.below hb15
      have pr_1 := pr_0.below hb15
      have hWq_1 := hWq_0.trans (hb15.mono hWq_0.size)
      have f1_1 := f1_0.below hb15
      have pb_1 := pb_0.below hb15
      clear hb15 hB_0 fn_0 fd_0 pa_0 pr_0 hWq_0 f1_0 pb_0
      go_wp2_with fail
      refine hK.out _ _ ⟨pa_1.c0, pa_1.c1, pa_1.c2⟩ (fun hHeld => ?_)
      clear hK K
      try simp only [Act.put]
      try simp only [List.setIfInBounds_toArray, List.set_cons_zero, List.set_cons_succ]
      rw [← HWq.out]
      exact stq_2t _ m1 o1 n1 c1 m2 o2 n2 c2 gpb hB_1 fn_1 fd_1 pa_1 pr_1 hWq_1 f1_1 f2_0 pb_1 (by omega)
  try simp only [HAq.out, Act.put, List.setIfInBounds_toArray, List.set_cons_zero, List.set_cons_succ] at stq_1t
  have stq_1f : ∀ (w' : World) (m1 : Bool) (o1 : Option Addr) (n1 : Nat) (c1 : Nat), Below w.heap.size w w' → Mag w' (.slice uo h ac) 1 X → Mag w' (.slice up j ad) 1 D → Box w' (w.heap.size) [.bool am, .slice ao an ac, .slice ap ak ad] → Box w' (w.heap.size + 1) [.bool false, .slice none 0 0, .slice none 0 0] → Below w2.heap.size w2 w' → RNum w' (.agg #[.bool m1, .slice o1 n1 c1]) (1) (sgn am X) → WWq 8 #[true, true, true, true, true, true, true, true, true, true, true, true, true, true, true, true, true, true, true, true, false, false, false, false, false, false, false, false] (aq.put (some 18) (.agg #[.bool m1, .slice o1 n1 c1])) w' := by
    intro w16 m1 o1 n1 c1 hB_0 fn_0 fd_0 pa_0 pr_0 hWq_0 f1_0
    rw [HWq.out, HAq.out]
    try simp only [Act.put]
    try simp only [List.setIfInBounds_toArray, List.set_cons_zero, List.set_cons_succ]
    refine reg_all2 20 25 ?_ ?_ (by kernel_rfl) ?_ ?_ (fun K hK => ?_) (fun K hK => ?_)
    rotate_left 2
    · simp only [List.getElem?_toArray, List.getElem?_cons_succ, List.getElem?_cons_zero]; exact rfl
    · simp only [List.getElem?_toArray, List.getElem?_cons_succ, List.getElem?_cons_zero]; exact rfl
    · go_simp
      refine (Make_any false _ 1 D _ (by omega) fd_0).mono ?_
      rintro e w17 ⟨m2, o2, n2, c2, rfl, f2_0, hb17⟩
      have hB_1 := hB_0.trans (hb17.mono hB_0.size)
      have fn_1 := fn_0.below hb17
      have fd_1 := fd_0.below hb17
      have pa_1 := pa_0.below hb17
      have pr_1 := pr_0.below hb17
      have hWq_1 := hWq_0.trans (hb17.mono hWq_0.size)
      have f1_1 := f1_0.below hb17
      clear hb17 hB_0 fn_0 fd_0 pa_0 pr_0 hWq_0 f1_0
      go_wp2_with fail
      refine hK.out _ _ ⟨pa_1.c0, pa_1.c1, pa_1.c2⟩ (fun hHeld => ?_)
      clear hK K
      try simp only [Act.put]
      try simp only [List.setIfInBounds_toArray, List.set_cons_zero, List.set_cons_succ]
      rw [← HWq.out]
      exact stq_2f _ m1 o1 n1 c1 m2 o2 n2 c2 hB_1 fn_1 fd_1 pa_1 pr_1 hWq_1 f1_1 f2_0
    · go_simp
      have hgn : w2.heap.size ≤ w16.heap.size := hWq_0.size
      obtain ⟨w18, hww18, pb_0, hb18, -⟩ := new_box w16 _ rfl [.bool false, .slice none 0 0, .slice none 0 0] 28
      rw [hww18]
      have hB_1 := hB_0.trans (hb18.mono hB_0.size)
      have fn_1 := fn_0.below hb18
      have fd_1 := fd_0.below hb18
      have pa_1 := pa_0.below hb18
      have pr_1 := pr_0.below hb18
      have hWq_1 := hWq_0.trans (hb18.mono hWq_0.size)
      have f1_1 := f1_0.below hb18
      clear hb18 hB_0 fn_0 fd_0 pa_0 pr_0 hWq_0 f1_0
      refine hK.out _ _ ⟨pa_1.c0, pa_1.c1, pa_1.c2⟩ (fun hHeld => ?_)
      clear hK K
      try simp only [Act.put]
      try simp only [List.setIfInBounds_toArray, List.set_cons_zero, List.set_cons_succ]
      rw [← HWq.out]
      exact stq_1t _ m1 o1 n1 c1 w16.heap.size hB_1 fn_1 fd_1 pa_1 pr_1 hWq_1 f1_1 pb_0 (by omega)
  try simp only [HAq.out, Act.put, List.setIfInBounds_toArray, List.set_cons_zero, List.set_cons_succ] at stq_1f
  have stq_0t : ∀ (w' : World) (gpb : Nat), Below w.heap.size w w' → Mag w' (.slice uo h ac) 1 X → Mag w' (.slice up j ad) 1 D → Box w' (w.heap.size) [.bool am, .slice ao an ac, .slice ap ak ad] → Box w' (w.heap.size + 1) [.bool false, .slice none 0 0, .slice none 0 0] → Below w2.heap.size w2 w' → Box w' gpb [.bool false, .slice none 0 0, .slice none 0 0] → w2.heap.size ≤ gpb → WWq 8 #[true, true, true, true, true, true, true, true, true, true, true, true, false, true, true, true, true, true, true, true, false, false, false, false, false, true, false, false] (aq.put (some 3) (.pointer (some ⟨gpb, 0, none⟩))) w' := by
    intro w19 gpb hB_0 fn_0 fd_0 pa_0 pr_0 hWq_0 pb_0 hgpb
    rw [HWq.out, HAq.out]
    try simp only [Act.put]
    try simp only [List.setIfInBounds_toArray, List.set_cons_zero, List.set_cons_succ]
    refine reg_all1 12 ?_ (by kernel_rfl) ?_ (fun K hK => ?_)
    rotate_left 1
    · simp only [List.getElem?_toArray, List.getElem?_cons_succ, List.getElem?_cons_zero]; exact rfl
    · go_simp
      refine (Make_any am _ 1 X _ (by omega) fn_0).mono ?_
      rintro e w20 ⟨m1, o1, n1, c1, rfl, f1_0, hb20⟩
      have hB_1 := hB_0.trans (hb20.mono hB_0.size)
      have fn_1 := fn_0.below hb20
      have fd_1 := fd_0.below hb20
      have pa_1 := pa_0.below hb20
      have pr_1 := pr_0.below hb20
      have hWq_1 := hWq_0.trans (hb20.mono hWq_0.size)
      have pb_1 := pb_0.below hb20
      clear hb20 hB_0 fn_0 fd_0 pa_0 pr_0 hWq_0 pb_0
      go_wp2_with fail
      refine hK.out _ _ ⟨pa_1.c0, pa_1.c1, pa_1.c2⟩ (fun hHeld => ?_)
      clear hK K
      try simp only [Act.put]
      try simp only [List.setIfInBounds_toArray, List.set_cons_zero, List.set_cons_succ]
      rw [← HWq.out]
      exact stq_1t _ m1 o1 n1 c1 gpb hB_1 fn_1 fd_1 pa_1 pr_1 hWq_1 f1_0 pb_1 (by omega)
  try simp only [HAq.out, Act.put, List.setIfInBounds_toArray, List.set_cons_zero, List.set_cons_succ] at stq_0t
  have stq_0f : ∀ (w' : World), Below w.heap.size w w' → Mag w' (.slice uo h ac) 1 X → Mag w' (.slice up j ad) 1 D → Box w' (w.heap.size) [.bool am, .slice ao an ac, .slice ap ak ad] → Box w' (w.heap.size + 1) [.bool false, .slice none 0 0, .slice none 0 0] → Below w2.heap.size w2 w' → WWq 9 #[true, true, true, true, true, true, true, true, true, true, true, true, false, true, true, true, true, true, true, true, false, false, false, false, false, false, false, false] aq w' := by
    intro w21 hB_0 fn_0 fd_0 pa_0 pr_0 hWq_0
    rw [HWq.out, HAq.out]
    try simp only [Act.put]
    try simp only [List.setIfInBounds_toArray, List.set_cons_zero, List.set_cons_succ]
    refine reg_all2 12 25 ?_ ?_ (by kernel_rfl) ?_ ?_ (fun K hK => ?_) (fun K hK => ?_)
    rotate_left 2
    · simp only [List.getElem?_toArray, List.getElem?_cons_succ, List.getElem?_cons_zero]; exact rfl
    · simp only [List.getElem?_toArray, List.getElem?_cons_succ, List.getElem?_cons_zero]; exact rfl
    · go_simp
      refine (Make_any am _ 1 X _ (by omega) fn_0).mono ?_
      rintro e w22 ⟨m1, o1, n1, c1, rfl, f1_0, hb22⟩
      have hB_1 := hB_0.trans (hb22.mono hB_0.size)
      have fn_1 := fn_0.below hb22
      have fd_1 := fd_0.below hb22
      have pa_1 := pa_0.below hb22
      have pr_1 := pr_0.below hb22
      have hWq_1 := hWq_0.trans (hb22.mono hWq_0.size)
      clear hb22 hB_0 fn_0 fd_0 pa_0 pr_0 hWq_0
      go_wp2_with fail
      refine hK.out _ _ ⟨pa_1.c0, pa_1.c1, pa_1.c2⟩ (fun hHeld => ?_)
      clear hK K
      try simp only [Act.put]
      try simp only [List.setIfInBounds_toArray, List.set_cons_zero, List.set_cons_succ]
      rw [← HWq.out]
      exact stq_1f _ m1 o1 n1 c1 hB_1 fn_1 fd_1 pa_1 pr_1 hWq_1 f1_0
    · go_simp
      have hgn : w2.heap.size ≤ w21.heap.size := hWq_0.size
      obtain ⟨w23, hww23, pb_0, hb23, -⟩ := new_box w21 _ rfl [.bool false, .slice none 0 0, .slice none 0 0] 28
      rw [hww23]
      have hB_1 := hB_0.trans (hb23.mono hB_0.size)
      have fn_1 := fn_0.below hb23
      have fd_1 := fd_0.below hb23
      have pa_1 := pa_0.below hb23
      have pr_1 := pr_0.below hb23
      have hWq_1 := hWq_0.trans (hb23.mono hWq_0.size)
      clear hb23 hB_0 fn_0 fd_0 pa_0 pr_0 hWq_0
      refine hK.out _ _ ⟨pa_1.c0, pa_1.c1, pa_1.c2⟩ (fun hHeld => ?_)
      clear hK K
      try simp only [Act.put]
      try simp only [List.setIfInBounds_toArray, List.set_cons_zero, List.set_cons_succ]
      rw [← HWq.out]
      exact stq_0t _ w21.heap.size hB_1 fn_1 fd_1 pa_1 pr_1 hWq_1 pb_0 (by omega)
  exact stq_0f _ hB_3 fn_3 fd_3 pa_2 pr_1 hWq_1
end Go.Proofs.Ytdfabocecpcmcaa
/- The calls of spot: Side, within, Same, On. -/
namespace Go.Proofs.Ytdfabocecpcmcaa
open Go.RowKit Go.MagM
set_option maxHeartbeats 8000000 in
theorem sSide_any {axm : Bool} {axo : Option Addr} {axn axc : Nat} {axp : Option Addr} {axk axd : Nat} {aym : Bool} {ayo : Option Addr} {ayn ayc : Nat} {ayp : Option Addr} {ayk ayd : Nat} {bxm : Bool} {bxo : Option Addr} {bxn bxc : Nat} {bxp : Option Addr} {bxk bxd : Nat} {bym : Bool} {byo : Option Addr} {byn byc : Nat} {byp : Option Addr} {byk byd : Nat} {sxm : Bool} {sxo : Option Addr} {sxn sxc : Nat} {sxp : Option Addr} {sxk sxd : Nat} {sym : Bool} {syo : Option Addr} {syn syc : Nat} {syp : Option Addr} {syk syd : Nat} (La : Nat) (axq ayq : Rat) (Lb : Nat) (bxq byq : Rat) (Ls : Nat) (sxq syq : Rat) (d : Int) (w : World) (hLa : La ≤ 1000000) (hLb : Lb ≤ 1000000) (hLs : Ls ≤ 1000000) (fax_0 : FQ w (.agg #[.bool axm, .slice axo axn axc, .slice axp axk axd]) La axq) (fay_0 : FQ w (.agg #[.bool aym, .slice ayo ayn ayc, .slice ayp ayk ayd]) La ayq) (fbx_0 : FQ w (.agg #[.bool bxm, .slice bxo bxn bxc, .slice bxp bxk bxd]) Lb bxq) (fby_0 : FQ w (.agg #[.bool bym, .slice byo byn byc, .slice byp byk byd]) Lb byq) (fsx_0 : FQ w (.agg #[.bool sxm, .slice sxo sxn sxc, .slice sxp sxk sxd]) Ls sxq) (fsy_0 : FQ w (.agg #[.bool sym, .slice syo syn syc, .slice syp syk syd]) Ls syq) (h : sideQ axq ayq bxq byq sxq syq = d) :
    Calls Try.prog 34 #[.agg #[.bool axm, .slice axo axn axc, .slice axp axk axd, .bool aym, .slice ayo ayn ayc, .slice ayp ayk ayd], .agg #[.bool bxm, .slice bxo bxn bxc, .slice bxp bxk bxd, .bool bym, .slice byo byn byc, .slice byp byk byd], .agg #[.bool sxm, .slice sxo sxn sxc, .slice sxp sxk sxd, .bool sym, .slice syo syn syc, .slice syp syk syd]] w fun e w' => e = .returned (.int .i64 d) ∧ Below w.heap.size w w' := by
  have hB_0 := Below.refl w.heap.size w
  have HLa := Lib.hid hLa; have HLb := Lib.hid hLb; have HLs := Lib.hid hLs
  clear hLa hLb hLs
  unfold sideQ at h
  have H := Lib.hid h
  clear h
  obtain ⟨w1, hw1, pa_0, hb1, hs1⟩ := new_box w (w.heap.size) rfl [.bool axm, .slice axo axn axc, .slice axp axk axd, .bool aym, .slice ayo ayn ayc, .slice ayp ayk ayd] 42
  have hb1' : Below w.heap.size w w1 := hb1.mono (by omega)
  clear hb1
  have hB_1 := hB_0.trans (hb1'.mono hB_0.size)
  have fax_1 := fax_0.below hb1'
  have fay_1 := fay_0.below hb1'
  have fbx_1 := fbx_0.below hb1'
  have fby_1 := fby_0.below hb1'
  have fsx_1 := fsx_0.below hb1'
  have fsy_1 := fsy_0.below hb1'
  clear hb1' hB_0 fax_0 fay_0 fbx_0 fby_0 fsx_0 fsy_0
  obtain ⟨w2, hw2, pb_0, hb2, hs2⟩ := new_box w1 (w.heap.size + 1) hs1 [.bool bxm, .slice bxo bxn bxc, .slice bxp bxk bxd, .bool bym, .slice byo byn byc, .slice byp byk byd] 42
  have hb2' : Below w1.heap.size w1 w2 := hb2.mono (by omega)
  clear hb2
  have hB_2 := hB_1.trans (hb2'.mono hB_1.size)
  have fax_2 := fax_1.below hb2'
  have fay_2 := fay_1.below hb2'
  have fbx_2 := fbx_1.below hb2'
  have fby_2 := fby_1.below hb2'
  have fsx_2 := fsx_1.below hb2'
  have fsy_2 := fsy_1.below hb2'
  have pa_1 := pa_0.below hb2'
  clear hb2' hB_1 fax_1 fay_1 fbx_1 fby_1 fsx_1 fsy_1 pa_0
  obtain ⟨w3, hw3, ps_0, hb3, hs3⟩ := new_box w2 (w.heap.size + 1 + 1) hs2 [.bool sxm, .slice sxo sxn sxc, .slice sxp sxk sxd, .bool sym, .slice syo syn syc, .slice syp syk syd] 42
  have hb3' : Below w2.heap.size w2 w3 := hb3.mono (by omega)
  clear hb3
  have hB_3 := hB_2.trans (hb3'.mono hB_2.size)
  have fax_3 := fax_2.below hb3'
  have fay_3 := fay_2.below hb3'
  have fbx_3 := fbx_2.below hb3'
  have fby_3 := fby_2.below hb3'
  have fsx_3 := fsx_2.below hb3'
  have fsy_3 := fsy_2.below hb3'
  have pa_2 := pa_1.below hb3'
  have pb_1 := pb_0.below hb3'
  clear hb3' hB_2 fax_2 fay_2 fbx_2 fby_2 fsx_2 fsy_2 pa_1 pb_0
  go_enter Try.func34, Try.ntmps34
  obtain ⟨pae0, pae1, pae2, pae3, pae4, pae5, pae6, pae7, pae8, pae9, pae10, pae11⟩ := pa_2.open6
  obtain ⟨pbe0, pbe1, pbe2, pbe3, pbe4, pbe5, pbe6, pbe7, pbe8, pbe9, pbe10, pbe11⟩ := pb_1.open6
  obtain ⟨pse0, pse1, pse2, pse3, pse4, pse5, pse6, pse7, pse8, pse9, pse10, pse11⟩ := ps_0.open6
  go_wp2
  clear pae0 pae1 pae2 pae3 pae4 pae5 pae6 pae7 pae8 pae9 pae10 pae11 pbe0 pbe1 pbe2 pbe3 pbe4 pbe5 pbe6 pbe7 pbe8 pbe9 pbe10 pbe11 pse0 pse1 pse2 pse3 pse4 pse5 pse6 pse7 pse8 pse9 pse10 pse11
  have hWq_0 := Below.refl w3.heap.size w3
  have hsq : w.heap.size ≤ w3.heap.size := hB_3.size
  have hlqpa := pa_2.lt
  have hlqpb := pb_1.lt
  have hlqps := ps_0.lt
  have hB_4 := hB_3.drew'
  have fax_4 := fax_3.drew
  have fay_4 := fay_3.drew
  have fbx_4 := fbx_3.drew
  have fby_4 := fby_3.drew
  have fsx_4 := fsx_3.drew
  have fsy_4 := fsy_3.drew
  have pa_3 := pa_2.drew
  have pb_2 := pb_1.drew
  have ps_1 := ps_0.drew
  have hWq_1 := hWq_0.drew'
  clear hB_3 fax_3 fay_3 fbx_3 fby_3 fsx_3 fsy_3 pa_2 pb_1 ps_0 hWq_0
  obtain ⟨FFq, hFFq⟩ : ∃ F : World → Prop, ∀ w', F w' ↔ (Below w.heap.size w w' ∧ FQ w' (.agg #[.bool axm, .slice axo axn axc, .slice axp axk axd]) La axq ∧ FQ w' (.agg #[.bool aym, .slice ayo ayn ayc, .slice ayp ayk ayd]) La ayq ∧ FQ w' (.agg #[.bool bxm, .slice bxo bxn bxc, .slice bxp bxk bxd]) Lb bxq ∧ FQ w' (.agg #[.bool bym, .slice byo byn byc, .slice byp byk byd]) Lb byq ∧ FQ w' (.agg #[.bool sxm, .slice sxo sxn sxc, .slice sxp sxk sxd]) Ls sxq ∧ FQ w' (.agg #[.bool sym, .slice syo syn syc, .slice syp syk syd]) Ls syq ∧ Box w' (w.heap.size) [.bool axm, .slice axo axn axc, .slice axp axk axd, .bool aym, .slice ayo ayn ayc, .slice ayp ayk ayd] ∧ Box w' (w.heap.size + 1) [.bool bxm, .slice bxo bxn bxc, .slice bxp bxk bxd, .bool bym, .slice byo byn byc, .slice byp byk byd] ∧ Box w' (w.heap.size + 1 + 1) [.bool sxm, .slice sxo sxn sxc, .slice sxp sxk sxd, .bool sym, .slice syo syn syc, .slice syp syk syd] ∧ Below w3.heap.size w3 w') := ⟨_, fun _ => Iff.rfl⟩
  have cFq : ∀ {w' w'' : World}, FFq w' → Below w'.heap.size w' w'' → FFq w'' := by
    intro w' w'' h hb
    obtain ⟨y0, y1, y2, y3, y4, y5, y6, y7, y8, y9, y10⟩ := (hFFq _).1 h
    exact (hFFq _).2 ⟨y0.trans (hb.mono y0.size), y1.below hb, y2.below hb, y3.below hb, y4.below hb, y5.below hb, y6.below hb, y7.below hb, y8.below hb, y9.below hb, y10.trans (hb.mono y10.size)⟩
  have mFq : ∀ {w' : World}, FFq w' → w3.heap.size ≤ w'.heap.size := by
    intro w' h
    obtain ⟨y0, y1, y2, y3, y4, y5, y6, y7, y8, y9, y10⟩ := (hFFq _).1 h
    exact y10.size
  have sFq : ∀ {w' : World}, FFq w' → (w'.cell? ⟨w.heap.size, 0, none⟩ = some (.bool axm) ∧ w'.cell? ⟨w.heap.size, 1, none⟩ = some (.slice axo axn axc) ∧ w'.cell? ⟨w.heap.size, 2, none⟩ = some (.slice axp axk axd) ∧ w'.cell? ⟨w.heap.size, 3, none⟩ = some (.bool aym) ∧ w'.cell? ⟨w.heap.size, 4, none⟩ = some (.slice ayo ayn ayc) ∧ w'.cell? ⟨w.heap.size, 5, none⟩ = some (.slice ayp ayk ayd) ∧ w'.cell? ⟨w.heap.size + 1, 0, none⟩ = some (.bool bxm) ∧ w'.cell? ⟨w.heap.size + 1, 1, none⟩ = some (.slice bxo bxn bxc) ∧ w'.cell? ⟨w.heap.size + 1, 2, none⟩ = some (.slice bxp bxk bxd) ∧ w'.cell? ⟨w.heap.size + 1, 3, none⟩ = some (.bool bym) ∧ w'.cell? ⟨w.heap.size + 1, 4, none⟩ = some (.slice byo byn byc) ∧ w'.cell? ⟨w.heap.size + 1, 5, none⟩ = some (.slice byp byk byd) ∧ w'.cell? ⟨w.heap.size + 1 + 1, 0, none⟩ = some (.bool sxm) ∧ w'.cell? ⟨w.heap.size + 1 + 1, 1, none⟩ = some (.slice sxo sxn sxc) ∧ w'.cell? ⟨w.heap.size + 1 + 1, 2, none⟩ = some (.slice sxp sxk sxd) ∧ w'.cell? ⟨w.heap.size + 1 + 1, 3, none⟩ = some (.bool sym) ∧ w'.cell? ⟨w.heap.size + 1 + 1, 4, none⟩ = some (.slice syo syn syc) ∧ w'.cell? ⟨w.heap.size + 1 + 1, 5, none⟩ = some (.slice syp syk syd)) := by
    intro w' h
    obtain ⟨y0, y1, y2, y3, y4, y5, y6, y7, y8, y9, y10⟩ := (hFFq _).1 h
    exact ⟨y7.c0, y7.c1, y7.c2, y7.c3, y7.c4, y7.c5, y8.c0, y8.c1, y8.c2, y8.c3, y8.c4, y8.c5, y9.c0, y9.c1, y9.c2, y9.c3, y9.c4, y9.c5⟩
  have zF : FFq w3.drew := (hFFq _).2 ⟨hB_4, fax_4, fay_4, fbx_4, fby_4, fsx_4, fsy_4, pa_3, pb_2, ps_1, hWq_1⟩
  clear hB_4 fax_4 fay_4 fbx_4 fby_4 fsx_4 fsy_4 pa_3 pb_2 ps_1 hWq_1
  refine wp_region_noPanic ?_
  refine wp_region_held_drew (S := fun w' => w'.cell? ⟨w.heap.size, 0, none⟩ = some (.bool axm) ∧ w'.cell? ⟨w.heap.size, 1, none⟩ = some (.slice axo axn axc) ∧ w'.cell? ⟨w.heap.size, 2, none⟩ = some (.slice axp axk axd) ∧ w'.cell? ⟨w.heap.size, 3, none⟩ = some (.bool aym) ∧ w'.cell? ⟨w.heap.size, 4, none⟩ = some (.slice ayo ayn ayc) ∧ w'.cell? ⟨w.heap.size, 5, none⟩ = some (.slice ayp ayk ayd) ∧ w'.cell? ⟨w.heap.size + 1, 0, none⟩ = some (.bool bxm) ∧ w'.cell? ⟨w.heap.size + 1, 1, none⟩ = some (.slice bxo bxn bxc) ∧ w'.cell? ⟨w.heap.size + 1, 2, none⟩ = some (.slice bxp bxk bxd) ∧ w'.cell? ⟨w.heap.size + 1, 3, none⟩ = some (.bool bym) ∧ w'.cell? ⟨w.heap.size + 1, 4, none⟩ = some (.slice byo byn byc) ∧ w'.cell? ⟨w.heap.size + 1, 5, none⟩ = some (.slice byp byk byd) ∧ w'.cell? ⟨w.heap.size + 1 + 1, 0, none⟩ = some (.bool sxm) ∧ w'.cell? ⟨w.heap.size + 1 + 1, 1, none⟩ = some (.slice sxo sxn sxc) ∧ w'.cell? ⟨w.heap.size + 1 + 1, 2, none⟩ = some (.slice sxp sxk sxd) ∧ w'.cell? ⟨w.heap.size + 1 + 1, 3, none⟩ = some (.bool sym) ∧ w'.cell? ⟨w.heap.size + 1 + 1, 4, none⟩ = some (.slice syo syn syc) ∧ w'.cell? ⟨w.heap.size + 1 + 1, 5, none⟩ = some (.slice syp syk syd)) (by kernel_rfl) (sFq zF) (fun hHeld => ?_)
  refine reg_take 0 ?_ ?_ ?_ (by kernel_rfl) (by kernel_rfl) (by kernel_rfl) (fun _ _ _ h => h) ?_ ?_ (by assumption) ?_
  rotate_left 2
  · simp only [List.getElem?_toArray, List.getElem?_cons_zero]; exact rfl
  · rfl
  · intro w hSw; (try dsimp only at hSw); go_simp; try with_reducible rfl
  try simp only [Act.put]
  try simp only [List.setIfInBounds_toArray, List.set_cons_zero, List.set_cons_succ]
  refine reg_take 1 ?_ ?_ ?_ (by kernel_rfl) (by kernel_rfl) (by kernel_rfl) (fun _ _ _ h => h) ?_ ?_ (by assumption) ?_
  rotate_left 2
  · simp only [List.getElem?_toArray, List.getElem?_cons_succ, List.getElem?_cons_zero]; exact rfl
  · rfl
  · intro w hSw; (try dsimp only at hSw); go_simp; try with_reducible rfl
  try simp only [Act.put]
  try simp only [List.setIfInBounds_toArray, List.set_cons_zero, List.set_cons_succ]
  refine reg_take 3 ?_ ?_ ?_ (by kernel_rfl) (by kernel_rfl) (by kernel_rfl) (fun _ _ _ h => h) ?_ ?_ (by assumption) ?_
  rotate_left 2
  · simp only [List.getElem?_toArray, List.getElem?_cons_succ, List.getElem?_cons_zero]; exact rfl
  · rfl
  · intro w hSw; (try dsimp only at hSw); go_simp; try with_reducible rfl
  try simp only [Act.put]
  try simp only [List.setIfInBounds_toArray, List.set_cons_zero, List.set_cons_succ]
  refine reg_take 4 ?_ ?_ ?_ (by kernel_rfl) (by kernel_rfl) (by kernel_rfl) (fun _ _ _ h => h) ?_ ?_ (by assumption) ?_
  rotate_left 2
  · simp only [List.getElem?_toArray, List.getElem?_cons_succ, List.getElem?_cons_zero]; exact rfl
  · rfl
  · intro w hSw; (try dsimp only at hSw); go_simp; try with_reducible rfl
  try simp only [Act.put]
  try simp only [List.setIfInBounds_toArray, List.set_cons_zero, List.set_cons_succ]
  refine reg_grab (fun WWq aq hWW hAA => ?_)
  rw [hWW]
  have HAq := Lib.hid hAA; clear hWW hAA hHeld
  obtain ⟨IVq, hIVq⟩ : ∃ IV : Array Bool → Act → World → Prop, ∀ l a w', IV l a w' ↔ ∃ (lb2 lb5 lb6 lb7 : Bool) (lv2 lv5 lv6 lv7 : Value) (m1x : Bool) (o1x : Option Addr) (n1x : Nat) (c1x : Nat) (p1x : Option Addr) (k1x : Nat) (d1x : Nat) (m1y : Bool) (o1y : Option Addr) (n1y : Nat) (c1y : Nat) (p1y : Option Addr) (k1y : Nat) (d1y : Nat) (m2x : Bool) (o2x : Option Addr) (n2x : Nat) (c2x : Nat) (p2x : Option Addr) (k2x : Nat) (d2x : Nat) (m2y : Bool) (o2y : Option Addr) (n2y : Nat) (c2y : Nat) (p2y : Option Addr) (k2y : Nat) (d2y : Nat) (gpl gpw : Nat), l = #[true, true, lb2, true, true, lb5, lb6, lb7, false, false] ∧ a = ((((aq.put (some 11) lv2).put (some 14) lv5).put (some 7) lv6).put (some 8) lv7) ∧ FFq w' ∧ (lb2 = true → lv2 = .agg #[.bool m1x, .slice o1x n1x c1x, .slice p1x k1x d1x, .bool m1y, .slice o1y n1y c1y, .slice p1y k1y d1y] ∧ RF w' (.agg #[.bool m1x, .slice o1x n1x c1x, .slice p1x k1x d1x]) (Lb + La + 2) (bxq - axq) ∧ RF w' (.agg #[.bool m1y, .slice o1y n1y c1y, .slice p1y k1y d1y]) (Lb + La + 2) (byq - ayq)) ∧ (lb5 = true → lv5 = .agg #[.bool m2x, .slice o2x n2x c2x, .slice p2x k2x d2x, .bool m2y, .slice o2y n2y c2y, .slice p2y k2y d2y] ∧ RF w' (.agg #[.bool m2x, .slice o2x n2x c2x, .slice p2x k2x d2x]) (Ls + La + 2) (sxq - axq) ∧ RF w' (.agg #[.bool m2y, .slice o2y n2y c2y, .slice p2y k2y d2y]) (Ls + La + 2) (syq - ayq)) ∧ (lb6 = true → lv6 = .pointer (some ⟨gpl, 0, none⟩) ∧ Box w' gpl [.bool false, .slice none 0 0, .slice none 0 0, .bool false, .slice none 0 0, .slice none 0 0] ∧ w3.heap.size ≤ gpl) ∧ (lb7 = true → lv7 = .pointer (some ⟨gpw, 0, none⟩) ∧ Box w' gpw [.bool false, .slice none 0 0, .slice none 0 0, .bool false, .slice none 0 0, .slice none 0 0] ∧ w3.heap.size ≤ gpw) ∧ (lb5 = true → lb2 = true) ∧ (lb6 = true → lb7 = true → gpl ≠ gpw) := ⟨_, fun _ _ _ => Iff.rfl⟩
  refine wpAnyH_until IVq ?_ _ _ _ _ ((hIVq _ _ _).2 ⟨false, false, false, false, (aq.tmps.getD 11 undef), (aq.tmps.getD 14 undef), (aq.tmps.getD 7 undef), (aq.tmps.getD 8 undef), false, none, 0, 0, none, 0, 0, false, none, 0, 0, none, 0, 0, false, none, 0, 0, none, 0, 0, false, none, 0, 0, none, 0, 0, 0, 0, rfl, (by simp only [put_same]), zF, (fun h => by cases h), (fun h => by cases h), (fun h => by cases h), (fun h => by cases h), (fun h => by cases h), (fun h => by cases h)⟩) (by kernel_rfl)
  clear zF
  intro ll aa w4 hI
  obtain ⟨lb2, lb5, lb6, lb7, lv2, lv5, lv6, lv7, m1x, o1x, n1x, c1x, p1x, k1x, d1x, m1y, o1y, n1y, c1y, p1y, k1y, d1y, m2x, o2x, n2x, c2x, p2x, k2x, d2x, m2y, o2y, n2y, c2y, p2y, k2y, d2y, gpl, gpw, rfl, rfl, zF, F2, F5, F6, F7, dp5_2, nq6_7⟩ := (hIVq _ _ _).1 hI
  clear hI
  by_cases hL : lb2 = true ∧ lb5 = true ∧ lb6 = true ∧ lb7 = true
  · left
    obtain ⟨rfl, rfl, rfl, rfl⟩ := hL
    obtain ⟨rfl, f1x_0, f1y_0⟩ := F2 rfl
    clear F2
    obtain ⟨rfl, f2x_0, f2y_0⟩ := F5 rfl
    clear F5
    obtain ⟨rfl, pl_0, hgpl⟩ := F6 rfl
    clear F6
    obtain ⟨rfl, pw_0, hgpw⟩ := F7 rfl
    clear F7
    have hnplpw := nq6_7 rfl rfl
    clear dp5_2 nq6_7
    show wpAnyH _ _ _ _ _ 2 _ _ _
    rw [HAq.out]
    try simp only [Act.put]
    try simp only [List.setIfInBounds_toArray, List.set_cons_zero, List.set_cons_succ]
    obtain ⟨hB_0, fax_0, fay_0, fbx_0, fby_0, fsx_0, fsy_0, pa_0, pb_0, ps_0, hWq_0⟩ := (hFFq _).1 zF
    clear zF
    clear hWq_0
    obtain ⟨sf1a, sf1b, sf1c, sf1d, sf1e, sf1f, sf1g, sf1h, sf1i, sf1j, sf1k, sf1l⟩ := pl_0.open6
    obtain ⟨sg1a, sg1b, sg1c, sg1d, sg1e, sg1f, sg1g, sg1h, sg1i, sg1j⟩ := Box.put6 pl_0 (.bool m1x) (.slice o1x n1x c1x) (.slice p1x k1x d1x) (.bool m1y) (.slice o1y n1y c1y)
    refine reg_call 8 ?_ (by kernel_rfl) ?_ (fun K hK => ?_)
    rotate_left 1
    · simp only [List.getElem?_toArray, List.getElem?_cons_succ, List.getElem?_cons_zero]; exact rfl
    go_simp
    have hB_1 := below_setAll hB_0 (g := gpl) (by omega) [.bool m1x, .slice o1x n1x c1x, .slice p1x k1x d1x, .bool m1y, .slice o1y n1y c1y, .slice p1y k1y d1y]
    have fax_1 := fax_0.setAll pl_0 (noWord6 _ _ _ _ _ _ _ _ _ _ _ _ _ _) [.bool m1x, .slice o1x n1x c1x, .slice p1x k1x d1x, .bool m1y, .slice o1y n1y c1y, .slice p1y k1y d1y] rfl
    have fay_1 := fay_0.setAll pl_0 (noWord6 _ _ _ _ _ _ _ _ _ _ _ _ _ _) [.bool m1x, .slice o1x n1x c1x, .slice p1x k1x d1x, .bool m1y, .slice o1y n1y c1y, .slice p1y k1y d1y] rfl
    have fbx_1 := fbx_0.setAll pl_0 (noWord6 _ _ _ _ _ _ _ _ _ _ _ _ _ _) [.bool m1x, .slice o1x n1x c1x, .slice p1x k1x d1x, .bool m1y, .slice o1y n1y c1y, .slice p1y k1y d1y] rfl
    have fby_1 := fby_0.setAll pl_0 (noWord6 _ _ _ _ _ _ _ _ _ _ _ _ _ _) [.bool m1x, .slice o1x n1x c1x, .slice p1x k1x d1x, .bool m1y, .slice o1y n1y c1y, .slice p1y k1y d1y] rfl
    have fsx_1 := fsx_0.setAll pl_0 (noWord6 _ _ _ _ _ _ _ _ _ _ _ _ _ _) [.bool m1x, .slice o1x n1x c1x, .slice p1x k1x d1x, .bool m1y, .slice o1y n1y c1y, .slice p1y k1y d1y] rfl
    have fsy_1 := fsy_0.setAll pl_0 (noWord6 _ _ _ _ _ _ _ _ _ _ _ _ _ _) [.bool m1x, .slice o1x n1x c1x, .slice p1x k1x d1x, .bool m1y, .slice o1y n1y c1y, .slice p1y k1y d1y] rfl
    have pa_1 := pa_0.farAll (g' := gpl) (by omega) [.bool m1x, .slice o1x n1x c1x, .slice p1x k1x d1x, .bool m1y, .slice o1y n1y c1y, .slice p1y k1y d1y]
    have pb_1 := pb_0.farAll (g' := gpl) (by omega) [.bool m1x, .slice o1x n1x c1x, .slice p1x k1x d1x, .bool m1y, .slice o1y n1y c1y, .slice p1y k1y d1y]
    have ps_1 := ps_0.farAll (g' := gpl) (by omega) [.bool m1x, .slice o1x n1x c1x, .slice p1x k1x d1x, .bool m1y, .slice o1y n1y c1y, .slice p1y k1y d1y]
    have f1x_1 := f1x_0.setAll pl_0 (noWord6 _ _ _ _ _ _ _ _ _ _ _ _ _ _) [.bool m1x, .slice o1x n1x c1x, .slice p1x k1x d1x, .bool m1y, .slice o1y n1y c1y, .slice p1y k1y d1y] rfl
    have f1y_1 := f1y_0.setAll pl_0 (noWord6 _ _ _ _ _ _ _ _ _ _ _ _ _ _) [.bool m1x, .slice o1x n1x c1x, .slice p1x k1x d1x, .bool m1y, .slice o1y n1y c1y, .slice p1y k1y d1y] rfl
    have f2x_1 := f2x_0.setAll pl_0 (noWord6 _ _ _ _ _ _ _ _ _ _ _ _ _ _) [.bool m1x, .slice o1x n1x c1x, .slice p1x k1x d1x, .bool m1y, .slice o1y n1y c1y, .slice p1y k1y d1y] rfl
    have f2y_1 := f2y_0.setAll pl_0 (noWord6 _ _ _ _ _ _ _ _ _ _ _ _ _ _) [.bool m1x, .slice o1x n1x c1x, .slice p1x k1x d1x, .bool m1y, .slice o1y n1y c1y, .slice p1y k1y d1y] rfl
    have pw_1 := pw_0.farAll (g' := gpl) (by omega) [.bool m1x, .slice o1x n1x c1x, .slice p1x k1x d1x, .bool m1y, .slice o1y n1y c1y, .slice p1y k1y d1y]
    have pl_1 := pl_0.setAll [.bool m1x, .slice o1x n1x c1x, .slice p1x k1x d1x, .bool m1y, .slice o1y n1y c1y, .slice p1y k1y d1y] rfl
    simp only [setAll, Nat.zero_add, Nat.reduceAdd] at hB_1 fax_1 fay_1 fbx_1 fby_1 fsx_1 fsy_1 pa_1 pb_1 ps_1 f1x_1 f1y_1 f2x_1 f2y_1 pl_1 pw_1
    clear sf1a sf1b sf1c sf1d sf1e sf1f sf1g sf1h sf1i sf1j sf1k sf1l sg1a sg1b sg1c sg1d sg1e sg1f sg1g sg1h sg1i sg1j
    clear hB_0 fax_0 fay_0 fbx_0 fby_0 fsx_0 fsy_0 pa_0 pb_0 ps_0 f1x_0 f1y_0 f2x_0 f2y_0 pw_0 pl_0
    refine hK.out _ _ ⟨pa_1.c0, pa_1.c1, pa_1.c2, pa_1.c3, pa_1.c4, pa_1.c5, pb_1.c0, pb_1.c1, pb_1.c2, pb_1.c3, pb_1.c4, pb_1.c5, ps_1.c0, ps_1.c1, ps_1.c2, ps_1.c3, ps_1.c4, ps_1.c5⟩ (fun hHeld => ?_)
    clear hK K
    try simp only [Act.put]
    try simp only [List.setIfInBounds_toArray, List.set_cons_zero, List.set_cons_succ]
    generalize (World.setCell (World.setCell (World.setCell (World.setCell (World.setCell (World.setCell w4 ⟨gpl, 0, none⟩ (.bool m1x)) ⟨gpl, 1, none⟩ (.slice o1x n1x c1x)) ⟨gpl, 2, none⟩ (.slice p1x k1x d1x)) ⟨gpl, 3, none⟩ (.bool m1y)) ⟨gpl, 4, none⟩ (.slice o1y n1y c1y)) ⟨gpl, 5, none⟩ (.slice p1y k1y d1y)) = w5 at *
    obtain ⟨sf2a, sf2b, sf2c, sf2d, sf2e, sf2f, sf2g, sf2h, sf2i, sf2j, sf2k, sf2l⟩ := pw_1.open6
    obtain ⟨sg2a, sg2b, sg2c, sg2d, sg2e, sg2f, sg2g, sg2h, sg2i, sg2j⟩ := Box.put6 pw_1 (.bool m2x) (.slice o2x n2x c2x) (.slice p2x k2x d2x) (.bool m2y) (.slice o2y n2y c2y)
    refine reg_call 9 ?_ (by kernel_rfl) ?_ (fun K hK => ?_)
    rotate_left 1
    · simp only [List.getElem?_toArray, List.getElem?_cons_succ, List.getElem?_cons_zero]; exact rfl
    go_simp
    have hB_2 := below_setAll hB_1 (g := gpw) (by omega) [.bool m2x, .slice o2x n2x c2x, .slice p2x k2x d2x, .bool m2y, .slice o2y n2y c2y, .slice p2y k2y d2y]
    have fax_2 := fax_1.setAll pw_1 (noWord6 _ _ _ _ _ _ _ _ _ _ _ _ _ _) [.bool m2x, .slice o2x n2x c2x, .slice p2x k2x d2x, .bool m2y, .slice o2y n2y c2y, .slice p2y k2y d2y] rfl
    have fay_2 := fay_1.setAll pw_1 (noWord6 _ _ _ _ _ _ _ _ _ _ _ _ _ _) [.bool m2x, .slice o2x n2x c2x, .slice p2x k2x d2x, .bool m2y, .slice o2y n2y c2y, .slice p2y k2y d2y] rfl
    have fbx_2 := fbx_1.setAll pw_1 (noWord6 _ _ _ _ _ _ _ _ _ _ _ _ _ _) [.bool m2x, .slice o2x n2x c2x, .slice p2x k2x d2x, .bool m2y, .slice o2y n2y c2y, .slice p2y k2y d2y] rfl
    have fby_2 := fby_1.setAll pw_1 (noWord6 _ _ _ _ _ _ _ _ _ _ _ _ _ _) [.bool m2x, .slice o2x n2x c2x, .slice p2x k2x d2x, .bool m2y, .slice o2y n2y c2y, .slice p2y k2y d2y] rfl
    have fsx_2 := fsx_1.setAll pw_1 (noWord6 _ _ _ _ _ _ _ _ _ _ _ _ _ _) [.bool m2x, .slice o2x n2x c2x, .slice p2x k2x d2x, .bool m2y, .slice o2y n2y c2y, .slice p2y k2y d2y] rfl
    have fsy_2 := fsy_1.setAll pw_1 (noWord6 _ _ _ _ _ _ _ _ _ _ _ _ _ _) [.bool m2x, .slice o2x n2x c2x, .slice p2x k2x d2x, .bool m2y, .slice o2y n2y c2y, .slice p2y k2y d2y] rfl
    have pa_2 := pa_1.farAll (g' := gpw) (by omega) [.bool m2x, .slice o2x n2x c2x, .slice p2x k2x d2x, .bool m2y, .slice o2y n2y c2y, .slice p2y k2y d2y]
    have pb_2 := pb_1.farAll (g' := gpw) (by omega) [.bool m2x, .slice o2x n2x c2x, .slice p2x k2x d2x, .bool m2y, .slice o2y n2y c2y, .slice p2y k2y d2y]
    have ps_2 := ps_1.farAll (g' := gpw) (by omega) [.bool m2x, .slice o2x n2x c2x, .slice p2x k2x d2x, .bool m2y, .slice o2y n2y c2y, .slice p2y k2y d2y]
    have f1x_2 := f1x_1.setAll pw_1 (noWord6 _ _ _ _ _ _ _ _ _ _ _ _ _ _) [.bool m2x, .slice o2x n2x c2x, .slice p2x k2x d2x, .bool m2y, .slice o2y n2y c2y, .slice p2y k2y d2y] rfl
    have f1y_2 := f1y_1.setAll pw_1 (noWord6 _ _ _ _ _ _ _ _ _ _ _ _ _ _) [.bool m2x, .slice o2x n2x c2x, .slice p2x k2x d2x, .bool m2y, .slice o2y n2y c2y, .slice p2y k2y d2y] rfl
    have f2x_2 := f2x_1.setAll pw_1 (noWord6 _ _ _ _ _ _ _ _ _ _ _ _ _ _) [.bool m2x, .slice o2x n2x c2x, .slice p2x k2x d2x, .bool m2y, .slice o2y n2y c2y, .slice p2y k2y d2y] rfl
    have f2y_2 := f2y_1.setAll pw_1 (noWord6 _ _ _ _ _ _ _ _ _ _ _ _ _ _) [.bool m2x, .slice o2x n2x c2x, .slice p2x k2x d2x, .bool m2y, .slice o2y n2y c2y, .slice p2y k2y d2y] rfl
    have pl_2 := pl_1.farAll (g' := gpw) (by omega) [.bool m2x, .slice o2x n2x c2x, .slice p2x k2x d2x, .bool m2y, .slice o2y n2y c2y, .slice p2y k2y d2y]
    have pw_2 := pw_1.setAll [.bool m2x, .slice o2x n2x c2x, .slice p2x k2x d2x, .bool m2y, .slice o2y n2y c2y, .slice p2y k2y d2y] rfl
    simp only [setAll, Nat.zero_add, Nat.reduceAdd] at hB_2 fax_2 fay_2 fbx_2 fby_2 fsx_2 fsy_2 pa_2 pb_2 ps_2 f1x_2 f1y_2 f2x_2 f2y_2 pl_2 pw_2
    clear sf2a sf2b sf2c sf2d sf2e sf2f sf2g sf2h sf2i sf2j sf2k sf2l sg2a sg2b sg2c sg2d sg2e sg2f sg2g sg2h sg2i sg2j
    clear hB_1 fax_1 fay_1 fbx_1 fby_1 fsx_1 fsy_1 pa_1 pb_1 ps_1 f1x_1 f1y_1 f2x_1 f2y_1 pl_1 pw_1
    refine hK.out _ _ ⟨pa_2.c0, pa_2.c1, pa_2.c2, pa_2.c3, pa_2.c4, pa_2.c5, pb_2.c0, pb_2.c1, pb_2.c2, pb_2.c3, pb_2.c4, pb_2.c5, ps_2.c0, ps_2.c1, ps_2.c2, ps_2.c3, ps_2.c4, ps_2.c5⟩ (fun hHeld => ?_)
    clear hK K
    try simp only [Act.put]
    try simp only [List.setIfInBounds_toArray, List.set_cons_zero, List.set_cons_succ]
    generalize (World.setCell (World.setCell (World.setCell (World.setCell (World.setCell (World.setCell w5 ⟨gpw, 0, none⟩ (.bool m2x)) ⟨gpw, 1, none⟩ (.slice o2x n2x c2x)) ⟨gpw, 2, none⟩ (.slice p2x k2x d2x)) ⟨gpw, 3, none⟩ (.bool m2y)) ⟨gpw, 4, none⟩ (.slice o2y n2y c2y)) ⟨gpw, 5, none⟩ (.slice p2y k2y d2y)) = w6 at *
    refine wpAnyH_done (by kernel_rfl) ?_ _
    refine NoPanic.normal ?_
    clear pa_2
    clear pb_2
    clear ps_2
    obtain ⟨ple0, ple1, ple2, ple3, ple4, ple5, ple6, ple7, ple8, ple9, ple10, ple11⟩ := pl_2.open6
    obtain ⟨pwe0, pwe1, pwe2, pwe3, pwe4, pwe5, pwe6, pwe7, pwe8, pwe9, pwe10, pwe11⟩ := pw_2.open6
    go_wp2
    clear ple0 ple1 ple2 ple3 ple4 ple5 ple6 ple7 ple8 ple9 ple10 ple11 pwe0 pwe1 pwe2 pwe3 pwe4 pwe5 pwe6 pwe7 pwe8 pwe9 pwe10 pwe11
    have hB_3 := hB_2.drew'
    have fax_3 := fax_2.drew
    have fay_3 := fay_2.drew
    have fbx_3 := fbx_2.drew
    have fby_3 := fby_2.drew
    have fsx_3 := fsx_2.drew
    have fsy_3 := fsy_2.drew
    have f1x_3 := f1x_2.drew
    have f1y_3 := f1y_2.drew
    have f2x_3 := f2x_2.drew
    have f2y_3 := f2y_2.drew
    have pl_3 := pl_2.drew
    have pw_3 := pw_2.drew
    clear hB_2 fax_2 fay_2 fbx_2 fby_2 fsx_2 fsy_2 f1x_2 f1y_2 f2x_2 f2y_2 pl_2 pw_2
    go_region_held3 (fun w' => w'.cell? ⟨gpl, 0, none⟩ = some (.bool m1x) ∧ w'.cell? ⟨gpl, 1, none⟩ = some (.slice o1x n1x c1x) ∧ w'.cell? ⟨gpl, 2, none⟩ = some (.slice p1x k1x d1x) ∧ w'.cell? ⟨gpl, 3, none⟩ = some (.bool m1y) ∧ w'.cell? ⟨gpl, 4, none⟩ = some (.slice o1y n1y c1y) ∧ w'.cell? ⟨gpl, 5, none⟩ = some (.slice p1y k1y d1y) ∧ w'.cell? ⟨gpw, 0, none⟩ = some (.bool m2x) ∧ w'.cell? ⟨gpw, 1, none⟩ = some (.slice o2x n2x c2x) ∧ w'.cell? ⟨gpw, 2, none⟩ = some (.slice p2x k2x d2x) ∧ w'.cell? ⟨gpw, 3, none⟩ = some (.bool m2y) ∧ w'.cell? ⟨gpw, 4, none⟩ = some (.slice o2y n2y c2y) ∧ w'.cell? ⟨gpw, 5, none⟩ = some (.slice p2y k2y d2y))
      (first | with_reducible exact ⟨pl_3.c0, pl_3.c1, pl_3.c2, pl_3.c3, pl_3.c4, pl_3.c5, pw_3.c0, pw_3.c1, pw_3.c2, pw_3.c3, pw_3.c4, pw_3.c5⟩ | with_reducible exact ⟨pl_4.c0, pl_4.c1, pl_4.c2, pl_4.c3, pl_4.c4, pl_4.c5, pw_4.c0, pw_4.c1, pw_4.c2, pw_4.c3, pw_4.c4, pw_4.c5⟩ | with_reducible exact ⟨pl_5.c0, pl_5.c1, pl_5.c2, pl_5.c3, pl_5.c4, pl_5.c5, pw_5.c0, pw_5.c1, pw_5.c2, pw_5.c3, pw_5.c4, pw_5.c5⟩ | with_reducible exact ⟨pl_6.c0, pl_6.c1, pl_6.c2, pl_6.c3, pl_6.c4, pl_6.c5, pw_6.c0, pw_6.c1, pw_6.c2, pw_6.c3, pw_6.c4, pw_6.c5⟩ | fail)
      (first
        | (go_at_call 23; (with_reducible refine (qMul _ _ (Lb + La + 2) (Ls + La + 2) _ _ _ (by have := HLa.out; have := HLb.out; have := HLs.out; omega) (by have := HLa.out; have := HLb.out; have := HLs.out; omega) f1x_3.q f2y_3.q).mono ?_); rintro e w7 ⟨m3, o3, n3, c3, p3, k3, d3, rfl, f3_0, hb7⟩; have hB_4 := hB_3.trans (hb7.mono hB_3.size); have fax_4 := fax_3.below hb7; have fay_4 := fay_3.below hb7; have fbx_4 := fbx_3.below hb7; have fby_4 := fby_3.below hb7; have fsx_4 := fsx_3.below hb7; have fsy_4 := fsy_3.below hb7; have f1x_4 := f1x_3.below hb7; have f1y_4 := f1y_3.below hb7; have f2x_4 := f2x_3.below hb7; have f2y_4 := f2y_3.below hb7; have pl_4 := pl_3.below hb7; have pw_4 := pw_3.below hb7; clear hb7 hB_3 fax_3 fay_3 fbx_3 fby_3 fsx_3 fsy_3 f1x_3 f1y_3 f2x_3 f2y_3 pl_3 pw_3)
        | (go_at_call 23; (with_reducible refine (qMul _ _ (Lb + La + 2) (Ls + La + 2) _ _ _ (by have := HLa.out; have := HLb.out; have := HLs.out; omega) (by have := HLa.out; have := HLb.out; have := HLs.out; omega) f1y_4.q f2x_4.q).mono ?_); rintro e w8 ⟨m4, o4, n4, c4, p4, k4, d4, rfl, f4_0, hb8⟩; have hB_5 := hB_4.trans (hb8.mono hB_4.size); have fax_5 := fax_4.below hb8; have fay_5 := fay_4.below hb8; have fbx_5 := fbx_4.below hb8; have fby_5 := fby_4.below hb8; have fsx_5 := fsx_4.below hb8; have fsy_5 := fsy_4.below hb8; have f1x_5 := f1x_4.below hb8; have f1y_5 := f1y_4.below hb8; have f2x_5 := f2x_4.below hb8; have f2y_5 := f2y_4.below hb8; have pl_5 := pl_4.below hb8; have pw_5 := pw_4.below hb8; have f3_1 := f3_0.below hb8; clear hb8 hB_4 fax_4 fay_4 fbx_4 fby_4 fsx_4 fsy_4 f1x_4 f1y_4 f2x_4 f2y_4 pl_4 pw_4 f3_0)
        | (go_at_call 26; (with_reducible refine (qCmp _ _ ((Lb + La + 2) + (Ls + La + 2) + 2) ((Lb + La + 2) + (Ls + La + 2) + 2) _ _ _ (by have := HLa.out; have := HLb.out; have := HLs.out; omega) (by have := HLa.out; have := HLb.out; have := HLs.out; omega) f3_1.q f4_0.q d H.out).mono ?_); rintro e w9 ⟨rfl, hb9⟩; have hB_6 := hB_5.trans (hb9.mono hB_5.size); have fax_6 := fax_5.below hb9; have fay_6 := fay_5.below hb9; have fbx_6 := fbx_5.below hb9; have fby_6 := fby_5.below hb9; have fsx_6 := fsx_5.below hb9; have fsy_6 := fsy_5.below hb9; have f1x_6 := f1x_5.below hb9; have f1y_6 := f1y_5.below hb9; have f2x_6 := f2x_5.below hb9; have f2y_6 := f2y_5.below hb9; have pl_6 := pl_5.below hb9; have pw_6 := pw_5.below hb9; have f3_2 := f3_1.below hb9; have f4_1 := f4_0.below hb9; clear hb9 hB_5 fax_5 fay_5 fbx_5 fby_5 fsx_5 fsy_5 f1x_5 f1y_5 f2x_5 f2y_5 pl_5 pw_5 f3_1 f4_0))
    go_wp2
    go_ret
    exact ⟨rfl, hB_6⟩
  · right
    refine ⟨?_, fun i hi => ?_⟩
    · clear zF F2 F5 F6 F7 nq6_7
      cases lb2
      · exact ready_of 2 _ rfl rfl (by kernel_rfl)
      cases lb5
      · exact ready_of 5 _ rfl rfl (by kernel_rfl)
      cases lb6
      · exact ready_of 6 _ rfl rfl (by kernel_rfl)
      cases lb7
      · exact ready_of 7 _ rfl rfl (by kernel_rfl)
      exact absurd ⟨rfl, rfl, rfl, rfl⟩ hL
    have hd : (lb2 = false ∧ i = 2) ∨ (lb5 = false ∧ lb2 = true ∧ i = 5) ∨ (lb6 = false ∧ i = 6) ∨ (lb7 = false ∧ i = 7) := by
      have hin := ready_lt hi
      obtain rfl | rfl | rfl | rfl | rfl | rfl | rfl | rfl | rfl | rfl : i = 0 ∨ i = 1 ∨ i = 2 ∨ i = 3 ∨ i = 4 ∨ i = 5 ∨ i = 6 ∨ i = 7 ∨ i = 8 ∨ i = 9 := by have hin' : i < 10 := hin; omega
      · exact absurd (ready_off hi) (fun h => Bool.noConfusion (show true = false from h))
      · exact absurd (ready_off hi) (fun h => Bool.noConfusion (show true = false from h))
      · exact .inl ⟨ready_off hi, rfl⟩
      · exact absurd (ready_off hi) (fun h => Bool.noConfusion (show true = false from h))
      · exact absurd (ready_off hi) (fun h => Bool.noConfusion (show true = false from h))
      · exact .inr (.inl ⟨ready_off hi, ready_dep (d := 2) hi (by kernel_rfl), rfl⟩)
      · exact .inr (.inr (.inl ⟨ready_off hi, rfl⟩))
      · exact .inr (.inr (.inr (⟨ready_off hi, rfl⟩)))
      · have k6 : lb6 = true := ready_dep (d := 6) hi (by kernel_rfl); have k2 : lb2 = true := ready_dep (d := 2) hi (by kernel_rfl); have k5 : lb5 = true := ready_dep (d := 5) hi (by kernel_rfl); have k7 : lb7 = true := ready_dep (d := 7) hi (by kernel_rfl)
        exact absurd ⟨k2, k5, k6, k7⟩ hL
      · exact absurd (ready_dep (d := 8) hi (by kernel_rfl)) (fun h => Bool.noConfusion (show false = true from h))
    clear hi hL
    rcases hd with ⟨rfl, rfl⟩ | ⟨rfl, rfl, rfl⟩ | ⟨rfl, rfl⟩ | ⟨rfl, rfl⟩
    · obtain ⟨-, fax_0, fay_0, fbx_0, fby_0, -, -, -, -, -, -⟩ := (hFFq _).1 zF
      refine step_of 2 ?_ ?_ (fun K hK => ?_)
      rotate_left 1
      · simp only [List.getElem?_toArray, List.getElem?_cons_succ, List.getElem?_cons_zero]; exact rfl
      rw [HAq.out]
      try simp only [Act.put]
      try simp only [List.setIfInBounds_toArray, List.set_cons_zero, List.set_cons_succ]
      go_simp
      refine (sAcross_any La axq ayq Lb bxq byq _ (by have := HLa.out; have := HLb.out; have := HLs.out; omega) (by have := HLa.out; have := HLb.out; have := HLs.out; omega) fax_0 fay_0 fbx_0 fby_0).mono ?_
      rintro e w10 ⟨m1x, o1x, n1x, c1x, p1x, k1x, d1x, m1y, o1y, n1y, c1y, p1y, k1y, d1y, rfl, f1x_0, f1y_0, hb⟩
      go_wp2_with fail
      refine hK.out _ _ (sFq (cFq zF hb)) ?_
      exact (hIVq _ _ _).2 ⟨true, lb5, lb6, lb7, (.agg #[.bool m1x, .slice o1x n1x c1x, .slice p1x k1x d1x, .bool m1y, .slice o1y n1y c1y, .slice p1y k1y d1y]), lv5, lv6, lv7, m1x, o1x, n1x, c1x, p1x, k1x, d1x, m1y, o1y, n1y, c1y, p1y, k1y, d1y, m2x, o2x, n2x, c2x, p2x, k2x, d2x, m2y, o2y, n2y, c2y, p2y, k2y, d2y, gpl, gpw, rfl, (by simp only [HAq.out, Act.put, List.setIfInBounds_toArray, List.set_cons_zero, List.set_cons_succ]), (cFq zF hb), (fun _ => ⟨rfl, f1x_0, f1y_0⟩), (fun h => absurd (dp5_2 h) (by decide)), (fun h => ⟨(F6 h).1, (F6 h).2.1.below hb, (F6 h).2.2⟩), (fun h => ⟨(F7 h).1, (F7 h).2.1.below hb, (F7 h).2.2⟩), (fun _ => rfl), nq6_7⟩
    · obtain ⟨rfl, f1x_0, f1y_0⟩ := F2 rfl
      clear F2
      obtain ⟨-, fax_0, fay_0, -, -, fsx_0, fsy_0, -, -, -, -⟩ := (hFFq _).1 zF
      refine step_of 5 ?_ ?_ (fun K hK => ?_)
      rotate_left 1
      · simp only [List.getElem?_toArray, List.getElem?_cons_succ, List.getElem?_cons_zero]; exact rfl
      rw [HAq.out]
      try simp only [Act.put]
      try simp only [List.setIfInBounds_toArray, List.set_cons_zero, List.set_cons_succ]
      go_simp
      refine (sAcross_any La axq ayq Ls sxq syq _ (by have := HLa.out; have := HLb.out; have := HLs.out; omega) (by have := HLa.out; have := HLb.out; have := HLs.out; omega) fax_0 fay_0 fsx_0 fsy_0).mono ?_
      rintro e w11 ⟨m2x, o2x, n2x, c2x, p2x, k2x, d2x, m2y, o2y, n2y, c2y, p2y, k2y, d2y, rfl, f2x_0, f2y_0, hb⟩
      go_wp2_with fail
      refine hK.out _ _ (sFq (cFq zF hb)) ?_
      exact (hIVq _ _ _).2 ⟨true, true, lb6, lb7, _, (.agg #[.bool m2x, .slice o2x n2x c2x, .slice p2x k2x d2x, .bool m2y, .slice o2y n2y c2y, .slice p2y k2y d2y]), lv6, lv7, m1x, o1x, n1x, c1x, p1x, k1x, d1x, m1y, o1y, n1y, c1y, p1y, k1y, d1y, m2x, o2x, n2x, c2x, p2x, k2x, d2x, m2y, o2y, n2y, c2y, p2y, k2y, d2y, gpl, gpw, rfl, (by simp only [HAq.out, Act.put, List.setIfInBounds_toArray, List.set_cons_zero, List.set_cons_succ]), (cFq zF hb), (fun _ => ⟨rfl, f1x_0.below hb, f1y_0.below hb⟩), (fun _ => ⟨rfl, f2x_0, f2y_0⟩), (fun h => ⟨(F6 h).1, (F6 h).2.1.below hb, (F6 h).2.2⟩), (fun h => ⟨(F7 h).1, (F7 h).2.1.below hb, (F7 h).2.2⟩), (fun _ => rfl), nq6_7⟩
    · refine step_of 6 ?_ ?_ (fun K hK => ?_)
      rotate_left 1
      · simp only [List.getElem?_toArray, List.getElem?_cons_succ, List.getElem?_cons_zero]; exact rfl
      rw [HAq.out]
      try simp only [Act.put]
      try simp only [List.setIfInBounds_toArray, List.set_cons_zero, List.set_cons_succ]
      go_simp
      have hgn := mFq zF
      have hq7 : lb7 = true → gpw < w4.heap.size := fun h => (F7 h).2.1.lt
      obtain ⟨wn, hwn, pl_0, hb, -⟩ := new_box w4 _ rfl [.bool false, .slice none 0 0, .slice none 0 0, .bool false, .slice none 0 0, .slice none 0 0] 42
      rw [hwn]
      refine hK.out _ _ (sFq (cFq zF hb)) ?_
      exact (hIVq _ _ _).2 ⟨lb2, lb5, true, lb7, lv2, lv5, (.pointer (some ⟨w4.heap.size, 0, none⟩)), lv7, m1x, o1x, n1x, c1x, p1x, k1x, d1x, m1y, o1y, n1y, c1y, p1y, k1y, d1y, m2x, o2x, n2x, c2x, p2x, k2x, d2x, m2y, o2y, n2y, c2y, p2y, k2y, d2y, w4.heap.size, gpw, rfl, (by simp only [HAq.out, Act.put, List.setIfInBounds_toArray, List.set_cons_zero, List.set_cons_succ]), (cFq zF hb), (fun h => ⟨(F2 h).1, (F2 h).2.1.below hb, (F2 h).2.2.below hb⟩), (fun h => ⟨(F5 h).1, (F5 h).2.1.below hb, (F5 h).2.2.below hb⟩), (fun _ => ⟨rfl, pl_0, hgn⟩), (fun h => ⟨(F7 h).1, (F7 h).2.1.below hb, (F7 h).2.2⟩), dp5_2, (fun _ h => by have := hq7 h; omega)⟩
    · refine step_of 7 ?_ ?_ (fun K hK => ?_)
      rotate_left 1
      · simp only [List.getElem?_toArray, List.getElem?_cons_succ, List.getElem?_cons_zero]; exact rfl
      rw [HAq.out]
      try simp only [Act.put]
      try simp only [List.setIfInBounds_toArray, List.set_cons_zero, List.set_cons_succ]
      go_simp
      have hgn := mFq zF
      have hq6 : lb6 = true → gpl < w4.heap.size := fun h => (F6 h).2.1.lt
      obtain ⟨wn, hwn, pw_0, hb, -⟩ := new_box w4 _ rfl [.bool false, .slice none 0 0, .slice none 0 0, .bool false, .slice none 0 0, .slice none 0 0] 42
      rw [hwn]
      refine hK.out _ _ (sFq (cFq zF hb)) ?_
      exact (hIVq _ _ _).2 ⟨lb2, lb5, lb6, true, lv2, lv5, lv6, (.pointer (some ⟨w4.heap.size, 0, none⟩)), m1x, o1x, n1x, c1x, p1x, k1x, d1x, m1y, o1y, n1y, c1y, p1y, k1y, d1y, m2x, o2x, n2x, c2x, p2x, k2x, d2x, m2y, o2y, n2y, c2y, p2y, k2y, d2y, gpl, w4.heap.size, rfl, (by simp only [HAq.out, Act.put, List.setIfInBounds_toArray, List.set_cons_zero, List.set_cons_succ]), (cFq zF hb), (fun h => ⟨(F2 h).1, (F2 h).2.1.below hb, (F2 h).2.2.below hb⟩), (fun h => ⟨(F5 h).1, (F5 h).2.1.below hb, (F5 h).2.2.below hb⟩), (fun h => ⟨(F6 h).1, (F6 h).2.1.below hb, (F6 h).2.2⟩), (fun _ => ⟨rfl, pw_0, hgn⟩), dp5_2, (fun h _ => by have := hq6 h; omega)⟩
theorem qcmp_wrap (p q r s : Rat) : IntKind.i64.wrap (qcmp p q * qcmp r s) = qcmp p q * qcmp r s := by
  rcases qcmp_cases p q with ⟨_, h⟩ | ⟨_, h⟩ | ⟨_, h⟩ <;> rcases qcmp_cases r s with ⟨_, k⟩ | ⟨_, k⟩ | ⟨_, k⟩ <;> rw [h, k] <;> rfl
end Go.Proofs.Ytdfabocecpcmcaa
/- The calls of spot: Same, On. -/
namespace Go.Proofs.Ytdfabocecpcmcaa
open Go.RowKit Go.MagM
end Go.Proofs.Ytdfabocecpcmcaa
/- The statements' own Tame: what it answers; times. -/
namespace Go.Proofs.Ytdfabocecpcmcaa
open Go.RowKit Go.MagM
theorem mag_cut {w : World} {ao : Option Addr} {n c L N : Nat} (hm : Mag w (.slice ao n c) L N) : ∃ (h : Nat) (uo : Option Addr), (∀ w : World, (Instr.slice 24 (Value.slice ao n c) none (some (Value.int .i64 (((h) : Nat) : Int))) none).run Try.prog w = Result.ok (Value.slice uo h c) w) ∧ (∀ w : World, Sem.run Try.prog (Builtin.min_ #[3, 3] 3 #[.int .i64 ((n : Nat) : Int), .int .i64 1]) w = Result.ok (Value.int .i64 (((h) : Nat) : Int)) w) ∧ Mag w (.slice uo h c) 1 (N % B) := by
  obtain ⟨ao', n', c', f, e, h1, _, h3, h4⟩ := hm
  simp at e
  obtain ⟨rfl, rfl, rfl⟩ := e
  cases n with
  | zero =>
    refine ⟨0, if c = 0 then ao else ao.map (fun a => a.add (0 * 1)), fun w => ?_, fun w => by kernel_rfl, _, 0, c, f, rfl, by omega, by omega, Reads.nil _ _ _, ?_⟩
    · simp [Instr.slice, Instr.sliceBounds, Instr.sliceBound, go_sem]
    · rw [← h4]; rfl
  | succ k =>
    obtain ⟨b, o, rfl, _, _⟩ := h3 0 (by omega)
    refine ⟨1, some ⟨b, o, none⟩, fun w => ?_, fun w => ?_, _, 1, c, f, rfl, by omega, by omega, h3.less (by omega), ?_⟩
    · have hc : (1 : Int) ≤ (c : Int) := by omega
      simp [Instr.slice, Instr.sliceBounds, Instr.sliceBound, go_sem, hc, Addr.add]
    · simp [go_sem]; omega
    · rw [← h4, show k + 1 = 1 + k by omega, V_split, V_one, Nat.pow_one, Nat.add_mul_mod_self_left, Nat.mod_eq_of_lt (h3.lt 0 (by omega))]
/-- What is left of a number behind its first word. -/
def tameQ (X : Int) (D : Nat) : Rat := if D % B = 0 then 0 else ((X.tmod (B : Int) : Int) : Rat) / (((D % B : Nat) : Int) : Rat)
theorem sgn_mod (m : Bool) (N : Nat) : sgn m (N % B) = (sgn m N).tmod (B : Int) := by
  cases m with
  | false => simp only [sgn, Bool.false_eq_true, if_false]; exact (Int.ofNat_tmod N B).symm
  | true => simp only [sgn, if_true]; rw [Int.neg_tmod, ← Int.ofNat_tmod]
theorem tame1_any {am : Bool} {ao : Option Addr} {an ac : Nat} {ap : Option Addr} {ak ad : Nat} (La : Nat) (Xa : Int) (Da : Nat) (w : World) (fa : FD w (.agg #[.bool am, .slice ao an ac, .slice ap ak ad]) La Xa Da) : Calls Try.prog 42 #[.agg #[.bool am, .slice ao an ac, .slice ap ak ad]] w fun e w' => AnsF w w' e (1) (tameQ Xa Da) := by
  obtain ⟨N, hN, rfl⟩ := fa.num.part
  obtain ⟨h, uo, e1, e3, fn⟩ := mag_cut hN
  obtain ⟨j, up, e2, e4, fd⟩ := mag_cut fa.mag
  by_cases h0 : Da % B = 0
  · refine (tame1_z am ao an ac ap ak ad uo up h j _ _ e1 e2 e3 e4 w fn fd h0).mono fun e w' g => g.of (Nat.le_refl _) ?_
    unfold tameQ; rw [if_pos h0]
  · refine (tame1_s am ao an ac ap ak ad uo up h j _ _ e1 e2 e3 e4 w fn fd (sgn_ne h0)).mono fun e w' g => g.of (by omega) ?_
    unfold tameQ; rw [if_neg h0, sgn_mod, sgn_false]
set_option maxHeartbeats 4000000 in
theorem stame_any {axm : Bool} {axo : Option Addr} {axn axc : Nat} {axp : Option Addr} {axk axd : Nat} {aym : Bool} {ayo : Option Addr} {ayn ayc : Nat} {ayp : Option Addr} {ayk ayd : Nat} (Lax Lay : Nat) (Xax Xay : Int) (Dax Day : Nat) (w : World) (fax_0 : FD w (.agg #[.bool axm, .slice axo axn axc, .slice axp axk axd]) Lax Xax Dax) (fay_0 : FD w (.agg #[.bool aym, .slice ayo ayn ayc, .slice ayp ayk ayd]) Lay Xay Day) :
    Calls Try.prog 21 #[.agg #[.bool axm, .slice axo axn axc, .slice axp axk axd, .bool aym, .slice ayo ayn ayc, .slice ayp ayk ayd]] w fun e w' => AnsS w w' e (1) (tameQ Xax Dax) (tameQ Xay Day) := by
  have hB_0 := Below.refl w.heap.size w
  obtain ⟨w1, hw1, pa_0, hb1, hs1⟩ := new_box w (w.heap.size) rfl [.bool axm, .slice axo axn axc, .slice axp axk axd, .bool aym, .slice ayo ayn ayc, .slice ayp ayk ayd] 42
  have hb1' : Below w.heap.size w w1 := hb1.mono (by omega)
  clear hb1
  have hB_1 := hB_0.trans (hb1'.mono hB_0.size)
  have fax_1 := fax_0.below hb1'
  have fay_1 := fay_0.below hb1'
  clear hb1' hB_0 fax_0 fay_0
  obtain ⟨w2, hw2, pr_0, hb2, hs2⟩ := new_box w1 (w.heap.size + 1) hs1 [.bool false, .slice none 0 0, .slice none 0 0, .bool false, .slice none 0 0, .slice none 0 0] 42
  have hb2' : Below w1.heap.size w1 w2 := hb2.mono (by omega)
  clear hb2
  have hB_2 := hB_1.trans (hb2'.mono hB_1.size)
  have fax_2 := fax_1.below hb2'
  have fay_2 := fay_1.below hb2'
  have pa_1 := pa_0.below hb2'
  clear hb2' hB_1 fax_1 fay_1 pa_0
  go_enter Try.func21, Try.ntmps21
  go_wp2
  have hB_3 := hB_2.drew'
  have fax_3 := fax_2.drew
  have fay_3 := fay_2.drew
  have pa_2 := pa_1.drew
  have pr_1 := pr_0.drew
  clear hB_2 fax_2 fay_2 pa_1 pr_0
  go_region_held3 (fun w' => w'.cell? ⟨w.heap.size, 0, none⟩ = some (.bool axm) ∧ w'.cell? ⟨w.heap.size, 1, none⟩ = some (.slice axo axn axc) ∧ w'.cell? ⟨w.heap.size, 2, none⟩ = some (.slice axp axk axd) ∧ w'.cell? ⟨w.heap.size, 3, none⟩ = some (.bool aym) ∧ w'.cell? ⟨w.heap.size, 4, none⟩ = some (.slice ayo ayn ayc) ∧ w'.cell? ⟨w.heap.size, 5, none⟩ = some (.slice ayp ayk ayd))
    (first | with_reducible exact ⟨pa_2.c0, pa_2.c1, pa_2.c2, pa_2.c3, pa_2.c4, pa_2.c5⟩ | with_reducible exact ⟨pa_3.c0, pa_3.c1, pa_3.c2, pa_3.c3, pa_3.c4, pa_3.c5⟩ | with_reducible exact ⟨pa_4.c0, pa_4.c1, pa_4.c2, pa_4.c3, pa_4.c4, pa_4.c5⟩ | with_reducible exact ⟨pa_5.c0, pa_5.c1, pa_5.c2, pa_5.c3, pa_5.c4, pa_5.c5⟩ | fail)
    (first
      | (go_at_call 42; (with_reducible refine (tame1_any Lax Xax Dax _ fax_3).mono ?_); rintro e w3 ⟨m1x, o1x, n1x, c1x, p1x, k1x, d1x, rfl, f1x_0, hb3⟩; have hB_4 := hB_3.trans (hb3.mono hB_3.size); have fax_4 := fax_3.below hb3; have fay_4 := fay_3.below hb3; have pa_3 := pa_2.below hb3; have pr_2 := pr_1.below hb3; clear hb3 hB_3 fax_3 fay_3 pa_2 pr_1)
      | (go_at_call 42; (with_reducible refine (tame1_any Lay Xay Day _ fay_4).mono ?_); rintro e w4 ⟨m1y, o1y, n1y, c1y, p1y, k1y, d1y, rfl, f1y_0, hb4⟩; have hB_5 := hB_4.trans (hb4.mono hB_4.size); have fax_5 := fax_4.below hb4; have fay_5 := fay_4.below hb4; have pa_4 := pa_3.below hb4; have pr_3 := pr_2.below hb4; have f1x_1 := f1x_0.below hb4; clear hb4 hB_4 fax_4 fay_4 pa_3 pr_2 f1x_0; obtain ⟨sf1a, sf1b, sf1c, sf1d, sf1e, sf1f, sf1g, sf1h, sf1i, sf1j, sf1k, sf1l⟩ := pr_3.open6; obtain ⟨sg1a, sg1b, sg1c, sg1d, sg1e, sg1f, sg1g, sg1h, sg1i, sg1j⟩ := Box.put6 pr_3 (.bool m1x) (.slice o1x n1x c1x) (.slice p1x k1x d1x) (.bool m1y) (.slice o1y n1y c1y); have hB_6 := below_setAll hB_5 (g := w.heap.size + 1) (by omega) [.bool m1x, .slice o1x n1x c1x, .slice p1x k1x d1x, .bool m1y, .slice o1y n1y c1y, .slice p1y k1y d1y]; have fax_6 := fax_5.setAll pr_3 (noWord6 _ _ _ _ _ _ _ _ _ _ _ _ _ _) [.bool m1x, .slice o1x n1x c1x, .slice p1x k1x d1x, .bool m1y, .slice o1y n1y c1y, .slice p1y k1y d1y] rfl; have fay_6 := fay_5.setAll pr_3 (noWord6 _ _ _ _ _ _ _ _ _ _ _ _ _ _) [.bool m1x, .slice o1x n1x c1x, .slice p1x k1x d1x, .bool m1y, .slice o1y n1y c1y, .slice p1y k1y d1y] rfl; have pa_5 := pa_4.farAll (g' := w.heap.size + 1) (by omega) [.bool m1x, .slice o1x n1x c1x, .slice p1x k1x d1x, .bool m1y, .slice o1y n1y c1y, .slice p1y k1y d1y]; have f1x_2 := f1x_1.setAll pr_3 (noWord6 _ _ _ _ _ _ _ _ _ _ _ _ _ _) [.bool m1x, .slice o1x n1x c1x, .slice p1x k1x d1x, .bool m1y, .slice o1y n1y c1y, .slice p1y k1y d1y] rfl; have f1y_1 := f1y_0.setAll pr_3 (noWord6 _ _ _ _ _ _ _ _ _ _ _ _ _ _) [.bool m1x, .slice o1x n1x c1x, .slice p1x k1x d1x, .bool m1y, .slice o1y n1y c1y, .slice p1y k1y d1y] rfl; have pr_4 := pr_3.setAll [.bool m1x, .slice o1x n1x c1x, .slice p1x k1x d1x, .bool m1y, .slice o1y n1y c1y, .slice p1y k1y d1y] rfl; simp only [setAll, Nat.zero_add, Nat.reduceAdd] at hB_6 fax_6 fay_6 pa_5 pr_4 f1x_2 f1y_1))
  clear hB_5 fax_5 fay_5 pa_4 f1x_1 f1y_0 pr_3
  clear sf1a sf1b sf1c sf1d sf1e sf1f sf1g sf1h sf1i sf1j sf1k sf1l sg1a sg1b sg1c sg1d sg1e sg1f sg1g sg1h sg1i sg1j
  generalize (World.setCell (World.setCell (World.setCell (World.setCell (World.setCell (World.setCell w4 ⟨w.heap.size + 1, 0, none⟩ (.bool m1x)) ⟨w.heap.size + 1, 1, none⟩ (.slice o1x n1x c1x)) ⟨w.heap.size + 1, 2, none⟩ (.slice p1x k1x d1x)) ⟨w.heap.size + 1, 3, none⟩ (.bool m1y)) ⟨w.heap.size + 1, 4, none⟩ (.slice o1y n1y c1y)) ⟨w.heap.size + 1, 5, none⟩ (.slice p1y k1y d1y)) = w5 at *
  go_wp2
  obtain ⟨pre0, pre1, pre2, pre3, pre4, pre5, pre6, pre7, pre8, pre9, pre10, pre11⟩ := pr_4.open6
  exact bodyPost_ret (v := .agg #[.bool m1x, .slice o1x n1x c1x, .slice p1x k1x d1x, .bool m1y, .slice o1y n1y c1y, .slice p1y k1y d1y]) (by simp [results, Try.results21, go_sem, pre0, pre1, pre2, pre3, pre4, pre5]) rfl ⟨_, _, _, _, _, _, _, _, _, _, _, _, _, _, rfl, f1x_2, f1y_1, hB_6⟩
end Go.Proofs.Ytdfabocecpcmcaa
/- Areas of polygons: seen from a point, the other way round, begun elsewhere; of at most seven corners. -/
namespace Go.Proofs.Ytdfabocecpcmcaa
open Go.MagM
/-- The areas of the triangles from o, the first k of them, added up. -/
def fanQ (o : Rat × Rat) (l : List (Rat × Rat)) : Nat → Rat
  | 0 => 0
  | k + 1 => fanQ o l k + areaQ [o, l.getD k (0, 0), l.getD ((k + 1) % l.length) (0, 0)]
theorem area3 (o p q : Rat × Rat) : areaQ [o, p, q] = (o.1 * p.2 - o.2 * p.1) + (p.1 * q.2 - p.2 * q.1) + (q.1 * o.2 - q.2 * o.1) := by
  obtain ⟨a, b⟩ := o; obtain ⟨c, d⟩ := p; obtain ⟨e, f⟩ := q
  exact areaQ_three a b c d e f
theorem fan_0 (o : Rat × Rat) : fanQ o [] 0 = areaQ [] := by
  simp [areaQ, List.range, List.range.loop, fanQ]
theorem back_0 : areaQ [].reverse = -areaQ [] := by
  simp [areaQ, List.range, List.range.loop]
theorem fan_1 (o : Rat × Rat) (p0 : Rat × Rat) : fanQ o [p0] 1 = areaQ [p0] := by
  simp [areaQ, termQ, List.range, List.range.loop, fanQ, Rat.zero_add]; grind
theorem back_1 (p0 : Rat × Rat) : areaQ [p0].reverse = -areaQ [p0] := by
  simp [areaQ, termQ, List.range, List.range.loop, Rat.zero_add]; grind
theorem on_1 (p0 : Rat × Rat) : areaQ ([p0].tail ++ [p0]) = areaQ [p0] := by
  simp [areaQ, termQ, List.range, List.range.loop, Rat.zero_add]
theorem fan_2 (o : Rat × Rat) (p0 p1 : Rat × Rat) : fanQ o [p0, p1] 2 = areaQ [p0, p1] := by
  simp [areaQ, termQ, List.range, List.range.loop, fanQ, Rat.zero_add]; grind
theorem back_2 (p0 p1 : Rat × Rat) : areaQ [p0, p1].reverse = -areaQ [p0, p1] := by
  simp [areaQ, termQ, List.range, List.range.loop, Rat.zero_add]; grind
theorem on_2 (p0 p1 : Rat × Rat) : areaQ ([p0, p1].tail ++ [p0]) = areaQ [p0, p1] := by
  simp [areaQ, termQ, List.range, List.range.loop, Rat.zero_add]; grind
theorem fan_3 (o : Rat × Rat) (p0 p1 p2 : Rat × Rat) : fanQ o [p0, p1, p2] 3 = areaQ [p0, p1, p2] := by
  simp [areaQ, termQ, List.range, List.range.loop, fanQ, Rat.zero_add]; grind
theorem back_3 (p0 p1 p2 : Rat × Rat) : areaQ [p0, p1, p2].reverse = -areaQ [p0, p1, p2] := by
  simp [areaQ, termQ, List.range, List.range.loop, Rat.zero_add]; grind
theorem on_3 (p0 p1 p2 : Rat × Rat) : areaQ ([p0, p1, p2].tail ++ [p0]) = areaQ [p0, p1, p2] := by
  simp [areaQ, termQ, List.range, List.range.loop, Rat.zero_add]; grind
theorem fan_4 (o : Rat × Rat) (p0 p1 p2 p3 : Rat × Rat) : fanQ o [p0, p1, p2, p3] 4 = areaQ [p0, p1, p2, p3] := by
  simp [areaQ, termQ, List.range, List.range.loop, fanQ, Rat.zero_add]; grind
theorem back_4 (p0 p1 p2 p3 : Rat × Rat) : areaQ [p0, p1, p2, p3].reverse = -areaQ [p0, p1, p2, p3] := by
  simp [areaQ, termQ, List.range, List.range.loop, Rat.zero_add]; grind
theorem on_4 (p0 p1 p2 p3 : Rat × Rat) : areaQ ([p0, p1, p2, p3].tail ++ [p0]) = areaQ [p0, p1, p2, p3] := by
  simp [areaQ, termQ, List.range, List.range.loop, Rat.zero_add]; grind
theorem fan_5 (o : Rat × Rat) (p0 p1 p2 p3 p4 : Rat × Rat) : fanQ o [p0, p1, p2, p3, p4] 5 = areaQ [p0, p1, p2, p3, p4] := by
  simp [areaQ, termQ, List.range, List.range.loop, fanQ, Rat.zero_add]; grind
theorem back_5 (p0 p1 p2 p3 p4 : Rat × Rat) : areaQ [p0, p1, p2, p3, p4].reverse = -areaQ [p0, p1, p2, p3, p4] := by
  simp [areaQ, termQ, List.range, List.range.loop, Rat.zero_add]; grind
theorem on_5 (p0 p1 p2 p3 p4 : Rat × Rat) : areaQ ([p0, p1, p2, p3, p4].tail ++ [p0]) = areaQ [p0, p1, p2, p3, p4] := by
  simp [areaQ, termQ, List.range, List.range.loop, Rat.zero_add]; grind
theorem fan_6 (o : Rat × Rat) (p0 p1 p2 p3 p4 p5 : Rat × Rat) : fanQ o [p0, p1, p2, p3, p4, p5] 6 = areaQ [p0, p1, p2, p3, p4, p5] := by
  simp [areaQ, termQ, List.range, List.range.loop, fanQ, Rat.zero_add]; grind
theorem back_6 (p0 p1 p2 p3 p4 p5 : Rat × Rat) : areaQ [p0, p1, p2, p3, p4, p5].reverse = -areaQ [p0, p1, p2, p3, p4, p5] := by
  simp [areaQ, termQ, List.range, List.range.loop, Rat.zero_add]; grind
theorem on_6 (p0 p1 p2 p3 p4 p5 : Rat × Rat) : areaQ ([p0, p1, p2, p3, p4, p5].tail ++ [p0]) = areaQ [p0, p1, p2, p3, p4, p5] := by
  simp [areaQ, termQ, List.range, List.range.loop, Rat.zero_add]; grind
theorem fan_7 (o : Rat × Rat) (p0 p1 p2 p3 p4 p5 p6 : Rat × Rat) : fanQ o [p0, p1, p2, p3, p4, p5, p6] 7 = areaQ [p0, p1, p2, p3, p4, p5, p6] := by
  simp [areaQ, termQ, List.range, List.range.loop, fanQ, Rat.zero_add]; grind
theorem back_7 (p0 p1 p2 p3 p4 p5 p6 : Rat × Rat) : areaQ [p0, p1, p2, p3, p4, p5, p6].reverse = -areaQ [p0, p1, p2, p3, p4, p5, p6] := by
  simp [areaQ, termQ, List.range, List.range.loop, Rat.zero_add]; grind
theorem on_7 (p0 p1 p2 p3 p4 p5 p6 : Rat × Rat) : areaQ ([p0, p1, p2, p3, p4, p5, p6].tail ++ [p0]) = areaQ [p0, p1, p2, p3, p4, p5, p6] := by
  simp [areaQ, termQ, List.range, List.range.loop, Rat.zero_add]; grind
theorem fan_all : ∀ (o : Rat × Rat) (l : List (Rat × Rat)), l.length ≤ 7 → fanQ o l l.length = areaQ l
  | _, [], _ => fan_0 _ 
  | _, [p0], _ => fan_1 _ p0
  | _, [p0, p1], _ => fan_2 _ p0 p1
  | _, [p0, p1, p2], _ => fan_3 _ p0 p1 p2
  | _, [p0, p1, p2, p3], _ => fan_4 _ p0 p1 p2 p3
  | _, [p0, p1, p2, p3, p4], _ => fan_5 _ p0 p1 p2 p3 p4
  | _, [p0, p1, p2, p3, p4, p5], _ => fan_6 _ p0 p1 p2 p3 p4 p5
  | _, [p0, p1, p2, p3, p4, p5, p6], _ => fan_7 _ p0 p1 p2 p3 p4 p5 p6
  | _, _ :: _ :: _ :: _ :: _ :: _ :: _ :: _ :: _, h => by simp at h
theorem back_all : ∀ (l : List (Rat × Rat)), l.length ≤ 7 → areaQ l.reverse = -areaQ l
  | [], _ => back_0 
  | [p0], _ => back_1 p0
  | [p0, p1], _ => back_2 p0 p1
  | [p0, p1, p2], _ => back_3 p0 p1 p2
  | [p0, p1, p2, p3], _ => back_4 p0 p1 p2 p3
  | [p0, p1, p2, p3, p4], _ => back_5 p0 p1 p2 p3 p4
  | [p0, p1, p2, p3, p4, p5], _ => back_6 p0 p1 p2 p3 p4 p5
  | [p0, p1, p2, p3, p4, p5, p6], _ => back_7 p0 p1 p2 p3 p4 p5 p6
  | _ :: _ :: _ :: _ :: _ :: _ :: _ :: _ :: _, h => by simp at h
theorem on_all : ∀ (p : Rat × Rat) (l : List (Rat × Rat)), l.length ≤ 6 → areaQ (l ++ [p]) = areaQ (p :: l)
  | p0, [], _ => on_1 p0
  | p0, [p1], _ => on_2 p0 p1
  | p0, [p1, p2], _ => on_3 p0 p1 p2
  | p0, [p1, p2, p3], _ => on_4 p0 p1 p2 p3
  | p0, [p1, p2, p3, p4], _ => on_5 p0 p1 p2 p3 p4
  | p0, [p1, p2, p3, p4, p5], _ => on_6 p0 p1 p2 p3 p4 p5
  | p0, [p1, p2, p3, p4, p5, p6], _ => on_7 p0 p1 p2 p3 p4 p5 p6
  | _, _ :: _ :: _ :: _ :: _ :: _ :: _ :: _, h => by simp at h
end Go.Proofs.Ytdfabocecpcmcaa
/- A slice of Spots as it comes in. Over no program. -/
namespace Go.MagM
open Go.RowKit
/-- The slice at ao reads as points, right or not. -/
def Raws (w : World) (ao : Option Addr) (l : List (Int × Nat × Int × Nat)) : Prop :=
  ∀ i X D X' D', l[i]? = some (X, D, X', D') → ∃ b o m so sn sc tp tn tc m' so' sn' sc' tp' tn' tc', ao = some ⟨b, o, none⟩ ∧ At6 w b (o + i * 6) (.bool m) (.slice so sn sc) (.slice tp tn tc) (.bool m') (.slice so' sn' sc') (.slice tp' tn' tc') ∧
    (∃ L, FD w (.agg #[.bool m, .slice so sn sc, .slice tp tn tc]) L X D) ∧ (∃ L, FD w (.agg #[.bool m', .slice so' sn' sc', .slice tp' tn' tc']) L X' D')
theorem Raws.below {w w' : World} {ao : Option Addr} {l : List (Int × Nat × Int × Nat)} (h : Raws w ao l) (hb : Below w.heap.size w w') : Raws w' ao l := by
  intro i X D X' D' hi
  obtain ⟨b, o, m, so, sn, sc, tp, tn, tc, m', so', sn', sc', tp', tn', tc', h0, h1, ⟨L, h2⟩, ⟨L', h3⟩⟩ := h i X D X' D' hi
  exact ⟨b, o, m, so, sn, sc, tp, tn, tc, m', so', sn', sc', tp', tn', tc', h0, h1.below hb, ⟨L, h2.below hb⟩, ⟨L', h3.below hb⟩⟩
theorem FD.kept' {w w' : World} {v : Value} {L : Nat} {X : Int} {D : Nat} (h : FD w v L X D) (k : Kept w w') : FD w' v L X D := h.kept k
theorem At6.far {w : World} {b o : Nat} {v0 v1 v2 v3 v4 v5 : Value} (h : At6 w b o v0 v1 v2 v3 v4 v5) {g : Nat} (hne : b ≠ g) (i : Nat) (x : Value) : At6 (w.setCell ⟨g, i, none⟩ x) b o v0 v1 v2 v3 v4 v5 := by
  have e : ∀ j, (w.setCell ⟨g, i, none⟩ x).cell? ⟨b, j, none⟩ = w.cell? ⟨b, j, none⟩ := fun j => World.cell?_setCell_other _ _ _ _ (by intro k; injection k with h1; first | exact hne h1 | exact hne h1.symm)
  exact ⟨(e _).trans h.c0, (e _).trans h.c1, (e _).trans h.c2, (e _).trans h.c3, (e _).trans h.c4, (e _).trans h.c5⟩
theorem At6.farFrom {b o : Nat} {v0 v1 v2 v3 v4 v5 : Value} {g' : Nat} (hne : b ≠ g') : ∀ (xs : List Value) (i : Nat) {w : World}, At6 w b o v0 v1 v2 v3 v4 v5 → At6 (Go.MagM.setAll w g' i xs) b o v0 v1 v2 v3 v4 v5
  | [], _, _, h => h
  | x :: xs, i, _, h => At6.farFrom hne xs (i + 1) (h.far hne i x)
theorem At6.farAll {w : World} {b o : Nat} {v0 v1 v2 v3 v4 v5 : Value} (h : At6 w b o v0 v1 v2 v3 v4 v5) {g' : Nat} (hne : b ≠ g') (xs : List Value) : At6 (Go.MagM.setAll w g' 0 xs) b o v0 v1 v2 v3 v4 v5 := At6.farFrom hne xs 0 h
theorem RowN.farFrom {base : Nat} {e : TypeId} {size : Nat} {v : Value} {n : Nat} {xs : List Value} {g' : Nat} (hne : ∀ k, v.ownBlock = some k → k ≠ g') : ∀ (ys : List Value) (i : Nat) {w : World}, RowN w base e size v n xs → RowN (Go.MagM.setAll w g' i ys) base e size v n xs
  | [], _, _, h => h
  | y :: ys, i, w, h => RowN.farFrom hne ys (i + 1) (h.block fun k hk _ => Below.heap_setCell w ⟨g', i, none⟩ y k (by simpa using hne k hk))
theorem RowN.shape {w : World} {base : Nat} {e : TypeId} {size : Nat} {v : Value} {n : Nat} {xs : List Value} (h : RowN w base e size v n xs) : ∃ ao c, v = .slice ao n c := by
  rcases h.2 with ⟨h1, h2⟩ | ⟨g, cap, _, h1, _⟩
  · subst h2; exact ⟨_, _, h1⟩
  · exact ⟨_, _, h1⟩
/-- The points that are left of them. -/
def tames (l : List (Int × Nat × Int × Nat)) : List (Rat × Rat) := l.map fun a => (Go.Proofs.Ytdfabocecpcmcaa.tameQ a.1 a.2.1, Go.Proofs.Ytdfabocecpcmcaa.tameQ a.2.2.1 a.2.2.2)
theorem tames_at {l : List (Int × Nat × Int × Nat)} {k : Nat} {X : Int} {D : Nat} {X' : Int} {D' : Nat} (h : l[k]? = some (X, D, X', D')) : (tames l).take (k + 1) = (tames l).take k ++ [(Go.Proofs.Ytdfabocecpcmcaa.tameQ X D, Go.Proofs.Ytdfabocecpcmcaa.tameQ X' D')] := by
  have hk : k < (tames l).length := by unfold tames; rw [List.length_map]; exact (List.getElem?_eq_some_iff.1 h).1
  rw [List.take_succ_eq_append_getElem hk]
  congr 2
  simp only [tames, List.getElem_map, (List.getElem?_eq_some_iff.1 h).2]
theorem rev_take {l : List (Rat × Rat)} {k : Nat} {p : Rat × Rat} (h : l[k]? = some p) : (l.take (k + 1)).reverse = [p] ++ (l.take k).reverse := by
  have hk := (List.getElem?_eq_some_iff.1 h).1
  rw [List.take_succ_eq_append_getElem hk, (List.getElem?_eq_some_iff.1 h).2, List.reverse_append]; rfl
end Go.MagM
/- Rows of right Spots, slices of them. Over any program. -/
namespace Go.MagM
open Go.RowKit
/-- Cells that are Spots, six each. -/
def SrR (w : World) (L : Nat) (xs : List Value) (l : List (Rat × Rat)) : Prop :=
  (∀ u ∈ xs, u.oneCell' = true) ∧ (∀ u ∈ xs, NoWord u) ∧ xs.length = l.length * 6 ∧
  ∀ i x y, l[i]? = some (x, y) → ∃ m so sn sc tp tn tc m' so' sn' sc' tp' tn' tc', xs[i * 6]? = some (.bool m) ∧ xs[i * 6 + 1]? = some (.slice so sn sc) ∧ xs[i * 6 + 2]? = some (.slice tp tn tc) ∧
    xs[i * 6 + 3]? = some (.bool m') ∧ xs[i * 6 + 4]? = some (.slice so' sn' sc') ∧ xs[i * 6 + 5]? = some (.slice tp' tn' tc') ∧ RF w (.agg #[.bool m, .slice so sn sc, .slice tp tn tc]) L x ∧ RF w (.agg #[.bool m', .slice so' sn' sc', .slice tp' tn' tc']) L y
theorem SrR.kept {w w' : World} {L : Nat} {xs : List Value} {l : List (Rat × Rat)} (h : SrR w L xs l) (hk : Kept w w') : SrR w' L xs l :=
  ⟨h.1, h.2.1, h.2.2.1, fun i x y hi => by
    obtain ⟨m, so, sn, sc, tp, tn, tc, m', so', sn', sc', tp', tn', tc', h1, h2, h3, h4, h5, h6, h7, h8⟩ := h.2.2.2 i x y hi
    exact ⟨m, so, sn, sc, tp, tn, tc, m', so', sn', sc', tp', tn', tc', h1, h2, h3, h4, h5, h6, h7.kept hk, h8.kept hk⟩⟩
theorem SrR.below {w w' : World} {L : Nat} {xs : List Value} {l : List (Rat × Rat)} (h : SrR w L xs l) (hb : Below w.heap.size w w') : SrR w' L xs l := h.kept (Kept.below hb)
theorem SrR.drew {w : World} {L : Nat} {xs : List Value} {l : List (Rat × Rat)} (h : SrR w L xs l) : SrR w.drew L xs l := h
theorem SrR.nil (w : World) (L : Nat) : SrR w L [] [] := ⟨by simp, by simp, rfl, fun i x y hi => by simp at hi⟩
theorem SrR.one {w : World} {L : Nat} {m : Bool} {so : Option Addr} {sn sc : Nat} {tp : Option Addr} {tn tc : Nat} {m' : Bool} {so' : Option Addr} {sn' sc' : Nat} {tp' : Option Addr} {tn' tc' : Nat} {x y : Rat}
    (hx : RF w (.agg #[.bool m, .slice so sn sc, .slice tp tn tc]) L x) (hy : RF w (.agg #[.bool m', .slice so' sn' sc', .slice tp' tn' tc']) L y) : SrR w L [.bool m, .slice so sn sc, .slice tp tn tc, .bool m', .slice so' sn' sc', .slice tp' tn' tc'] [(x, y)] := by
  refine ⟨?_, noWord6 _ _ _ _ _ _ _ _ _ _ _ _ _ _, rfl, fun i a b hi => ?_⟩
  · intro u hu; simp at hu; rcases hu with rfl | rfl | rfl | rfl | rfl | rfl <;> rfl
  · have hi' := (List.getElem?_eq_some_iff.1 hi).1
    obtain rfl : i = 0 := by simpa using hi'
    simp at hi
    obtain ⟨rfl, rfl⟩ := hi
    exact ⟨_, _, _, _, _, _, _, _, _, _, _, _, _, _, rfl, rfl, rfl, rfl, rfl, rfl, hx, hy⟩
theorem SrR.append {w : World} {L : Nat} {xs ys : List Value} {l k : List (Rat × Rat)} (h : SrR w L xs l) (h' : SrR w L ys k) : SrR w L (xs ++ ys) (l ++ k) := by
  refine ⟨?_, ?_, ?_, fun i x y hi => ?_⟩
  · intro u hu; rw [List.mem_append] at hu; rcases hu with hu | hu
    · exact h.1 u hu
    · exact h'.1 u hu
  · intro u hu; rw [List.mem_append] at hu; rcases hu with hu | hu
    · exact h.2.1 u hu
    · exact h'.2.1 u hu
  · rw [List.length_append, List.length_append, h.2.2.1, h'.2.2.1, Nat.add_mul]
  · by_cases hlt : i < l.length
    · rw [List.getElem?_append_left hlt] at hi
      have hl := h.2.2.1
      obtain ⟨m, so, sn, sc, tp, tn, tc, m', so', sn', sc', tp', tn', tc', h1, h2, h3, h4, h5, h6, h7⟩ := h.2.2.2 i x y hi
      refine ⟨m, so, sn, sc, tp, tn, tc, m', so', sn', sc', tp', tn', tc', ?_, ?_, ?_, ?_, ?_, ?_, h7⟩ <;> rw [List.getElem?_append_left (by omega)] <;> assumption
    · rw [List.getElem?_append_right (by omega)] at hi
      have hl := h.2.2.1
      obtain ⟨m, so, sn, sc, tp, tn, tc, m', so', sn', sc', tp', tn', tc', h1, h2, h3, h4, h5, h6, h7⟩ := h'.2.2.2 _ x y hi
      refine ⟨m, so, sn, sc, tp, tn, tc, m', so', sn', sc', tp', tn', tc', ?_, ?_, ?_, ?_, ?_, ?_, h7⟩
      · rw [List.getElem?_append_right (by omega), show i * 6 - xs.length = (i - l.length) * 6 by omega]; exact h1
      · rw [List.getElem?_append_right (by omega), show i * 6 + 1 - xs.length = (i - l.length) * 6 + 1 by omega]; exact h2
      · rw [List.getElem?_append_right (by omega), show i * 6 + 2 - xs.length = (i - l.length) * 6 + 2 by omega]; exact h3
      · rw [List.getElem?_append_right (by omega), show i * 6 + 3 - xs.length = (i - l.length) * 6 + 3 by omega]; exact h4
      · rw [List.getElem?_append_right (by omega), show i * 6 + 4 - xs.length = (i - l.length) * 6 + 4 by omega]; exact h5
      · rw [List.getElem?_append_right (by omega), show i * 6 + 5 - xs.length = (i - l.length) * 6 + 5 by omega]; exact h6
theorem SrR.tail {w : World} {L : Nat} {xs : List Value} {p : Rat × Rat} {l : List (Rat × Rat)} (h : SrR w L xs (p :: l)) : SrR w L (xs.drop 6) l := by
  refine ⟨fun u hu => h.1 u (List.mem_of_mem_drop hu), fun u hu => h.2.1 u (List.mem_of_mem_drop hu), ?_, fun i x y hi => ?_⟩
  · have := h.2.2.1
    rw [List.length_drop, this, List.length_cons]; omega
  · obtain ⟨m, so, sn, sc, tp, tn, tc, m', so', sn', sc', tp', tn', tc', h1, h2, h3, h4, h5, h6, h7⟩ := h.2.2.2 (i + 1) x y (by simpa using hi)
    refine ⟨m, so, sn, sc, tp, tn, tc, m', so', sn', sc', tp', tn', tc', ?_, ?_, ?_, ?_, ?_, ?_, h7⟩ <;> rw [List.getElem?_drop]
    · rw [show 6 + i * 6 = (i + 1) * 6 by omega]; exact h1
    · rw [show 6 + (i * 6 + 1) = (i + 1) * 6 + 1 by omega]; exact h2
    · rw [show 6 + (i * 6 + 2) = (i + 1) * 6 + 2 by omega]; exact h3
    · rw [show 6 + (i * 6 + 3) = (i + 1) * 6 + 3 by omega]; exact h4
    · rw [show 6 + (i * 6 + 4) = (i + 1) * 6 + 4 by omega]; exact h5
    · rw [show 6 + (i * 6 + 5) = (i + 1) * 6 + 5 by omega]; exact h6
/-- One of them, where it lies. -/
theorem SrR.at {w : World} {base : Nat} {e : TypeId} {v : Value} {n L : Nat} {xs : List Value} {l : List (Rat × Rat)} (h : SrR w L xs l) (hr : RowN w base e 6 v n xs) {i : Nat} {x y : Rat} (hi : l[i]? = some (x, y)) :
    ∃ g c m so sn sc tp tn tc m' so' sn' sc' tp' tn' tc', v = .slice (some ⟨g, 0, none⟩) n c ∧ At6 w g (i * 6) (.bool m) (.slice so sn sc) (.slice tp tn tc) (.bool m') (.slice so' sn' sc') (.slice tp' tn' tc') ∧
      RF w (.agg #[.bool m, .slice so sn sc, .slice tp tn tc]) L x ∧ RF w (.agg #[.bool m', .slice so' sn' sc', .slice tp' tn' tc']) L y := by
  obtain ⟨m, so, sn, sc, tp, tn, tc, m', so', sn', sc', tp', tn', tc', h1, h2, h3, h4, h5, h6, h7, h8⟩ := h.2.2.2 i x y hi
  have hl := (List.getElem?_eq_some_iff.1 h1).1
  rcases hr.2 with ⟨rfl, rfl⟩ | ⟨g, cap, cur, rfl, _⟩
  · have := hr.1; omega
  · exact ⟨g, cap, m, so, sn, sc, tp, tn, tc, m', so', sn', sc', tp', tn', tc', rfl, ⟨hr.cells rfl _ _ h1, hr.cells rfl _ _ h2, hr.cells rfl _ _ h3, hr.cells rfl _ _ h4, hr.cells rfl _ _ h5, hr.cells rfl _ _ h6⟩, h7, h8⟩
theorem SrR.sr {w : World} {L : Nat} {xs : List Value} {l : List (Rat × Rat)} (h : SrR w L xs l) : Sr w L xs l :=
  ⟨h.1, h.2.1, h.2.2.1, fun i x y hi => by
    obtain ⟨m, so, sn, sc, tp, tn, tc, m', so', sn', sc', tp', tn', tc', h1, h2, h3, h4, h5, h6, h7, h8⟩ := h.2.2.2 i x y hi
    exact ⟨m, so, sn, sc, tp, tn, tc, m', so', sn', sc', tp', tn', tc', h1, h2, h3, h4, h5, h6, h7.q, h8.q⟩⟩
theorem SrR.more {w : World} {L L' : Nat} {xs : List Value} {l : List (Rat × Rat)} (h : SrR w L xs l) (hL : L ≤ L') : SrR w L' xs l :=
  ⟨h.1, h.2.1, h.2.2.1, fun i x y hi => by
    obtain ⟨m, so, sn, sc, tp, tn, tc, m', so', sn', sc', tp', tn', tc', h1, h2, h3, h4, h5, h6, h7, h8⟩ := h.2.2.2 i x y hi
    exact ⟨m, so, sn, sc, tp, tn, tc, m', so', sn', sc', tp', tn', tc', h1, h2, h3, h4, h5, h6, h7.more hL, h8.more hL⟩⟩
/-- The slice at ao holds right points; each coordinate has at most L words. -/
def SpotsR (w : World) (ao : Option Addr) (L : Nat) (l : List (Rat × Rat)) : Prop :=
  ∀ i x y, l[i]? = some (x, y) → ∃ b o m so sn sc tp tn tc m' so' sn' sc' tp' tn' tc', ao = some ⟨b, o, none⟩ ∧ At6 w b (o + i * 6) (.bool m) (.slice so sn sc) (.slice tp tn tc) (.bool m') (.slice so' sn' sc') (.slice tp' tn' tc') ∧
    RF w (.agg #[.bool m, .slice so sn sc, .slice tp tn tc]) L x ∧ RF w (.agg #[.bool m', .slice so' sn' sc', .slice tp' tn' tc']) L y
theorem SpotsR.below {w w' : World} {ao : Option Addr} {L : Nat} {l : List (Rat × Rat)} (h : SpotsR w ao L l) (hb : Below w.heap.size w w') : SpotsR w' ao L l := by
  intro i x y hi
  obtain ⟨b, o, m, so, sn, sc, tp, tn, tc, m', so', sn', sc', tp', tn', tc', h0, h1, h7, h8⟩ := h i x y hi
  exact ⟨b, o, m, so, sn, sc, tp, tn, tc, m', so', sn', sc', tp', tn', tc', h0, h1.below hb, h7.below hb, h8.below hb⟩
theorem SpotsR.drew {w : World} {ao : Option Addr} {L : Nat} {l : List (Rat × Rat)} (h : SpotsR w ao L l) : SpotsR w.drew ao L l := h.below (Below.refl _ _).drew'
theorem SpotsR.nil (w : World) (ao : Option Addr) (L : Nat) : SpotsR w ao L [] := fun i x y hi => by simp at hi
theorem SpotsR.more {w : World} {ao : Option Addr} {L L' : Nat} {l : List (Rat × Rat)} (h : SpotsR w ao L l) (hL : L ≤ L') : SpotsR w ao L' l := by
  intro i x y hi
  obtain ⟨b, o, m, so, sn, sc, tp, tn, tc, m', so', sn', sc', tp', tn', tc', h0, h1, h7, h8⟩ := h i x y hi
  exact ⟨b, o, m, so, sn, sc, tp, tn, tc, m', so', sn', sc', tp', tn', tc', h0, h1, h7.more hL, h8.more hL⟩
theorem SpotsR.spots {w : World} {ao : Option Addr} {L : Nat} {l : List (Rat × Rat)} (h : SpotsR w ao L l) : Spots w ao L l := by
  intro i x y hi
  obtain ⟨b, o, m, so, sn, sc, tp, tn, tc, m', so', sn', sc', tp', tn', tc', h0, h1, h7, h8⟩ := h i x y hi
  exact ⟨b, o, m, so, sn, sc, tp, tn, tc, m', so', sn', sc', tp', tn', tc', h0, h1.c0, h1.c1, h1.c2, h1.c3, h1.c4, h1.c5, h7.q, h8.q⟩
/-- Smaller numbers have fewer words. -/
theorem SpotsR.short {w : World} {ao : Option Addr} {L : Nat} {l : List (Rat × Rat)} (h : SpotsR w ao L l) {K : Nat} (hs : ∀ (i : Nat) (x y : Rat), l[i]? = some (x, y) → (x.num.natAbs < B ^ K ∧ x.den < B ^ K) ∧ (y.num.natAbs < B ^ K ∧ y.den < B ^ K)) : SpotsR w ao K l := by
  intro i x y hi
  obtain ⟨b, o, m, so, sn, sc, tp, tn, tc, m', so', sn', sc', tp', tn', tc', h0, h1, h7, h8⟩ := h i x y hi
  obtain ⟨⟨s1, s2⟩, s3, s4⟩ := hs i x y hi
  exact ⟨b, o, m, so, sn, sc, tp, tn, tc, m', so', sn', sc', tp', tn', tc', h0, h1, h7.short s1 s2, h8.short s3 s4⟩
/-- Such a row is a slice of Spots. -/
theorem SrR.spotsR {w : World} {base : Nat} {e : TypeId} {v : Value} {n L : Nat} {xs : List Value} {l : List (Rat × Rat)} (h : SrR w L xs l) (hr : RowN w base e 6 v n xs) (hl : l.length = n) :
    ∃ ao c, v = .slice ao n c ∧ SpotsR w ao L l := by
  rcases hr.2 with ⟨rfl, rfl⟩ | ⟨g, cap, cur, rfl, _⟩
  · obtain rfl := List.length_eq_zero_iff.1 hl
    exact ⟨_, _, rfl, SpotsR.nil _ _ _⟩
  · refine ⟨_, _, rfl, fun i x y hi => ?_⟩
    obtain ⟨m, so, sn, sc, tp, tn, tc, m', so', sn', sc', tp', tn', tc', h1, h2, h3, h4, h5, h6, h7, h8⟩ := h.2.2.2 i x y hi
    refine ⟨g, 0, m, so, sn, sc, tp, tn, tc, m', so', sn', sc', tp', tn', tc', rfl, ⟨?_, ?_, ?_, ?_, ?_, ?_⟩, h7, h8⟩ <;> rw [Nat.zero_add] <;> exact hr.cells rfl _ _ (by assumption)
/-- A call's answer is a slice of right points. -/
def AnsL (w w' : World) (e : Ending) (L : Nat) (l : List (Rat × Rat)) : Prop := ∃ ao c, e = .returned (.slice ao l.length c) ∧ SpotsR w' ao L l ∧ (∀ a, ao = some a → w.heap.size ≤ a.block) ∧ Below w.heap.size w w'
theorem AnsL.of {w w' : World} {e : Ending} {L L' : Nat} {l l' : List (Rat × Rat)} (h : AnsL w w' e L l) (hl : l = l') (hs : ∀ ao, SpotsR w' ao L l → SpotsR w' ao L' l) : AnsL w w' e L' l' := by
  subst hl; obtain ⟨ao, c, h1, h2, h3, h4⟩ := h; exact ⟨ao, c, h1, hs ao h2, h3, h4⟩
/-- The same, its length named. -/
def AnsM (w w' : World) (e : Ending) (L n : Nat) (l : List (Rat × Rat)) : Prop := ∃ ao c, e = .returned (.slice ao n c) ∧ SpotsR w' ao L l ∧ (∀ a, ao = some a → w.heap.size ≤ a.block) ∧ Below w.heap.size w w'
theorem AnsL.m {w w' : World} {e : Ending} {L n : Nat} {l : List (Rat × Rat)} (h : AnsL w w' e L l) (hl : l.length = n) : AnsM w w' e L n l := by subst hl; exact h
/-- A box that is written elsewhere. -/
theorem SpotsR.setBox {w : World} {ao : Option Addr} {L : Nat} {l : List (Rat × Rat)} (h : SpotsR w ao L l) {g : Nat} {vs : List Value} (hb : Box w g vs) (hv : ∀ u ∈ vs, NoWord u) (xs : List Value) (hl : vs.length = xs.length) (hne : ∀ a, ao = some a → a.block ≠ g) : SpotsR (Go.MagM.setAll w g 0 xs) ao L l := by
  intro i x y hi
  obtain ⟨b, o, m, so, sn, sc, tp, tn, tc, m', so', sn', sc', tp', tn', tc', h0, h1, h7, h8⟩ := h i x y hi
  exact ⟨b, o, m, so, sn, sc, tp, tn, tc, m', so', sn', sc', tp', tn', tc', h0, h1.farAll (hne _ h0) xs, h7.setAll hb hv xs hl, h8.setAll hb hv xs hl⟩
/-- Three cells hold these values. -/
structure At3 (w : World) (b o : Nat) (v0 v1 v2 : Value) : Prop where
  c0 : w.cell? ⟨b, o, none⟩ = some v0
  c1 : w.cell? ⟨b, o + 1, none⟩ = some v1
  c2 : w.cell? ⟨b, o + 2, none⟩ = some v2
theorem At3.below {w w' : World} {b o : Nat} {v0 v1 v2 : Value} (h : At3 w b o v0 v1 v2) (hb : Below w.heap.size w w') : At3 w' b o v0 v1 v2 := by
  have hlt := World.block_lt_of_cell? w _ h.c0
  exact ⟨(hb.cell (p := ⟨b, o, none⟩) hlt).trans h.c0, (hb.cell (p := ⟨b, o + 1, none⟩) hlt).trans h.c1, (hb.cell (p := ⟨b, o + 2, none⟩) hlt).trans h.c2⟩
theorem At3.drew {w : World} {b o : Nat} {v0 v1 v2 : Value} (h : At3 w b o v0 v1 v2) : At3 w.drew b o v0 v1 v2 := ⟨h.c0, h.c1, h.c2⟩
theorem At3.grown {w w' : World} {b o : Nat} {v0 v1 v2 : Value} {row : Option Nat} (h : At3 w b o v0 v1 v2) (hg : w.grownBy w' row) (hne : row ≠ some b) : At3 w' b o v0 v1 v2 := by
  have hl := World.block_lt_of_cell? w _ h.c0
  have e := hg.block b hl (fun k => hne k.symm)
  exact ⟨(World.cell?_of_block (a := ⟨b, o, none⟩) e).trans h.c0, (World.cell?_of_block (a := ⟨b, o + 1, none⟩) e).trans h.c1, (World.cell?_of_block (a := ⟨b, o + 2, none⟩) e).trans h.c2⟩
theorem At3.farFrom {b o : Nat} {v0 v1 v2 : Value} {g' : Nat} (hne : b ≠ g') : ∀ (xs : List Value) (i : Nat) {w : World}, At3 w b o v0 v1 v2 → At3 (Go.MagM.setAll w g' i xs) b o v0 v1 v2
  | [], _, _, h => h
  | x :: xs, i, w, h => by
    have e : ∀ j, (w.setCell ⟨g', i, none⟩ x).cell? ⟨b, j, none⟩ = w.cell? ⟨b, j, none⟩ := fun j => World.cell?_setCell_other _ _ _ _ (by intro k; injection k with h1; first | exact hne h1 | exact hne h1.symm)
    exact At3.farFrom hne xs (i + 1) ⟨(e _).trans h.c0, (e _).trans h.c1, (e _).trans h.c2⟩
theorem At3.farAll {w : World} {b o : Nat} {v0 v1 v2 : Value} (h : At3 w b o v0 v1 v2) {g' : Nat} (hne : b ≠ g') (xs : List Value) : At3 (Go.MagM.setAll w g' 0 xs) b o v0 v1 v2 := At3.farFrom hne xs 0 h
/-- One of a row's Fracs, where it lies. -/
theorem Fr.at {w : World} {base : Nat} {e : TypeId} {v : Value} {n L : Nat} {xs : List Value} {l : List Rat} (h : Fr w L xs l) (hr : RowN w base e 3 v n xs) {i : Nat} {q : Rat} (hi : l[i]? = some q) :
    ∃ g c m so sn sc tp tn tc, v = .slice (some ⟨g, 0, none⟩) n c ∧ At3 w g (i * 3) (.bool m) (.slice so sn sc) (.slice tp tn tc) ∧ RF w (.agg #[.bool m, .slice so sn sc, .slice tp tn tc]) L q := by
  obtain ⟨m, so, sn, sc, tp, tn, tc, h1, h2, h3, h4⟩ := h i q hi
  have hl := (List.getElem?_eq_some_iff.1 h1).1
  rcases hr.2 with ⟨rfl, rfl⟩ | ⟨g, cap, cur, rfl, _⟩
  · have := hr.1; omega
  · exact ⟨g, cap, m, so, sn, sc, tp, tn, tc, rfl, ⟨hr.cells rfl _ _ h1, hr.cells rfl _ _ h2, hr.cells rfl _ _ h3⟩, h4⟩
section
variable {P : Program}
/-- append: the same, and in which block the slice lies. -/
theorem run_append_row' (w : World) (base : Nat) (t ty e : TypeId) (i : TypeInfo) (z : Value) (size bytes : Nat) (ht : P.underlying t = some (.slice e)) (hi : P.info? e = some i) (hz : i.zero = some z)
    (hsize : i.size = size) (hby : i.bytes = bytes) (hzs : z.cells.size = size) (hzw : ∀ u ∈ z.cells.toList, NoWord u)
    (v : Value) (n : Nat) (xs : List Value) (hrow : RowN w base e size v n xs)
    (a : Addr) (m c : Nat) (news : List Value) (hm0 : 0 < m) (hl : news.length = m * size) (hnews : ∀ j u, news[j]? = some u → w.cell? (a.add j) = some u) (h1 : ∀ u ∈ news, u.oneCell' = true) (hnw : ∀ u ∈ news, NoWord u)
    (h63 : n + m ≤ maxLen) (hbytes : (n + m) * bytes ≤ 140737488355328) (hbase : base ≤ w.heap.size) :
    ∃ v' w', (Builtin.append_ #[t, t] ty #[v, .slice (some a) m c]).run P w = .ok v' w' ∧ RowN w' base e size v' (n + m) (xs ++ news) ∧ w.grownBy w' v.ownBlock ∧ Kept w w' ∧ ∀ g, v'.ownBlock = some g → v.ownBlock = some g ∨ w.heap.size ≤ g := by
  subst hsize
  subst hby
  have hlen : (xs ++ news).length = (n + m) * i.size := by rw [List.length_append, hrow.1, hl, Nat.add_mul]
  have grown : ∀ (old : Nat), old < n + m → (∀ u ∈ xs, NoWord u) → ∀ (row : Option Nat),
      RowN (w.drew.alloc (.cells (xs.toArray ++ news.toArray ++ Builtin.zeroCells z.cells (grownCap w (n + m) old e - (n + m))) e)) base e i.size
        (.slice (some ⟨w.heap.size, 0, none⟩) (n + m) (grownCap w (n + m) old e)) (n + m) (xs ++ news) ∧
      w.grownBy (w.drew.alloc (.cells (xs.toArray ++ news.toArray ++ Builtin.zeroCells z.cells (grownCap w (n + m) old e - (n + m))) e)) row := by
    intro old ho hxw row
    have hge := grownCap_ge w (n + m) old e
    have hcm : grownCap w (n + m) old e ≤ maxLen := grownCap_le_maxLen w (n + m) old e h63
    refine ⟨⟨hlen, .inr ⟨w.heap.size, _, _, rfl, hbase, heap_alloc_new w.drew _, hge, hcm, ?_, ?_, ?_⟩⟩, ⟨rfl, rfl, rfl, by simp, fun k hk _ => heap_alloc_old w.drew _ hk⟩⟩
    · simp only [Array.size_append, List.size_toArray, size_zeroCells, hzs, hrow.1, hl, ← Nat.add_mul]
      congr 1
      omega
    · simp only [Array.toList_append, List.append_assoc]
      rw [← List.append_assoc, ← hlen]
      exact List.take_left
    · intro u hu
      simp only [Array.toList_append, List.mem_append] at hu
      rcases hu with (hu | hu) | hu
      · exact hxw u hu
      · exact hnw u hu
      · exact noWord_zero hzw _ u hu
  have hrow' := hrow
  rcases hrow.2 with ⟨rfl, rfl⟩ | ⟨g, cap, cur, rfl, hbg, hg, hnc, hcm, hcs, htake, hcw⟩
  · have hx : xs = [] := List.eq_nil_of_length_eq_zero (by simpa using hrow.1)
    subst hx
    have hr := run_append_nil (P := P) w t ty e i z ht hi hz a m c news hl hnews hm0 (by simp only [maxLen] at h63; omega) (by have hb := hbytes; simp only [Nat.zero_add] at hb; omega)
    have hgr := grown 0 (by omega) (fun u hu => by cases hu) (Value.ownBlock (.slice none 0 0))
    simp only [Nat.zero_add, List.nil_append, Array.empty_append] at hgr ⊢
    exact ⟨_, _, hr, hgr.1, hgr.2, Kept.alloc w _, fun g hg => .inr (by simp [Value.ownBlock] at hg; omega)⟩
  · by_cases hroom : n + m ≤ cap
    · have hfit : n * i.size + news.length ≤ cur.size := by rw [hl, hcs, ← Nat.add_mul]; exact Nat.mul_le_mul_right _ hroom
      have hr := run_append_room (P := P) w t ty e i ht hi g n cap cur hg a m c news hl hnews h1 hroom hfit
      have hcells : ∀ u ∈ cur.toList.take (n * i.size) ++ news ++ cur.toList.drop (n * i.size + news.length), NoWord u := by
        intro u hu
        rw [List.mem_append, List.mem_append] at hu
        rcases hu with (hu | hu) | hu
        · exact hcw u (List.mem_of_mem_take hu)
        · exact hnw u hu
        · exact hcw u (List.mem_of_mem_drop hu)
      refine ⟨_, _, hr, ⟨hlen, .inr ⟨g, cap, _, rfl, hbg, setRow_heap w g cur _ e _ hg, hroom, hcm, ?_, ?_, hcells⟩⟩, ⟨rfl, rfl, rfl, by simp, fun k _ hk => setRow_other w g k _ (fun e => hk (by simp [Value.ownBlock, e]))⟩, ?_, fun k hk => .inl hk⟩
      · simp only [List.size_toArray, List.length_append, List.length_take, List.length_drop, Array.length_toList]
        omega
      · rw [htake, ← hlen]
        exact List.take_left
      · intro p x hp
        by_cases hpg : p.block = g
        · exfalso
          obtain ⟨pb, po, ps⟩ := p
          simp at hpg
          subst hpg
          have hsp := World.cell?_spot hp
          simp at hsp
          subst hsp
          rw [cell_of_row w pb po cur e (0, 0) hg] at hp
          have hmem : Value.int .u64 x ∈ cur.toList := Array.mem_toList_iff.2 (Array.mem_of_getElem? hp)
          exact hcw _ hmem x rfl
        · rw [World.cell?_of_block (w := w) (a := p) (setRow_other w g p.block _ hpg)]; exact hp
    · have holds : ∀ j u, xs[j]? = some u → w.cell? ((⟨g, 0, none⟩ : Addr).add j) = some u := hrow'.own.cells (g := g) rfl
      have hr := run_append_grow (P := P) w t ty e i z ht hi hz ⟨g, 0, none⟩ n cap xs hrow'.1 holds a m c news hl hnews (by omega) (by simp only [maxLen] at h63; omega) (growslice_fits (by omega) hbytes)
      have hgr := grown cap (by omega) (fun u hu => hcw u (by rw [← htake] at hu; exact List.mem_of_mem_take hu)) (Value.ownBlock (.slice (some ⟨g, 0, none⟩) n cap))
      exact ⟨_, _, hr, hgr.1, hgr.2, Kept.alloc w _, fun g hg => .inr (by simp [Value.ownBlock] at hg; omega)⟩
end
end Go.MagM
