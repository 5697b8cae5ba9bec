/- The calls of pred: Circle. -/
import Derived.Test.YtkcfaddilknelaaPartk
import Derived.Test.YtkcfaddilknelaaPartm
import Derived.Test.YtkcfaddilknelaaParth
import Derived.Test.YtkcfaddilknelaaParti
import Derived.Test.YtkcfaddilknelaaPartl
namespace Go.Proofs.Ytkcfaddilknelaa
open Go.RowKit Go.MagM
theorem nums3_box {w : World} {g : Nat} {L1 L2 L3 : Nat} {X Y Z : Int} {m1 m2 m3 : Bool} {o1 o2 o3 : Option Addr} {n1 c1 n2 c2 n3 c3 : Nat} (h : Box w g [.bool m1, .slice o1 n1 c1, .bool m2, .slice o2 n2 c2, .bool m3, .slice o3 n3 c3])
    (h1 : Num w (.agg #[.bool m1, .slice o1 n1 c1]) L1 X) (h2 : Num w (.agg #[.bool m2, .slice o2 n2 c2]) L2 Y) (h3 : Num w (.agg #[.bool m3, .slice o3 n3 c3]) L3 Z) :
    Nums w (some ⟨g, 0, none⟩) [(L1, X), (L2, Y), (L3, Z)] := by
  intro i L Z hi
  have hi2 : i < 3 := by have := (List.getElem?_eq_some_iff.1 hi).1; simpa using this
  obtain rfl | rfl | rfl : i = 0 ∨ i = 1 ∨ i = 2 := by omega
  · simp at hi; obtain ⟨rfl, rfl⟩ := hi
    exact ⟨_, 0, m1, o1, n1, c1, rfl, h.c0, h.c1, h1⟩
  · simp at hi; obtain ⟨rfl, rfl⟩ := hi
    exact ⟨_, 0, m2, o2, n2, c2, rfl, h.c2, h.c3, h2⟩
  · simp at hi; obtain ⟨rfl, rfl⟩ := hi
    exact ⟨_, 0, m3, o3, n3, c3, rfl, h.c4, h.c5, h3⟩
theorem Sign_named (va : Value) (L : Nat) (X s : Int) (w : World) (hL : L ≤ 4000000000) (ha : Num w va L X) (h : X.sign = s) :
    Calls Try.prog 41 #[va] w fun e w' => e = .returned (.int .i64 s) ∧ Below w.heap.size w w' := by
  subst h; exact Sign_any va L X w hL ha
theorem Cmp_named (va vb : Value) (L L' : Nat) (X Y s : Int) (w : World) (hL : L ≤ 4000000000) (hL' : L' ≤ 4000000000) (ha : Num w va L X) (hb : Num w vb L' Y) (h : icmp X Y = s) :
    Calls Try.prog 58 #[va, vb] w fun e w' => e = .returned (.int .i64 s) ∧ Below w.heap.size w w' := by
  subst h; exact nCmp_any va vb L L' X Y w hL hL' ha hb
end Go.Proofs.Ytkcfaddilknelaa
/- The calls of spot: less, beyond, Centre. -/
namespace Go.Proofs.Ytkcfaddilknelaa
open Go.RowKit Go.MagM
def AnsSt (w w' : World) (e : Ending) (L : Nat) (p q : Rat) : Prop := ∃ m ao n c bo k d m2 ao2 n2 c2 bo2 k2 d2, e = .returned (.tuple #[.agg #[.bool m, .slice ao n c, .slice bo k d, .bool m2, .slice ao2 n2 c2, .slice bo2 k2 d2], .bool true]) ∧
  RF w' (.agg #[.bool m, .slice ao n c, .slice bo k d]) L p ∧ RF w' (.agg #[.bool m2, .slice ao2 n2 c2, .slice bo2 k2 d2]) L q ∧ Below w.heap.size w w'
theorem AnsSt.of {w w' : World} {e : Ending} {L L' : Nat} {p q p' q' : Rat} (h : AnsSt w w' e L p q) (hL : L ≤ L') (hp : p = p') (hq : q = q') : AnsSt w w' e L' p' q' := by
  subst hp hq; obtain ⟨m, ao, n, c, bo, k, d, m2, ao2, n2, c2, bo2, k2, d2, h1, h2, h3, h4⟩ := h; exact ⟨m, ao, n, c, bo, k, d, m2, ao2, n2, c2, bo2, k2, d2, h1, h2.more hL, h3.more hL, h4⟩
set_option maxHeartbeats 4000000 in
theorem sless_any {am : Bool} {ao : Option Addr} {an ac : Nat} {bm : Bool} {bo : Option Addr} {bn bc : Nat} (La Lb : Nat) (Xa Xb p q : Int) (w : World) (ha : La ≤ 1000000) (hb : Lb ≤ 1000000) (hp1 : -9223372036854775808 ≤ p) (hp2 : p < 9223372036854775808) (hq1 : -9223372036854775808 ≤ q) (hq2 : q < 9223372036854775808) (fa_0 : Num w (.agg #[.bool am, .slice ao an ac]) La Xa) (fb_0 : Num w (.agg #[.bool bm, .slice bo bn bc]) Lb Xb) :
    Calls Try.prog 42 #[.agg #[.bool am, .slice ao an ac], .int .i64 p, .agg #[.bool bm, .slice bo bn bc], .int .i64 q] w fun e w' => AnsNum w w' e (max (La + 1) (Lb + 1) + 1) (Xa * p - Xb * q) := by
  have hB_0 := Below.refl w.heap.size w
  have HP1 := Lib.hid hp1; have HP2 := Lib.hid hp2; have HQ1 := Lib.hid hq1; have HQ2 := Lib.hid hq2; have HA := Lib.hid ha; have HB := Lib.hid hb
  clear hp1 hp2 hq1 hq2 ha hb
  obtain ⟨w1, hw1, pa_0, hb1, hs1⟩ := new_box w (w.heap.size) rfl [.bool am, .slice ao an ac] 29
  have hb1' : Below w.heap.size w w1 := hb1.mono (by omega)
  clear hb1
  have hB_1 := hB_0.trans (hb1'.mono hB_0.size)
  have fa_1 := fa_0.below hb1'
  have fb_1 := fb_0.below hb1'
  clear hb1' hB_0 fa_0 fb_0
  obtain ⟨w2, hw2, pb_0, hb2, hs2⟩ := new_box w1 (w.heap.size + 1) hs1 [.bool bm, .slice bo bn bc] 29
  have hb2' : Below w1.heap.size w1 w2 := hb2.mono (by omega)
  clear hb2
  have hB_2 := hB_1.trans (hb2'.mono hB_1.size)
  have fa_2 := fa_1.below hb2'
  have fb_2 := fb_1.below hb2'
  have pa_1 := pa_0.below hb2'
  clear hb2' hB_1 fa_1 fb_1 pa_0
  obtain ⟨w3, hw3, pr_0, hb3, hs3⟩ := new_box w2 (w.heap.size + 1 + 1) hs2 [.bool false, .slice none 0 0] 29
  have hb3' : Below w2.heap.size w2 w3 := hb3.mono (by omega)
  clear hb3
  have hB_3 := hB_2.trans (hb3'.mono hB_2.size)
  have fa_3 := fa_2.below hb3'
  have fb_3 := fb_2.below hb3'
  have pa_2 := pa_1.below hb3'
  have pb_1 := pb_0.below hb3'
  clear hb3' hB_2 fa_2 fb_2 pa_1 pb_0
  go_enter Try.func42, Try.ntmps42
  go_wp2
  have hB_4 := hB_3.drew'
  have fa_4 := fa_3.drew
  have fb_4 := fb_3.drew
  have pa_3 := pa_2.drew
  have pb_2 := pb_1.drew
  have pr_1 := pr_0.drew
  clear hB_3 fa_3 fb_3 pa_2 pb_1 pr_0
  go_region_held3 (fun w' => w'.cell? ⟨w.heap.size, 0, none⟩ = some (.bool am) ∧ w'.cell? ⟨w.heap.size, 1, none⟩ = some (.slice ao an ac) ∧ w'.cell? ⟨w.heap.size + 1, 0, none⟩ = some (.bool bm) ∧ w'.cell? ⟨w.heap.size + 1, 1, none⟩ = some (.slice bo bn bc))
    (first | with_reducible exact ⟨pa_3.c0, pa_3.c1, pb_2.c0, pb_2.c1⟩ | with_reducible exact ⟨pa_4.c0, pa_4.c1, pb_3.c0, pb_3.c1⟩ | with_reducible exact ⟨pa_5.c0, pa_5.c1, pb_4.c0, pb_4.c1⟩ | with_reducible exact ⟨pa_6.c0, pa_6.c1, pb_5.c0, pb_5.c1⟩ | with_reducible exact ⟨pa_7.c0, pa_7.c1, pb_6.c0, pb_6.c1⟩ | with_reducible exact ⟨pa_8.c0, pa_8.c1, pb_7.c0, pb_7.c1⟩ | with_reducible exact ⟨pa_9.c0, pa_9.c1, pb_8.c0, pb_8.c1⟩ | fail)
    (first
      | (go_at_call 31; (with_reducible refine (nOf_any p HP1.out HP2.out _).mono ?_); rintro e w4 ⟨m1, o1, n1, c1, rfl, f1_0, hb4⟩; have hB_5 := hB_4.trans (hb4.mono hB_4.size); have fa_5 := fa_4.below hb4; have fb_5 := fb_4.below hb4; have pa_4 := pa_3.below hb4; have pb_3 := pb_2.below hb4; have pr_2 := pr_1.below hb4; clear hb4 hB_4 fa_4 fb_4 pa_3 pb_2 pr_1)
      | (go_at_call 37; (with_reducible refine (nMul_any _ _ La 1 Xa p _ (by have := HA.out; have := HB.out; omega) (by omega) fa_5 f1_0.num).mono ?_); rintro e w5 ⟨m2, o2, n2, c2, rfl, f2_0, hb5⟩; have hB_6 := hB_5.trans (hb5.mono hB_5.size); have fa_6 := fa_5.below hb5; have fb_6 := fb_5.below hb5; have pa_5 := pa_4.below hb5; have pb_4 := pb_3.below hb5; have pr_3 := pr_2.below hb5; have f1_1 := f1_0.below hb5; clear hb5 hB_5 fa_5 fb_5 pa_4 pb_3 pr_2 f1_0)
      | (go_at_call 31; (with_reducible refine (nOf_any q HQ1.out HQ2.out _).mono ?_); rintro e w6 ⟨m3, o3, n3, c3, rfl, f3_0, hb6⟩; have hB_7 := hB_6.trans (hb6.mono hB_6.size); have fa_7 := fa_6.below hb6; have fb_7 := fb_6.below hb6; have pa_6 := pa_5.below hb6; have pb_5 := pb_4.below hb6; have pr_4 := pr_3.below hb6; have f1_2 := f1_1.below hb6; have f2_1 := f2_0.below hb6; clear hb6 hB_6 fa_6 fb_6 pa_5 pb_4 pr_3 f1_1 f2_0)
      | (go_at_call 37; (with_reducible refine (nMul_any _ _ Lb 1 Xb q _ (by have := HA.out; have := HB.out; omega) (by omega) fb_7 f3_0.num).mono ?_); rintro e w7 ⟨m4, o4, n4, c4, rfl, f4_0, hb7⟩; have hB_8 := hB_7.trans (hb7.mono hB_7.size); have fa_8 := fa_7.below hb7; have fb_8 := fb_7.below hb7; have pa_7 := pa_6.below hb7; have pb_6 := pb_5.below hb7; have pr_5 := pr_4.below hb7; have f1_3 := f1_2.below hb7; have f2_2 := f2_1.below hb7; have f3_1 := f3_0.below hb7; clear hb7 hB_7 fa_7 fb_7 pa_6 pb_5 pr_4 f1_2 f2_1 f3_0)
      | (go_at_call 68; (with_reducible refine (nSub_any _ _ (La + 1) (Lb + 1) _ _ _ (by have := HA.out; have := HB.out; omega) (by have := HA.out; have := HB.out; omega) f2_2.num f4_0.num).mono ?_); rintro e w8 ⟨m5, o5, n5, c5, rfl, f5_0, hb8⟩; have hB_9 := hB_8.trans (hb8.mono hB_8.size); have fa_9 := fa_8.below hb8; have fb_9 := fb_8.below hb8; have pa_8 := pa_7.below hb8; have pb_7 := pb_6.below hb8; have pr_6 := pr_5.below hb8; have f1_4 := f1_3.below hb8; have f2_3 := f2_2.below hb8; have f3_2 := f3_1.below hb8; have f4_1 := f4_0.below hb8; clear hb8 hB_8 fa_8 fb_8 pa_7 pb_6 pr_5 f1_3 f2_2 f3_1 f4_0; obtain ⟨sf1a, sf1b, sf1c, sf1d⟩ := pr_6.open2; obtain ⟨sg1a, sg1b⟩ := Box.put2 pr_6 (.bool m5); have hB_10 := below_setAll hB_9 (g := w.heap.size + 1 + 1) (by omega) [.bool m5, .slice o5 n5 c5]; have fa_10 := fa_9.setAll pr_6 (noWord2 _ _ _ _) [.bool m5, .slice o5 n5 c5] rfl; have fb_10 := fb_9.setAll pr_6 (noWord2 _ _ _ _) [.bool m5, .slice o5 n5 c5] rfl; have pa_9 := pa_8.farAll (g' := w.heap.size + 1 + 1) (by omega) [.bool m5, .slice o5 n5 c5]; have pb_8 := pb_7.farAll (g' := w.heap.size + 1 + 1) (by omega) [.bool m5, .slice o5 n5 c5]; have f1_5 := f1_4.setAll pr_6 (noWord2 _ _ _ _) [.bool m5, .slice o5 n5 c5] rfl; have f2_4 := f2_3.setAll pr_6 (noWord2 _ _ _ _) [.bool m5, .slice o5 n5 c5] rfl; have f3_3 := f3_2.setAll pr_6 (noWord2 _ _ _ _) [.bool m5, .slice o5 n5 c5] rfl; have f4_2 := f4_1.setAll pr_6 (noWord2 _ _ _ _) [.bool m5, .slice o5 n5 c5] rfl; have f5_1 := f5_0.setAll pr_6 (noWord2 _ _ _ _) [.bool m5, .slice o5 n5 c5] rfl; have pr_7 := pr_6.setAll [.bool m5, .slice o5 n5 c5] rfl; simp only [setAll, Nat.zero_add] at hB_10 fa_10 fb_10 pa_9 pb_8 pr_7 f1_5 f2_4 f3_3 f4_2 f5_1))
  clear hB_9 fa_9 fb_9 pa_8 pb_7 f1_4 f2_3 f3_2 f4_1 f5_0 pr_6
  clear sf1a sf1b sf1c sf1d sg1a sg1b
  generalize (World.setCell (World.setCell w8 ⟨w.heap.size + 1 + 1, 0, none⟩ (.bool m5)) ⟨w.heap.size + 1 + 1, 1, none⟩ (.slice o5 n5 c5)) = w9 at *
  go_wp2
  obtain ⟨pre0, pre1, pre2, pre3⟩ := pr_7.open2
  exact bodyPost_ret (v := .agg #[.bool m5, .slice o5 n5 c5]) (by simp [results, Try.results42, go_sem, pre0, pre1]) rfl ⟨_, _, _, _, rfl, f5_1, hB_10⟩
set_option maxHeartbeats 4000000 in
theorem sbeyond_any {am : Bool} {ao : Option Addr} {an ac : Nat} {bm : Bool} {bo : Option Addr} {bn bc : Nat} (p : Int) (La Lb : Nat) (Xa Xb : Int) (w : World) (ha : La ≤ 1000000) (hb : Lb ≤ 1000000) (hp1 : -9223372036854775808 ≤ p) (hp2 : p < 9223372036854775808) (h0 : Xb ≠ 0) (fa_0 : Num w (.agg #[.bool am, .slice ao an ac]) La Xa) (fb_0 : Num w (.agg #[.bool bm, .slice bo bn bc]) Lb Xb) :
    Calls Try.prog 44 #[.int .i64 p, .agg #[.bool am, .slice ao an ac], .agg #[.bool bm, .slice bo bn bc]] w fun e w' => AnsF w w' e (1 + max La Lb + 2) ((p : Rat) + (Xa : Rat) / (Xb : Rat)) := by
  have hB_0 := Below.refl w.heap.size w
  have HP1 := Lib.hid hp1; have HP2 := Lib.hid hp2; have HA := Lib.hid ha; have HB := Lib.hid hb; have H0 := Lib.hid h0
  clear hp1 hp2 ha hb h0
  obtain ⟨w1, hw1, pa_0, hb1, hs1⟩ := new_box w (w.heap.size) rfl [.bool am, .slice ao an ac] 29
  have hb1' : Below w.heap.size w w1 := hb1.mono (by omega)
  clear hb1
  have hB_1 := hB_0.trans (hb1'.mono hB_0.size)
  have fa_1 := fa_0.below hb1'
  have fb_1 := fb_0.below hb1'
  clear hb1' hB_0 fa_0 fb_0
  obtain ⟨w2, hw2, pb_0, hb2, hs2⟩ := new_box w1 (w.heap.size + 1) hs1 [.bool bm, .slice bo bn bc] 29
  have hb2' : Below w1.heap.size w1 w2 := hb2.mono (by omega)
  clear hb2
  have hB_2 := hB_1.trans (hb2'.mono hB_1.size)
  have fa_2 := fa_1.below hb2'
  have fb_2 := fb_1.below hb2'
  have pa_1 := pa_0.below hb2'
  clear hb2' hB_1 fa_1 fb_1 pa_0
  obtain ⟨w3, hw3, pr_0, hb3, hs3⟩ := new_box w2 (w.heap.size + 1 + 1) hs2 [.bool false, .slice none 0 0, .slice none 0 0] 31
  have hb3' : Below w2.heap.size w2 w3 := hb3.mono (by omega)
  clear hb3
  have hB_3 := hB_2.trans (hb3'.mono hB_2.size)
  have fa_3 := fa_2.below hb3'
  have fb_3 := fb_2.below hb3'
  have pa_2 := pa_1.below hb3'
  have pb_1 := pb_0.below hb3'
  clear hb3' hB_2 fa_2 fb_2 pa_1 pb_0
  go_enter Try.func44, Try.ntmps44
  obtain ⟨pae0, pae1, pae2, pae3⟩ := pa_2.open2
  obtain ⟨pbe0, pbe1, pbe2, pbe3⟩ := pb_1.open2
  go_wp2_with fail
  refine (fMake_some _ _ La Lb Xa Xb _ (by have := HA.out; have := HB.out; omega) (by have := HA.out; have := HB.out; omega) fa_3 fb_3 H0.out).mono ?_
  rintro e w4 ⟨m1, o1, n1, c1, p1, k1, d1, rfl, f1_0, hb4⟩
  clear pae0 pae1 pae2 pae3 pbe0 pbe1 pbe2 pbe3
  have hB_4 := hB_3.trans (hb4.mono hB_3.size)
  have fa_4 := fa_3.below hb4
  have fb_4 := fb_3.below hb4
  have pa_3 := pa_2.below hb4
  have pb_2 := pb_1.below hb4
  have pr_1 := pr_0.below hb4
  clear hb4 hB_3 fa_3 fb_3 pa_2 pb_1 pr_0
  have hl1pa := pa_3.lt
  have hl1pb := pb_2.lt
  have hl1pr := pr_1.lt
  have hl1B := hB_4.size
  obtain ⟨w5, hw5, pq_0, hb5, hs5⟩ := new_box w4 (w4.heap.size) rfl [.bool m1, .slice o1 n1 c1, .slice p1 k1 d1] 31
  have hb5' : Below w4.heap.size w4 w5 := hb5.mono (by omega)
  clear hb5
  have hB_5 := hB_4.trans (hb5'.mono hB_4.size)
  have fa_5 := fa_4.below hb5'
  have fb_5 := fb_4.below hb5'
  have pa_4 := pa_3.below hb5'
  have pb_3 := pb_2.below hb5'
  have pr_2 := pr_1.below hb5'
  have f1_1 := f1_0.below hb5'
  clear hb5' hB_4 fa_4 fb_4 pa_3 pb_2 pr_1 f1_0
  go_wp2
  try rw [hw5]
  have hB_6 := hB_5.drew'
  have fa_6 := fa_5.drew
  have fb_6 := fb_5.drew
  have pa_5 := pa_4.drew
  have pb_4 := pb_3.drew
  have pr_3 := pr_2.drew
  have f1_2 := f1_1.drew
  have pq_1 := pq_0.drew
  clear hB_5 fa_5 fb_5 pa_4 pb_3 pr_2 f1_1 pq_0
  go_region_held3 (fun w' => w'.cell? ⟨w4.heap.size, 0, none⟩ = some (.bool m1) ∧ w'.cell? ⟨w4.heap.size, 1, none⟩ = some (.slice o1 n1 c1) ∧ w'.cell? ⟨w4.heap.size, 2, none⟩ = some (.slice p1 k1 d1))
    (first | with_reducible exact ⟨pq_1.c0, pq_1.c1, pq_1.c2⟩ | with_reducible exact ⟨pq_2.c0, pq_2.c1, pq_2.c2⟩ | with_reducible exact ⟨pq_3.c0, pq_3.c1, pq_3.c2⟩ | with_reducible exact ⟨pq_4.c0, pq_4.c1, pq_4.c2⟩ | fail)
    (first
      | (go_at_call 21; (with_reducible refine (fOf_any p HP1.out HP2.out _).mono ?_); rintro e w6 ⟨m2, o2, n2, c2, p2, k2, d2, rfl, f2_0, hb6⟩; have hB_7 := hB_6.trans (hb6.mono hB_6.size); have fa_7 := fa_6.below hb6; have fb_7 := fb_6.below hb6; have pa_6 := pa_5.below hb6; have pb_5 := pb_4.below hb6; have pr_4 := pr_3.below hb6; have f1_3 := f1_2.below hb6; have pq_2 := pq_1.below hb6; clear hb6 hB_6 fa_6 fb_6 pa_5 pb_4 pr_3 f1_2 pq_1)
      | (go_at_call 27; (with_reducible refine (qAdd _ _ 1 (max La Lb) _ _ _ (by omega) (by have := HA.out; have := HB.out; omega) f2_0.q f1_3.q).mono ?_); rintro e w7 ⟨m3, o3, n3, c3, p3, k3, d3, rfl, f3_0, hb7⟩; have hB_8 := hB_7.trans (hb7.mono hB_7.size); have fa_8 := fa_7.below hb7; have fb_8 := fb_7.below hb7; have pa_7 := pa_6.below hb7; have pb_6 := pb_5.below hb7; have pr_5 := pr_4.below hb7; have f1_4 := f1_3.below hb7; have pq_3 := pq_2.below hb7; have f2_1 := f2_0.below hb7; clear hb7 hB_7 fa_7 fb_7 pa_6 pb_5 pr_4 f1_3 pq_2 f2_0; obtain ⟨sf1a, sf1b, sf1c, sf1d, sf1e, sf1f⟩ := pr_5.open3; obtain ⟨sg1a, sg1b, sg1c, sg1d⟩ := Box.put3 pr_5 (.bool m3) (.slice o3 n3 c3); have hB_9 := below_setAll hB_8 (g := w.heap.size + 1 + 1) (by omega) [.bool m3, .slice o3 n3 c3, .slice p3 k3 d3]; have fa_9 := fa_8.setAll pr_5 (noWord3 _ _ _ _ _ _ _) [.bool m3, .slice o3 n3 c3, .slice p3 k3 d3] rfl; have fb_9 := fb_8.setAll pr_5 (noWord3 _ _ _ _ _ _ _) [.bool m3, .slice o3 n3 c3, .slice p3 k3 d3] rfl; have pa_8 := pa_7.farAll (g' := w.heap.size + 1 + 1) (by omega) [.bool m3, .slice o3 n3 c3, .slice p3 k3 d3]; have pb_7 := pb_6.farAll (g' := w.heap.size + 1 + 1) (by omega) [.bool m3, .slice o3 n3 c3, .slice p3 k3 d3]; have f1_5 := f1_4.setAll pr_5 (noWord3 _ _ _ _ _ _ _) [.bool m3, .slice o3 n3 c3, .slice p3 k3 d3] rfl; have pq_4 := pq_3.farAll (g' := w.heap.size + 1 + 1) (by omega) [.bool m3, .slice o3 n3 c3, .slice p3 k3 d3]; have f2_2 := f2_1.setAll pr_5 (noWord3 _ _ _ _ _ _ _) [.bool m3, .slice o3 n3 c3, .slice p3 k3 d3] rfl; have f3_1 := f3_0.setAll pr_5 (noWord3 _ _ _ _ _ _ _) [.bool m3, .slice o3 n3 c3, .slice p3 k3 d3] rfl; have pr_6 := pr_5.setAll [.bool m3, .slice o3 n3 c3, .slice p3 k3 d3] rfl; simp only [setAll, Nat.zero_add, Nat.reduceAdd] at hB_9 fa_9 fb_9 pa_8 pb_7 pr_6 f1_5 pq_4 f2_2 f3_1))
  clear hB_8 fa_8 fb_8 pa_7 pb_6 f1_4 pq_3 f2_1 f3_0 pr_5
  clear sf1a sf1b sf1c sf1d sf1e sf1f sg1a sg1b sg1c sg1d
  generalize (World.setCell (World.setCell (World.setCell w7 ⟨w.heap.size + 1 + 1, 0, none⟩ (.bool m3)) ⟨w.heap.size + 1 + 1, 1, none⟩ (.slice o3 n3 c3)) ⟨w.heap.size + 1 + 1, 2, none⟩ (.slice p3 k3 d3)) = w8 at *
  go_wp2
  obtain ⟨pre0, pre1, pre2, pre3, pre4, pre5⟩ := pr_6.open3
  exact bodyPost_ret (v := .agg #[.bool m3, .slice o3 n3 c3, .slice p3 k3 d3]) (by simp [results, Try.results44, go_sem, pre0, pre1, pre2]) rfl ⟨_, _, _, _, _, _, _, rfl, f3_1, hB_9⟩
end Go.Proofs.Ytkcfaddilknelaa
/- The calls of spot: Centre. -/
namespace Go.Proofs.Ytkcfaddilknelaa
open Go.RowKit Go.MagM
set_option maxHeartbeats 4000000 in
theorem sCentre_n (a0 a1 b0 b1 v0 v1 : Int) (ha0 : InP a0) (ha1 : InP a1) (hb0 : InP b0) (hb1 : InP b1) (hv0 : InP v0) (hv1 : InP v1) (hs : (crs a0 a1 b0 b1 v0 v1).sign = 0) (w : World) :
    Calls Try.prog 11 #[.agg #[.int .i64 a0, .int .i64 a1], .agg #[.int .i64 b0, .int .i64 b1], .agg #[.int .i64 v0, .int .i64 v1]] w fun e w' => e = .returned (.tuple #[.agg #[.bool false, .slice none 0 0, .slice none 0 0, .bool false, .slice none 0 0, .slice none 0 0], .bool false]) ∧ Below w.heap.size w w' := by
  have hB_0 := Below.refl w.heap.size w
  have HA0 := Lib.hid ha0; have HA1 := Lib.hid ha1; have HB0 := Lib.hid hb0; have HB1 := Lib.hid hb1; have HV0 := Lib.hid hv0; have HV1 := Lib.hid hv1; have HS := Lib.hid hs
  clear ha0 ha1 hb0 hb1 hv0 hv1 hs
  obtain ⟨w1, hw1, pa_0, hb1, hs1⟩ := new_box w (w.heap.size) rfl [.int .i64 a0, .int .i64 a1] 23
  have hb1' : Below w.heap.size w w1 := hb1.mono (by omega)
  clear hb1
  have hB_1 := hB_0.trans (hb1'.mono hB_0.size)
  clear hb1' hB_0
  obtain ⟨w2, hw2, pb_0, hb2, hs2⟩ := new_box w1 (w.heap.size + 1) hs1 [.int .i64 b0, .int .i64 b1] 23
  have hb2' : Below w1.heap.size w1 w2 := hb2.mono (by omega)
  clear hb2
  have hB_2 := hB_1.trans (hb2'.mono hB_1.size)
  have pa_1 := pa_0.below hb2'
  clear hb2' hB_1 pa_0
  obtain ⟨w3, hw3, pv_0, hb3, hs3⟩ := new_box w2 (w.heap.size + 1 + 1) hs2 [.int .i64 v0, .int .i64 v1] 23
  have hb3' : Below w2.heap.size w2 w3 := hb3.mono (by omega)
  clear hb3
  have hB_3 := hB_2.trans (hb3'.mono hB_2.size)
  have pa_2 := pa_1.below hb3'
  have pb_1 := pb_0.below hb3'
  clear hb3' hB_2 pa_1 pb_0
  obtain ⟨w4, hw4, pr_0, hb4, hs4⟩ := new_box w3 (w.heap.size + 1 + 1 + 1) hs3 [.bool false, .slice none 0 0, .slice none 0 0, .bool false, .slice none 0 0, .slice none 0 0] 33
  have hb4' : Below w3.heap.size w3 w4 := hb4.mono (by omega)
  clear hb4
  have hB_4 := hB_3.trans (hb4'.mono hB_3.size)
  have pa_3 := pa_2.below hb4'
  have pb_2 := pb_1.below hb4'
  have pv_1 := pv_0.below hb4'
  clear hb4' hB_3 pa_2 pb_1 pv_0
  go_enter Try.func11, Try.ntmps11
  obtain ⟨pae0, pae1, pae2, pae3⟩ := pa_3.open2
  obtain ⟨pbe0, pbe1, pbe2, pbe3⟩ := pb_2.open2
  obtain ⟨pve0, pve1, pve2, pve3⟩ := pv_1.open2
  go_wp2_with fail
  refine (Area2_any a0 a1 b0 b1 v0 v1 HA0.out HA1.out HB0.out HB1.out HV0.out HV1.out _).mono ?_
  rintro e w5 ⟨m1, o1, n1, c1, rfl, f1_0, hb5⟩
  clear pae0 pae1 pae2 pae3 pbe0 pbe1 pbe2 pbe3 pve0 pve1 pve2 pve3
  have hB_5 := hB_4.trans (hb5.mono hB_4.size)
  have pa_4 := pa_3.below hb5
  have pb_3 := pb_2.below hb5
  have pv_2 := pv_1.below hb5
  have pr_1 := pr_0.below hb5
  clear hb5 hB_4 pa_3 pb_2 pv_1 pr_0
  have hl1pa := pa_4.lt
  have hl1pb := pb_3.lt
  have hl1pv := pv_2.lt
  have hl1pr := pr_1.lt
  have hl1B := hB_5.size
  obtain ⟨w6, hw6, pn_0, hb6, hs6⟩ := new_box w5 (w5.heap.size) rfl [.bool m1, .slice o1 n1 c1] 29
  have hb6' : Below w5.heap.size w5 w6 := hb6.mono (by omega)
  clear hb6
  have hB_6 := hB_5.trans (hb6'.mono hB_5.size)
  have pa_5 := pa_4.below hb6'
  have pb_4 := pb_3.below hb6'
  have pv_3 := pv_2.below hb6'
  have pr_2 := pr_1.below hb6'
  have f1_1 := f1_0.below hb6'
  clear hb6' hB_5 pa_4 pb_3 pv_2 pr_1 f1_0
  obtain ⟨pne0, pne1, pne2, pne3⟩ := pn_0.open2
  go_wp2_with fail
  refine (Sign_named _ 2 _ 0 _ (by omega) f1_1.num HS.out).mono ?_
  rintro e w7 ⟨rfl, hb7⟩
  clear pne0 pne1 pne2 pne3
  have hB_7 := hB_6.trans (hb7.mono hB_6.size)
  have pa_6 := pa_5.below hb7
  have pb_5 := pb_4.below hb7
  have pv_4 := pv_3.below hb7
  have pr_3 := pr_2.below hb7
  have f1_2 := f1_1.below hb7
  have pn_1 := pn_0.below hb7
  clear hb7 hB_6 pa_5 pb_4 pv_3 pr_2 f1_1 pn_0
  obtain ⟨pae0, pae1, pae2, pae3⟩ := pa_6.open2
  obtain ⟨pbe0, pbe1, pbe2, pbe3⟩ := pb_5.open2
  obtain ⟨pve0, pve1, pve2, pve3⟩ := pv_4.open2
  obtain ⟨pne0, pne1, pne2, pne3⟩ := pn_1.open2
  obtain ⟨sf1a, sf1b, sf1c, sf1d, sf1e, sf1f, sf1g, sf1h, sf1i, sf1j, sf1k, sf1l⟩ := pr_3.open6
  obtain ⟨sg1a, sg1b, sg1c, sg1d, sg1e, sg1f, sg1g, sg1h, sg1i, sg1j⟩ := Box.put6 pr_3 (.bool false) (.slice none 0 0) (.slice none 0 0) (.bool false) (.slice none 0 0)
  go_wp2
  clear pae0 pae1 pae2 pae3 pbe0 pbe1 pbe2 pbe3 pve0 pve1 pve2 pve3 pne0 pne1 pne2 pne3 sf1a sf1b sf1c sf1d sf1e sf1f sf1g sf1h sf1i sf1j sf1k sf1l sg1a sg1b sg1c sg1d sg1e sg1f sg1g sg1h sg1i sg1j
  have hB_8 := below_setAll hB_7 (g := w.heap.size + 1 + 1 + 1) (by omega) [.bool false, .slice none 0 0, .slice none 0 0, .bool false, .slice none 0 0, .slice none 0 0]
  have pa_7 := pa_6.farAll (g' := w.heap.size + 1 + 1 + 1) (by omega) [.bool false, .slice none 0 0, .slice none 0 0, .bool false, .slice none 0 0, .slice none 0 0]
  have pb_6 := pb_5.farAll (g' := w.heap.size + 1 + 1 + 1) (by omega) [.bool false, .slice none 0 0, .slice none 0 0, .bool false, .slice none 0 0, .slice none 0 0]
  have pv_5 := pv_4.farAll (g' := w.heap.size + 1 + 1 + 1) (by omega) [.bool false, .slice none 0 0, .slice none 0 0, .bool false, .slice none 0 0, .slice none 0 0]
  have f1_3 := f1_2.setAll pr_3 (noWord6 _ _ _ _ _ _ _ _ _ _ _ _ _ _) [.bool false, .slice none 0 0, .slice none 0 0, .bool false, .slice none 0 0, .slice none 0 0] rfl
  have pn_2 := pn_1.farAll (g' := w.heap.size + 1 + 1 + 1) (by omega) [.bool false, .slice none 0 0, .slice none 0 0, .bool false, .slice none 0 0, .slice none 0 0]
  have pr_4 := pr_3.setAll [.bool false, .slice none 0 0, .slice none 0 0, .bool false, .slice none 0 0, .slice none 0 0] rfl
  simp only [setAll, Nat.zero_add, Nat.reduceAdd] at hB_8 pa_7 pb_6 pv_5 pr_4 f1_3 pn_2
  clear hB_7 pa_6 pb_5 pv_4 f1_2 pn_1 pr_3
  generalize (World.setCell (World.setCell (World.setCell (World.setCell (World.setCell (World.setCell w7 ⟨w.heap.size + 1 + 1 + 1, 0, none⟩ (.bool false)) ⟨w.heap.size + 1 + 1 + 1, 1, none⟩ (.slice none 0 0)) ⟨w.heap.size + 1 + 1 + 1, 2, none⟩ (.slice none 0 0)) ⟨w.heap.size + 1 + 1 + 1, 3, none⟩ (.bool false)) ⟨w.heap.size + 1 + 1 + 1, 4, none⟩ (.slice none 0 0)) ⟨w.heap.size + 1 + 1 + 1, 5, none⟩ (.slice none 0 0)) = w8 at *
  go_wp2
  obtain ⟨pre0, pre1, pre2, pre3, pre4, pre5, pre6, pre7, pre8, pre9, pre10, pre11⟩ := pr_4.open6
  exact bodyPost_ret (v := .tuple #[.agg #[.bool false, .slice none 0 0, .slice none 0 0, .bool false, .slice none 0 0, .slice none 0 0], .bool false]) (by simp [results, Try.results11, go_sem, pre0, pre1, pre2, pre3, pre4, pre5]) rfl ⟨rfl, hB_8⟩
set_option maxRecDepth 100000 in
set_option maxHeartbeats 16000000 in
theorem sCentre_w (a0 a1 b0 b1 v0 v1 : Int) (ha0 : InP a0) (ha1 : InP a1) (hb0 : InP b0) (hb1 : InP b1) (hv0 : InP v0) (hv1 : InP v1) (s : Int) (hs : (crs a0 a1 b0 b1 v0 v1).sign = s) (HE0 : (s == 0) = false) (he : crs a0 a1 b0 b1 v0 v1 + crs a0 a1 b0 b1 v0 v1 ≠ 0) (hw : IntKind.i64.wrap (v1 - a1) = v1 - a1 ∧ IntKind.i64.wrap (b1 - a1) = b1 - a1 ∧ IntKind.i64.wrap (b0 - a0) = b0 - a0 ∧ IntKind.i64.wrap (v0 - a0) = v0 - a0) (w : World) :
    Calls Try.prog 11 #[.agg #[.int .i64 a0, .int .i64 a1], .agg #[.int .i64 b0, .int .i64 b1], .agg #[.int .i64 v0, .int .i64 v1]] w fun e w' => AnsSt w w' e 7 (cx a0 a1 b0 b1 v0 v1) (cy a0 a1 b0 b1 v0 v1) := by
  have hB_0 := Below.refl w.heap.size w
  have HA0 := Lib.hid ha0; have HA1 := Lib.hid ha1; have HB0 := Lib.hid hb0; have HB1 := Lib.hid hb1; have HV0 := Lib.hid hv0; have HV1 := Lib.hid hv1; have HS := Lib.hid hs
  clear ha0 ha1 hb0 hb1 hv0 hv1 hs
  have HE := Lib.hid he; have HW := Lib.hid hw; clear he hw
  have e0 := HE0; clear HE0
  obtain ⟨e1, e2, e3, e4⟩ := HW.out
  obtain ⟨w1, hw1, pa_0, hb1, hs1⟩ := new_box w (w.heap.size) rfl [.int .i64 a0, .int .i64 a1] 23
  have hb1' : Below w.heap.size w w1 := hb1.mono (by omega)
  clear hb1
  have hB_1 := hB_0.trans (hb1'.mono hB_0.size)
  clear hb1' hB_0
  obtain ⟨w2, hw2, pb_0, hb2, hs2⟩ := new_box w1 (w.heap.size + 1) hs1 [.int .i64 b0, .int .i64 b1] 23
  have hb2' : Below w1.heap.size w1 w2 := hb2.mono (by omega)
  clear hb2
  have hB_2 := hB_1.trans (hb2'.mono hB_1.size)
  have pa_1 := pa_0.below hb2'
  clear hb2' hB_1 pa_0
  obtain ⟨w3, hw3, pv_0, hb3, hs3⟩ := new_box w2 (w.heap.size + 1 + 1) hs2 [.int .i64 v0, .int .i64 v1] 23
  have hb3' : Below w2.heap.size w2 w3 := hb3.mono (by omega)
  clear hb3
  have hB_3 := hB_2.trans (hb3'.mono hB_2.size)
  have pa_2 := pa_1.below hb3'
  have pb_1 := pb_0.below hb3'
  clear hb3' hB_2 pa_1 pb_0
  obtain ⟨w4, hw4, pr_0, hb4, hs4⟩ := new_box w3 (w.heap.size + 1 + 1 + 1) hs3 [.bool false, .slice none 0 0, .slice none 0 0, .bool false, .slice none 0 0, .slice none 0 0] 33
  have hb4' : Below w3.heap.size w3 w4 := hb4.mono (by omega)
  clear hb4
  have hB_4 := hB_3.trans (hb4'.mono hB_3.size)
  have pa_3 := pa_2.below hb4'
  have pb_2 := pb_1.below hb4'
  have pv_1 := pv_0.below hb4'
  clear hb4' hB_3 pa_2 pb_1 pv_0
  go_enter Try.func11, Try.ntmps11
  obtain ⟨pae0, pae1, pae2, pae3⟩ := pa_3.open2
  obtain ⟨pbe0, pbe1, pbe2, pbe3⟩ := pb_2.open2
  obtain ⟨pve0, pve1, pve2, pve3⟩ := pv_1.open2
  go_wp2_with fail
  refine (Area2_any a0 a1 b0 b1 v0 v1 HA0.out HA1.out HB0.out HB1.out HV0.out HV1.out _).mono ?_
  rintro e w5 ⟨m1, o1, n1, c1, rfl, f1_0, hb5⟩
  clear pae0 pae1 pae2 pae3 pbe0 pbe1 pbe2 pbe3 pve0 pve1 pve2 pve3
  have hB_5 := hB_4.trans (hb5.mono hB_4.size)
  have pa_4 := pa_3.below hb5
  have pb_3 := pb_2.below hb5
  have pv_2 := pv_1.below hb5
  have pr_1 := pr_0.below hb5
  clear hb5 hB_4 pa_3 pb_2 pv_1 pr_0
  have hl1pa := pa_4.lt
  have hl1pb := pb_3.lt
  have hl1pv := pv_2.lt
  have hl1pr := pr_1.lt
  have hl1B := hB_5.size
  obtain ⟨w6, hw6, pn_0, hb6, hs6⟩ := new_box w5 (w5.heap.size) rfl [.bool m1, .slice o1 n1 c1] 29
  have hb6' : Below w5.heap.size w5 w6 := hb6.mono (by omega)
  clear hb6
  have hB_6 := hB_5.trans (hb6'.mono hB_5.size)
  have pa_5 := pa_4.below hb6'
  have pb_4 := pb_3.below hb6'
  have pv_3 := pv_2.below hb6'
  have pr_2 := pr_1.below hb6'
  have f1_1 := f1_0.below hb6'
  clear hb6' hB_5 pa_4 pb_3 pv_2 pr_1 f1_0
  obtain ⟨pne0, pne1, pne2, pne3⟩ := pn_0.open2
  go_wp2_with fail
  refine (Sign_named _ 2 _ s _ (by omega) f1_1.num HS.out).mono ?_
  rintro e w7 ⟨rfl, hb7⟩
  clear pne0 pne1 pne2 pne3
  have hB_7 := hB_6.trans (hb7.mono hB_6.size)
  have pa_6 := pa_5.below hb7
  have pb_5 := pb_4.below hb7
  have pv_4 := pv_3.below hb7
  have pr_3 := pr_2.below hb7
  have f1_2 := f1_1.below hb7
  have pn_1 := pn_0.below hb7
  clear hb7 hB_6 pa_5 pb_4 pv_3 pr_2 f1_1 pn_0
  obtain ⟨pae0, pae1, pae2, pae3⟩ := pa_6.open2
  obtain ⟨pbe0, pbe1, pbe2, pbe3⟩ := pb_5.open2
  obtain ⟨pve0, pve1, pve2, pve3⟩ := pv_4.open2
  obtain ⟨pne0, pne1, pne2, pne3⟩ := pn_1.open2
  go_wp2
  clear pae0 pae1 pae2 pae3 pbe0 pbe1 pbe2 pbe3 pve0 pve1 pve2 pve3 pne0 pne1 pne2 pne3
  have hWi_0 := Below.refl w7.heap.size w7
  have hsi : w.heap.size ≤ w7.heap.size := hB_7.size
  have hlipa := pa_6.lt
  have hlipb := pb_5.lt
  have hlipv := pv_4.lt
  have hlipr := pr_3.lt
  have hlipn := pn_1.lt
  have hB_8 := hB_7.drew'
  have pa_7 := pa_6.drew
  have pb_6 := pb_5.drew
  have pv_5 := pv_4.drew
  have pr_4 := pr_3.drew
  have f1_3 := f1_2.drew
  have pn_2 := pn_1.drew
  have hWi_1 := hWi_0.drew'
  clear hB_7 pa_6 pb_5 pv_4 pr_3 f1_2 pn_1 hWi_0
  obtain ⟨FFi, hFFi⟩ : ∃ F : World → Prop, ∀ w', F w' ↔ (Below w.heap.size w w' ∧ Box w' (w.heap.size) [.int .i64 a0, .int .i64 a1] ∧ Box w' (w.heap.size + 1) [.int .i64 b0, .int .i64 b1] ∧ Box w' (w.heap.size + 1 + 1) [.int .i64 v0, .int .i64 v1] ∧ Box w' (w.heap.size + 1 + 1 + 1) [.bool false, .slice none 0 0, .slice none 0 0, .bool false, .slice none 0 0, .slice none 0 0] ∧ RNum w' (.agg #[.bool m1, .slice o1 n1 c1]) 2 (crs a0 a1 b0 b1 v0 v1) ∧ Box w' (w5.heap.size) [.bool m1, .slice o1 n1 c1] ∧ Below w7.heap.size w7 w') := ⟨_, fun _ => Iff.rfl⟩
  have cFi : ∀ {w' w'' : World}, FFi w' → Below w'.heap.size w' w'' → FFi w'' := by
    intro w' w'' h hb
    obtain ⟨y0, y1, y2, y3, y4, y5, y6, y7⟩ := (hFFi _).1 h
    exact (hFFi _).2 ⟨y0.trans (hb.mono y0.size), y1.below hb, y2.below hb, y3.below hb, y4.below hb, y5.below hb, y6.below hb, y7.trans (hb.mono y7.size)⟩
  have mFi : ∀ {w' : World}, FFi w' → w7.heap.size ≤ w'.heap.size := by
    intro w' h
    obtain ⟨y0, y1, y2, y3, y4, y5, y6, y7⟩ := (hFFi _).1 h
    exact y7.size
  have sFi : ∀ {w' : World}, FFi w' → (w'.cell? ⟨w.heap.size, 0, none⟩ = some (.int .i64 a0) ∧ w'.cell? ⟨w.heap.size, 1, none⟩ = some (.int .i64 a1) ∧ w'.cell? ⟨w.heap.size + 1, 0, none⟩ = some (.int .i64 b0) ∧ w'.cell? ⟨w.heap.size + 1, 1, none⟩ = some (.int .i64 b1) ∧ w'.cell? ⟨w.heap.size + 1 + 1, 0, none⟩ = some (.int .i64 v0) ∧ w'.cell? ⟨w.heap.size + 1 + 1, 1, none⟩ = some (.int .i64 v1)) := by
    intro w' h
    obtain ⟨y0, y1, y2, y3, y4, y5, y6, y7⟩ := (hFFi _).1 h
    exact ⟨y1.c0, y1.c1, y2.c0, y2.c1, y3.c0, y3.c1⟩
  have zF : FFi w7.drew := (hFFi _).2 ⟨hB_8, pa_7, pb_6, pv_5, pr_4, f1_3, pn_2, hWi_1⟩
  clear hB_8 pa_7 pb_6 pv_5 pr_4 f1_3 pn_2 hWi_1
  refine wp_region_noPanic ?_
  refine wp_region_held_drew (S := fun w' => w'.cell? ⟨w.heap.size, 0, none⟩ = some (.int .i64 a0) ∧ w'.cell? ⟨w.heap.size, 1, none⟩ = some (.int .i64 a1) ∧ w'.cell? ⟨w.heap.size + 1, 0, none⟩ = some (.int .i64 b0) ∧ w'.cell? ⟨w.heap.size + 1, 1, none⟩ = some (.int .i64 b1) ∧ w'.cell? ⟨w.heap.size + 1 + 1, 0, none⟩ = some (.int .i64 v0) ∧ w'.cell? ⟨w.heap.size + 1 + 1, 1, none⟩ = some (.int .i64 v1)) (by kernel_rfl) (sFi zF) (fun hHeld => ?_)
  refine reg_take 0 ?_ ?_ ?_ (by kernel_rfl) (by kernel_rfl) (by kernel_rfl) (fun _ _ _ h => h) ?_ ?_ (by assumption) ?_
  rotate_left 2
  · simp only [List.getElem?_toArray, List.getElem?_cons_zero]; exact rfl
  · rfl
  · intro w hSw; (try dsimp only at hSw); go_simp; try with_reducible rfl
  try simp only [Act.put]
  try simp only [List.setIfInBounds_toArray, List.set_cons_zero, List.set_cons_succ]
  refine reg_take 1 ?_ ?_ ?_ (by kernel_rfl) (by kernel_rfl) (by kernel_rfl) (fun _ _ _ h => h) ?_ ?_ (by assumption) ?_
  rotate_left 2
  · simp only [List.getElem?_toArray, List.getElem?_cons_succ, List.getElem?_cons_zero]; exact rfl
  · rfl
  · intro w hSw; (try dsimp only at hSw); go_simp; try with_reducible rfl
  try simp only [Act.put]
  try simp only [List.setIfInBounds_toArray, List.set_cons_zero, List.set_cons_succ]
  refine reg_take 3 ?_ ?_ ?_ (by kernel_rfl) (by kernel_rfl) (by kernel_rfl) (fun _ _ _ h => h) ?_ ?_ (by assumption) ?_
  rotate_left 2
  · simp only [List.getElem?_toArray, List.getElem?_cons_succ, List.getElem?_cons_zero]; exact rfl
  · rfl
  · intro w hSw; (try dsimp only at hSw); go_simp; try with_reducible rfl
  try simp only [Act.put]
  try simp only [List.setIfInBounds_toArray, List.set_cons_zero, List.set_cons_succ]
  refine reg_take 4 ?_ ?_ ?_ (by kernel_rfl) (by kernel_rfl) (by kernel_rfl) (fun _ _ _ h => h) ?_ ?_ (by assumption) ?_
  rotate_left 2
  · simp only [List.getElem?_toArray, List.getElem?_cons_succ, List.getElem?_cons_zero]; exact rfl
  · rfl
  · intro w hSw; (try dsimp only at hSw); go_simp; try with_reducible rfl
  try simp only [Act.put]
  try simp only [List.setIfInBounds_toArray, List.set_cons_zero, List.set_cons_succ]
  refine reg_grab (fun WWi ai hWW hAA => ?_)
  rw [hWW]
  have HAi := Lib.hid hAA; clear hWW hAA hHeld
  obtain ⟨IVi, hIVi⟩ : ∃ IV : Array Bool → Act → World → Prop, ∀ l a w', IV l a w' ↔ ∃ (lb2 lb5 lb6 lb7 : Bool) (lv2 lv5 lv6 lv7 : Value) (m2 : Bool) (o2 : Option Addr) (n2 : Nat) (c2 : Nat) (m3 : Bool) (o3 : Option Addr) (n3 : Nat) (c3 : Nat) (gqb gqc : Nat), l = #[true, true, lb2, true, true, lb5, lb6, lb7, false, false] ∧ a = ((((ai.put (some 24) lv2).put (some 27) lv5).put (some 9) lv6).put (some 10) lv7) ∧ FFi w' ∧ (lb2 = true → lv2 = .agg #[.bool m2, .slice o2 n2 c2] ∧ RNum w' (.agg #[.bool m2, .slice o2 n2 c2]) (2) (sqd a0 a1 b0 b1)) ∧ (lb5 = true → lv5 = .agg #[.bool m3, .slice o3 n3 c3] ∧ RNum w' (.agg #[.bool m3, .slice o3 n3 c3]) (2) (sqd a0 a1 v0 v1)) ∧ (lb6 = true → lv6 = .pointer (some ⟨gqb, 0, none⟩) ∧ Box w' gqb [.bool false, .slice none 0 0] ∧ w7.heap.size ≤ gqb) ∧ (lb7 = true → lv7 = .pointer (some ⟨gqc, 0, none⟩) ∧ Box w' gqc [.bool false, .slice none 0 0] ∧ w7.heap.size ≤ gqc) ∧ (lb5 = true → lb2 = true) ∧ (lb6 = true → lb7 = true → gqb ≠ gqc) := ⟨_, fun _ _ _ => Iff.rfl⟩
  refine wpAnyH_until IVi ?_ _ _ _ _ ((hIVi _ _ _).2 ⟨false, false, false, false, (ai.tmps.getD 24 undef), (ai.tmps.getD 27 undef), (ai.tmps.getD 9 undef), (ai.tmps.getD 10 undef), false, none, 0, 0, false, none, 0, 0, 0, 0, rfl, (by simp only [put_same]), zF, (fun h => by cases h), (fun h => by cases h), (fun h => by cases h), (fun h => by cases h), (fun h => by cases h), (fun h => by cases h)⟩) (by kernel_rfl)
  clear zF
  intro ll aa w8 hI
  obtain ⟨lb2, lb5, lb6, lb7, lv2, lv5, lv6, lv7, m2, o2, n2, c2, m3, o3, n3, c3, gqb, gqc, rfl, rfl, zF, F2, F5, F6, F7, dp5_2, nq6_7⟩ := (hIVi _ _ _).1 hI
  clear hI
  by_cases hL : lb2 = true ∧ lb5 = true ∧ lb6 = true ∧ lb7 = true
  · left
    obtain ⟨rfl, rfl, rfl, rfl⟩ := hL
    obtain ⟨rfl, f2_0⟩ := F2 rfl
    clear F2
    obtain ⟨rfl, f3_0⟩ := F5 rfl
    clear F5
    obtain ⟨rfl, qb_0, hgqb⟩ := F6 rfl
    clear F6
    obtain ⟨rfl, qc_0, hgqc⟩ := F7 rfl
    clear F7
    have hnqbqc := nq6_7 rfl rfl
    clear dp5_2 nq6_7
    show wpAnyH _ _ _ _ _ 2 _ _ _
    rw [HAi.out]
    try simp only [Act.put]
    try simp only [List.setIfInBounds_toArray, List.set_cons_zero, List.set_cons_succ]
    obtain ⟨hB_0, pa_0, pb_0, pv_0, pr_0, f1_0, pn_0, hWi_0⟩ := (hFFi _).1 zF
    clear zF
    clear hWi_0
    obtain ⟨sf1a, sf1b, sf1c, sf1d⟩ := qb_0.open2
    obtain ⟨sg1a, sg1b⟩ := Box.put2 qb_0 (.bool m2)
    refine reg_call 8 ?_ (by kernel_rfl) ?_ (fun K hK => ?_)
    rotate_left 1
    · simp only [List.getElem?_toArray, List.getElem?_cons_succ, List.getElem?_cons_zero]; exact rfl
    go_simp
    have hB_1 := below_setAll hB_0 (g := gqb) (by omega) [.bool m2, .slice o2 n2 c2]
    have pa_1 := pa_0.farAll (g' := gqb) (by omega) [.bool m2, .slice o2 n2 c2]
    have pb_1 := pb_0.farAll (g' := gqb) (by omega) [.bool m2, .slice o2 n2 c2]
    have pv_1 := pv_0.farAll (g' := gqb) (by omega) [.bool m2, .slice o2 n2 c2]
    have pr_1 := pr_0.farAll (g' := gqb) (by omega) [.bool m2, .slice o2 n2 c2]
    have f1_1 := f1_0.setAll qb_0 (noWord2 _ _ _ _) [.bool m2, .slice o2 n2 c2] rfl
    have pn_1 := pn_0.farAll (g' := gqb) (by omega) [.bool m2, .slice o2 n2 c2]
    have f2_1 := f2_0.setAll qb_0 (noWord2 _ _ _ _) [.bool m2, .slice o2 n2 c2] rfl
    have f3_1 := f3_0.setAll qb_0 (noWord2 _ _ _ _) [.bool m2, .slice o2 n2 c2] rfl
    have qc_1 := qc_0.farAll (g' := gqb) (by omega) [.bool m2, .slice o2 n2 c2]
    have qb_1 := qb_0.setAll [.bool m2, .slice o2 n2 c2] rfl
    simp only [setAll, Nat.zero_add] at hB_1 pa_1 pb_1 pv_1 pr_1 f1_1 pn_1 f2_1 f3_1 qb_1 qc_1
    clear sf1a sf1b sf1c sf1d sg1a sg1b
    clear hB_0 pa_0 pb_0 pv_0 pr_0 f1_0 pn_0 f2_0 f3_0 qc_0 qb_0
    refine hK.out _ _ ⟨pa_1.c0, pa_1.c1, pb_1.c0, pb_1.c1, pv_1.c0, pv_1.c1⟩ (fun hHeld => ?_)
    clear hK K
    try simp only [Act.put]
    try simp only [List.setIfInBounds_toArray, List.set_cons_zero, List.set_cons_succ]
    generalize (World.setCell (World.setCell w8 ⟨gqb, 0, none⟩ (.bool m2)) ⟨gqb, 1, none⟩ (.slice o2 n2 c2)) = w9 at *
    obtain ⟨sf2a, sf2b, sf2c, sf2d⟩ := qc_1.open2
    obtain ⟨sg2a, sg2b⟩ := Box.put2 qc_1 (.bool m3)
    refine reg_call 9 ?_ (by kernel_rfl) ?_ (fun K hK => ?_)
    rotate_left 1
    · simp only [List.getElem?_toArray, List.getElem?_cons_succ, List.getElem?_cons_zero]; exact rfl
    go_simp
    have hB_2 := below_setAll hB_1 (g := gqc) (by omega) [.bool m3, .slice o3 n3 c3]
    have pa_2 := pa_1.farAll (g' := gqc) (by omega) [.bool m3, .slice o3 n3 c3]
    have pb_2 := pb_1.farAll (g' := gqc) (by omega) [.bool m3, .slice o3 n3 c3]
    have pv_2 := pv_1.farAll (g' := gqc) (by omega) [.bool m3, .slice o3 n3 c3]
    have pr_2 := pr_1.farAll (g' := gqc) (by omega) [.bool m3, .slice o3 n3 c3]
    have f1_2 := f1_1.setAll qc_1 (noWord2 _ _ _ _) [.bool m3, .slice o3 n3 c3] rfl
    have pn_2 := pn_1.farAll (g' := gqc) (by omega) [.bool m3, .slice o3 n3 c3]
    have f2_2 := f2_1.setAll qc_1 (noWord2 _ _ _ _) [.bool m3, .slice o3 n3 c3] rfl
    have f3_2 := f3_1.setAll qc_1 (noWord2 _ _ _ _) [.bool m3, .slice o3 n3 c3] rfl
    have qb_2 := qb_1.farAll (g' := gqc) (by omega) [.bool m3, .slice o3 n3 c3]
    have qc_2 := qc_1.setAll [.bool m3, .slice o3 n3 c3] rfl
    simp only [setAll, Nat.zero_add] at hB_2 pa_2 pb_2 pv_2 pr_2 f1_2 pn_2 f2_2 f3_2 qb_2 qc_2
    clear sf2a sf2b sf2c sf2d sg2a sg2b
    clear hB_1 pa_1 pb_1 pv_1 pr_1 f1_1 pn_1 f2_1 f3_1 qb_1 qc_1
    refine hK.out _ _ ⟨pa_2.c0, pa_2.c1, pb_2.c0, pb_2.c1, pv_2.c0, pv_2.c1⟩ (fun hHeld => ?_)
    clear hK K
    try simp only [Act.put]
    try simp only [List.setIfInBounds_toArray, List.set_cons_zero, List.set_cons_succ]
    generalize (World.setCell (World.setCell w9 ⟨gqc, 0, none⟩ (.bool m3)) ⟨gqc, 1, none⟩ (.slice o3 n3 c3)) = w10 at *
    refine wpAnyH_done (by kernel_rfl) ?_ _
    refine NoPanic.normal ?_
    obtain ⟨pae0, pae1, pae2, pae3⟩ := pa_2.open2
    obtain ⟨pbe0, pbe1, pbe2, pbe3⟩ := pb_2.open2
    obtain ⟨pve0, pve1, pve2, pve3⟩ := pv_2.open2
    obtain ⟨qbe0, qbe1, qbe2, qbe3⟩ := qb_2.open2
    obtain ⟨qce0, qce1, qce2, qce3⟩ := qc_2.open2
    go_wp2_with fail
    refine (sless_any 2 2 _ _ (v1 - a1) (b1 - a1) _ (by omega) (by omega) (InP.lo HV1.out HA1.out) (InP.hi HV1.out HA1.out) (InP.lo HB1.out HA1.out) (InP.hi HB1.out HA1.out) f2_2.num f3_2.num).mono ?_
    rintro e w11 ⟨m4, o4, n4, c4, rfl, f4_0, hb11⟩
    clear pae0 pae1 pae2 pae3 pbe0 pbe1 pbe2 pbe3 pve0 pve1 pve2 pve3 qbe0 qbe1 qbe2 qbe3 qce0 qce1 qce2 qce3
    have hB_3 := hB_2.trans (hb11.mono hB_2.size)
    have pa_3 := pa_2.below hb11
    have pb_3 := pb_2.below hb11
    have pv_3 := pv_2.below hb11
    have pr_3 := pr_2.below hb11
    have f1_3 := f1_2.below hb11
    have pn_3 := pn_2.below hb11
    have f2_3 := f2_2.below hb11
    have f3_3 := f3_2.below hb11
    have qb_3 := qb_2.below hb11
    have qc_3 := qc_2.below hb11
    clear hb11 hB_2 pa_2 pb_2 pv_2 pr_2 f1_2 pn_2 f2_2 f3_2 qb_2 qc_2
    have hl2pa := pa_3.lt
    have hl2pb := pb_3.lt
    have hl2pv := pv_3.lt
    have hl2pr := pr_3.lt
    have hl2pn := pn_3.lt
    have hl2qb := qb_3.lt
    have hl2qc := qc_3.lt
    have hl2B := hB_3.size
    obtain ⟨w12, hw12, px_0, hb12, hs12⟩ := new_box w11 (w11.heap.size) rfl [.bool m4, .slice o4 n4 c4] 29
    have hb12' : Below w11.heap.size w11 w12 := hb12.mono (by omega)
    clear hb12
    have hB_4 := hB_3.trans (hb12'.mono hB_3.size)
    have pa_4 := pa_3.below hb12'
    have pb_4 := pb_3.below hb12'
    have pv_4 := pv_3.below hb12'
    have pr_4 := pr_3.below hb12'
    have f1_4 := f1_3.below hb12'
    have pn_4 := pn_3.below hb12'
    have f2_4 := f2_3.below hb12'
    have f3_4 := f3_3.below hb12'
    have qb_4 := qb_3.below hb12'
    have qc_4 := qc_3.below hb12'
    have f4_1 := f4_0.below hb12'
    clear hb12' hB_3 pa_3 pb_3 pv_3 pr_3 f1_3 pn_3 f2_3 f3_3 qb_3 qc_3 f4_0
    obtain ⟨pae0, pae1, pae2, pae3⟩ := pa_4.open2
    obtain ⟨pbe0, pbe1, pbe2, pbe3⟩ := pb_4.open2
    obtain ⟨pve0, pve1, pve2, pve3⟩ := pv_4.open2
    obtain ⟨qbe0, qbe1, qbe2, qbe3⟩ := qb_4.open2
    obtain ⟨qce0, qce1, qce2, qce3⟩ := qc_4.open2
    go_wp2_with fail
    refine (sless_any 2 2 _ _ (b0 - a0) (v0 - a0) _ (by omega) (by omega) (InP.lo HB0.out HA0.out) (InP.hi HB0.out HA0.out) (InP.lo HV0.out HA0.out) (InP.hi HV0.out HA0.out) f3_4.num f2_4.num).mono ?_
    rintro e w13 ⟨m5, o5, n5, c5, rfl, f5_0, hb13⟩
    clear pae0 pae1 pae2 pae3 pbe0 pbe1 pbe2 pbe3 pve0 pve1 pve2 pve3 qbe0 qbe1 qbe2 qbe3 qce0 qce1 qce2 qce3
    have hB_5 := hB_4.trans (hb13.mono hB_4.size)
    have pa_5 := pa_4.below hb13
    have pb_5 := pb_4.below hb13
    have pv_5 := pv_4.below hb13
    have pr_5 := pr_4.below hb13
    have f1_5 := f1_4.below hb13
    have pn_5 := pn_4.below hb13
    have f2_5 := f2_4.below hb13
    have f3_5 := f3_4.below hb13
    have qb_5 := qb_4.below hb13
    have qc_5 := qc_4.below hb13
    have f4_2 := f4_1.below hb13
    have px_1 := px_0.below hb13
    clear hb13 hB_4 pa_4 pb_4 pv_4 pr_4 f1_4 pn_4 f2_4 f3_4 qb_4 qc_4 f4_1 px_0
    have hl3pa := pa_5.lt
    have hl3pb := pb_5.lt
    have hl3pv := pv_5.lt
    have hl3pr := pr_5.lt
    have hl3pn := pn_5.lt
    have hl3qb := qb_5.lt
    have hl3qc := qc_5.lt
    have hl3px := px_1.lt
    have hl3B := hB_5.size
    obtain ⟨w14, hw14, py_0, hb14, hs14⟩ := new_box w13 (w13.heap.size) rfl [.bool m5, .slice o5 n5 c5] 29
    have hb14' : Below w13.heap.size w13 w14 := hb14.mono (by omega)
    clear hb14
    have hB_6 := hB_5.trans (hb14'.mono hB_5.size)
    have pa_6 := pa_5.below hb14'
    have pb_6 := pb_5.below hb14'
    have pv_6 := pv_5.below hb14'
    have pr_6 := pr_5.below hb14'
    have f1_6 := f1_5.below hb14'
    have pn_6 := pn_5.below hb14'
    have f2_6 := f2_5.below hb14'
    have f3_6 := f3_5.below hb14'
    have qb_6 := qb_5.below hb14'
    have qc_6 := qc_5.below hb14'
    have f4_3 := f4_2.below hb14'
    have px_2 := px_1.below hb14'
    have f5_1 := f5_0.below hb14'
    clear hb14' hB_5 pa_5 pb_5 pv_5 pr_5 f1_5 pn_5 f2_5 f3_5 qb_5 qc_5 f4_2 px_1 f5_0
    obtain ⟨pne0, pne1, pne2, pne3⟩ := pn_6.open2
    go_wp2_with fail
    refine (nAdd_any _ _ 2 2 _ _ _ (by omega) (by omega) f1_6.num f1_6.num).mono ?_
    rintro e w15 ⟨m6, o6, n6, c6, rfl, f6_0, hb15⟩
    clear pne0 pne1 pne2 pne3
    have hB_7 := hB_6.trans (hb15.mono hB_6.size)
    have pa_7 := pa_6.below hb15
    have pb_7 := pb_6.below hb15
    have pv_7 := pv_6.below hb15
    have pr_7 := pr_6.below hb15
    have f1_7 := f1_6.below hb15
    have pn_7 := pn_6.below hb15
    have f2_7 := f2_6.below hb15
    have f3_7 := f3_6.below hb15
    have qb_7 := qb_6.below hb15
    have qc_7 := qc_6.below hb15
    have f4_4 := f4_3.below hb15
    have px_3 := px_2.below hb15
    have f5_2 := f5_1.below hb15
    have py_1 := py_0.below hb15
    clear hb15 hB_6 pa_6 pb_6 pv_6 pr_6 f1_6 pn_6 f2_6 f3_6 qb_6 qc_6 f4_3 px_2 f5_1 py_0
    have hl4pa := pa_7.lt
    have hl4pb := pb_7.lt
    have hl4pv := pv_7.lt
    have hl4pr := pr_7.lt
    have hl4pn := pn_7.lt
    have hl4qb := qb_7.lt
    have hl4qc := qc_7.lt
    have hl4px := px_3.lt
    have hl4py := py_1.lt
    have hl4B := hB_7.size
    obtain ⟨w16, hw16, pd_0, hb16, hs16⟩ := new_box w15 (w15.heap.size) rfl [.bool m6, .slice o6 n6 c6] 29
    have hb16' : Below w15.heap.size w15 w16 := hb16.mono (by omega)
    clear hb16
    have hB_8 := hB_7.trans (hb16'.mono hB_7.size)
    have pa_8 := pa_7.below hb16'
    have pb_8 := pb_7.below hb16'
    have pv_8 := pv_7.below hb16'
    have pr_8 := pr_7.below hb16'
    have f1_8 := f1_7.below hb16'
    have pn_8 := pn_7.below hb16'
    have f2_8 := f2_7.below hb16'
    have f3_8 := f3_7.below hb16'
    have qb_8 := qb_7.below hb16'
    have qc_8 := qc_7.below hb16'
    have f4_5 := f4_4.below hb16'
    have px_4 := px_3.below hb16'
    have f5_3 := f5_2.below hb16'
    have py_2 := py_1.below hb16'
    have f6_1 := f6_0.below hb16'
    clear hb16' hB_7 pa_7 pb_7 pv_7 pr_7 f1_7 pn_7 f2_7 f3_7 qb_7 qc_7 f4_4 px_3 f5_2 py_1 f6_0
    go_wp2
    try rw [hw16]
    have hB_9 := hB_8.drew'
    have pa_9 := pa_8.drew
    have pb_9 := pb_8.drew
    have pv_9 := pv_8.drew
    have pr_9 := pr_8.drew
    have f1_9 := f1_8.drew
    have pn_9 := pn_8.drew
    have f2_9 := f2_8.drew
    have f3_9 := f3_8.drew
    have qb_9 := qb_8.drew
    have qc_9 := qc_8.drew
    have f4_6 := f4_5.drew
    have px_5 := px_4.drew
    have f5_4 := f5_3.drew
    have py_3 := py_2.drew
    have f6_2 := f6_1.drew
    have pd_1 := pd_0.drew
    clear hB_8 pa_8 pb_8 pv_8 pr_8 f1_8 pn_8 f2_8 f3_8 qb_8 qc_8 f4_5 px_4 f5_3 py_2 f6_1 pd_0
    go_region_held3 (fun w' => w'.cell? ⟨w.heap.size, 0, none⟩ = some (.int .i64 a0) ∧ w'.cell? ⟨w.heap.size, 1, none⟩ = some (.int .i64 a1) ∧ w'.cell? ⟨w11.heap.size, 0, none⟩ = some (.bool m4) ∧ w'.cell? ⟨w11.heap.size, 1, none⟩ = some (.slice o4 n4 c4) ∧ w'.cell? ⟨w13.heap.size, 0, none⟩ = some (.bool m5) ∧ w'.cell? ⟨w13.heap.size, 1, none⟩ = some (.slice o5 n5 c5) ∧ w'.cell? ⟨w15.heap.size, 0, none⟩ = some (.bool m6) ∧ w'.cell? ⟨w15.heap.size, 1, none⟩ = some (.slice o6 n6 c6))
      (first | with_reducible exact ⟨pa_9.c0, pa_9.c1, px_5.c0, px_5.c1, py_3.c0, py_3.c1, pd_1.c0, pd_1.c1⟩ | with_reducible exact ⟨pa_10.c0, pa_10.c1, px_6.c0, px_6.c1, py_4.c0, py_4.c1, pd_2.c0, pd_2.c1⟩ | with_reducible exact ⟨pa_11.c0, pa_11.c1, px_7.c0, px_7.c1, py_5.c0, py_5.c1, pd_3.c0, pd_3.c1⟩ | with_reducible exact ⟨pa_12.c0, pa_12.c1, px_8.c0, px_8.c1, py_6.c0, py_6.c1, pd_4.c0, pd_4.c1⟩ | fail)
      (first
        | (go_at_call 44; (with_reducible refine (sbeyond_any a0 4 3 _ _ _ (by omega) (by omega) (by have := HA0.out; unfold InP at this; omega) (by have := HA0.out; unfold InP at this; omega) HE.out f4_6.num f6_2.num).mono ?_); rintro e w17 ⟨m7x, o7x, n7x, c7x, p7x, k7x, d7x, rfl, f7x_0, hb17⟩; have hB_10 := hB_9.trans (hb17.mono hB_9.size); have pa_10 := pa_9.below hb17; have pb_10 := pb_9.below hb17; have pv_10 := pv_9.below hb17; have pr_10 := pr_9.below hb17; have f1_10 := f1_9.below hb17; have pn_10 := pn_9.below hb17; have f2_10 := f2_9.below hb17; have f3_10 := f3_9.below hb17; have qb_10 := qb_9.below hb17; have qc_10 := qc_9.below hb17; have f4_7 := f4_6.below hb17; have px_6 := px_5.below hb17; have f5_5 := f5_4.below hb17; have py_4 := py_3.below hb17; have f6_3 := f6_2.below hb17; have pd_2 := pd_1.below hb17; clear hb17 hB_9 pa_9 pb_9 pv_9 pr_9 f1_9 pn_9 f2_9 f3_9 qb_9 qc_9 f4_6 px_5 f5_4 py_3 f6_2 pd_1)
        | (go_at_call 44; (with_reducible refine (sbeyond_any a1 4 3 _ _ _ (by omega) (by omega) (by have := HA1.out; unfold InP at this; omega) (by have := HA1.out; unfold InP at this; omega) HE.out f5_5.num f6_3.num).mono ?_); rintro e w18 ⟨m7y, o7y, n7y, c7y, p7y, k7y, d7y, rfl, f7y_0, hb18⟩; have hB_11 := hB_10.trans (hb18.mono hB_10.size); have pa_11 := pa_10.below hb18; have pb_11 := pb_10.below hb18; have pv_11 := pv_10.below hb18; have pr_11 := pr_10.below hb18; have f1_11 := f1_10.below hb18; have pn_11 := pn_10.below hb18; have f2_11 := f2_10.below hb18; have f3_11 := f3_10.below hb18; have qb_11 := qb_10.below hb18; have qc_11 := qc_10.below hb18; have f4_8 := f4_7.below hb18; have px_7 := px_6.below hb18; have f5_6 := f5_5.below hb18; have py_5 := py_4.below hb18; have f6_4 := f6_3.below hb18; have pd_3 := pd_2.below hb18; have f7x_1 := f7x_0.below hb18; clear hb18 hB_10 pa_10 pb_10 pv_10 pr_10 f1_10 pn_10 f2_10 f3_10 qb_10 qc_10 f4_7 px_6 f5_5 py_4 f6_3 pd_2 f7x_0; obtain ⟨sf3a, sf3b, sf3c, sf3d, sf3e, sf3f, sf3g, sf3h, sf3i, sf3j, sf3k, sf3l⟩ := pr_11.open6; obtain ⟨sg3a, sg3b, sg3c, sg3d, sg3e, sg3f, sg3g, sg3h, sg3i, sg3j⟩ := Box.put6 pr_11 (.bool m7x) (.slice o7x n7x c7x) (.slice p7x k7x d7x) (.bool m7y) (.slice o7y n7y c7y); have hB_12 := below_setAll hB_11 (g := w.heap.size + 1 + 1 + 1) (by omega) [.bool m7x, .slice o7x n7x c7x, .slice p7x k7x d7x, .bool m7y, .slice o7y n7y c7y, .slice p7y k7y d7y]; have pa_12 := pa_11.farAll (g' := w.heap.size + 1 + 1 + 1) (by omega) [.bool m7x, .slice o7x n7x c7x, .slice p7x k7x d7x, .bool m7y, .slice o7y n7y c7y, .slice p7y k7y d7y]; have pb_12 := pb_11.farAll (g' := w.heap.size + 1 + 1 + 1) (by omega) [.bool m7x, .slice o7x n7x c7x, .slice p7x k7x d7x, .bool m7y, .slice o7y n7y c7y, .slice p7y k7y d7y]; have pv_12 := pv_11.farAll (g' := w.heap.size + 1 + 1 + 1) (by omega) [.bool m7x, .slice o7x n7x c7x, .slice p7x k7x d7x, .bool m7y, .slice o7y n7y c7y, .slice p7y k7y d7y]; have f1_12 := f1_11.setAll pr_11 (noWord6 _ _ _ _ _ _ _ _ _ _ _ _ _ _) [.bool m7x, .slice o7x n7x c7x, .slice p7x k7x d7x, .bool m7y, .slice o7y n7y c7y, .slice p7y k7y d7y] rfl; have pn_12 := pn_11.farAll (g' := w.heap.size + 1 + 1 + 1) (by omega) [.bool m7x, .slice o7x n7x c7x, .slice p7x k7x d7x, .bool m7y, .slice o7y n7y c7y, .slice p7y k7y d7y]; have f2_12 := f2_11.setAll pr_11 (noWord6 _ _ _ _ _ _ _ _ _ _ _ _ _ _) [.bool m7x, .slice o7x n7x c7x, .slice p7x k7x d7x, .bool m7y, .slice o7y n7y c7y, .slice p7y k7y d7y] rfl; have f3_12 := f3_11.setAll pr_11 (noWord6 _ _ _ _ _ _ _ _ _ _ _ _ _ _) [.bool m7x, .slice o7x n7x c7x, .slice p7x k7x d7x, .bool m7y, .slice o7y n7y c7y, .slice p7y k7y d7y] rfl; have qb_12 := qb_11.farAll (g' := w.heap.size + 1 + 1 + 1) (by omega) [.bool m7x, .slice o7x n7x c7x, .slice p7x k7x d7x, .bool m7y, .slice o7y n7y c7y, .slice p7y k7y d7y]; have qc_12 := qc_11.farAll (g' := w.heap.size + 1 + 1 + 1) (by omega) [.bool m7x, .slice o7x n7x c7x, .slice p7x k7x d7x, .bool m7y, .slice o7y n7y c7y, .slice p7y k7y d7y]; have f4_9 := f4_8.setAll pr_11 (noWord6 _ _ _ _ _ _ _ _ _ _ _ _ _ _) [.bool m7x, .slice o7x n7x c7x, .slice p7x k7x d7x, .bool m7y, .slice o7y n7y c7y, .slice p7y k7y d7y] rfl; have px_8 := px_7.farAll (g' := w.heap.size + 1 + 1 + 1) (by omega) [.bool m7x, .slice o7x n7x c7x, .slice p7x k7x d7x, .bool m7y, .slice o7y n7y c7y, .slice p7y k7y d7y]; have f5_7 := f5_6.setAll pr_11 (noWord6 _ _ _ _ _ _ _ _ _ _ _ _ _ _) [.bool m7x, .slice o7x n7x c7x, .slice p7x k7x d7x, .bool m7y, .slice o7y n7y c7y, .slice p7y k7y d7y] rfl; have py_6 := py_5.farAll (g' := w.heap.size + 1 + 1 + 1) (by omega) [.bool m7x, .slice o7x n7x c7x, .slice p7x k7x d7x, .bool m7y, .slice o7y n7y c7y, .slice p7y k7y d7y]; have f6_5 := f6_4.setAll pr_11 (noWord6 _ _ _ _ _ _ _ _ _ _ _ _ _ _) [.bool m7x, .slice o7x n7x c7x, .slice p7x k7x d7x, .bool m7y, .slice o7y n7y c7y, .slice p7y k7y d7y] rfl; have pd_4 := pd_3.farAll (g' := w.heap.size + 1 + 1 + 1) (by omega) [.bool m7x, .slice o7x n7x c7x, .slice p7x k7x d7x, .bool m7y, .slice o7y n7y c7y, .slice p7y k7y d7y]; have f7x_2 := f7x_1.setAll pr_11 (noWord6 _ _ _ _ _ _ _ _ _ _ _ _ _ _) [.bool m7x, .slice o7x n7x c7x, .slice p7x k7x d7x, .bool m7y, .slice o7y n7y c7y, .slice p7y k7y d7y] rfl; have f7y_1 := f7y_0.setAll pr_11 (noWord6 _ _ _ _ _ _ _ _ _ _ _ _ _ _) [.bool m7x, .slice o7x n7x c7x, .slice p7x k7x d7x, .bool m7y, .slice o7y n7y c7y, .slice p7y k7y d7y] rfl; have pr_12 := pr_11.setAll [.bool m7x, .slice o7x n7x c7x, .slice p7x k7x d7x, .bool m7y, .slice o7y n7y c7y, .slice p7y k7y d7y] rfl; simp only [setAll, Nat.zero_add, Nat.reduceAdd] at hB_12 pa_12 pb_12 pv_12 pr_12 f1_12 pn_12 f2_12 f3_12 qb_12 qc_12 f4_9 px_8 f5_7 py_6 f6_5 pd_4 f7x_2 f7y_1))
    clear hB_11 pa_11 pb_11 pv_11 f1_11 pn_11 f2_11 f3_11 qb_11 qc_11 f4_8 px_7 f5_6 py_5 f6_4 pd_3 f7x_1 f7y_0 pr_11
    clear sf3a sf3b sf3c sf3d sf3e sf3f sf3g sf3h sf3i sf3j sf3k sf3l sg3a sg3b sg3c sg3d sg3e sg3f sg3g sg3h sg3i sg3j
    generalize (World.setCell (World.setCell (World.setCell (World.setCell (World.setCell (World.setCell w18 ⟨w.heap.size + 1 + 1 + 1, 0, none⟩ (.bool m7x)) ⟨w.heap.size + 1 + 1 + 1, 1, none⟩ (.slice o7x n7x c7x)) ⟨w.heap.size + 1 + 1 + 1, 2, none⟩ (.slice p7x k7x d7x)) ⟨w.heap.size + 1 + 1 + 1, 3, none⟩ (.bool m7y)) ⟨w.heap.size + 1 + 1 + 1, 4, none⟩ (.slice o7y n7y c7y)) ⟨w.heap.size + 1 + 1 + 1, 5, none⟩ (.slice p7y k7y d7y)) = w19 at *
    go_wp2
    obtain ⟨pre0, pre1, pre2, pre3, pre4, pre5, pre6, pre7, pre8, pre9, pre10, pre11⟩ := pr_12.open6
    exact bodyPost_ret (v := .tuple #[.agg #[.bool m7x, .slice o7x n7x c7x, .slice p7x k7x d7x, .bool m7y, .slice o7y n7y c7y, .slice p7y k7y d7y], .bool true]) (by simp [results, Try.results11, go_sem, pre0, pre1, pre2, pre3, pre4, pre5]) rfl ⟨_, _, _, _, _, _, _, _, _, _, _, _, _, _, rfl, f7x_2, f7y_1, hB_12⟩
  · right
    refine ⟨?_, fun i hi => ?_⟩
    · clear zF F2 F5 F6 F7 nq6_7
      cases lb2
      · exact ready_of 2 _ rfl rfl (by kernel_rfl)
      cases lb5
      · exact ready_of 5 _ rfl rfl (by kernel_rfl)
      cases lb6
      · exact ready_of 6 _ rfl rfl (by kernel_rfl)
      cases lb7
      · exact ready_of 7 _ rfl rfl (by kernel_rfl)
      exact absurd ⟨rfl, rfl, rfl, rfl⟩ hL
    have hd : (lb2 = false ∧ i = 2) ∨ (lb5 = false ∧ lb2 = true ∧ i = 5) ∨ (lb6 = false ∧ i = 6) ∨ (lb7 = false ∧ i = 7) := by
      have hin := ready_lt hi
      obtain rfl | rfl | rfl | rfl | rfl | rfl | rfl | rfl | rfl | rfl : i = 0 ∨ i = 1 ∨ i = 2 ∨ i = 3 ∨ i = 4 ∨ i = 5 ∨ i = 6 ∨ i = 7 ∨ i = 8 ∨ i = 9 := by have hin' : i < 10 := hin; omega
      · exact absurd (ready_off hi) (fun h => Bool.noConfusion (show true = false from h))
      · exact absurd (ready_off hi) (fun h => Bool.noConfusion (show true = false from h))
      · exact .inl ⟨ready_off hi, rfl⟩
      · exact absurd (ready_off hi) (fun h => Bool.noConfusion (show true = false from h))
      · exact absurd (ready_off hi) (fun h => Bool.noConfusion (show true = false from h))
      · exact .inr (.inl ⟨ready_off hi, ready_dep (d := 2) hi (by kernel_rfl), rfl⟩)
      · exact .inr (.inr (.inl ⟨ready_off hi, rfl⟩))
      · exact .inr (.inr (.inr (⟨ready_off hi, rfl⟩)))
      · have k6 : lb6 = true := ready_dep (d := 6) hi (by kernel_rfl); have k2 : lb2 = true := ready_dep (d := 2) hi (by kernel_rfl); have k5 : lb5 = true := ready_dep (d := 5) hi (by kernel_rfl); have k7 : lb7 = true := ready_dep (d := 7) hi (by kernel_rfl)
        exact absurd ⟨k2, k5, k6, k7⟩ hL
      · exact absurd (ready_dep (d := 8) hi (by kernel_rfl)) (fun h => Bool.noConfusion (show false = true from h))
    clear hi hL
    rcases hd with ⟨rfl, rfl⟩ | ⟨rfl, rfl, rfl⟩ | ⟨rfl, rfl⟩ | ⟨rfl, rfl⟩
    · refine step_of 2 ?_ ?_ (fun K hK => ?_)
      rotate_left 1
      · simp only [List.getElem?_toArray, List.getElem?_cons_succ, List.getElem?_cons_zero]; exact rfl
      rw [HAi.out]
      try simp only [Act.put]
      try simp only [List.setIfInBounds_toArray, List.set_cons_zero, List.set_cons_succ]
      go_simp
      refine (Dist2_any a0 a1 b0 b1 HA0.out HA1.out HB0.out HB1.out _).mono ?_
      rintro e w20 ⟨m2, o2, n2, c2, rfl, f2_0, hb⟩
      go_wp2_with fail
      refine hK.out _ _ (sFi (cFi zF hb)) ?_
      exact (hIVi _ _ _).2 ⟨true, lb5, lb6, lb7, (.agg #[.bool m2, .slice o2 n2 c2]), lv5, lv6, lv7, m2, o2, n2, c2, m3, o3, n3, c3, gqb, gqc, rfl, (by simp only [HAi.out, Act.put, List.setIfInBounds_toArray, List.set_cons_zero, List.set_cons_succ]), (cFi zF hb), (fun _ => ⟨rfl, f2_0⟩), (fun h => absurd (dp5_2 h) (by decide)), (fun h => ⟨(F6 h).1, (F6 h).2.1.below hb, (F6 h).2.2⟩), (fun h => ⟨(F7 h).1, (F7 h).2.1.below hb, (F7 h).2.2⟩), (fun _ => rfl), nq6_7⟩
    · obtain ⟨rfl, f2_0⟩ := F2 rfl
      clear F2
      refine step_of 5 ?_ ?_ (fun K hK => ?_)
      rotate_left 1
      · simp only [List.getElem?_toArray, List.getElem?_cons_succ, List.getElem?_cons_zero]; exact rfl
      rw [HAi.out]
      try simp only [Act.put]
      try simp only [List.setIfInBounds_toArray, List.set_cons_zero, List.set_cons_succ]
      go_simp
      refine (Dist2_any a0 a1 v0 v1 HA0.out HA1.out HV0.out HV1.out _).mono ?_
      rintro e w21 ⟨m3, o3, n3, c3, rfl, f3_0, hb⟩
      go_wp2_with fail
      refine hK.out _ _ (sFi (cFi zF hb)) ?_
      exact (hIVi _ _ _).2 ⟨true, true, lb6, lb7, _, (.agg #[.bool m3, .slice o3 n3 c3]), lv6, lv7, m2, o2, n2, c2, m3, o3, n3, c3, gqb, gqc, rfl, (by simp only [HAi.out, Act.put, List.setIfInBounds_toArray, List.set_cons_zero, List.set_cons_succ]), (cFi zF hb), (fun _ => ⟨rfl, f2_0.below hb⟩), (fun _ => ⟨rfl, f3_0⟩), (fun h => ⟨(F6 h).1, (F6 h).2.1.below hb, (F6 h).2.2⟩), (fun h => ⟨(F7 h).1, (F7 h).2.1.below hb, (F7 h).2.2⟩), (fun _ => rfl), nq6_7⟩
    · refine step_of 6 ?_ ?_ (fun K hK => ?_)
      rotate_left 1
      · simp only [List.getElem?_toArray, List.getElem?_cons_succ, List.getElem?_cons_zero]; exact rfl
      rw [HAi.out]
      try simp only [Act.put]
      try simp only [List.setIfInBounds_toArray, List.set_cons_zero, List.set_cons_succ]
      go_simp
      have hgn := mFi zF
      have hq7 : lb7 = true → gqc < w8.heap.size := fun h => (F7 h).2.1.lt
      obtain ⟨wn, hwn, qb_0, hb, -⟩ := new_box w8 _ rfl [.bool false, .slice none 0 0] 29
      rw [hwn]
      refine hK.out _ _ (sFi (cFi zF hb)) ?_
      exact (hIVi _ _ _).2 ⟨lb2, lb5, true, lb7, lv2, lv5, (.pointer (some ⟨w8.heap.size, 0, none⟩)), lv7, m2, o2, n2, c2, m3, o3, n3, c3, w8.heap.size, gqc, rfl, (by simp only [HAi.out, Act.put, List.setIfInBounds_toArray, List.set_cons_zero, List.set_cons_succ]), (cFi zF hb), (fun h => ⟨(F2 h).1, (F2 h).2.below hb⟩), (fun h => ⟨(F5 h).1, (F5 h).2.below hb⟩), (fun _ => ⟨rfl, qb_0, hgn⟩), (fun h => ⟨(F7 h).1, (F7 h).2.1.below hb, (F7 h).2.2⟩), dp5_2, (fun _ h => by have := hq7 h; omega)⟩
    · refine step_of 7 ?_ ?_ (fun K hK => ?_)
      rotate_left 1
      · simp only [List.getElem?_toArray, List.getElem?_cons_succ, List.getElem?_cons_zero]; exact rfl
      rw [HAi.out]
      try simp only [Act.put]
      try simp only [List.setIfInBounds_toArray, List.set_cons_zero, List.set_cons_succ]
      go_simp
      have hgn := mFi zF
      have hq6 : lb6 = true → gqb < w8.heap.size := fun h => (F6 h).2.1.lt
      obtain ⟨wn, hwn, qc_0, hb, -⟩ := new_box w8 _ rfl [.bool false, .slice none 0 0] 29
      rw [hwn]
      refine hK.out _ _ (sFi (cFi zF hb)) ?_
      exact (hIVi _ _ _).2 ⟨lb2, lb5, lb6, true, lv2, lv5, lv6, (.pointer (some ⟨w8.heap.size, 0, none⟩)), m2, o2, n2, c2, m3, o3, n3, c3, gqb, w8.heap.size, rfl, (by simp only [HAi.out, Act.put, List.setIfInBounds_toArray, List.set_cons_zero, List.set_cons_succ]), (cFi zF hb), (fun h => ⟨(F2 h).1, (F2 h).2.below hb⟩), (fun h => ⟨(F5 h).1, (F5 h).2.below hb⟩), (fun h => ⟨(F6 h).1, (F6 h).2.1.below hb, (F6 h).2.2⟩), (fun _ => ⟨rfl, qc_0, hgn⟩), dp5_2, (fun h _ => by have := hq6 h; omega)⟩
theorem sCentre_s (a0 a1 b0 b1 v0 v1 : Int) (ha0 : InP a0) (ha1 : InP a1) (hb0 : InP b0) (hb1 : InP b1) (hv0 : InP v0) (hv1 : InP v1) (h : crs a0 a1 b0 b1 v0 v1 ≠ 0) (w : World) : Calls Try.prog 11 #[.agg #[.int .i64 a0, .int .i64 a1], .agg #[.int .i64 b0, .int .i64 b1], .agg #[.int .i64 v0, .int .i64 v1]] w fun e w' => AnsSt w w' e 7 (cx a0 a1 b0 b1 v0 v1) (cy a0 a1 b0 b1 v0 v1) :=
  sCentre_w a0 a1 b0 b1 v0 v1 ha0 ha1 hb0 hb1 hv0 hv1 _ rfl (beq_eq_false_iff_ne.2 (fun k => h (Int.sign_eq_zero_iff_zero.1 k))) (by omega) ⟨hv1.wrap ha1, hb1.wrap ha1, hb0.wrap ha0, hv0.wrap ha0⟩ w
end Go.Proofs.Ytkcfaddilknelaa
/- The statements' own fit. -/
namespace Go.Proofs.Ytkcfaddilknelaa
open Go.RowKit Go.MagM
theorem in0 : InP 0 := by unfold InP; omega
theorem in1 : InP 1 := by unfold InP; omega
theorem in2 : InP 2 := by unfold InP; omega
theorem cx_fit : cx 0 0 2 0 0 2 = ((1 : Int) : Rat) := by
  have h := cx_mul (a0 := 0) (a1 := 0) (b0 := 2) (b1 := 0) (v0 := 0) (v1 := 2) (by decide)
  apply mul_cancel (d := ((crs 0 0 2 0 0 2 + crs 0 0 2 0 0 2 : Int) : Rat)) (ic_ne (by decide))
  rw [show ((0 : Int) : Rat) = 0 from rfl] at h
  rw [← ic_mul, show (1 : Int) * (crs 0 0 2 0 0 2 + crs 0 0 2 0 0 2) = cxN 0 0 2 0 0 2 from by decide, ← h]
  grind
theorem cy_fit : cy 0 0 2 0 0 2 = ((1 : Int) : Rat) := by
  have h := cy_mul (a0 := 0) (a1 := 0) (b0 := 2) (b1 := 0) (v0 := 0) (v1 := 2) (by decide)
  apply mul_cancel (d := ((crs 0 0 2 0 0 2 + crs 0 0 2 0 0 2 : Int) : Rat)) (ic_ne (by decide))
  rw [show ((0 : Int) : Rat) = 0 from rfl] at h
  rw [← ic_mul, show (1 : Int) * (crs 0 0 2 0 0 2 + crs 0 0 2 0 0 2) = cyN 0 0 2 0 0 2 from by decide, ← h]
  grind
theorem dist_fit : (distQ ((1 : Int) : Rat) ((1 : Int) : Rat) ((0 : Int) : Rat) ((0 : Int) : Rat)).num.sign = 1 := by
  rw [dist_int, Rat.num_intCast]; decide
set_option maxHeartbeats 4000000 in
theorem sfit_any (w : World) :
    Calls Try.prog 9 #[] w fun e w' => e = .returned (.bool true) ∧ Below w.heap.size w w' := by
  have hB_0 := Below.refl w.heap.size w
  go_enter Try.func9, Try.ntmps9
  go_wp2_with fail
  refine (sCentre_s 0 0 2 0 0 2 in0 in0 in2 in0 in0 in2 (by decide) _).mono ?_
  rintro e w1 ⟨m1x, o1x, n1x, c1x, p1x, k1x, d1x, m1y, o1y, n1y, c1y, p1y, k1y, d1y, rfl, f1x_0, f1y_0, hb1⟩
  have hB_1 := hB_0.trans (hb1.mono hB_0.size)
  clear hb1 hB_0
  rw [cx_fit] at f1x_0
  rw [cy_fit] at f1y_0
  have hl1B := hB_1.size
  obtain ⟨w2, hw2, pc_0, hb2, hs2⟩ := new_box w1 (w1.heap.size) rfl [.bool m1x, .slice o1x n1x c1x, .slice p1x k1x d1x, .bool m1y, .slice o1y n1y c1y, .slice p1y k1y d1y] 33
  have hb2' : Below w1.heap.size w1 w2 := hb2.mono (by omega)
  clear hb2
  have hB_2 := hB_1.trans (hb2'.mono hB_1.size)
  have f1x_1 := f1x_0.below hb2'
  have f1y_1 := f1y_0.below hb2'
  clear hb2' hB_1 f1x_0 f1y_0
  go_wp2
  try rw [hw2]
  have hB_3 := hB_2.drew'
  have f1x_2 := f1x_1.drew
  have f1y_2 := f1y_1.drew
  have pc_1 := pc_0.drew
  clear hB_2 f1x_1 f1y_1 pc_0
  go_region_held3 (fun w' => w'.cell? ⟨w1.heap.size, 0, none⟩ = some (.bool m1x) ∧ w'.cell? ⟨w1.heap.size, 1, none⟩ = some (.slice o1x n1x c1x) ∧ w'.cell? ⟨w1.heap.size, 2, none⟩ = some (.slice p1x k1x d1x) ∧ w'.cell? ⟨w1.heap.size, 3, none⟩ = some (.bool m1y) ∧ w'.cell? ⟨w1.heap.size, 4, none⟩ = some (.slice o1y n1y c1y) ∧ w'.cell? ⟨w1.heap.size, 5, none⟩ = some (.slice p1y k1y d1y))
    (first | with_reducible exact ⟨pc_1.c0, pc_1.c1, pc_1.c2, pc_1.c3, pc_1.c4, pc_1.c5⟩ | with_reducible exact ⟨pc_2.c0, pc_2.c1, pc_2.c2, pc_2.c3, pc_2.c4, pc_2.c5⟩ | with_reducible exact ⟨pc_3.c0, pc_3.c1, pc_3.c2, pc_3.c3, pc_3.c4, pc_3.c5⟩ | with_reducible exact ⟨pc_4.c0, pc_4.c1, pc_4.c2, pc_4.c3, pc_4.c4, pc_4.c5⟩ | with_reducible exact ⟨pc_5.c0, pc_5.c1, pc_5.c2, pc_5.c3, pc_5.c4, pc_5.c5⟩ | with_reducible exact ⟨pc_6.c0, pc_6.c1, pc_6.c2, pc_6.c3, pc_6.c4, pc_6.c5⟩ | with_reducible exact ⟨pc_7.c0, pc_7.c1, pc_7.c2, pc_7.c3, pc_7.c4, pc_7.c5⟩ | with_reducible exact ⟨pc_8.c0, pc_8.c1, pc_8.c2, pc_8.c3, pc_8.c4, pc_8.c5⟩ | fail)
    (first
      | (go_at_call 15; (with_reducible refine (sOf_any 1 1 in1 in1 _).mono ?_); rintro e w3 ⟨m2x, o2x, n2x, c2x, p2x, k2x, d2x, m2y, o2y, n2y, c2y, p2y, k2y, d2y, rfl, f2x_0, f2y_0, hb3⟩; have hB_4 := hB_3.trans (hb3.mono hB_3.size); have f1x_3 := f1x_2.below hb3; have f1y_3 := f1y_2.below hb3; have pc_2 := pc_1.below hb3; clear hb3 hB_3 f1x_2 f1y_2 pc_1)
      | (go_at_call 17; (with_reducible refine (sSame_any 7 _ _ 1 _ _ _ (by omega) (by omega) f1x_3.q f1y_3.q f2x_0.q f2y_0.q true ⟨fun _ => rfl, fun _ => ⟨rfl, rfl⟩⟩).mono ?_); rintro e w4 ⟨rfl, hb4⟩; have hB_5 := hB_4.trans (hb4.mono hB_4.size); have f1x_4 := f1x_3.below hb4; have f1y_4 := f1y_3.below hb4; have pc_3 := pc_2.below hb4; have f2x_1 := f2x_0.below hb4; have f2y_1 := f2y_0.below hb4; clear hb4 hB_4 f1x_3 f1y_3 pc_2 f2x_0 f2y_0)
      | (go_at_call 15; (with_reducible refine (sOf_any 0 0 in0 in0 _).mono ?_); rintro e w5 ⟨m3x, o3x, n3x, c3x, p3x, k3x, d3x, m3y, o3y, n3y, c3y, p3y, k3y, d3y, rfl, f3x_0, f3y_0, hb5⟩; have hB_6 := hB_5.trans (hb5.mono hB_5.size); have f1x_5 := f1x_4.below hb5; have f1y_5 := f1y_4.below hb5; have pc_4 := pc_3.below hb5; have f2x_2 := f2x_1.below hb5; have f2y_2 := f2y_1.below hb5; clear hb5 hB_5 f1x_4 f1y_4 pc_3 f2x_1 f2y_1)
      | (go_at_call 17; (with_reducible refine (sSame_any 7 _ _ 1 _ _ _ (by omega) (by omega) f1x_5.q f1y_5.q f3x_0.q f3y_0.q false ⟨fun k => absurd (Rat.intCast_inj.1 k.1) (by decide), fun k => by cases k⟩).mono ?_); rintro e w6 ⟨rfl, hb6⟩; have hB_7 := hB_6.trans (hb6.mono hB_6.size); have f1x_6 := f1x_5.below hb6; have f1y_6 := f1y_5.below hb6; have pc_5 := pc_4.below hb6; have f2x_3 := f2x_2.below hb6; have f2y_3 := f2y_2.below hb6; have f3x_1 := f3x_0.below hb6; have f3y_1 := f3y_0.below hb6; clear hb6 hB_6 f1x_5 f1y_5 pc_4 f2x_2 f2y_2 f3x_0 f3y_0)
      | (go_at_call 15; (with_reducible refine (sOf_any 0 0 in0 in0 _).mono ?_); rintro e w7 ⟨m4x, o4x, n4x, c4x, p4x, k4x, d4x, m4y, o4y, n4y, c4y, p4y, k4y, d4y, rfl, f4x_0, f4y_0, hb7⟩; have hB_8 := hB_7.trans (hb7.mono hB_7.size); have f1x_7 := f1x_6.below hb7; have f1y_7 := f1y_6.below hb7; have pc_6 := pc_5.below hb7; have f2x_4 := f2x_3.below hb7; have f2y_4 := f2y_3.below hb7; have f3x_2 := f3x_1.below hb7; have f3y_2 := f3y_1.below hb7; clear hb7 hB_7 f1x_6 f1y_6 pc_5 f2x_3 f2y_3 f3x_1 f3y_1)
      | (go_at_call 14; (with_reducible refine (sDist2_any 7 _ _ 1 _ _ _ (by omega) (by omega) f1x_7.q f1y_7.q f4x_0.q f4y_0.q).mono ?_); rintro e w8 ⟨m5, o5, n5, c5, p5, k5, d5, rfl, f5_0, hb8⟩; have hB_9 := hB_8.trans (hb8.mono hB_8.size); have f1x_8 := f1x_7.below hb8; have f1y_8 := f1y_7.below hb8; have pc_7 := pc_6.below hb8; have f2x_5 := f2x_4.below hb8; have f2y_5 := f2y_4.below hb8; have f3x_3 := f3x_2.below hb8; have f3y_3 := f3y_2.below hb8; have f4x_1 := f4x_0.below hb8; have f4y_1 := f4y_0.below hb8; clear hb8 hB_8 f1x_7 f1y_7 pc_6 f2x_4 f2y_4 f3x_2 f3y_2 f4x_0 f4y_0)
      | (go_at_call 13; (with_reducible refine (qSign _ _ _ _ (by omega) f5_0.q 1 dist_fit).mono ?_); rintro e w9 ⟨rfl, hb9⟩; have hB_10 := hB_9.trans (hb9.mono hB_9.size); have f1x_9 := f1x_8.below hb9; have f1y_9 := f1y_8.below hb9; have pc_8 := pc_7.below hb9; have f2x_6 := f2x_5.below hb9; have f2y_6 := f2y_5.below hb9; have f3x_4 := f3x_3.below hb9; have f3y_4 := f3y_3.below hb9; have f4x_2 := f4x_1.below hb9; have f4y_2 := f4y_1.below hb9; have f5_1 := f5_0.below hb9; clear hb9 hB_9 f1x_8 f1y_8 pc_7 f2x_5 f2y_5 f3x_3 f3y_3 f4x_1 f4y_1 f5_0))
  go_wp2
  go_ret
  exact ⟨rfl, hB_10⟩
end Go.Proofs.Ytkcfaddilknelaa
/- The statements' own calls: less, det, square. -/
namespace Go.Proofs.Ytkcfaddilknelaa
open Go.RowKit Go.MagM
end Go.Proofs.Ytkcfaddilknelaa
/- The statements' own area2, of three points. -/
namespace Go.Proofs.Ytkcfaddilknelaa
open Go.RowKit Go.MagM
end Go.Proofs.Ytkcfaddilknelaa
/- The statements' own Tame, fit; the closure of PredCrosses. -/
namespace Go.Proofs.Ytkcfaddilknelaa
open Go.RowKit Go.MagM
/-- A coordinate made to be one that may be. -/
def tame (x : Int) : Int := if 2147483648 < (if x < -2147483648 then -2147483648 else x) then 2147483648 else (if x < -2147483648 then -2147483648 else x)
theorem tame_in (x : Int) : InP (tame x) := by unfold tame InP; split <;> split <;> omega
set_option maxHeartbeats 4000000 in
theorem Tame_w (a0 a1 x y s t : Int) (e1 : (if a0 < -2147483648 then -2147483648 else a0) = x) (e2 : (if a1 < -2147483648 then -2147483648 else a1) = y) (e3 : (if 2147483648 < x then 2147483648 else x) = s) (e4 : (if 2147483648 < y then 2147483648 else y) = t) (w : World) :
    Calls Try.prog 10 #[.agg #[.int .i64 a0, .int .i64 a1]] w fun e w' => e = .returned (.agg #[.int .i64 s, .int .i64 t]) ∧ Below w.heap.size w w' := by
  have hB_0 := Below.refl w.heap.size w
  have h1 := e1; have h2 := e2; have h3 := e3; have h4 := e4
  obtain ⟨w1, hw1, pa_0, hb1, hs1⟩ := new_box w (w.heap.size) rfl [.int .i64 a0, .int .i64 a1] 23
  have hb1' : Below w.heap.size w w1 := hb1.mono (by omega)
  clear hb1
  have hB_1 := hB_0.trans (hb1'.mono hB_0.size)
  clear hb1' hB_0
  obtain ⟨w2, hw2, pr_0, hb2, hs2⟩ := new_box w1 (w.heap.size + 1) hs1 [.int .i64 0, .int .i64 0] 23
  have hb2' : Below w1.heap.size w1 w2 := hb2.mono (by omega)
  clear hb2
  have hB_2 := hB_1.trans (hb2'.mono hB_1.size)
  have pa_1 := pa_0.below hb2'
  clear hb2' hB_1 pa_0
  go_enter Try.func10, Try.ntmps10
  obtain ⟨pae0, pae1, pae2, pae3⟩ := pa_1.open2
  obtain ⟨pre0, pre1, pre2, pre3⟩ := pr_0.open2
  obtain ⟨sf1a, sf1b, sf1c, sf1d⟩ := pr_0.open2
  obtain ⟨sg1a, sg1b⟩ := Box.put2 pr_0 (.int .i64 s)
  go_wp2
  clear pae0 pae1 pae2 pae3 pre0 pre1 pre2 pre3 sf1a sf1b sf1c sf1d sg1a sg1b
  have hB_3 := below_setAll hB_2 (g := w.heap.size + 1) (by omega) [.int .i64 s, .int .i64 t]
  have pa_2 := pa_1.farAll (g' := w.heap.size + 1) (by omega) [.int .i64 s, .int .i64 t]
  have pr_1 := pr_0.setAll [.int .i64 s, .int .i64 t] rfl
  simp only [setAll, Nat.zero_add] at hB_3 pa_2 pr_1
  clear hB_2 pa_1 pr_0
  generalize (World.setCell (World.setCell w2 ⟨w.heap.size + 1, 0, none⟩ (.int .i64 s)) ⟨w.heap.size + 1, 1, none⟩ (.int .i64 t)) = w3 at *
  go_wp2
  obtain ⟨pre0, pre1, pre2, pre3⟩ := pr_1.open2
  exact bodyPost_ret (v := .agg #[.int .i64 s, .int .i64 t]) (by simp [results, Try.results10, go_sem, pre0, pre1]) rfl ⟨rfl, hB_3⟩
theorem Tame_any (a0 a1 : Int) (w : World) : Calls Try.prog 10 #[.agg #[.int .i64 a0, .int .i64 a1]] w fun e w' => e = .returned (.agg #[.int .i64 (tame a0), .int .i64 (tame a1)]) ∧ Below w.heap.size w w' :=
  Tame_w a0 a1 _ _ _ _ rfl rfl rfl rfl w
end Go.Proofs.Ytkcfaddilknelaa
/- The statement SpotShares, walked. -/
namespace Go.Proofs.Ytkcfaddilknelaa
open Go.RowKit Go.MagM
set_option maxRecDepth 100000 in
set_option maxHeartbeats 32000000 in
theorem SpotShares_n (x0 x1 y0 y1 z0 z1 a0 a1 b0 b1 v0 v1 : Int) {sxm : Bool} {sxo : Option Addr} {sxn sxc : Nat} {sxp : Option Addr} {sxk sxd : Nat} {sym : Bool} {syo : Option Addr} {syn syc : Nat} {syp : Option Addr} {syk syd : Nat} (Lsx Lsy : Nat) (Xsx Xsy : Int) (Dsx Dsy : Nat) (t0 : ∀ w, Calls Try.prog 10 #[.agg #[.int .i64 x0, .int .i64 x1]] w fun e w' => e = .returned (.agg #[.int .i64 a0, .int .i64 a1]) ∧ Below w.heap.size w w') (t1 : ∀ w, Calls Try.prog 10 #[.agg #[.int .i64 y0, .int .i64 y1]] w fun e w' => e = .returned (.agg #[.int .i64 b0, .int .i64 b1]) ∧ Below w.heap.size w w') (t2 : ∀ w, Calls Try.prog 10 #[.agg #[.int .i64 z0, .int .i64 z1]] w fun e w' => e = .returned (.agg #[.int .i64 v0, .int .i64 v1]) ∧ Below w.heap.size w w') (ha0 : InP a0) (ha1 : InP a1) (hb0 : InP b0) (hb1 : InP b1) (hv0 : InP v0) (hv1 : InP v1) (hs : (crs a0 a1 b0 b1 v0 v1).sign = 0) (w : World) (fsx_0 : FD w (.agg #[.bool sxm, .slice sxo sxn sxc, .slice sxp sxk sxd]) Lsx Xsx Dsx) (fsy_0 : FD w (.agg #[.bool sym, .slice syo syn syc, .slice syp syk syd]) Lsy Xsy Dsy) :
    Calls Try.prog 7 #[.agg #[.int .i64 x0, .int .i64 x1, .int .i64 y0, .int .i64 y1, .int .i64 z0, .int .i64 z1], .agg #[.bool sxm, .slice sxo sxn sxc, .slice sxp sxk sxd, .bool sym, .slice syo syn syc, .slice syp syk syd]] w fun e w' => e = .returned (.bool true) ∧ Below w.heap.size w w' := by
  have hB_0 := Below.refl w.heap.size w
  have T0 := Lib.hid t0; have T1 := Lib.hid t1; have T2 := Lib.hid t2; have HA0 := Lib.hid ha0; have HA1 := Lib.hid ha1; have HB0 := Lib.hid hb0; have HB1 := Lib.hid hb1; have HV0 := Lib.hid hv0; have HV1 := Lib.hid hv1; have HS := Lib.hid hs
  clear t0 t1 t2 ha0 ha1 hb0 hb1 hv0 hv1 hs
  obtain ⟨w1, hw1, pl_0, hb1, hs1⟩ := new_box w (w.heap.size) rfl [.int .i64 x0, .int .i64 x1, .int .i64 y0, .int .i64 y1, .int .i64 z0, .int .i64 z1] 56
  have hb1' : Below w.heap.size w w1 := hb1.mono (by omega)
  clear hb1
  have hB_1 := hB_0.trans (hb1'.mono hB_0.size)
  have fsx_1 := fsx_0.below hb1'
  have fsy_1 := fsy_0.below hb1'
  clear hb1' hB_0 fsx_0 fsy_0
  obtain ⟨w2, hw2, ps_0, hb2, hs2⟩ := new_box w1 (w.heap.size + 1) hs1 [.bool sxm, .slice sxo sxn sxc, .slice sxp sxk sxd, .bool sym, .slice syo syn syc, .slice syp syk syd] 33
  have hb2' : Below w1.heap.size w1 w2 := hb2.mono (by omega)
  clear hb2
  have hB_2 := hB_1.trans (hb2'.mono hB_1.size)
  have fsx_2 := fsx_1.below hb2'
  have fsy_2 := fsy_1.below hb2'
  have pl_1 := pl_0.below hb2'
  clear hb2' hB_1 fsx_1 fsy_1 pl_0
  go_enter Try.func7, Try.ntmps7
  obtain ⟨ple0, ple1, ple2, ple3, ple4, ple5, ple6, ple7, ple8, ple9, ple10, ple11⟩ := pl_1.open6
  go_wp2_with fail
  refine (sfit_any _).mono ?_
  rintro e w3 ⟨rfl, hb3⟩
  clear ple0 ple1 ple2 ple3 ple4 ple5 ple6 ple7 ple8 ple9 ple10 ple11
  have hB_3 := hB_2.trans (hb3.mono hB_2.size)
  have fsx_3 := fsx_2.below hb3
  have fsy_3 := fsy_2.below hb3
  have pl_2 := pl_1.below hb3
  have ps_1 := ps_0.below hb3
  clear hb3 hB_2 fsx_2 fsy_2 pl_1 ps_0
  obtain ⟨ple0, ple1, ple2, ple3, ple4, ple5, ple6, ple7, ple8, ple9, ple10, ple11⟩ := pl_2.open6
  go_wp2
  clear ple0 ple1 ple2 ple3 ple4 ple5 ple6 ple7 ple8 ple9 ple10 ple11
  have hWi_0 := Below.refl w3.heap.size w3
  have hsi : w.heap.size ≤ w3.heap.size := hB_3.size
  have hlipl := pl_2.lt
  have hlips := ps_1.lt
  have hB_4 := hB_3.drew'
  have fsx_4 := fsx_3.drew
  have fsy_4 := fsy_3.drew
  have pl_3 := pl_2.drew
  have ps_2 := ps_1.drew
  have hWi_1 := hWi_0.drew'
  clear hB_3 fsx_3 fsy_3 pl_2 ps_1 hWi_0
  obtain ⟨FFi, hFFi⟩ : ∃ F : World → Prop, ∀ w', F w' ↔ (Below w.heap.size w w' ∧ FD w' (.agg #[.bool sxm, .slice sxo sxn sxc, .slice sxp sxk sxd]) Lsx Xsx Dsx ∧ FD w' (.agg #[.bool sym, .slice syo syn syc, .slice syp syk syd]) Lsy Xsy Dsy ∧ Box w' (w.heap.size) [.int .i64 x0, .int .i64 x1, .int .i64 y0, .int .i64 y1, .int .i64 z0, .int .i64 z1] ∧ Box w' (w.heap.size + 1) [.bool sxm, .slice sxo sxn sxc, .slice sxp sxk sxd, .bool sym, .slice syo syn syc, .slice syp syk syd] ∧ Below w3.heap.size w3 w') := ⟨_, fun _ => Iff.rfl⟩
  have cFi : ∀ {w' w'' : World}, FFi w' → Below w'.heap.size w' w'' → FFi w'' := by
    intro w' w'' h hb
    obtain ⟨y0, y1, y2, y3, y4, y5⟩ := (hFFi _).1 h
    exact (hFFi _).2 ⟨y0.trans (hb.mono y0.size), y1.below hb, y2.below hb, y3.below hb, y4.below hb, y5.trans (hb.mono y5.size)⟩
  have mFi : ∀ {w' : World}, FFi w' → w3.heap.size ≤ w'.heap.size := by
    intro w' h
    obtain ⟨y0, y1, y2, y3, y4, y5⟩ := (hFFi _).1 h
    exact y5.size
  have sFi : ∀ {w' : World}, FFi w' → (w'.cell? ⟨w.heap.size, 0, none⟩ = some (.int .i64 x0) ∧ w'.cell? ⟨w.heap.size, 1, none⟩ = some (.int .i64 x1) ∧ w'.cell? ⟨w.heap.size, 2, none⟩ = some (.int .i64 y0) ∧ w'.cell? ⟨w.heap.size, 3, none⟩ = some (.int .i64 y1) ∧ w'.cell? ⟨w.heap.size, 4, none⟩ = some (.int .i64 z0) ∧ w'.cell? ⟨w.heap.size, 5, none⟩ = some (.int .i64 z1)) := by
    intro w' h
    obtain ⟨y0, y1, y2, y3, y4, y5⟩ := (hFFi _).1 h
    exact ⟨y3.c0, y3.c1, y3.c2, y3.c3, y3.c4, y3.c5⟩
  have zF : FFi w3.drew := (hFFi _).2 ⟨hB_4, fsx_4, fsy_4, pl_3, ps_2, hWi_1⟩
  clear hB_4 fsx_4 fsy_4 pl_3 ps_2 hWi_1
  refine wp_region_noPanic ?_
  refine wp_region_held_drew (S := fun w' => w'.cell? ⟨w.heap.size, 0, none⟩ = some (.int .i64 x0) ∧ w'.cell? ⟨w.heap.size, 1, none⟩ = some (.int .i64 x1) ∧ w'.cell? ⟨w.heap.size, 2, none⟩ = some (.int .i64 y0) ∧ w'.cell? ⟨w.heap.size, 3, none⟩ = some (.int .i64 y1) ∧ w'.cell? ⟨w.heap.size, 4, none⟩ = some (.int .i64 z0) ∧ w'.cell? ⟨w.heap.size, 5, none⟩ = some (.int .i64 z1)) (by kernel_rfl) (sFi zF) (fun hHeld => ?_)
  refine reg_take 0 ?_ ?_ ?_ (by kernel_rfl) (by kernel_rfl) (by kernel_rfl) (fun _ _ _ h => h) ?_ ?_ (by assumption) ?_
  rotate_left 2
  · simp only [List.getElem?_toArray, List.getElem?_cons_zero]; exact rfl
  · rfl
  · intro w hSw; (try dsimp only at hSw); go_simp; try with_reducible rfl
  try simp only [Act.put]
  try simp only [List.setIfInBounds_toArray, List.set_cons_zero, List.set_cons_succ]
  refine reg_take 1 ?_ ?_ ?_ (by kernel_rfl) (by kernel_rfl) (by kernel_rfl) (fun _ _ _ h => h) ?_ ?_ (by assumption) ?_
  rotate_left 2
  · simp only [List.getElem?_toArray, List.getElem?_cons_succ, List.getElem?_cons_zero]; exact rfl
  · rfl
  · intro w hSw; (try dsimp only at hSw); go_simp; try with_reducible rfl
  try simp only [Act.put]
  try simp only [List.setIfInBounds_toArray, List.set_cons_zero, List.set_cons_succ]
  refine reg_take 3 ?_ ?_ ?_ (by kernel_rfl) (by kernel_rfl) (by kernel_rfl) (fun _ _ _ h => h) ?_ ?_ (by assumption) ?_
  rotate_left 2
  · simp only [List.getElem?_toArray, List.getElem?_cons_succ, List.getElem?_cons_zero]; exact rfl
  · rfl
  · intro w hSw; (try dsimp only at hSw); go_simp; try with_reducible rfl
  try simp only [Act.put]
  try simp only [List.setIfInBounds_toArray, List.set_cons_zero, List.set_cons_succ]
  refine reg_take 4 ?_ ?_ ?_ (by kernel_rfl) (by kernel_rfl) (by kernel_rfl) (fun _ _ _ h => h) ?_ ?_ (by assumption) ?_
  rotate_left 2
  · simp only [List.getElem?_toArray, List.getElem?_cons_succ, List.getElem?_cons_zero]; exact rfl
  · rfl
  · intro w hSw; (try dsimp only at hSw); go_simp; try with_reducible rfl
  try simp only [Act.put]
  try simp only [List.setIfInBounds_toArray, List.set_cons_zero, List.set_cons_succ]
  refine reg_take 6 ?_ ?_ ?_ (by kernel_rfl) (by kernel_rfl) (by kernel_rfl) (fun _ _ _ h => h) ?_ ?_ (by assumption) ?_
  rotate_left 2
  · simp only [List.getElem?_toArray, List.getElem?_cons_succ, List.getElem?_cons_zero]; exact rfl
  · rfl
  · intro w hSw; (try dsimp only at hSw); go_simp; try with_reducible rfl
  try simp only [Act.put]
  try simp only [List.setIfInBounds_toArray, List.set_cons_zero, List.set_cons_succ]
  refine reg_take 7 ?_ ?_ ?_ (by kernel_rfl) (by kernel_rfl) (by kernel_rfl) (fun _ _ _ h => h) ?_ ?_ (by assumption) ?_
  rotate_left 2
  · simp only [List.getElem?_toArray, List.getElem?_cons_succ, List.getElem?_cons_zero]; exact rfl
  · rfl
  · intro w hSw; (try dsimp only at hSw); go_simp; try with_reducible rfl
  try simp only [Act.put]
  try simp only [List.setIfInBounds_toArray, List.set_cons_zero, List.set_cons_succ]
  refine reg_grab (fun WWi ai hWW hAA => ?_)
  rw [hWW]
  have HAi := Lib.hid hAA; clear hWW hAA hHeld
  obtain ⟨IVi, hIVi⟩ : ∃ IV : Array Bool → Act → World → Prop, ∀ l a w', IV l a w' ↔ ∀ CC : Prop, (∀ (lb2 lb5 lb8 lb9 lb10 lb11 : Bool) (lv2 lv5 lv8 lv9 lv10 lv11 : Value) (gpa gpb gpv : Nat), (l = #[true, true, lb2, true, true, lb5, true, true, lb8, lb9, lb10, lb11, false, false, false]) → (a = ((((((ai.put (some 15) lv2).put (some 18) lv5).put (some 21) lv8).put (some 5) lv9).put (some 6) lv10).put (some 7) lv11)) → (FFi w') → ((lb2 = true → lv2 = .agg #[.int .i64 a0, .int .i64 a1])) → ((lb5 = true → lv5 = .agg #[.int .i64 b0, .int .i64 b1])) → ((lb8 = true → lv8 = .agg #[.int .i64 v0, .int .i64 v1])) → ((lb9 = true → lv9 = .pointer (some ⟨gpa, 0, none⟩) ∧ Box w' gpa [.int .i64 0, .int .i64 0] ∧ w3.heap.size ≤ gpa)) → ((lb10 = true → lv10 = .pointer (some ⟨gpb, 0, none⟩) ∧ Box w' gpb [.int .i64 0, .int .i64 0] ∧ w3.heap.size ≤ gpb)) → ((lb11 = true → lv11 = .pointer (some ⟨gpv, 0, none⟩) ∧ Box w' gpv [.int .i64 0, .int .i64 0] ∧ w3.heap.size ≤ gpv)) → ((lb5 = true → lb2 = true)) → ((lb8 = true → lb5 = true)) → ((lb9 = true → lb10 = true → gpa ≠ gpb)) → ((lb9 = true → lb11 = true → gpa ≠ gpv)) → ((lb10 = true → lb11 = true → gpb ≠ gpv)) → CC) → CC := ⟨_, fun _ _ _ => Iff.rfl⟩
  refine wpAnyH_until IVi ?_ _ _ _ _ ((hIVi _ _ _).2 (fun CC kk => kk false false false false false false (ai.tmps.getD 15 undef) (ai.tmps.getD 18 undef) (ai.tmps.getD 21 undef) (ai.tmps.getD 5 undef) (ai.tmps.getD 6 undef) (ai.tmps.getD 7 undef) 0 0 0 rfl (by simp only [put_same]) zF (fun h => by cases h) (fun h => by cases h) (fun h => by cases h) (fun h => by cases h) (fun h => by cases h) (fun h => by cases h) (fun h => by cases h) (fun h => by cases h) (fun h => by cases h) (fun h => by cases h) (fun h => by cases h))) (by kernel_rfl)
  clear zF
  intro ll aa w4 hI
  refine (hIVi _ _ _).1 hI _ ?_
  clear hI
  intro lb2 lb5 lb8 lb9 lb10 lb11 lv2 lv5 lv8 lv9 lv10 lv11 gpa gpb gpv hll haa zF F2 F5 F8 F9 F10 F11 dp5_2 dp8_5 nq9_10 nq9_11 nq10_11
  subst hll haa
  by_cases hL : lb2 = true ∧ lb5 = true ∧ lb8 = true ∧ lb9 = true ∧ lb10 = true ∧ lb11 = true
  · left
    obtain ⟨rfl, rfl, rfl, rfl, rfl, rfl⟩ := hL
    obtain rfl := F2 rfl
    clear F2
    obtain rfl := F5 rfl
    clear F5
    obtain rfl := F8 rfl
    clear F8
    obtain ⟨rfl, pa_0, hgpa⟩ := F9 rfl
    clear F9
    obtain ⟨rfl, pb_0, hgpb⟩ := F10 rfl
    clear F10
    obtain ⟨rfl, pv_0, hgpv⟩ := F11 rfl
    clear F11
    have hnpapb := nq9_10 rfl rfl
    have hnpapv := nq9_11 rfl rfl
    have hnpbpv := nq10_11 rfl rfl
    clear dp5_2 dp8_5 nq9_10 nq9_11 nq10_11
    show wpAnyH _ _ _ _ _ 3 _ _ _
    rw [HAi.out]
    try simp only [Act.put]
    try simp only [List.setIfInBounds_toArray, List.set_cons_zero, List.set_cons_succ]
    obtain ⟨hB_0, fsx_0, fsy_0, pl_0, ps_0, hWi_0⟩ := (hFFi _).1 zF
    clear zF
    clear hWi_0
    obtain ⟨sf1a, sf1b, sf1c, sf1d⟩ := pa_0.open2
    obtain ⟨sg1a, sg1b⟩ := Box.put2 pa_0 (.int .i64 a0)
    refine reg_call 12 ?_ (by kernel_rfl) ?_ (fun K hK => ?_)
    rotate_left 1
    · simp only [List.getElem?_toArray, List.getElem?_cons_succ, List.getElem?_cons_zero]; exact rfl
    go_simp
    have hB_1 := below_setAll hB_0 (g := gpa) (by omega) [.int .i64 a0, .int .i64 a1]
    have fsx_1 := fsx_0.setAll pa_0 (noWordI2 _ _) [.int .i64 a0, .int .i64 a1] rfl
    have fsy_1 := fsy_0.setAll pa_0 (noWordI2 _ _) [.int .i64 a0, .int .i64 a1] rfl
    have pl_1 := pl_0.farAll (g' := gpa) (by omega) [.int .i64 a0, .int .i64 a1]
    have ps_1 := ps_0.farAll (g' := gpa) (by omega) [.int .i64 a0, .int .i64 a1]
    have pb_1 := pb_0.farAll (g' := gpa) (by omega) [.int .i64 a0, .int .i64 a1]
    have pv_1 := pv_0.farAll (g' := gpa) (by omega) [.int .i64 a0, .int .i64 a1]
    have pa_1 := pa_0.setAll [.int .i64 a0, .int .i64 a1] rfl
    simp only [setAll, Nat.zero_add] at hB_1 fsx_1 fsy_1 pl_1 ps_1 pa_1 pb_1 pv_1
    clear sf1a sf1b sf1c sf1d sg1a sg1b
    clear hB_0 fsx_0 fsy_0 pl_0 ps_0 pb_0 pv_0 pa_0
    refine hK.out _ _ ⟨pl_1.c0, pl_1.c1, pl_1.c2, pl_1.c3, pl_1.c4, pl_1.c5⟩ (fun hHeld => ?_)
    clear hK K
    try simp only [Act.put]
    try simp only [List.setIfInBounds_toArray, List.set_cons_zero, List.set_cons_succ]
    generalize (World.setCell (World.setCell w4 ⟨gpa, 0, none⟩ (.int .i64 a0)) ⟨gpa, 1, none⟩ (.int .i64 a1)) = w5 at *
    obtain ⟨sf2a, sf2b, sf2c, sf2d⟩ := pb_1.open2
    obtain ⟨sg2a, sg2b⟩ := Box.put2 pb_1 (.int .i64 b0)
    refine reg_call 13 ?_ (by kernel_rfl) ?_ (fun K hK => ?_)
    rotate_left 1
    · simp only [List.getElem?_toArray, List.getElem?_cons_succ, List.getElem?_cons_zero]; exact rfl
    go_simp
    have hB_2 := below_setAll hB_1 (g := gpb) (by omega) [.int .i64 b0, .int .i64 b1]
    have fsx_2 := fsx_1.setAll pb_1 (noWordI2 _ _) [.int .i64 b0, .int .i64 b1] rfl
    have fsy_2 := fsy_1.setAll pb_1 (noWordI2 _ _) [.int .i64 b0, .int .i64 b1] rfl
    have pl_2 := pl_1.farAll (g' := gpb) (by omega) [.int .i64 b0, .int .i64 b1]
    have ps_2 := ps_1.farAll (g' := gpb) (by omega) [.int .i64 b0, .int .i64 b1]
    have pa_2 := pa_1.farAll (g' := gpb) (by omega) [.int .i64 b0, .int .i64 b1]
    have pv_2 := pv_1.farAll (g' := gpb) (by omega) [.int .i64 b0, .int .i64 b1]
    have pb_2 := pb_1.setAll [.int .i64 b0, .int .i64 b1] rfl
    simp only [setAll, Nat.zero_add] at hB_2 fsx_2 fsy_2 pl_2 ps_2 pa_2 pb_2 pv_2
    clear sf2a sf2b sf2c sf2d sg2a sg2b
    clear hB_1 fsx_1 fsy_1 pl_1 ps_1 pa_1 pv_1 pb_1
    refine hK.out _ _ ⟨pl_2.c0, pl_2.c1, pl_2.c2, pl_2.c3, pl_2.c4, pl_2.c5⟩ (fun hHeld => ?_)
    clear hK K
    try simp only [Act.put]
    try simp only [List.setIfInBounds_toArray, List.set_cons_zero, List.set_cons_succ]
    generalize (World.setCell (World.setCell w5 ⟨gpb, 0, none⟩ (.int .i64 b0)) ⟨gpb, 1, none⟩ (.int .i64 b1)) = w6 at *
    obtain ⟨sf3a, sf3b, sf3c, sf3d⟩ := pv_2.open2
    obtain ⟨sg3a, sg3b⟩ := Box.put2 pv_2 (.int .i64 v0)
    refine reg_call 14 ?_ (by kernel_rfl) ?_ (fun K hK => ?_)
    rotate_left 1
    · simp only [List.getElem?_toArray, List.getElem?_cons_succ, List.getElem?_cons_zero]; exact rfl
    go_simp
    have hB_3 := below_setAll hB_2 (g := gpv) (by omega) [.int .i64 v0, .int .i64 v1]
    have fsx_3 := fsx_2.setAll pv_2 (noWordI2 _ _) [.int .i64 v0, .int .i64 v1] rfl
    have fsy_3 := fsy_2.setAll pv_2 (noWordI2 _ _) [.int .i64 v0, .int .i64 v1] rfl
    have pl_3 := pl_2.farAll (g' := gpv) (by omega) [.int .i64 v0, .int .i64 v1]
    have ps_3 := ps_2.farAll (g' := gpv) (by omega) [.int .i64 v0, .int .i64 v1]
    have pa_3 := pa_2.farAll (g' := gpv) (by omega) [.int .i64 v0, .int .i64 v1]
    have pb_3 := pb_2.farAll (g' := gpv) (by omega) [.int .i64 v0, .int .i64 v1]
    have pv_3 := pv_2.setAll [.int .i64 v0, .int .i64 v1] rfl
    simp only [setAll, Nat.zero_add] at hB_3 fsx_3 fsy_3 pl_3 ps_3 pa_3 pb_3 pv_3
    clear sf3a sf3b sf3c sf3d sg3a sg3b
    clear hB_2 fsx_2 fsy_2 pl_2 ps_2 pa_2 pb_2 pv_2
    refine hK.out _ _ ⟨pl_3.c0, pl_3.c1, pl_3.c2, pl_3.c3, pl_3.c4, pl_3.c5⟩ (fun hHeld => ?_)
    clear hK K
    try simp only [Act.put]
    try simp only [List.setIfInBounds_toArray, List.set_cons_zero, List.set_cons_succ]
    generalize (World.setCell (World.setCell w6 ⟨gpv, 0, none⟩ (.int .i64 v0)) ⟨gpv, 1, none⟩ (.int .i64 v1)) = w7 at *
    refine wpAnyH_done (by kernel_rfl) ?_ _
    refine NoPanic.normal ?_
    clear pl_3
    obtain ⟨pae0, pae1, pae2, pae3⟩ := pa_3.open2
    obtain ⟨pbe0, pbe1, pbe2, pbe3⟩ := pb_3.open2
    obtain ⟨pve0, pve1, pve2, pve3⟩ := pv_3.open2
    go_wp2_with fail
    refine (Orient_is a0 a1 b0 b1 v0 v1 HA0.out HA1.out HB0.out HB1.out HV0.out HV1.out HS.out _).mono ?_
    rintro e w8 ⟨rfl, hb8⟩
    clear pae0 pae1 pae2 pae3 pbe0 pbe1 pbe2 pbe3 pve0 pve1 pve2 pve3
    have hB_4 := hB_3.trans (hb8.mono hB_3.size)
    have fsx_4 := fsx_3.below hb8
    have fsy_4 := fsy_3.below hb8
    have ps_4 := ps_3.below hb8
    have pa_4 := pa_3.below hb8
    have pb_4 := pb_3.below hb8
    have pv_4 := pv_3.below hb8
    clear hb8 hB_3 fsx_3 fsy_3 ps_3 pa_3 pb_3 pv_3
    go_wp2
    go_ret
    exact ⟨rfl, hB_4⟩
  · right
    refine ⟨?_, fun i hi => ?_⟩
    · clear zF F2 F5 F8 F9 F10 F11 nq9_10 nq9_11 nq10_11
      cases lb2
      · exact ready_of 2 _ rfl rfl (by kernel_rfl)
      cases lb5
      · exact ready_of 5 _ rfl rfl (by kernel_rfl)
      cases lb8
      · exact ready_of 8 _ rfl rfl (by kernel_rfl)
      cases lb9
      · exact ready_of 9 _ rfl rfl (by kernel_rfl)
      cases lb10
      · exact ready_of 10 _ rfl rfl (by kernel_rfl)
      cases lb11
      · exact ready_of 11 _ rfl rfl (by kernel_rfl)
      exact absurd ⟨rfl, rfl, rfl, rfl, rfl, rfl⟩ hL
    have hd : (lb2 = false ∧ i = 2) ∨ (lb5 = false ∧ lb2 = true ∧ i = 5) ∨ (lb8 = false ∧ lb5 = true ∧ i = 8) ∨ (lb9 = false ∧ i = 9) ∨ (lb10 = false ∧ i = 10) ∨ (lb11 = false ∧ i = 11) := by
      have hin := ready_lt hi
      obtain rfl | rfl | rfl | rfl | rfl | rfl | rfl | rfl | rfl | rfl | rfl | rfl | rfl | rfl | rfl : i = 0 ∨ i = 1 ∨ i = 2 ∨ i = 3 ∨ i = 4 ∨ i = 5 ∨ i = 6 ∨ i = 7 ∨ i = 8 ∨ i = 9 ∨ i = 10 ∨ i = 11 ∨ i = 12 ∨ i = 13 ∨ i = 14 := by have hin' : i < 15 := hin; omega
      · exact absurd (ready_off hi) (fun h => Bool.noConfusion (show true = false from h))
      · exact absurd (ready_off hi) (fun h => Bool.noConfusion (show true = false from h))
      · exact .inl ⟨ready_off hi, rfl⟩
      · exact absurd (ready_off hi) (fun h => Bool.noConfusion (show true = false from h))
      · exact absurd (ready_off hi) (fun h => Bool.noConfusion (show true = false from h))
      · exact .inr (.inl ⟨ready_off hi, ready_dep (d := 2) hi (by kernel_rfl), rfl⟩)
      · exact absurd (ready_off hi) (fun h => Bool.noConfusion (show true = false from h))
      · exact absurd (ready_off hi) (fun h => Bool.noConfusion (show true = false from h))
      · exact .inr (.inr (.inl ⟨ready_off hi, ready_dep (d := 5) hi (by kernel_rfl), rfl⟩))
      · exact .inr (.inr (.inr (.inl ⟨ready_off hi, rfl⟩)))
      · exact .inr (.inr (.inr (.inr (.inl ⟨ready_off hi, rfl⟩))))
      · exact .inr (.inr (.inr (.inr (.inr (⟨ready_off hi, rfl⟩)))))
      · have k9 : lb9 = true := ready_dep (d := 9) hi (by kernel_rfl); have k2 : lb2 = true := ready_dep (d := 2) hi (by kernel_rfl); have k8 : lb8 = true := ready_dep (d := 8) hi (by kernel_rfl); have k10 : lb10 = true := ready_dep (d := 10) hi (by kernel_rfl); have k11 : lb11 = true := ready_dep (d := 11) hi (by kernel_rfl)
        have k5 := dp8_5 k8
        exact absurd ⟨k2, k5, k8, k9, k10, k11⟩ hL
      · exact absurd (ready_dep (d := 12) hi (by kernel_rfl)) (fun h => Bool.noConfusion (show false = true from h))
      · exact absurd (ready_dep (d := 13) hi (by kernel_rfl)) (fun h => Bool.noConfusion (show false = true from h))
    clear hi hL
    rcases hd with ⟨rfl, rfl⟩ | ⟨rfl, rfl, rfl⟩ | ⟨rfl, rfl, rfl⟩ | ⟨rfl, rfl⟩ | ⟨rfl, rfl⟩ | ⟨rfl, rfl⟩
    · refine step_of 2 ?_ ?_ (fun K hK => ?_)
      rotate_left 1
      · simp only [List.getElem?_toArray, List.getElem?_cons_succ, List.getElem?_cons_zero]; exact rfl
      rw [HAi.out]
      try simp only [Act.put]
      try simp only [List.setIfInBounds_toArray, List.set_cons_zero, List.set_cons_succ]
      go_simp
      refine (T0.out _).mono ?_
      rintro e w9 ⟨rfl, hb⟩
      go_wp2_with fail
      refine hK.out _ _ (sFi (cFi zF hb)) ?_
      exact (hIVi _ _ _).2 (fun CC kk => kk true lb5 lb8 lb9 lb10 lb11 (.agg #[.int .i64 a0, .int .i64 a1]) lv5 lv8 lv9 lv10 lv11 gpa gpb gpv rfl (by simp only [HAi.out, Act.put, List.setIfInBounds_toArray, List.set_cons_zero, List.set_cons_succ]) (cFi zF hb) (fun _ => rfl) (fun h => absurd (dp5_2 h) (by decide)) (fun h => absurd (dp5_2 (dp8_5 h)) (by decide)) (fun h => ⟨(F9 h).1, (F9 h).2.1.below hb, (F9 h).2.2⟩) (fun h => ⟨(F10 h).1, (F10 h).2.1.below hb, (F10 h).2.2⟩) (fun h => ⟨(F11 h).1, (F11 h).2.1.below hb, (F11 h).2.2⟩) (fun _ => rfl) dp8_5 nq9_10 nq9_11 nq10_11)
    · obtain rfl := F2 rfl
      clear F2
      refine step_of 5 ?_ ?_ (fun K hK => ?_)
      rotate_left 1
      · simp only [List.getElem?_toArray, List.getElem?_cons_succ, List.getElem?_cons_zero]; exact rfl
      rw [HAi.out]
      try simp only [Act.put]
      try simp only [List.setIfInBounds_toArray, List.set_cons_zero, List.set_cons_succ]
      go_simp
      refine (T1.out _).mono ?_
      rintro e w10 ⟨rfl, hb⟩
      go_wp2_with fail
      refine hK.out _ _ (sFi (cFi zF hb)) ?_
      exact (hIVi _ _ _).2 (fun CC kk => kk true true lb8 lb9 lb10 lb11 _ (.agg #[.int .i64 b0, .int .i64 b1]) lv8 lv9 lv10 lv11 gpa gpb gpv rfl (by simp only [HAi.out, Act.put, List.setIfInBounds_toArray, List.set_cons_zero, List.set_cons_succ]) (cFi zF hb) (fun _ => rfl) (fun _ => rfl) (fun h => absurd (dp8_5 h) (by decide)) (fun h => ⟨(F9 h).1, (F9 h).2.1.below hb, (F9 h).2.2⟩) (fun h => ⟨(F10 h).1, (F10 h).2.1.below hb, (F10 h).2.2⟩) (fun h => ⟨(F11 h).1, (F11 h).2.1.below hb, (F11 h).2.2⟩) (fun _ => rfl) (fun _ => rfl) nq9_10 nq9_11 nq10_11)
    · obtain rfl := dp5_2 rfl
      obtain rfl := F2 rfl
      clear F2
      obtain rfl := F5 rfl
      clear F5
      refine step_of 8 ?_ ?_ (fun K hK => ?_)
      rotate_left 1
      · simp only [List.getElem?_toArray, List.getElem?_cons_succ, List.getElem?_cons_zero]; exact rfl
      rw [HAi.out]
      try simp only [Act.put]
      try simp only [List.setIfInBounds_toArray, List.set_cons_zero, List.set_cons_succ]
      go_simp
      refine (T2.out _).mono ?_
      rintro e w11 ⟨rfl, hb⟩
      go_wp2_with fail
      refine hK.out _ _ (sFi (cFi zF hb)) ?_
      exact (hIVi _ _ _).2 (fun CC kk => kk true true true lb9 lb10 lb11 _ _ (.agg #[.int .i64 v0, .int .i64 v1]) lv9 lv10 lv11 gpa gpb gpv rfl (by simp only [HAi.out, Act.put, List.setIfInBounds_toArray, List.set_cons_zero, List.set_cons_succ]) (cFi zF hb) (fun _ => rfl) (fun _ => rfl) (fun _ => rfl) (fun h => ⟨(F9 h).1, (F9 h).2.1.below hb, (F9 h).2.2⟩) (fun h => ⟨(F10 h).1, (F10 h).2.1.below hb, (F10 h).2.2⟩) (fun h => ⟨(F11 h).1, (F11 h).2.1.below hb, (F11 h).2.2⟩) (fun _ => rfl) (fun _ => rfl) nq9_10 nq9_11 nq10_11)
    · refine step_of 9 ?_ ?_ (fun K hK => ?_)
      rotate_left 1
      · simp only [List.getElem?_toArray, List.getElem?_cons_succ, List.getElem?_cons_zero]; exact rfl
      rw [HAi.out]
      try simp only [Act.put]
      try simp only [List.setIfInBounds_toArray, List.set_cons_zero, List.set_cons_succ]
      go_simp
      have hgn := mFi zF
      have hq10 : lb10 = true → gpb < w4.heap.size := fun h => (F10 h).2.1.lt
      have hq11 : lb11 = true → gpv < w4.heap.size := fun h => (F11 h).2.1.lt
      obtain ⟨wn, hwn, pa_0, hb, -⟩ := new_box w4 _ rfl [.int .i64 0, .int .i64 0] 23
      rw [hwn]
      refine hK.out _ _ (sFi (cFi zF hb)) ?_
      exact (hIVi _ _ _).2 (fun CC kk => kk lb2 lb5 lb8 true lb10 lb11 lv2 lv5 lv8 (.pointer (some ⟨w4.heap.size, 0, none⟩)) lv10 lv11 w4.heap.size gpb gpv rfl (by simp only [HAi.out, Act.put, List.setIfInBounds_toArray, List.set_cons_zero, List.set_cons_succ]) (cFi zF hb) F2 F5 F8 (fun _ => ⟨rfl, pa_0, hgn⟩) (fun h => ⟨(F10 h).1, (F10 h).2.1.below hb, (F10 h).2.2⟩) (fun h => ⟨(F11 h).1, (F11 h).2.1.below hb, (F11 h).2.2⟩) dp5_2 dp8_5 (fun _ h => by have := hq10 h; omega) (fun _ h => by have := hq11 h; omega) nq10_11)
    · refine step_of 10 ?_ ?_ (fun K hK => ?_)
      rotate_left 1
      · simp only [List.getElem?_toArray, List.getElem?_cons_succ, List.getElem?_cons_zero]; exact rfl
      rw [HAi.out]
      try simp only [Act.put]
      try simp only [List.setIfInBounds_toArray, List.set_cons_zero, List.set_cons_succ]
      go_simp
      have hgn := mFi zF
      have hq9 : lb9 = true → gpa < w4.heap.size := fun h => (F9 h).2.1.lt
      have hq11 : lb11 = true → gpv < w4.heap.size := fun h => (F11 h).2.1.lt
      obtain ⟨wn, hwn, pb_0, hb, -⟩ := new_box w4 _ rfl [.int .i64 0, .int .i64 0] 23
      rw [hwn]
      refine hK.out _ _ (sFi (cFi zF hb)) ?_
      exact (hIVi _ _ _).2 (fun CC kk => kk lb2 lb5 lb8 lb9 true lb11 lv2 lv5 lv8 lv9 (.pointer (some ⟨w4.heap.size, 0, none⟩)) lv11 gpa w4.heap.size gpv rfl (by simp only [HAi.out, Act.put, List.setIfInBounds_toArray, List.set_cons_zero, List.set_cons_succ]) (cFi zF hb) F2 F5 F8 (fun h => ⟨(F9 h).1, (F9 h).2.1.below hb, (F9 h).2.2⟩) (fun _ => ⟨rfl, pb_0, hgn⟩) (fun h => ⟨(F11 h).1, (F11 h).2.1.below hb, (F11 h).2.2⟩) dp5_2 dp8_5 (fun h _ => by have := hq9 h; omega) nq9_11 (fun _ h => by have := hq11 h; omega))
    · refine step_of 11 ?_ ?_ (fun K hK => ?_)
      rotate_left 1
      · simp only [List.getElem?_toArray, List.getElem?_cons_succ, List.getElem?_cons_zero]; exact rfl
      rw [HAi.out]
      try simp only [Act.put]
      try simp only [List.setIfInBounds_toArray, List.set_cons_zero, List.set_cons_succ]
      go_simp
      have hgn := mFi zF
      have hq9 : lb9 = true → gpa < w4.heap.size := fun h => (F9 h).2.1.lt
      have hq10 : lb10 = true → gpb < w4.heap.size := fun h => (F10 h).2.1.lt
      obtain ⟨wn, hwn, pv_0, hb, -⟩ := new_box w4 _ rfl [.int .i64 0, .int .i64 0] 23
      rw [hwn]
      refine hK.out _ _ (sFi (cFi zF hb)) ?_
      exact (hIVi _ _ _).2 (fun CC kk => kk lb2 lb5 lb8 lb9 lb10 true lv2 lv5 lv8 lv9 lv10 (.pointer (some ⟨w4.heap.size, 0, none⟩)) gpa gpb w4.heap.size rfl (by simp only [HAi.out, Act.put, List.setIfInBounds_toArray, List.set_cons_zero, List.set_cons_succ]) (cFi zF hb) F2 F5 F8 (fun h => ⟨(F9 h).1, (F9 h).2.1.below hb, (F9 h).2.2⟩) (fun h => ⟨(F10 h).1, (F10 h).2.1.below hb, (F10 h).2.2⟩) (fun _ => ⟨rfl, pv_0, hgn⟩) dp5_2 dp8_5 nq9_10 (fun h _ => by have := hq9 h; omega) (fun h _ => by have := hq10 h; omega))
set_option maxRecDepth 100000 in
set_option maxHeartbeats 32000000 in
theorem SpotShares_s (x0 x1 y0 y1 z0 z1 a0 a1 b0 b1 v0 v1 : Int) {sxm : Bool} {sxo : Option Addr} {sxn sxc : Nat} {sxp : Option Addr} {sxk sxd : Nat} {sym : Bool} {syo : Option Addr} {syn syc : Nat} {syp : Option Addr} {syk syd : Nat} (Lsx Lsy : Nat) (Xsx Xsy : Int) (Dsx Dsy : Nat) (t0 : ∀ w, Calls Try.prog 10 #[.agg #[.int .i64 x0, .int .i64 x1]] w fun e w' => e = .returned (.agg #[.int .i64 a0, .int .i64 a1]) ∧ Below w.heap.size w w') (t1 : ∀ w, Calls Try.prog 10 #[.agg #[.int .i64 y0, .int .i64 y1]] w fun e w' => e = .returned (.agg #[.int .i64 b0, .int .i64 b1]) ∧ Below w.heap.size w w') (t2 : ∀ w, Calls Try.prog 10 #[.agg #[.int .i64 z0, .int .i64 z1]] w fun e w' => e = .returned (.agg #[.int .i64 v0, .int .i64 v1]) ∧ Below w.heap.size w w') (ha0 : InP a0) (ha1 : InP a1) (hb0 : InP b0) (hb1 : InP b1) (hv0 : InP v0) (hv1 : InP v1) (s : Int) (hs : (crs a0 a1 b0 b1 v0 v1).sign = s) (hc : crs a0 a1 b0 b1 v0 v1 ≠ 0) (e5 : (s == 0) = false) (w : World) (fsx_0 : FD w (.agg #[.bool sxm, .slice sxo sxn sxc, .slice sxp sxk sxd]) Lsx Xsx Dsx) (fsy_0 : FD w (.agg #[.bool sym, .slice syo syn syc, .slice syp syk syd]) Lsy Xsy Dsy) :
    Calls Try.prog 7 #[.agg #[.int .i64 x0, .int .i64 x1, .int .i64 y0, .int .i64 y1, .int .i64 z0, .int .i64 z1], .agg #[.bool sxm, .slice sxo sxn sxc, .slice sxp sxk sxd, .bool sym, .slice syo syn syc, .slice syp syk syd]] w fun e w' => e = .returned (.bool true) ∧ Below w.heap.size w w' := by
  have hB_0 := Below.refl w.heap.size w
  have T0 := Lib.hid t0; have T1 := Lib.hid t1; have T2 := Lib.hid t2; have HA0 := Lib.hid ha0; have HA1 := Lib.hid ha1; have HB0 := Lib.hid hb0; have HB1 := Lib.hid hb1; have HV0 := Lib.hid hv0; have HV1 := Lib.hid hv1; have HS := Lib.hid hs; have HC := Lib.hid hc; have E5 := Lib.hid e5
  clear t0 t1 t2 ha0 ha1 hb0 hb1 hv0 hv1 hs hc e5
  obtain ⟨w1, hw1, pl_0, hb1, hs1⟩ := new_box w (w.heap.size) rfl [.int .i64 x0, .int .i64 x1, .int .i64 y0, .int .i64 y1, .int .i64 z0, .int .i64 z1] 56
  have hb1' : Below w.heap.size w w1 := hb1.mono (by omega)
  clear hb1
  have hB_1 := hB_0.trans (hb1'.mono hB_0.size)
  have fsx_1 := fsx_0.below hb1'
  have fsy_1 := fsy_0.below hb1'
  clear hb1' hB_0 fsx_0 fsy_0
  obtain ⟨w2, hw2, ps_0, hb2, hs2⟩ := new_box w1 (w.heap.size + 1) hs1 [.bool sxm, .slice sxo sxn sxc, .slice sxp sxk sxd, .bool sym, .slice syo syn syc, .slice syp syk syd] 33
  have hb2' : Below w1.heap.size w1 w2 := hb2.mono (by omega)
  clear hb2
  have hB_2 := hB_1.trans (hb2'.mono hB_1.size)
  have fsx_2 := fsx_1.below hb2'
  have fsy_2 := fsy_1.below hb2'
  have pl_1 := pl_0.below hb2'
  clear hb2' hB_1 fsx_1 fsy_1 pl_0
  go_enter Try.func7, Try.ntmps7
  obtain ⟨ple0, ple1, ple2, ple3, ple4, ple5, ple6, ple7, ple8, ple9, ple10, ple11⟩ := pl_1.open6
  go_wp2_with fail
  refine (sfit_any _).mono ?_
  rintro e w3 ⟨rfl, hb3⟩
  clear ple0 ple1 ple2 ple3 ple4 ple5 ple6 ple7 ple8 ple9 ple10 ple11
  have hB_3 := hB_2.trans (hb3.mono hB_2.size)
  have fsx_3 := fsx_2.below hb3
  have fsy_3 := fsy_2.below hb3
  have pl_2 := pl_1.below hb3
  have ps_1 := ps_0.below hb3
  clear hb3 hB_2 fsx_2 fsy_2 pl_1 ps_0
  obtain ⟨ple0, ple1, ple2, ple3, ple4, ple5, ple6, ple7, ple8, ple9, ple10, ple11⟩ := pl_2.open6
  go_wp2
  clear ple0 ple1 ple2 ple3 ple4 ple5 ple6 ple7 ple8 ple9 ple10 ple11
  have hWi_0 := Below.refl w3.heap.size w3
  have hsi : w.heap.size ≤ w3.heap.size := hB_3.size
  have hlipl := pl_2.lt
  have hlips := ps_1.lt
  have hB_4 := hB_3.drew'
  have fsx_4 := fsx_3.drew
  have fsy_4 := fsy_3.drew
  have pl_3 := pl_2.drew
  have ps_2 := ps_1.drew
  have hWi_1 := hWi_0.drew'
  clear hB_3 fsx_3 fsy_3 pl_2 ps_1 hWi_0
  obtain ⟨FFi, hFFi⟩ : ∃ F : World → Prop, ∀ w', F w' ↔ (Below w.heap.size w w' ∧ FD w' (.agg #[.bool sxm, .slice sxo sxn sxc, .slice sxp sxk sxd]) Lsx Xsx Dsx ∧ FD w' (.agg #[.bool sym, .slice syo syn syc, .slice syp syk syd]) Lsy Xsy Dsy ∧ Box w' (w.heap.size) [.int .i64 x0, .int .i64 x1, .int .i64 y0, .int .i64 y1, .int .i64 z0, .int .i64 z1] ∧ Box w' (w.heap.size + 1) [.bool sxm, .slice sxo sxn sxc, .slice sxp sxk sxd, .bool sym, .slice syo syn syc, .slice syp syk syd] ∧ Below w3.heap.size w3 w') := ⟨_, fun _ => Iff.rfl⟩
  have cFi : ∀ {w' w'' : World}, FFi w' → Below w'.heap.size w' w'' → FFi w'' := by
    intro w' w'' h hb
    obtain ⟨y0, y1, y2, y3, y4, y5⟩ := (hFFi _).1 h
    exact (hFFi _).2 ⟨y0.trans (hb.mono y0.size), y1.below hb, y2.below hb, y3.below hb, y4.below hb, y5.trans (hb.mono y5.size)⟩
  have mFi : ∀ {w' : World}, FFi w' → w3.heap.size ≤ w'.heap.size := by
    intro w' h
    obtain ⟨y0, y1, y2, y3, y4, y5⟩ := (hFFi _).1 h
    exact y5.size
  have sFi : ∀ {w' : World}, FFi w' → (w'.cell? ⟨w.heap.size, 0, none⟩ = some (.int .i64 x0) ∧ w'.cell? ⟨w.heap.size, 1, none⟩ = some (.int .i64 x1) ∧ w'.cell? ⟨w.heap.size, 2, none⟩ = some (.int .i64 y0) ∧ w'.cell? ⟨w.heap.size, 3, none⟩ = some (.int .i64 y1) ∧ w'.cell? ⟨w.heap.size, 4, none⟩ = some (.int .i64 z0) ∧ w'.cell? ⟨w.heap.size, 5, none⟩ = some (.int .i64 z1)) := by
    intro w' h
    obtain ⟨y0, y1, y2, y3, y4, y5⟩ := (hFFi _).1 h
    exact ⟨y3.c0, y3.c1, y3.c2, y3.c3, y3.c4, y3.c5⟩
  have zF : FFi w3.drew := (hFFi _).2 ⟨hB_4, fsx_4, fsy_4, pl_3, ps_2, hWi_1⟩
  clear hB_4 fsx_4 fsy_4 pl_3 ps_2 hWi_1
  refine wp_region_noPanic ?_
  refine wp_region_held_drew (S := fun w' => w'.cell? ⟨w.heap.size, 0, none⟩ = some (.int .i64 x0) ∧ w'.cell? ⟨w.heap.size, 1, none⟩ = some (.int .i64 x1) ∧ w'.cell? ⟨w.heap.size, 2, none⟩ = some (.int .i64 y0) ∧ w'.cell? ⟨w.heap.size, 3, none⟩ = some (.int .i64 y1) ∧ w'.cell? ⟨w.heap.size, 4, none⟩ = some (.int .i64 z0) ∧ w'.cell? ⟨w.heap.size, 5, none⟩ = some (.int .i64 z1)) (by kernel_rfl) (sFi zF) (fun hHeld => ?_)
  refine reg_take 0 ?_ ?_ ?_ (by kernel_rfl) (by kernel_rfl) (by kernel_rfl) (fun _ _ _ h => h) ?_ ?_ (by assumption) ?_
  rotate_left 2
  · simp only [List.getElem?_toArray, List.getElem?_cons_zero]; exact rfl
  · rfl
  · intro w hSw; (try dsimp only at hSw); go_simp; try with_reducible rfl
  try simp only [Act.put]
  try simp only [List.setIfInBounds_toArray, List.set_cons_zero, List.set_cons_succ]
  refine reg_take 1 ?_ ?_ ?_ (by kernel_rfl) (by kernel_rfl) (by kernel_rfl) (fun _ _ _ h => h) ?_ ?_ (by assumption) ?_
  rotate_left 2
  · simp only [List.getElem?_toArray, List.getElem?_cons_succ, List.getElem?_cons_zero]; exact rfl
  · rfl
  · intro w hSw; (try dsimp only at hSw); go_simp; try with_reducible rfl
  try simp only [Act.put]
  try simp only [List.setIfInBounds_toArray, List.set_cons_zero, List.set_cons_succ]
  refine reg_take 3 ?_ ?_ ?_ (by kernel_rfl) (by kernel_rfl) (by kernel_rfl) (fun _ _ _ h => h) ?_ ?_ (by assumption) ?_
  rotate_left 2
  · simp only [List.getElem?_toArray, List.getElem?_cons_succ, List.getElem?_cons_zero]; exact rfl
  · rfl
  · intro w hSw; (try dsimp only at hSw); go_simp; try with_reducible rfl
  try simp only [Act.put]
  try simp only [List.setIfInBounds_toArray, List.set_cons_zero, List.set_cons_succ]
  refine reg_take 4 ?_ ?_ ?_ (by kernel_rfl) (by kernel_rfl) (by kernel_rfl) (fun _ _ _ h => h) ?_ ?_ (by assumption) ?_
  rotate_left 2
  · simp only [List.getElem?_toArray, List.getElem?_cons_succ, List.getElem?_cons_zero]; exact rfl
  · rfl
  · intro w hSw; (try dsimp only at hSw); go_simp; try with_reducible rfl
  try simp only [Act.put]
  try simp only [List.setIfInBounds_toArray, List.set_cons_zero, List.set_cons_succ]
  refine reg_take 6 ?_ ?_ ?_ (by kernel_rfl) (by kernel_rfl) (by kernel_rfl) (fun _ _ _ h => h) ?_ ?_ (by assumption) ?_
  rotate_left 2
  · simp only [List.getElem?_toArray, List.getElem?_cons_succ, List.getElem?_cons_zero]; exact rfl
  · rfl
  · intro w hSw; (try dsimp only at hSw); go_simp; try with_reducible rfl
  try simp only [Act.put]
  try simp only [List.setIfInBounds_toArray, List.set_cons_zero, List.set_cons_succ]
  refine reg_take 7 ?_ ?_ ?_ (by kernel_rfl) (by kernel_rfl) (by kernel_rfl) (fun _ _ _ h => h) ?_ ?_ (by assumption) ?_
  rotate_left 2
  · simp only [List.getElem?_toArray, List.getElem?_cons_succ, List.getElem?_cons_zero]; exact rfl
  · rfl
  · intro w hSw; (try dsimp only at hSw); go_simp; try with_reducible rfl
  try simp only [Act.put]
  try simp only [List.setIfInBounds_toArray, List.set_cons_zero, List.set_cons_succ]
  refine reg_grab (fun WWi ai hWW hAA => ?_)
  rw [hWW]
  have HAi := Lib.hid hAA; clear hWW hAA hHeld
  obtain ⟨IVi, hIVi⟩ : ∃ IV : Array Bool → Act → World → Prop, ∀ l a w', IV l a w' ↔ ∀ CC : Prop, (∀ (lb2 lb5 lb8 lb9 lb10 lb11 : Bool) (lv2 lv5 lv8 lv9 lv10 lv11 : Value) (gpa gpb gpv : Nat), (l = #[true, true, lb2, true, true, lb5, true, true, lb8, lb9, lb10, lb11, false, false, false]) → (a = ((((((ai.put (some 15) lv2).put (some 18) lv5).put (some 21) lv8).put (some 5) lv9).put (some 6) lv10).put (some 7) lv11)) → (FFi w') → ((lb2 = true → lv2 = .agg #[.int .i64 a0, .int .i64 a1])) → ((lb5 = true → lv5 = .agg #[.int .i64 b0, .int .i64 b1])) → ((lb8 = true → lv8 = .agg #[.int .i64 v0, .int .i64 v1])) → ((lb9 = true → lv9 = .pointer (some ⟨gpa, 0, none⟩) ∧ Box w' gpa [.int .i64 0, .int .i64 0] ∧ w3.heap.size ≤ gpa)) → ((lb10 = true → lv10 = .pointer (some ⟨gpb, 0, none⟩) ∧ Box w' gpb [.int .i64 0, .int .i64 0] ∧ w3.heap.size ≤ gpb)) → ((lb11 = true → lv11 = .pointer (some ⟨gpv, 0, none⟩) ∧ Box w' gpv [.int .i64 0, .int .i64 0] ∧ w3.heap.size ≤ gpv)) → ((lb5 = true → lb2 = true)) → ((lb8 = true → lb5 = true)) → ((lb9 = true → lb10 = true → gpa ≠ gpb)) → ((lb9 = true → lb11 = true → gpa ≠ gpv)) → ((lb10 = true → lb11 = true → gpb ≠ gpv)) → CC) → CC := ⟨_, fun _ _ _ => Iff.rfl⟩
  refine wpAnyH_until IVi ?_ _ _ _ _ ((hIVi _ _ _).2 (fun CC kk => kk false false false false false false (ai.tmps.getD 15 undef) (ai.tmps.getD 18 undef) (ai.tmps.getD 21 undef) (ai.tmps.getD 5 undef) (ai.tmps.getD 6 undef) (ai.tmps.getD 7 undef) 0 0 0 rfl (by simp only [put_same]) zF (fun h => by cases h) (fun h => by cases h) (fun h => by cases h) (fun h => by cases h) (fun h => by cases h) (fun h => by cases h) (fun h => by cases h) (fun h => by cases h) (fun h => by cases h) (fun h => by cases h) (fun h => by cases h))) (by kernel_rfl)
  clear zF
  intro ll aa w4 hI
  refine (hIVi _ _ _).1 hI _ ?_
  clear hI
  intro lb2 lb5 lb8 lb9 lb10 lb11 lv2 lv5 lv8 lv9 lv10 lv11 gpa gpb gpv hll haa zF F2 F5 F8 F9 F10 F11 dp5_2 dp8_5 nq9_10 nq9_11 nq10_11
  subst hll haa
  by_cases hL : lb2 = true ∧ lb5 = true ∧ lb8 = true ∧ lb9 = true ∧ lb10 = true ∧ lb11 = true
  · left
    obtain ⟨rfl, rfl, rfl, rfl, rfl, rfl⟩ := hL
    obtain rfl := F2 rfl
    clear F2
    obtain rfl := F5 rfl
    clear F5
    obtain rfl := F8 rfl
    clear F8
    obtain ⟨rfl, pa_0, hgpa⟩ := F9 rfl
    clear F9
    obtain ⟨rfl, pb_0, hgpb⟩ := F10 rfl
    clear F10
    obtain ⟨rfl, pv_0, hgpv⟩ := F11 rfl
    clear F11
    have hnpapb := nq9_10 rfl rfl
    have hnpapv := nq9_11 rfl rfl
    have hnpbpv := nq10_11 rfl rfl
    clear dp5_2 dp8_5 nq9_10 nq9_11 nq10_11
    show wpAnyH _ _ _ _ _ 3 _ _ _
    rw [HAi.out]
    try simp only [Act.put]
    try simp only [List.setIfInBounds_toArray, List.set_cons_zero, List.set_cons_succ]
    obtain ⟨hB_0, fsx_0, fsy_0, pl_0, ps_0, hWi_0⟩ := (hFFi _).1 zF
    clear zF
    clear hWi_0
    obtain ⟨sf1a, sf1b, sf1c, sf1d⟩ := pa_0.open2
    obtain ⟨sg1a, sg1b⟩ := Box.put2 pa_0 (.int .i64 a0)
    refine reg_call 12 ?_ (by kernel_rfl) ?_ (fun K hK => ?_)
    rotate_left 1
    · simp only [List.getElem?_toArray, List.getElem?_cons_succ, List.getElem?_cons_zero]; exact rfl
    go_simp
    have hB_1 := below_setAll hB_0 (g := gpa) (by omega) [.int .i64 a0, .int .i64 a1]
    have fsx_1 := fsx_0.setAll pa_0 (noWordI2 _ _) [.int .i64 a0, .int .i64 a1] rfl
    have fsy_1 := fsy_0.setAll pa_0 (noWordI2 _ _) [.int .i64 a0, .int .i64 a1] rfl
    have pl_1 := pl_0.farAll (g' := gpa) (by omega) [.int .i64 a0, .int .i64 a1]
    have ps_1 := ps_0.farAll (g' := gpa) (by omega) [.int .i64 a0, .int .i64 a1]
    have pb_1 := pb_0.farAll (g' := gpa) (by omega) [.int .i64 a0, .int .i64 a1]
    have pv_1 := pv_0.farAll (g' := gpa) (by omega) [.int .i64 a0, .int .i64 a1]
    have pa_1 := pa_0.setAll [.int .i64 a0, .int .i64 a1] rfl
    simp only [setAll, Nat.zero_add] at hB_1 fsx_1 fsy_1 pl_1 ps_1 pa_1 pb_1 pv_1
    clear sf1a sf1b sf1c sf1d sg1a sg1b
    clear hB_0 fsx_0 fsy_0 pl_0 ps_0 pb_0 pv_0 pa_0
    refine hK.out _ _ ⟨pl_1.c0, pl_1.c1, pl_1.c2, pl_1.c3, pl_1.c4, pl_1.c5⟩ (fun hHeld => ?_)
    clear hK K
    try simp only [Act.put]
    try simp only [List.setIfInBounds_toArray, List.set_cons_zero, List.set_cons_succ]
    generalize (World.setCell (World.setCell w4 ⟨gpa, 0, none⟩ (.int .i64 a0)) ⟨gpa, 1, none⟩ (.int .i64 a1)) = w5 at *
    obtain ⟨sf2a, sf2b, sf2c, sf2d⟩ := pb_1.open2
    obtain ⟨sg2a, sg2b⟩ := Box.put2 pb_1 (.int .i64 b0)
    refine reg_call 13 ?_ (by kernel_rfl) ?_ (fun K hK => ?_)
    rotate_left 1
    · simp only [List.getElem?_toArray, List.getElem?_cons_succ, List.getElem?_cons_zero]; exact rfl
    go_simp
    have hB_2 := below_setAll hB_1 (g := gpb) (by omega) [.int .i64 b0, .int .i64 b1]
    have fsx_2 := fsx_1.setAll pb_1 (noWordI2 _ _) [.int .i64 b0, .int .i64 b1] rfl
    have fsy_2 := fsy_1.setAll pb_1 (noWordI2 _ _) [.int .i64 b0, .int .i64 b1] rfl
    have pl_2 := pl_1.farAll (g' := gpb) (by omega) [.int .i64 b0, .int .i64 b1]
    have ps_2 := ps_1.farAll (g' := gpb) (by omega) [.int .i64 b0, .int .i64 b1]
    have pa_2 := pa_1.farAll (g' := gpb) (by omega) [.int .i64 b0, .int .i64 b1]
    have pv_2 := pv_1.farAll (g' := gpb) (by omega) [.int .i64 b0, .int .i64 b1]
    have pb_2 := pb_1.setAll [.int .i64 b0, .int .i64 b1] rfl
    simp only [setAll, Nat.zero_add] at hB_2 fsx_2 fsy_2 pl_2 ps_2 pa_2 pb_2 pv_2
    clear sf2a sf2b sf2c sf2d sg2a sg2b
    clear hB_1 fsx_1 fsy_1 pl_1 ps_1 pa_1 pv_1 pb_1
    refine hK.out _ _ ⟨pl_2.c0, pl_2.c1, pl_2.c2, pl_2.c3, pl_2.c4, pl_2.c5⟩ (fun hHeld => ?_)
    clear hK K
    try simp only [Act.put]
    try simp only [List.setIfInBounds_toArray, List.set_cons_zero, List.set_cons_succ]
    generalize (World.setCell (World.setCell w5 ⟨gpb, 0, none⟩ (.int .i64 b0)) ⟨gpb, 1, none⟩ (.int .i64 b1)) = w6 at *
    obtain ⟨sf3a, sf3b, sf3c, sf3d⟩ := pv_2.open2
    obtain ⟨sg3a, sg3b⟩ := Box.put2 pv_2 (.int .i64 v0)
    refine reg_call 14 ?_ (by kernel_rfl) ?_ (fun K hK => ?_)
    rotate_left 1
    · simp only [List.getElem?_toArray, List.getElem?_cons_succ, List.getElem?_cons_zero]; exact rfl
    go_simp
    have hB_3 := below_setAll hB_2 (g := gpv) (by omega) [.int .i64 v0, .int .i64 v1]
    have fsx_3 := fsx_2.setAll pv_2 (noWordI2 _ _) [.int .i64 v0, .int .i64 v1] rfl
    have fsy_3 := fsy_2.setAll pv_2 (noWordI2 _ _) [.int .i64 v0, .int .i64 v1] rfl
    have pl_3 := pl_2.farAll (g' := gpv) (by omega) [.int .i64 v0, .int .i64 v1]
    have ps_3 := ps_2.farAll (g' := gpv) (by omega) [.int .i64 v0, .int .i64 v1]
    have pa_3 := pa_2.farAll (g' := gpv) (by omega) [.int .i64 v0, .int .i64 v1]
    have pb_3 := pb_2.farAll (g' := gpv) (by omega) [.int .i64 v0, .int .i64 v1]
    have pv_3 := pv_2.setAll [.int .i64 v0, .int .i64 v1] rfl
    simp only [setAll, Nat.zero_add] at hB_3 fsx_3 fsy_3 pl_3 ps_3 pa_3 pb_3 pv_3
    clear sf3a sf3b sf3c sf3d sg3a sg3b
    clear hB_2 fsx_2 fsy_2 pl_2 ps_2 pa_2 pb_2 pv_2
    refine hK.out _ _ ⟨pl_3.c0, pl_3.c1, pl_3.c2, pl_3.c3, pl_3.c4, pl_3.c5⟩ (fun hHeld => ?_)
    clear hK K
    try simp only [Act.put]
    try simp only [List.setIfInBounds_toArray, List.set_cons_zero, List.set_cons_succ]
    generalize (World.setCell (World.setCell w6 ⟨gpv, 0, none⟩ (.int .i64 v0)) ⟨gpv, 1, none⟩ (.int .i64 v1)) = w7 at *
    refine wpAnyH_done (by kernel_rfl) ?_ _
    refine NoPanic.normal ?_
    clear pl_3
    obtain ⟨pae0, pae1, pae2, pae3⟩ := pa_3.open2
    obtain ⟨pbe0, pbe1, pbe2, pbe3⟩ := pb_3.open2
    obtain ⟨pve0, pve1, pve2, pve3⟩ := pv_3.open2
    have e5 := E5.out
    go_wp2_with fail
    refine (Orient_is a0 a1 b0 b1 v0 v1 HA0.out HA1.out HB0.out HB1.out HV0.out HV1.out HS.out _).mono ?_
    rintro e w8 ⟨rfl, hb8⟩
    clear pae0 pae1 pae2 pae3 pbe0 pbe1 pbe2 pbe3 pve0 pve1 pve2 pve3
    have hB_4 := hB_3.trans (hb8.mono hB_3.size)
    have fsx_4 := fsx_3.below hb8
    have fsy_4 := fsy_3.below hb8
    have ps_4 := ps_3.below hb8
    have pa_4 := pa_3.below hb8
    have pb_4 := pb_3.below hb8
    have pv_4 := pv_3.below hb8
    clear hb8 hB_3 fsx_3 fsy_3 ps_3 pa_3 pb_3 pv_3
    obtain ⟨pse0, pse1, pse2, pse3, pse4, pse5, pse6, pse7, pse8, pse9, pse10, pse11⟩ := ps_4.open6
    go_wp2_with fail
    refine (stame_any Lsx Lsy Xsx Xsy Dsx Dsy _ fsx_4 fsy_4).mono ?_
    rintro e w9 ⟨m1x, o1x, n1x, c1x, p1x, k1x, d1x, m1y, o1y, n1y, c1y, p1y, k1y, d1y, rfl, f1x_0, f1y_0, hb9⟩
    clear pse0 pse1 pse2 pse3 pse4 pse5 pse6 pse7 pse8 pse9 pse10 pse11
    have hB_5 := hB_4.trans (hb9.mono hB_4.size)
    have fsx_5 := fsx_4.below hb9
    have fsy_5 := fsy_4.below hb9
    have ps_5 := ps_4.below hb9
    have pa_5 := pa_4.below hb9
    have pb_5 := pb_4.below hb9
    have pv_5 := pv_4.below hb9
    clear hb9 hB_4 fsx_4 fsy_4 ps_4 pa_4 pb_4 pv_4
    clear fsx_5 fsy_5
    obtain ⟨sf4a, sf4b, sf4c, sf4d, sf4e, sf4f, sf4g, sf4h, sf4i, sf4j, sf4k, sf4l⟩ := ps_5.open6
    obtain ⟨sg4a, sg4b, sg4c, sg4d, sg4e, sg4f, sg4g, sg4h, sg4i, sg4j⟩ := Box.put6 ps_5 (.bool m1x) (.slice o1x n1x c1x) (.slice p1x k1x d1x) (.bool m1y) (.slice o1y n1y c1y)
    have hB_6 := below_setAll hB_5 (g := w.heap.size + 1) (by omega) [.bool m1x, .slice o1x n1x c1x, .slice p1x k1x d1x, .bool m1y, .slice o1y n1y c1y, .slice p1y k1y d1y]
    have pa_6 := pa_5.farAll (g' := w.heap.size + 1) (by omega) [.bool m1x, .slice o1x n1x c1x, .slice p1x k1x d1x, .bool m1y, .slice o1y n1y c1y, .slice p1y k1y d1y]
    have pb_6 := pb_5.farAll (g' := w.heap.size + 1) (by omega) [.bool m1x, .slice o1x n1x c1x, .slice p1x k1x d1x, .bool m1y, .slice o1y n1y c1y, .slice p1y k1y d1y]
    have pv_6 := pv_5.farAll (g' := w.heap.size + 1) (by omega) [.bool m1x, .slice o1x n1x c1x, .slice p1x k1x d1x, .bool m1y, .slice o1y n1y c1y, .slice p1y k1y d1y]
    have f1x_1 := f1x_0.setAll ps_5 (noWord6 _ _ _ _ _ _ _ _ _ _ _ _ _ _) [.bool m1x, .slice o1x n1x c1x, .slice p1x k1x d1x, .bool m1y, .slice o1y n1y c1y, .slice p1y k1y d1y] rfl
    have f1y_1 := f1y_0.setAll ps_5 (noWord6 _ _ _ _ _ _ _ _ _ _ _ _ _ _) [.bool m1x, .slice o1x n1x c1x, .slice p1x k1x d1x, .bool m1y, .slice o1y n1y c1y, .slice p1y k1y d1y] rfl
    have ps_6 := ps_5.setAll [.bool m1x, .slice o1x n1x c1x, .slice p1x k1x d1x, .bool m1y, .slice o1y n1y c1y, .slice p1y k1y d1y] rfl
    simp only [setAll, Nat.zero_add, Nat.reduceAdd] at hB_6 ps_6 pa_6 pb_6 pv_6 f1x_1 f1y_1
    obtain ⟨pae0, pae1, pae2, pae3⟩ := pa_6.open2
    obtain ⟨pbe0, pbe1, pbe2, pbe3⟩ := pb_6.open2
    obtain ⟨pve0, pve1, pve2, pve3⟩ := pv_6.open2
    obtain ⟨pse0, pse1, pse2, pse3, pse4, pse5, pse6, pse7, pse8, pse9, pse10, pse11⟩ := ps_6.open6
    go_wp2_with fail
    clear sf4a sf4b sf4c sf4d sf4e sf4f sf4g sf4h sf4i sf4j sf4k sf4l sg4a sg4b sg4c sg4d sg4e sg4f sg4g sg4h sg4i sg4j hB_5 pa_5 pb_5 pv_5 f1x_0 f1y_0 ps_5
    generalize (World.setCell (World.setCell (World.setCell (World.setCell (World.setCell (World.setCell w9 ⟨w.heap.size + 1, 0, none⟩ (.bool m1x)) ⟨w.heap.size + 1, 1, none⟩ (.slice o1x n1x c1x)) ⟨w.heap.size + 1, 2, none⟩ (.slice p1x k1x d1x)) ⟨w.heap.size + 1, 3, none⟩ (.bool m1y)) ⟨w.heap.size + 1, 4, none⟩ (.slice o1y n1y c1y)) ⟨w.heap.size + 1, 5, none⟩ (.slice p1y k1y d1y)) = w10 at *
    go_wp2_with fail
    refine (sShares_any a0 a1 b0 b1 v0 v1 1 _ _ HA0.out HA1.out HB0.out HB1.out HV0.out HV1.out HC.out (by omega) (by omega) _ f1x_1.q f1y_1.q).mono ?_
    rintro e w11 ⟨m20, o20, n20, c20, p20, k20, d20, m21, o21, n21, c21, p21, k21, d21, m22, o22, n22, c22, p22, k22, d22, rfl, f20_0, f21_0, f22_0, hb11⟩
    clear pae0 pae1 pae2 pae3 pbe0 pbe1 pbe2 pbe3 pve0 pve1 pve2 pve3 pse0 pse1 pse2 pse3 pse4 pse5 pse6 pse7 pse8 pse9 pse10 pse11
    have hB_7 := hB_6.trans (hb11.mono hB_6.size)
    have ps_7 := ps_6.below hb11
    have pa_7 := pa_6.below hb11
    have pb_7 := pb_6.below hb11
    have pv_7 := pv_6.below hb11
    have f1x_2 := f1x_1.below hb11
    have f1y_2 := f1y_1.below hb11
    clear hb11 hB_6 ps_6 pa_6 pb_6 pv_6 f1x_1 f1y_1
    have hl1ps := ps_7.lt
    have hl1pa := pa_7.lt
    have hl1pb := pb_7.lt
    have hl1pv := pv_7.lt
    have hl1B := hB_7.size
    obtain ⟨w12, hw12, pw_0, hb12, hs12⟩ := new_box w11 (w11.heap.size) rfl [.bool m20, .slice o20 n20 c20, .slice p20 k20 d20, .bool m21, .slice o21 n21 c21, .slice p21 k21 d21, .bool m22, .slice o22 n22 c22, .slice p22 k22 d22] 66
    have hb12' : Below w11.heap.size w11 w12 := hb12.mono (by omega)
    clear hb12
    have hB_8 := hB_7.trans (hb12'.mono hB_7.size)
    have ps_8 := ps_7.below hb12'
    have pa_8 := pa_7.below hb12'
    have pb_8 := pb_7.below hb12'
    have pv_8 := pv_7.below hb12'
    have f1x_3 := f1x_2.below hb12'
    have f1y_3 := f1y_2.below hb12'
    have f20_1 := f20_0.below hb12'
    have f21_1 := f21_0.below hb12'
    have f22_1 := f22_0.below hb12'
    clear hb12' hB_7 ps_7 pa_7 pb_7 pv_7 f1x_2 f1y_2 f20_0 f21_0 f22_0
    go_wp2
    try rw [hw12]
    have hWj_0 := Below.refl w12.heap.size w12
    have hsj : w.heap.size ≤ w12.heap.size := hB_8.size
    have hljps := ps_8.lt
    have hljpa := pa_8.lt
    have hljpb := pb_8.lt
    have hljpv := pv_8.lt
    have hljpw := pw_0.lt
    have hB_9 := hB_8.drew'
    have ps_9 := ps_8.drew
    have pa_9 := pa_8.drew
    have pb_9 := pb_8.drew
    have pv_9 := pv_8.drew
    have f1x_4 := f1x_3.drew
    have f1y_4 := f1y_3.drew
    have f20_2 := f20_1.drew
    have f21_2 := f21_1.drew
    have f22_2 := f22_1.drew
    have pw_1 := pw_0.drew
    have hWj_1 := hWj_0.drew'
    clear hB_8 ps_8 pa_8 pb_8 pv_8 f1x_3 f1y_3 f20_1 f21_1 f22_1 pw_0 hWj_0
    obtain ⟨FFj, hFFj⟩ : ∃ F : World → Prop, ∀ w', F w' ↔ (Below w.heap.size w w' ∧ Box w' (w.heap.size + 1) [.bool m1x, .slice o1x n1x c1x, .slice p1x k1x d1x, .bool m1y, .slice o1y n1y c1y, .slice p1y k1y d1y] ∧ Box w' (gpa) [.int .i64 a0, .int .i64 a1] ∧ Box w' (gpb) [.int .i64 b0, .int .i64 b1] ∧ Box w' (gpv) [.int .i64 v0, .int .i64 v1] ∧ RF w' (.agg #[.bool m1x, .slice o1x n1x c1x, .slice p1x k1x d1x]) (1) (tameQ Xsx Dsx) ∧ RF w' (.agg #[.bool m1y, .slice o1y n1y c1y, .slice p1y k1y d1y]) (1) (tameQ Xsy Dsy) ∧ RF w' (.agg #[.bool m20, .slice o20 n20 c20, .slice p20 k20 d20]) ((1 + 3 * (((1 + 1 + 2) + (1 + 1 + 2) + 2) + 2)) + max 2 1 + 3) (areaQ [(tameQ Xsx Dsx, tameQ Xsy Dsy), ((b0 : Rat), (b1 : Rat)), ((v0 : Rat), (v1 : Rat))] / ((crs a0 a1 b0 b1 v0 v1 : Int) : Rat)) ∧ RF w' (.agg #[.bool m21, .slice o21 n21 c21, .slice p21 k21 d21]) ((1 + 3 * (((1 + 1 + 2) + (1 + 1 + 2) + 2) + 2)) + max 2 1 + 3) (areaQ [((a0 : Rat), (a1 : Rat)), (tameQ Xsx Dsx, tameQ Xsy Dsy), ((v0 : Rat), (v1 : Rat))] / ((crs a0 a1 b0 b1 v0 v1 : Int) : Rat)) ∧ RF w' (.agg #[.bool m22, .slice o22 n22 c22, .slice p22 k22 d22]) ((1 + 3 * (((1 + 1 + 2) + (1 + 1 + 2) + 2) + 2)) + max 2 1 + 3) (areaQ [((a0 : Rat), (a1 : Rat)), ((b0 : Rat), (b1 : Rat)), (tameQ Xsx Dsx, tameQ Xsy Dsy)] / ((crs a0 a1 b0 b1 v0 v1 : Int) : Rat)) ∧ Box w' (w11.heap.size) [.bool m20, .slice o20 n20 c20, .slice p20 k20 d20, .bool m21, .slice o21 n21 c21, .slice p21 k21 d21, .bool m22, .slice o22 n22 c22, .slice p22 k22 d22] ∧ Below w12.heap.size w12 w') := ⟨_, fun _ => Iff.rfl⟩
    have cFj : ∀ {w' w'' : World}, FFj w' → Below w'.heap.size w' w'' → FFj w'' := by
      intro w' w'' h hb
      obtain ⟨y0, y1, y2, y3, y4, y5, y6, y7, y8, y9, y10, y11⟩ := (hFFj _).1 h
      exact (hFFj _).2 ⟨y0.trans (hb.mono y0.size), y1.below hb, y2.below hb, y3.below hb, y4.below hb, y5.below hb, y6.below hb, y7.below hb, y8.below hb, y9.below hb, y10.below hb, y11.trans (hb.mono y11.size)⟩
    have mFj : ∀ {w' : World}, FFj w' → w12.heap.size ≤ w'.heap.size := by
      intro w' h
      obtain ⟨y0, y1, y2, y3, y4, y5, y6, y7, y8, y9, y10, y11⟩ := (hFFj _).1 h
      exact y11.size
    have sFj : ∀ {w' : World}, FFj w' → (w'.cell? ⟨w11.heap.size, 0, none⟩ = some (.bool m20) ∧ w'.cell? ⟨w11.heap.size, 1, none⟩ = some (.slice o20 n20 c20) ∧ w'.cell? ⟨w11.heap.size, 2, none⟩ = some (.slice p20 k20 d20) ∧ w'.cell? ⟨w11.heap.size, 3, none⟩ = some (.bool m21) ∧ w'.cell? ⟨w11.heap.size, 4, none⟩ = some (.slice o21 n21 c21) ∧ w'.cell? ⟨w11.heap.size, 5, none⟩ = some (.slice p21 k21 d21) ∧ w'.cell? ⟨w11.heap.size, 6, none⟩ = some (.bool m22) ∧ w'.cell? ⟨w11.heap.size, 7, none⟩ = some (.slice o22 n22 c22) ∧ w'.cell? ⟨w11.heap.size, 8, none⟩ = some (.slice p22 k22 d22) ∧ w'.cell? ⟨gpa, 0, none⟩ = some (.int .i64 a0) ∧ w'.cell? ⟨gpa, 1, none⟩ = some (.int .i64 a1) ∧ w'.cell? ⟨gpb, 0, none⟩ = some (.int .i64 b0) ∧ w'.cell? ⟨gpb, 1, none⟩ = some (.int .i64 b1) ∧ w'.cell? ⟨gpv, 0, none⟩ = some (.int .i64 v0) ∧ w'.cell? ⟨gpv, 1, none⟩ = some (.int .i64 v1)) := by
      intro w' h
      obtain ⟨y0, y1, y2, y3, y4, y5, y6, y7, y8, y9, y10, y11⟩ := (hFFj _).1 h
      exact ⟨y10.c0, y10.c1, y10.c2, y10.c3, y10.c4, y10.c5, y10.c6, y10.c7, y10.c8, y2.c0, y2.c1, y3.c0, y3.c1, y4.c0, y4.c1⟩
    have zF : FFj w12.drew := (hFFj _).2 ⟨hB_9, ps_9, pa_9, pb_9, pv_9, f1x_4, f1y_4, f20_2, f21_2, f22_2, pw_1, hWj_1⟩
    clear hB_9 ps_9 pa_9 pb_9 pv_9 f1x_4 f1y_4 f20_2 f21_2 f22_2 pw_1 hWj_1
    refine wp_region_noPanic ?_
    refine wp_region_held_drew (S := fun w' => w'.cell? ⟨w11.heap.size, 0, none⟩ = some (.bool m20) ∧ w'.cell? ⟨w11.heap.size, 1, none⟩ = some (.slice o20 n20 c20) ∧ w'.cell? ⟨w11.heap.size, 2, none⟩ = some (.slice p20 k20 d20) ∧ w'.cell? ⟨w11.heap.size, 3, none⟩ = some (.bool m21) ∧ w'.cell? ⟨w11.heap.size, 4, none⟩ = some (.slice o21 n21 c21) ∧ w'.cell? ⟨w11.heap.size, 5, none⟩ = some (.slice p21 k21 d21) ∧ w'.cell? ⟨w11.heap.size, 6, none⟩ = some (.bool m22) ∧ w'.cell? ⟨w11.heap.size, 7, none⟩ = some (.slice o22 n22 c22) ∧ w'.cell? ⟨w11.heap.size, 8, none⟩ = some (.slice p22 k22 d22) ∧ w'.cell? ⟨gpa, 0, none⟩ = some (.int .i64 a0) ∧ w'.cell? ⟨gpa, 1, none⟩ = some (.int .i64 a1) ∧ w'.cell? ⟨gpb, 0, none⟩ = some (.int .i64 b0) ∧ w'.cell? ⟨gpb, 1, none⟩ = some (.int .i64 b1) ∧ w'.cell? ⟨gpv, 0, none⟩ = some (.int .i64 v0) ∧ w'.cell? ⟨gpv, 1, none⟩ = some (.int .i64 v1)) (by kernel_rfl) (sFj zF) (fun hHeld => ?_)
    refine reg_take 0 ?_ ?_ ?_ (by kernel_rfl) (by kernel_rfl) (by kernel_rfl) (fun _ _ _ h => h) ?_ ?_ (by assumption) ?_
    rotate_left 2
    · simp only [List.getElem?_toArray, List.getElem?_cons_zero]; exact rfl
    · rfl
    · intro w hSw; (try dsimp only at hSw); go_simp; try with_reducible rfl
    try simp only [Act.put]
    try simp only [List.setIfInBounds_toArray, List.set_cons_zero, List.set_cons_succ]
    refine reg_take 1 ?_ ?_ ?_ (by kernel_rfl) (by kernel_rfl) (by kernel_rfl) (fun _ _ _ h => h) ?_ ?_ (by assumption) ?_
    rotate_left 2
    · simp only [List.getElem?_toArray, List.getElem?_cons_succ, List.getElem?_cons_zero]; exact rfl
    · rfl
    · intro w hSw; (try dsimp only at hSw); go_simp; try with_reducible rfl
    try simp only [Act.put]
    try simp only [List.setIfInBounds_toArray, List.set_cons_zero, List.set_cons_succ]
    refine reg_take 2 ?_ ?_ ?_ (by kernel_rfl) (by kernel_rfl) (by kernel_rfl) (fun _ _ _ h => h) ?_ ?_ (by assumption) ?_
    rotate_left 2
    · simp only [List.getElem?_toArray, List.getElem?_cons_succ, List.getElem?_cons_zero]; exact rfl
    · rfl
    · intro w hSw; (try dsimp only at hSw); go_simp; try with_reducible rfl
    try simp only [Act.put]
    try simp only [List.setIfInBounds_toArray, List.set_cons_zero, List.set_cons_succ]
    refine reg_take 3 ?_ ?_ ?_ (by kernel_rfl) (by kernel_rfl) (by kernel_rfl) (fun _ _ _ h => h) ?_ ?_ (by assumption) ?_
    rotate_left 2
    · simp only [List.getElem?_toArray, List.getElem?_cons_succ, List.getElem?_cons_zero]; exact rfl
    · rfl
    · intro w hSw; (try dsimp only at hSw); go_simp; try with_reducible rfl
    try simp only [Act.put]
    try simp only [List.setIfInBounds_toArray, List.set_cons_zero, List.set_cons_succ]
    refine reg_take 6 ?_ ?_ ?_ (by kernel_rfl) (by kernel_rfl) (by kernel_rfl) (fun _ _ _ h => h) ?_ ?_ (by assumption) ?_
    rotate_left 2
    · simp only [List.getElem?_toArray, List.getElem?_cons_succ, List.getElem?_cons_zero]; exact rfl
    · rfl
    · intro w hSw; (try dsimp only at hSw); go_simp; try with_reducible rfl
    try simp only [Act.put]
    try simp only [List.setIfInBounds_toArray, List.set_cons_zero, List.set_cons_succ]
    refine reg_take 7 ?_ ?_ ?_ (by kernel_rfl) (by kernel_rfl) (by kernel_rfl) (fun _ _ _ h => h) ?_ ?_ (by assumption) ?_
    rotate_left 2
    · simp only [List.getElem?_toArray, List.getElem?_cons_succ, List.getElem?_cons_zero]; exact rfl
    · rfl
    · intro w hSw; (try dsimp only at hSw); go_simp; try with_reducible rfl
    try simp only [Act.put]
    try simp only [List.setIfInBounds_toArray, List.set_cons_zero, List.set_cons_succ]
    refine reg_take 8 ?_ ?_ ?_ (by kernel_rfl) (by kernel_rfl) (by kernel_rfl) (fun _ _ _ h => h) ?_ ?_ (by assumption) ?_
    rotate_left 2
    · simp only [List.getElem?_toArray, List.getElem?_cons_succ, List.getElem?_cons_zero]; exact rfl
    · rfl
    · intro w hSw; (try dsimp only at hSw); go_simp; try with_reducible rfl
    try simp only [Act.put]
    try simp only [List.setIfInBounds_toArray, List.set_cons_zero, List.set_cons_succ]
    refine reg_take 9 ?_ ?_ ?_ (by kernel_rfl) (by kernel_rfl) (by kernel_rfl) (fun _ _ _ h => h) ?_ ?_ (by assumption) ?_
    rotate_left 2
    · simp only [List.getElem?_toArray, List.getElem?_cons_succ, List.getElem?_cons_zero]; exact rfl
    · rfl
    · intro w hSw; (try dsimp only at hSw); go_simp; try with_reducible rfl
    try simp only [Act.put]
    try simp only [List.setIfInBounds_toArray, List.set_cons_zero, List.set_cons_succ]
    refine reg_take 12 ?_ ?_ ?_ (by kernel_rfl) (by kernel_rfl) (by kernel_rfl) (fun _ _ _ h => h) ?_ ?_ (by assumption) ?_
    rotate_left 2
    · simp only [List.getElem?_toArray, List.getElem?_cons_succ, List.getElem?_cons_zero]; exact rfl
    · rfl
    · intro w hSw; (try dsimp only at hSw); go_simp; try with_reducible rfl
    try simp only [Act.put]
    try simp only [List.setIfInBounds_toArray, List.set_cons_zero, List.set_cons_succ]
    refine reg_take 13 ?_ ?_ ?_ (by kernel_rfl) (by kernel_rfl) (by kernel_rfl) (fun _ _ _ h => h) ?_ ?_ (by assumption) ?_
    rotate_left 2
    · simp only [List.getElem?_toArray, List.getElem?_cons_succ, List.getElem?_cons_zero]; exact rfl
    · rfl
    · intro w hSw; (try dsimp only at hSw); go_simp; try with_reducible rfl
    try simp only [Act.put]
    try simp only [List.setIfInBounds_toArray, List.set_cons_zero, List.set_cons_succ]
    refine reg_take 14 ?_ ?_ ?_ (by kernel_rfl) (by kernel_rfl) (by kernel_rfl) (fun _ _ _ h => h) ?_ ?_ (by assumption) ?_
    rotate_left 2
    · simp only [List.getElem?_toArray, List.getElem?_cons_succ, List.getElem?_cons_zero]; exact rfl
    · rfl
    · intro w hSw; (try dsimp only at hSw); go_simp; try with_reducible rfl
    try simp only [Act.put]
    try simp only [List.setIfInBounds_toArray, List.set_cons_zero, List.set_cons_succ]
    refine reg_take 15 ?_ ?_ ?_ (by kernel_rfl) (by kernel_rfl) (by kernel_rfl) (fun _ _ _ h => h) ?_ ?_ (by assumption) ?_
    rotate_left 2
    · simp only [List.getElem?_toArray, List.getElem?_cons_succ, List.getElem?_cons_zero]; exact rfl
    · rfl
    · intro w hSw; (try dsimp only at hSw); go_simp; try with_reducible rfl
    try simp only [Act.put]
    try simp only [List.setIfInBounds_toArray, List.set_cons_zero, List.set_cons_succ]
    refine reg_grab (fun WWj aj hWW hAA => ?_)
    rw [hWW]
    have HAj := Lib.hid hAA; clear hWW hAA hHeld
    obtain ⟨IVj, hIVj⟩ : ∃ IV : Array Bool → Act → World → Prop, ∀ l a w', IV l a w' ↔ ∀ CC : Prop, (∀ (lb4 lb5 lb10 lb11 lb16 lb17 lb18 lb19 lb20 : Bool) (lv4 lv5 lv10 lv11 lv16 lv17 lv18 lv19 lv20 : Value) (m30 : Bool) (o30 : Option Addr) (n30 : Nat) (c30 : Nat) (p30 : Option Addr) (k30 : Nat) (d30 : Nat) (m31 : Bool) (o31 : Option Addr) (n31 : Nat) (c31 : Nat) (p31 : Option Addr) (k31 : Nat) (d31 : Nat) (m32 : Bool) (o32 : Option Addr) (n32 : Nat) (c32 : Nat) (p32 : Option Addr) (k32 : Nat) (d32 : Nat) (m33 : Bool) (o33 : Option Addr) (n33 : Nat) (c33 : Nat) (p33 : Option Addr) (k33 : Nat) (d33 : Nat) (m34 : Bool) (o34 : Option Addr) (n34 : Nat) (c34 : Nat) (p34 : Option Addr) (k34 : Nat) (d34 : Nat) (m35 : Bool) (o35 : Option Addr) (n35 : Nat) (c35 : Nat) (p35 : Option Addr) (k35 : Nat) (d35 : Nat) (m36 : Bool) (o36 : Option Addr) (n36 : Nat) (c36 : Nat) (p36 : Option Addr) (k36 : Nat) (d36 : Nat) (gpm gpX : Nat), (l = #[true, true, true, true, lb4, lb5, true, true, true, true, lb10, lb11, true, true, true, true, lb16, lb17, lb18, lb19, lb20, false]) → (a = (((((((((aj.put (some 38) lv4).put (some 39) lv5).put (some 44) lv10).put (some 45) lv11).put (some 50) lv16).put (some 51) lv17).put (some 52) lv18).put (some 53) lv19).put (some 9) lv20)) → (FFj w') → ((lb4 = true → lv4 = .agg #[.bool m30, .slice o30 n30 c30, .slice p30 k30 d30] ∧ RF w' (.agg #[.bool m30, .slice o30 n30 c30, .slice p30 k30 d30]) (1) ((a0 : Rat)))) → ((lb5 = true → lv5 = .agg #[.bool m31, .slice o31 n31 c31, .slice p31 k31 d31] ∧ RF w' (.agg #[.bool m31, .slice o31 n31 c31, .slice p31 k31 d31]) (((1 + 3 * (((1 + 1 + 2) + (1 + 1 + 2) + 2) + 2)) + max 2 1 + 3) + 1 + 2) (areaQ [(tameQ Xsx Dsx, tameQ Xsy Dsy), ((b0 : Rat), (b1 : Rat)), ((v0 : Rat), (v1 : Rat))] / ((crs a0 a1 b0 b1 v0 v1 : Int) : Rat) * (a0 : Rat)))) → ((lb10 = true → lv10 = .agg #[.bool m32, .slice o32 n32 c32, .slice p32 k32 d32] ∧ RF w' (.agg #[.bool m32, .slice o32 n32 c32, .slice p32 k32 d32]) (1) ((b0 : Rat)))) → ((lb11 = true → lv11 = .agg #[.bool m33, .slice o33 n33 c33, .slice p33 k33 d33] ∧ RF w' (.agg #[.bool m33, .slice o33 n33 c33, .slice p33 k33 d33]) (((1 + 3 * (((1 + 1 + 2) + (1 + 1 + 2) + 2) + 2)) + max 2 1 + 3) + 1 + 2) (areaQ [((a0 : Rat), (a1 : Rat)), (tameQ Xsx Dsx, tameQ Xsy Dsy), ((v0 : Rat), (v1 : Rat))] / ((crs a0 a1 b0 b1 v0 v1 : Int) : Rat) * (b0 : Rat)))) → ((lb16 = true → lv16 = .agg #[.bool m34, .slice o34 n34 c34, .slice p34 k34 d34] ∧ RF w' (.agg #[.bool m34, .slice o34 n34 c34, .slice p34 k34 d34]) (1) ((v0 : Rat)))) → ((lb17 = true → lv17 = .agg #[.bool m35, .slice o35 n35 c35, .slice p35 k35 d35] ∧ RF w' (.agg #[.bool m35, .slice o35 n35 c35, .slice p35 k35 d35]) (((1 + 3 * (((1 + 1 + 2) + (1 + 1 + 2) + 2) + 2)) + max 2 1 + 3) + 1 + 2) (areaQ [((a0 : Rat), (a1 : Rat)), ((b0 : Rat), (b1 : Rat)), (tameQ Xsx Dsx, tameQ Xsy Dsy)] / ((crs a0 a1 b0 b1 v0 v1 : Int) : Rat) * (v0 : Rat)))) → ((lb18 = true → lv18 = .slice (some ⟨gpm, 0, none⟩) 3 3 ∧ Box w' gpm [.bool m31, .slice o31 n31 c31, .slice p31 k31 d31, .bool m33, .slice o33 n33 c33, .slice p33 k33 d33, .bool m35, .slice o35 n35 c35, .slice p35 k35 d35] ∧ w12.heap.size ≤ gpm)) → ((lb19 = true → lv19 = .agg #[.bool m36, .slice o36 n36 c36, .slice p36 k36 d36] ∧ RF w' (.agg #[.bool m36, .slice o36 n36 c36, .slice p36 k36 d36]) (3 * ((((1 + 3 * (((1 + 1 + 2) + (1 + 1 + 2) + 2) + 2)) + max 2 1 + 3) + 1 + 2) + 2) + 1) (areaQ [(tameQ Xsx Dsx, tameQ Xsy Dsy), ((b0 : Rat), (b1 : Rat)), ((v0 : Rat), (v1 : Rat))] / ((crs a0 a1 b0 b1 v0 v1 : Int) : Rat) * (a0 : Rat) + areaQ [((a0 : Rat), (a1 : Rat)), (tameQ Xsx Dsx, tameQ Xsy Dsy), ((v0 : Rat), (v1 : Rat))] / ((crs a0 a1 b0 b1 v0 v1 : Int) : Rat) * (b0 : Rat) + areaQ [((a0 : Rat), (a1 : Rat)), ((b0 : Rat), (b1 : Rat)), (tameQ Xsx Dsx, tameQ Xsy Dsy)] / ((crs a0 a1 b0 b1 v0 v1 : Int) : Rat) * (v0 : Rat)))) → ((lb20 = true → lv20 = .pointer (some ⟨gpX, 0, none⟩) ∧ Box w' gpX [.bool false, .slice none 0 0, .slice none 0 0] ∧ w12.heap.size ≤ gpX)) → ((lb5 = true → lb4 = true)) → ((lb10 = true → lb5 = true)) → ((lb11 = true → lb10 = true)) → ((lb16 = true → lb11 = true)) → ((lb17 = true → lb16 = true)) → ((lb18 = true → lb5 = true)) → ((lb18 = true → lb11 = true)) → ((lb18 = true → lb17 = true)) → ((lb19 = true → lb18 = true)) → ((lb19 = true → lb17 = true)) → ((lb18 = true → lb20 = true → gpm ≠ gpX)) → CC) → CC := ⟨_, fun _ _ _ => Iff.rfl⟩
    refine wpAnyH_until IVj ?_ _ _ _ _ ((hIVj _ _ _).2 (fun CC kk => kk false false false false false false false false false (aj.tmps.getD 38 undef) (aj.tmps.getD 39 undef) (aj.tmps.getD 44 undef) (aj.tmps.getD 45 undef) (aj.tmps.getD 50 undef) (aj.tmps.getD 51 undef) (aj.tmps.getD 52 undef) (aj.tmps.getD 53 undef) (aj.tmps.getD 9 undef) false none 0 0 none 0 0 false none 0 0 none 0 0 false none 0 0 none 0 0 false none 0 0 none 0 0 false none 0 0 none 0 0 false none 0 0 none 0 0 false none 0 0 none 0 0 0 0 rfl (by simp only [put_same]) zF (fun h => by cases h) (fun h => by cases h) (fun h => by cases h) (fun h => by cases h) (fun h => by cases h) (fun h => by cases h) (fun h => by cases h) (fun h => by cases h) (fun h => by cases h) (fun h => by cases h) (fun h => by cases h) (fun h => by cases h) (fun h => by cases h) (fun h => by cases h) (fun h => by cases h) (fun h => by cases h) (fun h => by cases h) (fun h => by cases h) (fun h => by cases h) (fun h => by cases h))) (by kernel_rfl)
    clear zF
    intro ll aa w13 hI
    refine (hIVj _ _ _).1 hI _ ?_
    clear hI
    intro lb4 lb5 lb10 lb11 lb16 lb17 lb18 lb19 lb20 lv4 lv5 lv10 lv11 lv16 lv17 lv18 lv19 lv20 m30 o30 n30 c30 p30 k30 d30 m31 o31 n31 c31 p31 k31 d31 m32 o32 n32 c32 p32 k32 d32 m33 o33 n33 c33 p33 k33 d33 m34 o34 n34 c34 p34 k34 d34 m35 o35 n35 c35 p35 k35 d35 m36 o36 n36 c36 p36 k36 d36 gpm gpX hll haa zF F4 F5 F10 F11 F16 F17 F18 F19 F20 dp5_4 dp10_5 dp11_10 dp16_11 dp17_16 dp18_5 dp18_11 dp18_17 dp19_18 dp19_17 nq18_20
    subst hll haa
    by_cases hL : lb4 = true ∧ lb5 = true ∧ lb10 = true ∧ lb11 = true ∧ lb16 = true ∧ lb17 = true ∧ lb18 = true ∧ lb19 = true ∧ lb20 = true
    · left
      obtain ⟨rfl, rfl, rfl, rfl, rfl, rfl, rfl, rfl, rfl⟩ := hL
      obtain ⟨rfl, f30_0⟩ := F4 rfl
      clear F4
      obtain ⟨rfl, f31_0⟩ := F5 rfl
      clear F5
      obtain ⟨rfl, f32_0⟩ := F10 rfl
      clear F10
      obtain ⟨rfl, f33_0⟩ := F11 rfl
      clear F11
      obtain ⟨rfl, f34_0⟩ := F16 rfl
      clear F16
      obtain ⟨rfl, f35_0⟩ := F17 rfl
      clear F17
      obtain ⟨rfl, pm_0, hgpm⟩ := F18 rfl
      clear F18
      obtain ⟨rfl, f36_0⟩ := F19 rfl
      clear F19
      obtain ⟨rfl, pX_0, hgpX⟩ := F20 rfl
      clear F20
      have hnpmpX := nq18_20 rfl rfl
      clear dp5_4 dp10_5 dp11_10 dp16_11 dp17_16 dp18_5 dp18_11 dp18_17 dp19_18 dp19_17 nq18_20
      show wpAnyH _ _ _ _ _ 1 _ _ _
      rw [HAj.out]
      try simp only [Act.put]
      try simp only [List.setIfInBounds_toArray, List.set_cons_zero, List.set_cons_succ]
      obtain ⟨hB_0, ps_0, pa_0, pb_0, pv_0, f1x_0, f1y_0, f20_0, f21_0, f22_0, pw_0, hWj_0⟩ := (hFFj _).1 zF
      clear zF
      clear hWj_0
      obtain ⟨sf5a, sf5b, sf5c, sf5d, sf5e, sf5f⟩ := pX_0.open3
      obtain ⟨sg5a, sg5b, sg5c, sg5d⟩ := Box.put3 pX_0 (.bool m36) (.slice o36 n36 c36)
      refine reg_call 21 ?_ (by kernel_rfl) ?_ (fun K hK => ?_)
      rotate_left 1
      · simp only [List.getElem?_toArray, List.getElem?_cons_succ, List.getElem?_cons_zero]; exact rfl
      go_simp
      have hB_1 := below_setAll hB_0 (g := gpX) (by omega) [.bool m36, .slice o36 n36 c36, .slice p36 k36 d36]
      have ps_1 := ps_0.farAll (g' := gpX) (by omega) [.bool m36, .slice o36 n36 c36, .slice p36 k36 d36]
      have pa_1 := pa_0.farAll (g' := gpX) (by omega) [.bool m36, .slice o36 n36 c36, .slice p36 k36 d36]
      have pb_1 := pb_0.farAll (g' := gpX) (by omega) [.bool m36, .slice o36 n36 c36, .slice p36 k36 d36]
      have pv_1 := pv_0.farAll (g' := gpX) (by omega) [.bool m36, .slice o36 n36 c36, .slice p36 k36 d36]
      have f1x_1 := f1x_0.setAll pX_0 (noWord3 _ _ _ _ _ _ _) [.bool m36, .slice o36 n36 c36, .slice p36 k36 d36] rfl
      have f1y_1 := f1y_0.setAll pX_0 (noWord3 _ _ _ _ _ _ _) [.bool m36, .slice o36 n36 c36, .slice p36 k36 d36] rfl
      have f20_1 := f20_0.setAll pX_0 (noWord3 _ _ _ _ _ _ _) [.bool m36, .slice o36 n36 c36, .slice p36 k36 d36] rfl
      have f21_1 := f21_0.setAll pX_0 (noWord3 _ _ _ _ _ _ _) [.bool m36, .slice o36 n36 c36, .slice p36 k36 d36] rfl
      have f22_1 := f22_0.setAll pX_0 (noWord3 _ _ _ _ _ _ _) [.bool m36, .slice o36 n36 c36, .slice p36 k36 d36] rfl
      have pw_1 := pw_0.farAll (g' := gpX) (by omega) [.bool m36, .slice o36 n36 c36, .slice p36 k36 d36]
      have f30_1 := f30_0.setAll pX_0 (noWord3 _ _ _ _ _ _ _) [.bool m36, .slice o36 n36 c36, .slice p36 k36 d36] rfl
      have f31_1 := f31_0.setAll pX_0 (noWord3 _ _ _ _ _ _ _) [.bool m36, .slice o36 n36 c36, .slice p36 k36 d36] rfl
      have f32_1 := f32_0.setAll pX_0 (noWord3 _ _ _ _ _ _ _) [.bool m36, .slice o36 n36 c36, .slice p36 k36 d36] rfl
      have f33_1 := f33_0.setAll pX_0 (noWord3 _ _ _ _ _ _ _) [.bool m36, .slice o36 n36 c36, .slice p36 k36 d36] rfl
      have f34_1 := f34_0.setAll pX_0 (noWord3 _ _ _ _ _ _ _) [.bool m36, .slice o36 n36 c36, .slice p36 k36 d36] rfl
      have f35_1 := f35_0.setAll pX_0 (noWord3 _ _ _ _ _ _ _) [.bool m36, .slice o36 n36 c36, .slice p36 k36 d36] rfl
      have pm_1 := pm_0.farAll (g' := gpX) (by omega) [.bool m36, .slice o36 n36 c36, .slice p36 k36 d36]
      have f36_1 := f36_0.setAll pX_0 (noWord3 _ _ _ _ _ _ _) [.bool m36, .slice o36 n36 c36, .slice p36 k36 d36] rfl
      have pX_1 := pX_0.setAll [.bool m36, .slice o36 n36 c36, .slice p36 k36 d36] rfl
      simp only [setAll, Nat.zero_add, Nat.reduceAdd] at hB_1 ps_1 pa_1 pb_1 pv_1 f1x_1 f1y_1 f20_1 f21_1 f22_1 pw_1 f30_1 f31_1 f32_1 f33_1 f34_1 f35_1 pm_1 f36_1 pX_1
      clear sf5a sf5b sf5c sf5d sf5e sf5f sg5a sg5b sg5c sg5d
      clear hB_0 ps_0 pa_0 pb_0 pv_0 f1x_0 f1y_0 f20_0 f21_0 f22_0 pw_0 f30_0 f31_0 f32_0 f33_0 f34_0 f35_0 pm_0 f36_0 pX_0
      refine hK.out _ _ ⟨pw_1.c0, pw_1.c1, pw_1.c2, pw_1.c3, pw_1.c4, pw_1.c5, pw_1.c6, pw_1.c7, pw_1.c8, pa_1.c0, pa_1.c1, pb_1.c0, pb_1.c1, pv_1.c0, pv_1.c1⟩ (fun hHeld => ?_)
      clear hK K
      try simp only [Act.put]
      try simp only [List.setIfInBounds_toArray, List.set_cons_zero, List.set_cons_succ]
      generalize (World.setCell (World.setCell (World.setCell w13 ⟨gpX, 0, none⟩ (.bool m36)) ⟨gpX, 1, none⟩ (.slice o36 n36 c36)) ⟨gpX, 2, none⟩ (.slice p36 k36 d36)) = w14 at *
      refine wpAnyH_done (by kernel_rfl) ?_ _
      refine NoPanic.normal ?_
      clear f30_1 f31_1 f32_1 f33_1 f34_1 f35_1 pm_1
      obtain ⟨pwe0, pwe1, pwe2, pwe3, pwe4, pwe5, pwe6, pwe7, pwe8, pwe9, pwe10, pwe11, pwe12, pwe13, pwe14, pwe15, pwe16, pwe17⟩ := pw_1.open9
      obtain ⟨pae0, pae1, pae2, pae3⟩ := pa_1.open2
      obtain ⟨pbe0, pbe1, pbe2, pbe3⟩ := pb_1.open2
      obtain ⟨pve0, pve1, pve2, pve3⟩ := pv_1.open2
      go_wp2
      clear pwe0 pwe1 pwe2 pwe3 pwe4 pwe5 pwe6 pwe7 pwe8 pwe9 pwe10 pwe11 pwe12 pwe13 pwe14 pwe15 pwe16 pwe17 pae0 pae1 pae2 pae3 pbe0 pbe1 pbe2 pbe3 pve0 pve1 pve2 pve3
      have hWk_0 := Below.refl w14.heap.size w14
      have hsk : w.heap.size ≤ w14.heap.size := hB_1.size
      have hlkps := ps_1.lt
      have hlkpa := pa_1.lt
      have hlkpb := pb_1.lt
      have hlkpv := pv_1.lt
      have hlkpw := pw_1.lt
      have hlkpX := pX_1.lt
      have hB_2 := hB_1.drew'
      have ps_2 := ps_1.drew
      have pa_2 := pa_1.drew
      have pb_2 := pb_1.drew
      have pv_2 := pv_1.drew
      have f1x_2 := f1x_1.drew
      have f1y_2 := f1y_1.drew
      have f20_2 := f20_1.drew
      have f21_2 := f21_1.drew
      have f22_2 := f22_1.drew
      have pw_2 := pw_1.drew
      have f36_2 := f36_1.drew
      have pX_2 := pX_1.drew
      have hWk_1 := hWk_0.drew'
      clear hB_1 ps_1 pa_1 pb_1 pv_1 f1x_1 f1y_1 f20_1 f21_1 f22_1 pw_1 f36_1 pX_1 hWk_0
      obtain ⟨FFk, hFFk⟩ : ∃ F : World → Prop, ∀ w', F w' ↔ (Below w.heap.size w w' ∧ Box w' (w.heap.size + 1) [.bool m1x, .slice o1x n1x c1x, .slice p1x k1x d1x, .bool m1y, .slice o1y n1y c1y, .slice p1y k1y d1y] ∧ Box w' (gpa) [.int .i64 a0, .int .i64 a1] ∧ Box w' (gpb) [.int .i64 b0, .int .i64 b1] ∧ Box w' (gpv) [.int .i64 v0, .int .i64 v1] ∧ RF w' (.agg #[.bool m1x, .slice o1x n1x c1x, .slice p1x k1x d1x]) (1) (tameQ Xsx Dsx) ∧ RF w' (.agg #[.bool m1y, .slice o1y n1y c1y, .slice p1y k1y d1y]) (1) (tameQ Xsy Dsy) ∧ RF w' (.agg #[.bool m20, .slice o20 n20 c20, .slice p20 k20 d20]) ((1 + 3 * (((1 + 1 + 2) + (1 + 1 + 2) + 2) + 2)) + max 2 1 + 3) (areaQ [(tameQ Xsx Dsx, tameQ Xsy Dsy), ((b0 : Rat), (b1 : Rat)), ((v0 : Rat), (v1 : Rat))] / ((crs a0 a1 b0 b1 v0 v1 : Int) : Rat)) ∧ RF w' (.agg #[.bool m21, .slice o21 n21 c21, .slice p21 k21 d21]) ((1 + 3 * (((1 + 1 + 2) + (1 + 1 + 2) + 2) + 2)) + max 2 1 + 3) (areaQ [((a0 : Rat), (a1 : Rat)), (tameQ Xsx Dsx, tameQ Xsy Dsy), ((v0 : Rat), (v1 : Rat))] / ((crs a0 a1 b0 b1 v0 v1 : Int) : Rat)) ∧ RF w' (.agg #[.bool m22, .slice o22 n22 c22, .slice p22 k22 d22]) ((1 + 3 * (((1 + 1 + 2) + (1 + 1 + 2) + 2) + 2)) + max 2 1 + 3) (areaQ [((a0 : Rat), (a1 : Rat)), ((b0 : Rat), (b1 : Rat)), (tameQ Xsx Dsx, tameQ Xsy Dsy)] / ((crs a0 a1 b0 b1 v0 v1 : Int) : Rat)) ∧ Box w' (w11.heap.size) [.bool m20, .slice o20 n20 c20, .slice p20 k20 d20, .bool m21, .slice o21 n21 c21, .slice p21 k21 d21, .bool m22, .slice o22 n22 c22, .slice p22 k22 d22] ∧ RF w' (.agg #[.bool m36, .slice o36 n36 c36, .slice p36 k36 d36]) (3 * ((((1 + 3 * (((1 + 1 + 2) + (1 + 1 + 2) + 2) + 2)) + max 2 1 + 3) + 1 + 2) + 2) + 1) (areaQ [(tameQ Xsx Dsx, tameQ Xsy Dsy), ((b0 : Rat), (b1 : Rat)), ((v0 : Rat), (v1 : Rat))] / ((crs a0 a1 b0 b1 v0 v1 : Int) : Rat) * (a0 : Rat) + areaQ [((a0 : Rat), (a1 : Rat)), (tameQ Xsx Dsx, tameQ Xsy Dsy), ((v0 : Rat), (v1 : Rat))] / ((crs a0 a1 b0 b1 v0 v1 : Int) : Rat) * (b0 : Rat) + areaQ [((a0 : Rat), (a1 : Rat)), ((b0 : Rat), (b1 : Rat)), (tameQ Xsx Dsx, tameQ Xsy Dsy)] / ((crs a0 a1 b0 b1 v0 v1 : Int) : Rat) * (v0 : Rat)) ∧ Box w' (gpX) [.bool m36, .slice o36 n36 c36, .slice p36 k36 d36] ∧ Below w14.heap.size w14 w') := ⟨_, fun _ => Iff.rfl⟩
      have cFk : ∀ {w' w'' : World}, FFk w' → Below w'.heap.size w' w'' → FFk w'' := by
        intro w' w'' h hb
        obtain ⟨y0, y1, y2, y3, y4, y5, y6, y7, y8, y9, y10, y11, y12, y13⟩ := (hFFk _).1 h
        exact (hFFk _).2 ⟨y0.trans (hb.mono y0.size), y1.below hb, y2.below hb, y3.below hb, y4.below hb, y5.below hb, y6.below hb, y7.below hb, y8.below hb, y9.below hb, y10.below hb, y11.below hb, y12.below hb, y13.trans (hb.mono y13.size)⟩
      have mFk : ∀ {w' : World}, FFk w' → w14.heap.size ≤ w'.heap.size := by
        intro w' h
        obtain ⟨y0, y1, y2, y3, y4, y5, y6, y7, y8, y9, y10, y11, y12, y13⟩ := (hFFk _).1 h
        exact y13.size
      have sFk : ∀ {w' : World}, FFk w' → (w'.cell? ⟨w11.heap.size, 0, none⟩ = some (.bool m20) ∧ w'.cell? ⟨w11.heap.size, 1, none⟩ = some (.slice o20 n20 c20) ∧ w'.cell? ⟨w11.heap.size, 2, none⟩ = some (.slice p20 k20 d20) ∧ w'.cell? ⟨w11.heap.size, 3, none⟩ = some (.bool m21) ∧ w'.cell? ⟨w11.heap.size, 4, none⟩ = some (.slice o21 n21 c21) ∧ w'.cell? ⟨w11.heap.size, 5, none⟩ = some (.slice p21 k21 d21) ∧ w'.cell? ⟨w11.heap.size, 6, none⟩ = some (.bool m22) ∧ w'.cell? ⟨w11.heap.size, 7, none⟩ = some (.slice o22 n22 c22) ∧ w'.cell? ⟨w11.heap.size, 8, none⟩ = some (.slice p22 k22 d22) ∧ w'.cell? ⟨gpa, 0, none⟩ = some (.int .i64 a0) ∧ w'.cell? ⟨gpa, 1, none⟩ = some (.int .i64 a1) ∧ w'.cell? ⟨gpb, 0, none⟩ = some (.int .i64 b0) ∧ w'.cell? ⟨gpb, 1, none⟩ = some (.int .i64 b1) ∧ w'.cell? ⟨gpv, 0, none⟩ = some (.int .i64 v0) ∧ w'.cell? ⟨gpv, 1, none⟩ = some (.int .i64 v1)) := by
        intro w' h
        obtain ⟨y0, y1, y2, y3, y4, y5, y6, y7, y8, y9, y10, y11, y12, y13⟩ := (hFFk _).1 h
        exact ⟨y10.c0, y10.c1, y10.c2, y10.c3, y10.c4, y10.c5, y10.c6, y10.c7, y10.c8, y2.c0, y2.c1, y3.c0, y3.c1, y4.c0, y4.c1⟩
      have zF : FFk w14.drew := (hFFk _).2 ⟨hB_2, ps_2, pa_2, pb_2, pv_2, f1x_2, f1y_2, f20_2, f21_2, f22_2, pw_2, f36_2, pX_2, hWk_1⟩
      clear hB_2 ps_2 pa_2 pb_2 pv_2 f1x_2 f1y_2 f20_2 f21_2 f22_2 pw_2 f36_2 pX_2 hWk_1
      refine wp_region_noPanic ?_
      refine wp_region_held_drew (S := fun w' => w'.cell? ⟨w11.heap.size, 0, none⟩ = some (.bool m20) ∧ w'.cell? ⟨w11.heap.size, 1, none⟩ = some (.slice o20 n20 c20) ∧ w'.cell? ⟨w11.heap.size, 2, none⟩ = some (.slice p20 k20 d20) ∧ w'.cell? ⟨w11.heap.size, 3, none⟩ = some (.bool m21) ∧ w'.cell? ⟨w11.heap.size, 4, none⟩ = some (.slice o21 n21 c21) ∧ w'.cell? ⟨w11.heap.size, 5, none⟩ = some (.slice p21 k21 d21) ∧ w'.cell? ⟨w11.heap.size, 6, none⟩ = some (.bool m22) ∧ w'.cell? ⟨w11.heap.size, 7, none⟩ = some (.slice o22 n22 c22) ∧ w'.cell? ⟨w11.heap.size, 8, none⟩ = some (.slice p22 k22 d22) ∧ w'.cell? ⟨gpa, 0, none⟩ = some (.int .i64 a0) ∧ w'.cell? ⟨gpa, 1, none⟩ = some (.int .i64 a1) ∧ w'.cell? ⟨gpb, 0, none⟩ = some (.int .i64 b0) ∧ w'.cell? ⟨gpb, 1, none⟩ = some (.int .i64 b1) ∧ w'.cell? ⟨gpv, 0, none⟩ = some (.int .i64 v0) ∧ w'.cell? ⟨gpv, 1, none⟩ = some (.int .i64 v1)) (by kernel_rfl) (sFk zF) (fun hHeld => ?_)
      refine reg_take 0 ?_ ?_ ?_ (by kernel_rfl) (by kernel_rfl) (by kernel_rfl) (fun _ _ _ h => h) ?_ ?_ (by assumption) ?_
      rotate_left 2
      · simp only [List.getElem?_toArray, List.getElem?_cons_zero]; exact rfl
      · rfl
      · intro w hSw; (try dsimp only at hSw); go_simp; try with_reducible rfl
      try simp only [Act.put]
      try simp only [List.setIfInBounds_toArray, List.set_cons_zero, List.set_cons_succ]
      refine reg_take 1 ?_ ?_ ?_ (by kernel_rfl) (by kernel_rfl) (by kernel_rfl) (fun _ _ _ h => h) ?_ ?_ (by assumption) ?_
      rotate_left 2
      · simp only [List.getElem?_toArray, List.getElem?_cons_succ, List.getElem?_cons_zero]; exact rfl
      · rfl
      · intro w hSw; (try dsimp only at hSw); go_simp; try with_reducible rfl
      try simp only [Act.put]
      try simp only [List.setIfInBounds_toArray, List.set_cons_zero, List.set_cons_succ]
      refine reg_take 2 ?_ ?_ ?_ (by kernel_rfl) (by kernel_rfl) (by kernel_rfl) (fun _ _ _ h => h) ?_ ?_ (by assumption) ?_
      rotate_left 2
      · simp only [List.getElem?_toArray, List.getElem?_cons_succ, List.getElem?_cons_zero]; exact rfl
      · rfl
      · intro w hSw; (try dsimp only at hSw); go_simp; try with_reducible rfl
      try simp only [Act.put]
      try simp only [List.setIfInBounds_toArray, List.set_cons_zero, List.set_cons_succ]
      refine reg_take 3 ?_ ?_ ?_ (by kernel_rfl) (by kernel_rfl) (by kernel_rfl) (fun _ _ _ h => h) ?_ ?_ (by assumption) ?_
      rotate_left 2
      · simp only [List.getElem?_toArray, List.getElem?_cons_succ, List.getElem?_cons_zero]; exact rfl
      · rfl
      · intro w hSw; (try dsimp only at hSw); go_simp; try with_reducible rfl
      try simp only [Act.put]
      try simp only [List.setIfInBounds_toArray, List.set_cons_zero, List.set_cons_succ]
      refine reg_take 6 ?_ ?_ ?_ (by kernel_rfl) (by kernel_rfl) (by kernel_rfl) (fun _ _ _ h => h) ?_ ?_ (by assumption) ?_
      rotate_left 2
      · simp only [List.getElem?_toArray, List.getElem?_cons_succ, List.getElem?_cons_zero]; exact rfl
      · rfl
      · intro w hSw; (try dsimp only at hSw); go_simp; try with_reducible rfl
      try simp only [Act.put]
      try simp only [List.setIfInBounds_toArray, List.set_cons_zero, List.set_cons_succ]
      refine reg_take 7 ?_ ?_ ?_ (by kernel_rfl) (by kernel_rfl) (by kernel_rfl) (fun _ _ _ h => h) ?_ ?_ (by assumption) ?_
      rotate_left 2
      · simp only [List.getElem?_toArray, List.getElem?_cons_succ, List.getElem?_cons_zero]; exact rfl
      · rfl
      · intro w hSw; (try dsimp only at hSw); go_simp; try with_reducible rfl
      try simp only [Act.put]
      try simp only [List.setIfInBounds_toArray, List.set_cons_zero, List.set_cons_succ]
      refine reg_take 8 ?_ ?_ ?_ (by kernel_rfl) (by kernel_rfl) (by kernel_rfl) (fun _ _ _ h => h) ?_ ?_ (by assumption) ?_
      rotate_left 2
      · simp only [List.getElem?_toArray, List.getElem?_cons_succ, List.getElem?_cons_zero]; exact rfl
      · rfl
      · intro w hSw; (try dsimp only at hSw); go_simp; try with_reducible rfl
      try simp only [Act.put]
      try simp only [List.setIfInBounds_toArray, List.set_cons_zero, List.set_cons_succ]
      refine reg_take 9 ?_ ?_ ?_ (by kernel_rfl) (by kernel_rfl) (by kernel_rfl) (fun _ _ _ h => h) ?_ ?_ (by assumption) ?_
      rotate_left 2
      · simp only [List.getElem?_toArray, List.getElem?_cons_succ, List.getElem?_cons_zero]; exact rfl
      · rfl
      · intro w hSw; (try dsimp only at hSw); go_simp; try with_reducible rfl
      try simp only [Act.put]
      try simp only [List.setIfInBounds_toArray, List.set_cons_zero, List.set_cons_succ]
      refine reg_take 12 ?_ ?_ ?_ (by kernel_rfl) (by kernel_rfl) (by kernel_rfl) (fun _ _ _ h => h) ?_ ?_ (by assumption) ?_
      rotate_left 2
      · simp only [List.getElem?_toArray, List.getElem?_cons_succ, List.getElem?_cons_zero]; exact rfl
      · rfl
      · intro w hSw; (try dsimp only at hSw); go_simp; try with_reducible rfl
      try simp only [Act.put]
      try simp only [List.setIfInBounds_toArray, List.set_cons_zero, List.set_cons_succ]
      refine reg_take 13 ?_ ?_ ?_ (by kernel_rfl) (by kernel_rfl) (by kernel_rfl) (fun _ _ _ h => h) ?_ ?_ (by assumption) ?_
      rotate_left 2
      · simp only [List.getElem?_toArray, List.getElem?_cons_succ, List.getElem?_cons_zero]; exact rfl
      · rfl
      · intro w hSw; (try dsimp only at hSw); go_simp; try with_reducible rfl
      try simp only [Act.put]
      try simp only [List.setIfInBounds_toArray, List.set_cons_zero, List.set_cons_succ]
      refine reg_take 14 ?_ ?_ ?_ (by kernel_rfl) (by kernel_rfl) (by kernel_rfl) (fun _ _ _ h => h) ?_ ?_ (by assumption) ?_
      rotate_left 2
      · simp only [List.getElem?_toArray, List.getElem?_cons_succ, List.getElem?_cons_zero]; exact rfl
      · rfl
      · intro w hSw; (try dsimp only at hSw); go_simp; try with_reducible rfl
      try simp only [Act.put]
      try simp only [List.setIfInBounds_toArray, List.set_cons_zero, List.set_cons_succ]
      refine reg_take 15 ?_ ?_ ?_ (by kernel_rfl) (by kernel_rfl) (by kernel_rfl) (fun _ _ _ h => h) ?_ ?_ (by assumption) ?_
      rotate_left 2
      · simp only [List.getElem?_toArray, List.getElem?_cons_succ, List.getElem?_cons_zero]; exact rfl
      · rfl
      · intro w hSw; (try dsimp only at hSw); go_simp; try with_reducible rfl
      try simp only [Act.put]
      try simp only [List.setIfInBounds_toArray, List.set_cons_zero, List.set_cons_succ]
      refine reg_grab (fun WWk ak hWW hAA => ?_)
      rw [hWW]
      have HAk := Lib.hid hAA; clear hWW hAA hHeld
      obtain ⟨IVk, hIVk⟩ : ∃ IV : Array Bool → Act → World → Prop, ∀ l a w', IV l a w' ↔ ∀ CC : Prop, (∀ (lb4 lb5 lb10 lb11 lb16 lb17 lb18 lb19 lb20 : Bool) (lv4 lv5 lv10 lv11 lv16 lv17 lv18 lv19 lv20 : Value) (m40 : Bool) (o40 : Option Addr) (n40 : Nat) (c40 : Nat) (p40 : Option Addr) (k40 : Nat) (d40 : Nat) (m41 : Bool) (o41 : Option Addr) (n41 : Nat) (c41 : Nat) (p41 : Option Addr) (k41 : Nat) (d41 : Nat) (m42 : Bool) (o42 : Option Addr) (n42 : Nat) (c42 : Nat) (p42 : Option Addr) (k42 : Nat) (d42 : Nat) (m43 : Bool) (o43 : Option Addr) (n43 : Nat) (c43 : Nat) (p43 : Option Addr) (k43 : Nat) (d43 : Nat) (m44 : Bool) (o44 : Option Addr) (n44 : Nat) (c44 : Nat) (p44 : Option Addr) (k44 : Nat) (d44 : Nat) (m45 : Bool) (o45 : Option Addr) (n45 : Nat) (c45 : Nat) (p45 : Option Addr) (k45 : Nat) (d45 : Nat) (m46 : Bool) (o46 : Option Addr) (n46 : Nat) (c46 : Nat) (p46 : Option Addr) (k46 : Nat) (d46 : Nat) (gpn gpY : Nat), (l = #[true, true, true, true, lb4, lb5, true, true, true, true, lb10, lb11, true, true, true, true, lb16, lb17, lb18, lb19, lb20, false]) → (a = (((((((((ak.put (some 58) lv4).put (some 59) lv5).put (some 64) lv10).put (some 65) lv11).put (some 70) lv16).put (some 71) lv17).put (some 72) lv18).put (some 73) lv19).put (some 10) lv20)) → (FFk w') → ((lb4 = true → lv4 = .agg #[.bool m40, .slice o40 n40 c40, .slice p40 k40 d40] ∧ RF w' (.agg #[.bool m40, .slice o40 n40 c40, .slice p40 k40 d40]) (1) ((a1 : Rat)))) → ((lb5 = true → lv5 = .agg #[.bool m41, .slice o41 n41 c41, .slice p41 k41 d41] ∧ RF w' (.agg #[.bool m41, .slice o41 n41 c41, .slice p41 k41 d41]) (((1 + 3 * (((1 + 1 + 2) + (1 + 1 + 2) + 2) + 2)) + max 2 1 + 3) + 1 + 2) (areaQ [(tameQ Xsx Dsx, tameQ Xsy Dsy), ((b0 : Rat), (b1 : Rat)), ((v0 : Rat), (v1 : Rat))] / ((crs a0 a1 b0 b1 v0 v1 : Int) : Rat) * (a1 : Rat)))) → ((lb10 = true → lv10 = .agg #[.bool m42, .slice o42 n42 c42, .slice p42 k42 d42] ∧ RF w' (.agg #[.bool m42, .slice o42 n42 c42, .slice p42 k42 d42]) (1) ((b1 : Rat)))) → ((lb11 = true → lv11 = .agg #[.bool m43, .slice o43 n43 c43, .slice p43 k43 d43] ∧ RF w' (.agg #[.bool m43, .slice o43 n43 c43, .slice p43 k43 d43]) (((1 + 3 * (((1 + 1 + 2) + (1 + 1 + 2) + 2) + 2)) + max 2 1 + 3) + 1 + 2) (areaQ [((a0 : Rat), (a1 : Rat)), (tameQ Xsx Dsx, tameQ Xsy Dsy), ((v0 : Rat), (v1 : Rat))] / ((crs a0 a1 b0 b1 v0 v1 : Int) : Rat) * (b1 : Rat)))) → ((lb16 = true → lv16 = .agg #[.bool m44, .slice o44 n44 c44, .slice p44 k44 d44] ∧ RF w' (.agg #[.bool m44, .slice o44 n44 c44, .slice p44 k44 d44]) (1) ((v1 : Rat)))) → ((lb17 = true → lv17 = .agg #[.bool m45, .slice o45 n45 c45, .slice p45 k45 d45] ∧ RF w' (.agg #[.bool m45, .slice o45 n45 c45, .slice p45 k45 d45]) (((1 + 3 * (((1 + 1 + 2) + (1 + 1 + 2) + 2) + 2)) + max 2 1 + 3) + 1 + 2) (areaQ [((a0 : Rat), (a1 : Rat)), ((b0 : Rat), (b1 : Rat)), (tameQ Xsx Dsx, tameQ Xsy Dsy)] / ((crs a0 a1 b0 b1 v0 v1 : Int) : Rat) * (v1 : Rat)))) → ((lb18 = true → lv18 = .slice (some ⟨gpn, 0, none⟩) 3 3 ∧ Box w' gpn [.bool m41, .slice o41 n41 c41, .slice p41 k41 d41, .bool m43, .slice o43 n43 c43, .slice p43 k43 d43, .bool m45, .slice o45 n45 c45, .slice p45 k45 d45] ∧ w14.heap.size ≤ gpn)) → ((lb19 = true → lv19 = .agg #[.bool m46, .slice o46 n46 c46, .slice p46 k46 d46] ∧ RF w' (.agg #[.bool m46, .slice o46 n46 c46, .slice p46 k46 d46]) (3 * ((((1 + 3 * (((1 + 1 + 2) + (1 + 1 + 2) + 2) + 2)) + max 2 1 + 3) + 1 + 2) + 2) + 1) (areaQ [(tameQ Xsx Dsx, tameQ Xsy Dsy), ((b0 : Rat), (b1 : Rat)), ((v0 : Rat), (v1 : Rat))] / ((crs a0 a1 b0 b1 v0 v1 : Int) : Rat) * (a1 : Rat) + areaQ [((a0 : Rat), (a1 : Rat)), (tameQ Xsx Dsx, tameQ Xsy Dsy), ((v0 : Rat), (v1 : Rat))] / ((crs a0 a1 b0 b1 v0 v1 : Int) : Rat) * (b1 : Rat) + areaQ [((a0 : Rat), (a1 : Rat)), ((b0 : Rat), (b1 : Rat)), (tameQ Xsx Dsx, tameQ Xsy Dsy)] / ((crs a0 a1 b0 b1 v0 v1 : Int) : Rat) * (v1 : Rat)))) → ((lb20 = true → lv20 = .pointer (some ⟨gpY, 0, none⟩) ∧ Box w' gpY [.bool false, .slice none 0 0, .slice none 0 0] ∧ w14.heap.size ≤ gpY)) → ((lb5 = true → lb4 = true)) → ((lb10 = true → lb5 = true)) → ((lb11 = true → lb10 = true)) → ((lb16 = true → lb11 = true)) → ((lb17 = true → lb16 = true)) → ((lb18 = true → lb5 = true)) → ((lb18 = true → lb11 = true)) → ((lb18 = true → lb17 = true)) → ((lb19 = true → lb18 = true)) → ((lb19 = true → lb17 = true)) → ((lb18 = true → lb20 = true → gpn ≠ gpY)) → CC) → CC := ⟨_, fun _ _ _ => Iff.rfl⟩
      refine wpAnyH_until IVk ?_ _ _ _ _ ((hIVk _ _ _).2 (fun CC kk => kk false false false false false false false false false (ak.tmps.getD 58 undef) (ak.tmps.getD 59 undef) (ak.tmps.getD 64 undef) (ak.tmps.getD 65 undef) (ak.tmps.getD 70 undef) (ak.tmps.getD 71 undef) (ak.tmps.getD 72 undef) (ak.tmps.getD 73 undef) (ak.tmps.getD 10 undef) false none 0 0 none 0 0 false none 0 0 none 0 0 false none 0 0 none 0 0 false none 0 0 none 0 0 false none 0 0 none 0 0 false none 0 0 none 0 0 false none 0 0 none 0 0 0 0 rfl (by simp only [put_same]) zF (fun h => by cases h) (fun h => by cases h) (fun h => by cases h) (fun h => by cases h) (fun h => by cases h) (fun h => by cases h) (fun h => by cases h) (fun h => by cases h) (fun h => by cases h) (fun h => by cases h) (fun h => by cases h) (fun h => by cases h) (fun h => by cases h) (fun h => by cases h) (fun h => by cases h) (fun h => by cases h) (fun h => by cases h) (fun h => by cases h) (fun h => by cases h) (fun h => by cases h))) (by kernel_rfl)
      clear zF
      intro ll aa w15 hI
      refine (hIVk _ _ _).1 hI _ ?_
      clear hI
      intro lb4 lb5 lb10 lb11 lb16 lb17 lb18 lb19 lb20 lv4 lv5 lv10 lv11 lv16 lv17 lv18 lv19 lv20 m40 o40 n40 c40 p40 k40 d40 m41 o41 n41 c41 p41 k41 d41 m42 o42 n42 c42 p42 k42 d42 m43 o43 n43 c43 p43 k43 d43 m44 o44 n44 c44 p44 k44 d44 m45 o45 n45 c45 p45 k45 d45 m46 o46 n46 c46 p46 k46 d46 gpn gpY hll haa zF F4 F5 F10 F11 F16 F17 F18 F19 F20 dp5_4 dp10_5 dp11_10 dp16_11 dp17_16 dp18_5 dp18_11 dp18_17 dp19_18 dp19_17 nq18_20
      subst hll haa
      by_cases hL : lb4 = true ∧ lb5 = true ∧ lb10 = true ∧ lb11 = true ∧ lb16 = true ∧ lb17 = true ∧ lb18 = true ∧ lb19 = true ∧ lb20 = true
      · left
        obtain ⟨rfl, rfl, rfl, rfl, rfl, rfl, rfl, rfl, rfl⟩ := hL
        obtain ⟨rfl, f40_0⟩ := F4 rfl
        clear F4
        obtain ⟨rfl, f41_0⟩ := F5 rfl
        clear F5
        obtain ⟨rfl, f42_0⟩ := F10 rfl
        clear F10
        obtain ⟨rfl, f43_0⟩ := F11 rfl
        clear F11
        obtain ⟨rfl, f44_0⟩ := F16 rfl
        clear F16
        obtain ⟨rfl, f45_0⟩ := F17 rfl
        clear F17
        obtain ⟨rfl, pn_0, hgpn⟩ := F18 rfl
        clear F18
        obtain ⟨rfl, f46_0⟩ := F19 rfl
        clear F19
        obtain ⟨rfl, pY_0, hgpY⟩ := F20 rfl
        clear F20
        have hnpnpY := nq18_20 rfl rfl
        clear dp5_4 dp10_5 dp11_10 dp16_11 dp17_16 dp18_5 dp18_11 dp18_17 dp19_18 dp19_17 nq18_20
        show wpAnyH _ _ _ _ _ 1 _ _ _
        rw [HAk.out]
        try simp only [Act.put]
        try simp only [List.setIfInBounds_toArray, List.set_cons_zero, List.set_cons_succ]
        obtain ⟨hB_0, ps_0, pa_0, pb_0, pv_0, f1x_0, f1y_0, f20_0, f21_0, f22_0, pw_0, f36_0, pX_0, hWk_0⟩ := (hFFk _).1 zF
        clear zF
        clear hWk_0
        obtain ⟨sf6a, sf6b, sf6c, sf6d, sf6e, sf6f⟩ := pY_0.open3
        obtain ⟨sg6a, sg6b, sg6c, sg6d⟩ := Box.put3 pY_0 (.bool m46) (.slice o46 n46 c46)
        refine reg_call 21 ?_ (by kernel_rfl) ?_ (fun K hK => ?_)
        rotate_left 1
        · simp only [List.getElem?_toArray, List.getElem?_cons_succ, List.getElem?_cons_zero]; exact rfl
        go_simp
        have hB_1 := below_setAll hB_0 (g := gpY) (by omega) [.bool m46, .slice o46 n46 c46, .slice p46 k46 d46]
        have ps_1 := ps_0.farAll (g' := gpY) (by omega) [.bool m46, .slice o46 n46 c46, .slice p46 k46 d46]
        have pa_1 := pa_0.farAll (g' := gpY) (by omega) [.bool m46, .slice o46 n46 c46, .slice p46 k46 d46]
        have pb_1 := pb_0.farAll (g' := gpY) (by omega) [.bool m46, .slice o46 n46 c46, .slice p46 k46 d46]
        have pv_1 := pv_0.farAll (g' := gpY) (by omega) [.bool m46, .slice o46 n46 c46, .slice p46 k46 d46]
        have f1x_1 := f1x_0.setAll pY_0 (noWord3 _ _ _ _ _ _ _) [.bool m46, .slice o46 n46 c46, .slice p46 k46 d46] rfl
        have f1y_1 := f1y_0.setAll pY_0 (noWord3 _ _ _ _ _ _ _) [.bool m46, .slice o46 n46 c46, .slice p46 k46 d46] rfl
        have f20_1 := f20_0.setAll pY_0 (noWord3 _ _ _ _ _ _ _) [.bool m46, .slice o46 n46 c46, .slice p46 k46 d46] rfl
        have f21_1 := f21_0.setAll pY_0 (noWord3 _ _ _ _ _ _ _) [.bool m46, .slice o46 n46 c46, .slice p46 k46 d46] rfl
        have f22_1 := f22_0.setAll pY_0 (noWord3 _ _ _ _ _ _ _) [.bool m46, .slice o46 n46 c46, .slice p46 k46 d46] rfl
        have pw_1 := pw_0.farAll (g' := gpY) (by omega) [.bool m46, .slice o46 n46 c46, .slice p46 k46 d46]
        have f36_1 := f36_0.setAll pY_0 (noWord3 _ _ _ _ _ _ _) [.bool m46, .slice o46 n46 c46, .slice p46 k46 d46] rfl
        have pX_1 := pX_0.farAll (g' := gpY) (by omega) [.bool m46, .slice o46 n46 c46, .slice p46 k46 d46]
        have f40_1 := f40_0.setAll pY_0 (noWord3 _ _ _ _ _ _ _) [.bool m46, .slice o46 n46 c46, .slice p46 k46 d46] rfl
        have f41_1 := f41_0.setAll pY_0 (noWord3 _ _ _ _ _ _ _) [.bool m46, .slice o46 n46 c46, .slice p46 k46 d46] rfl
        have f42_1 := f42_0.setAll pY_0 (noWord3 _ _ _ _ _ _ _) [.bool m46, .slice o46 n46 c46, .slice p46 k46 d46] rfl
        have f43_1 := f43_0.setAll pY_0 (noWord3 _ _ _ _ _ _ _) [.bool m46, .slice o46 n46 c46, .slice p46 k46 d46] rfl
        have f44_1 := f44_0.setAll pY_0 (noWord3 _ _ _ _ _ _ _) [.bool m46, .slice o46 n46 c46, .slice p46 k46 d46] rfl
        have f45_1 := f45_0.setAll pY_0 (noWord3 _ _ _ _ _ _ _) [.bool m46, .slice o46 n46 c46, .slice p46 k46 d46] rfl
        have pn_1 := pn_0.farAll (g' := gpY) (by omega) [.bool m46, .slice o46 n46 c46, .slice p46 k46 d46]
        have f46_1 := f46_0.setAll pY_0 (noWord3 _ _ _ _ _ _ _) [.bool m46, .slice o46 n46 c46, .slice p46 k46 d46] rfl
        have pY_1 := pY_0.setAll [.bool m46, .slice o46 n46 c46, .slice p46 k46 d46] rfl
        simp only [setAll, Nat.zero_add, Nat.reduceAdd] at hB_1 ps_1 pa_1 pb_1 pv_1 f1x_1 f1y_1 f20_1 f21_1 f22_1 pw_1 f36_1 pX_1 f40_1 f41_1 f42_1 f43_1 f44_1 f45_1 pn_1 f46_1 pY_1
        clear sf6a sf6b sf6c sf6d sf6e sf6f sg6a sg6b sg6c sg6d
        clear hB_0 ps_0 pa_0 pb_0 pv_0 f1x_0 f1y_0 f20_0 f21_0 f22_0 pw_0 f36_0 pX_0 f40_0 f41_0 f42_0 f43_0 f44_0 f45_0 pn_0 f46_0 pY_0
        refine hK.out _ _ ⟨pw_1.c0, pw_1.c1, pw_1.c2, pw_1.c3, pw_1.c4, pw_1.c5, pw_1.c6, pw_1.c7, pw_1.c8, pa_1.c0, pa_1.c1, pb_1.c0, pb_1.c1, pv_1.c0, pv_1.c1⟩ (fun hHeld => ?_)
        clear hK K
        try simp only [Act.put]
        try simp only [List.setIfInBounds_toArray, List.set_cons_zero, List.set_cons_succ]
        generalize (World.setCell (World.setCell (World.setCell w15 ⟨gpY, 0, none⟩ (.bool m46)) ⟨gpY, 1, none⟩ (.slice o46 n46 c46)) ⟨gpY, 2, none⟩ (.slice p46 k46 d46)) = w16 at *
        refine wpAnyH_done (by kernel_rfl) ?_ _
        refine NoPanic.normal ?_
        clear f40_1 f41_1 f42_1 f43_1 f44_1 f45_1 pn_1
        clear pa_1
        clear pb_1
        clear pv_1
        rw [shares_x (ic_ne HC.out) (areaQ_crs _ _ _ _ _ _)] at f36_1
        rw [shares_y (ic_ne HC.out) (areaQ_crs _ _ _ _ _ _)] at f46_1
        obtain ⟨pwe0, pwe1, pwe2, pwe3, pwe4, pwe5, pwe6, pwe7, pwe8, pwe9, pwe10, pwe11, pwe12, pwe13, pwe14, pwe15, pwe16, pwe17⟩ := pw_1.open9
        obtain ⟨pXe0, pXe1, pXe2, pXe3, pXe4, pXe5⟩ := pX_1.open3
        obtain ⟨pYe0, pYe1, pYe2, pYe3, pYe4, pYe5⟩ := pY_1.open3
        obtain ⟨pse0, pse1, pse2, pse3, pse4, pse5, pse6, pse7, pse8, pse9, pse10, pse11⟩ := ps_1.open6
        go_wp2_with fail
        refine (fSum3 ((1 + 3 * (((1 + 1 + 2) + (1 + 1 + 2) + 2) + 2)) + max 2 1 + 3) _ _ _ _ (by omega) pw_1 f20_1.q f21_1.q f22_1.q).mono ?_
        rintro e w17 ⟨m50, o50, n50, c50, p50, k50, d50, rfl, f50_0, hb17⟩
        clear pwe0 pwe1 pwe2 pwe3 pwe4 pwe5 pwe6 pwe7 pwe8 pwe9 pwe10 pwe11 pwe12 pwe13 pwe14 pwe15 pwe16 pwe17 pXe0 pXe1 pXe2 pXe3 pXe4 pXe5 pYe0 pYe1 pYe2 pYe3 pYe4 pYe5 pse0 pse1 pse2 pse3 pse4 pse5 pse6 pse7 pse8 pse9 pse10 pse11
        have hB_2 := hB_1.trans (hb17.mono hB_1.size)
        have ps_2 := ps_1.below hb17
        have f1x_2 := f1x_1.below hb17
        have f1y_2 := f1y_1.below hb17
        have f20_2 := f20_1.below hb17
        have f21_2 := f21_1.below hb17
        have f22_2 := f22_1.below hb17
        have pw_2 := pw_1.below hb17
        have f36_2 := f36_1.below hb17
        have pX_2 := pX_1.below hb17
        have f46_2 := f46_1.below hb17
        have pY_2 := pY_1.below hb17
        clear hb17 hB_1 ps_1 f1x_1 f1y_1 f20_1 f21_1 f22_1 pw_1 f36_1 pX_1 f46_1 pY_1
        obtain ⟨pwe0, pwe1, pwe2, pwe3, pwe4, pwe5, pwe6, pwe7, pwe8, pwe9, pwe10, pwe11, pwe12, pwe13, pwe14, pwe15, pwe16, pwe17⟩ := pw_2.open9
        obtain ⟨pXe0, pXe1, pXe2, pXe3, pXe4, pXe5⟩ := pX_2.open3
        obtain ⟨pYe0, pYe1, pYe2, pYe3, pYe4, pYe5⟩ := pY_2.open3
        obtain ⟨pse0, pse1, pse2, pse3, pse4, pse5, pse6, pse7, pse8, pse9, pse10, pse11⟩ := ps_2.open6
        go_wp2_with fail
        refine (fOf_any 1 (by omega) (by omega) _).mono ?_
        rintro e w18 ⟨m51, o51, n51, c51, p51, k51, d51, rfl, f51_0, hb18⟩
        clear pwe0 pwe1 pwe2 pwe3 pwe4 pwe5 pwe6 pwe7 pwe8 pwe9 pwe10 pwe11 pwe12 pwe13 pwe14 pwe15 pwe16 pwe17 pXe0 pXe1 pXe2 pXe3 pXe4 pXe5 pYe0 pYe1 pYe2 pYe3 pYe4 pYe5 pse0 pse1 pse2 pse3 pse4 pse5 pse6 pse7 pse8 pse9 pse10 pse11
        have hB_3 := hB_2.trans (hb18.mono hB_2.size)
        have ps_3 := ps_2.below hb18
        have f1x_3 := f1x_2.below hb18
        have f1y_3 := f1y_2.below hb18
        have f20_3 := f20_2.below hb18
        have f21_3 := f21_2.below hb18
        have f22_3 := f22_2.below hb18
        have pw_3 := pw_2.below hb18
        have f36_3 := f36_2.below hb18
        have pX_3 := pX_2.below hb18
        have f46_3 := f46_2.below hb18
        have pY_3 := pY_2.below hb18
        have f50_1 := f50_0.below hb18
        clear hb18 hB_2 ps_2 f1x_2 f1y_2 f20_2 f21_2 f22_2 pw_2 f36_2 pX_2 f46_2 pY_2 f50_0
        obtain ⟨pwe0, pwe1, pwe2, pwe3, pwe4, pwe5, pwe6, pwe7, pwe8, pwe9, pwe10, pwe11, pwe12, pwe13, pwe14, pwe15, pwe16, pwe17⟩ := pw_3.open9
        obtain ⟨pXe0, pXe1, pXe2, pXe3, pXe4, pXe5⟩ := pX_3.open3
        obtain ⟨pYe0, pYe1, pYe2, pYe3, pYe4, pYe5⟩ := pY_3.open3
        obtain ⟨pse0, pse1, pse2, pse3, pse4, pse5, pse6, pse7, pse8, pse9, pse10, pse11⟩ := ps_3.open6
        go_wp2_with fail
        refine (qSame_yes _ _ _ _ _ _ _ (by omega) (by omega) f50_1.q f51_0.q ((shares_sum (ic_ne HC.out) (areaQ_crs _ _ _ _ _ _)).trans rfl)).mono ?_
        rintro e w19 ⟨rfl, hb19⟩
        clear pwe0 pwe1 pwe2 pwe3 pwe4 pwe5 pwe6 pwe7 pwe8 pwe9 pwe10 pwe11 pwe12 pwe13 pwe14 pwe15 pwe16 pwe17 pXe0 pXe1 pXe2 pXe3 pXe4 pXe5 pYe0 pYe1 pYe2 pYe3 pYe4 pYe5 pse0 pse1 pse2 pse3 pse4 pse5 pse6 pse7 pse8 pse9 pse10 pse11
        have hB_4 := hB_3.trans (hb19.mono hB_3.size)
        have ps_4 := ps_3.below hb19
        have f1x_4 := f1x_3.below hb19
        have f1y_4 := f1y_3.below hb19
        have f20_4 := f20_3.below hb19
        have f21_4 := f21_3.below hb19
        have f22_4 := f22_3.below hb19
        have pw_4 := pw_3.below hb19
        have f36_4 := f36_3.below hb19
        have pX_4 := pX_3.below hb19
        have f46_4 := f46_3.below hb19
        have pY_4 := pY_3.below hb19
        have f50_2 := f50_1.below hb19
        have f51_1 := f51_0.below hb19
        clear hb19 hB_3 ps_3 f1x_3 f1y_3 f20_3 f21_3 f22_3 pw_3 f36_3 pX_3 f46_3 pY_3 f50_1 f51_0
        obtain ⟨pwe0, pwe1, pwe2, pwe3, pwe4, pwe5, pwe6, pwe7, pwe8, pwe9, pwe10, pwe11, pwe12, pwe13, pwe14, pwe15, pwe16, pwe17⟩ := pw_4.open9
        obtain ⟨pXe0, pXe1, pXe2, pXe3, pXe4, pXe5⟩ := pX_4.open3
        obtain ⟨pYe0, pYe1, pYe2, pYe3, pYe4, pYe5⟩ := pY_4.open3
        obtain ⟨pse0, pse1, pse2, pse3, pse4, pse5, pse6, pse7, pse8, pse9, pse10, pse11⟩ := ps_4.open6
        go_wp2_with fail
        refine (sSame_any (3 * ((((1 + 3 * (((1 + 1 + 2) + (1 + 1 + 2) + 2) + 2)) + max 2 1 + 3) + 1 + 2) + 2) + 1) _ _ 1 _ _ _ (by omega) (by omega) f36_4.q f46_4.q f1x_4.q f1y_4.q true ⟨fun _ => rfl, fun _ => ⟨rfl, rfl⟩⟩).mono ?_
        rintro e w20 ⟨rfl, hb20⟩
        clear pwe0 pwe1 pwe2 pwe3 pwe4 pwe5 pwe6 pwe7 pwe8 pwe9 pwe10 pwe11 pwe12 pwe13 pwe14 pwe15 pwe16 pwe17 pXe0 pXe1 pXe2 pXe3 pXe4 pXe5 pYe0 pYe1 pYe2 pYe3 pYe4 pYe5 pse0 pse1 pse2 pse3 pse4 pse5 pse6 pse7 pse8 pse9 pse10 pse11
        have hB_5 := hB_4.trans (hb20.mono hB_4.size)
        have ps_5 := ps_4.below hb20
        have f1x_5 := f1x_4.below hb20
        have f1y_5 := f1y_4.below hb20
        have f20_5 := f20_4.below hb20
        have f21_5 := f21_4.below hb20
        have f22_5 := f22_4.below hb20
        have pw_5 := pw_4.below hb20
        have f36_5 := f36_4.below hb20
        have pX_5 := pX_4.below hb20
        have f46_5 := f46_4.below hb20
        have pY_5 := pY_4.below hb20
        have f50_3 := f50_2.below hb20
        have f51_2 := f51_1.below hb20
        clear hb20 hB_4 ps_4 f1x_4 f1y_4 f20_4 f21_4 f22_4 pw_4 f36_4 pX_4 f46_4 pY_4 f50_2 f51_1
        obtain ⟨pwe0, pwe1, pwe2, pwe3, pwe4, pwe5, pwe6, pwe7, pwe8, pwe9, pwe10, pwe11, pwe12, pwe13, pwe14, pwe15, pwe16, pwe17⟩ := pw_5.open9
        go_wp2_with fail
        refine (fRight_any _ ((1 + 3 * (((1 + 1 + 2) + (1 + 1 + 2) + 2) + 2)) + max 2 1 + 3) _ _ (by omega) f20_5).mono ?_
        rintro e w21 ⟨rfl, hb21⟩
        clear pwe0 pwe1 pwe2 pwe3 pwe4 pwe5 pwe6 pwe7 pwe8 pwe9 pwe10 pwe11 pwe12 pwe13 pwe14 pwe15 pwe16 pwe17
        have hB_6 := hB_5.trans (hb21.mono hB_5.size)
        have ps_6 := ps_5.below hb21
        have f1x_6 := f1x_5.below hb21
        have f1y_6 := f1y_5.below hb21
        have f20_6 := f20_5.below hb21
        have f21_6 := f21_5.below hb21
        have f22_6 := f22_5.below hb21
        have pw_6 := pw_5.below hb21
        have f36_6 := f36_5.below hb21
        have pX_6 := pX_5.below hb21
        have f46_6 := f46_5.below hb21
        have pY_6 := pY_5.below hb21
        have f50_4 := f50_3.below hb21
        have f51_3 := f51_2.below hb21
        clear hb21 hB_5 ps_5 f1x_5 f1y_5 f20_5 f21_5 f22_5 pw_5 f36_5 pX_5 f46_5 pY_5 f50_3 f51_2
        go_wp2
        go_ret
        exact ⟨rfl, hB_6⟩
      · right
        refine ⟨?_, fun i hi => ?_⟩
        · clear zF F4 F5 F10 F11 F16 F17 F18 F19 F20 nq18_20
          cases lb4
          · exact ready_of 4 _ rfl rfl (by kernel_rfl)
          cases lb5
          · exact ready_of 5 _ rfl rfl (by kernel_rfl)
          cases lb10
          · exact ready_of 10 _ rfl rfl (by kernel_rfl)
          cases lb11
          · exact ready_of 11 _ rfl rfl (by kernel_rfl)
          cases lb16
          · exact ready_of 16 _ rfl rfl (by kernel_rfl)
          cases lb17
          · exact ready_of 17 _ rfl rfl (by kernel_rfl)
          cases lb18
          · exact ready_of 18 _ rfl rfl (by kernel_rfl)
          cases lb19
          · exact ready_of 19 _ rfl rfl (by kernel_rfl)
          cases lb20
          · exact ready_of 20 _ rfl rfl (by kernel_rfl)
          exact absurd ⟨rfl, rfl, rfl, rfl, rfl, rfl, rfl, rfl, rfl⟩ hL
        have hd : (lb4 = false ∧ i = 4) ∨ (lb5 = false ∧ lb4 = true ∧ i = 5) ∨ (lb10 = false ∧ lb5 = true ∧ i = 10) ∨ (lb11 = false ∧ lb10 = true ∧ i = 11) ∨ (lb16 = false ∧ lb11 = true ∧ i = 16) ∨ (lb17 = false ∧ lb16 = true ∧ i = 17) ∨ (lb18 = false ∧ lb5 = true ∧ lb11 = true ∧ lb17 = true ∧ i = 18) ∨ (lb19 = false ∧ lb18 = true ∧ lb17 = true ∧ i = 19) ∨ (lb20 = false ∧ i = 20) := by
          have hin := ready_lt hi
          obtain rfl | rfl | rfl | rfl | rfl | rfl | rfl | rfl | rfl | rfl | rfl | rfl | rfl | rfl | rfl | rfl | rfl | rfl | rfl | rfl | rfl | rfl : i = 0 ∨ i = 1 ∨ i = 2 ∨ i = 3 ∨ i = 4 ∨ i = 5 ∨ i = 6 ∨ i = 7 ∨ i = 8 ∨ i = 9 ∨ i = 10 ∨ i = 11 ∨ i = 12 ∨ i = 13 ∨ i = 14 ∨ i = 15 ∨ i = 16 ∨ i = 17 ∨ i = 18 ∨ i = 19 ∨ i = 20 ∨ i = 21 := by have hin' : i < 22 := hin; omega
          · exact absurd (ready_off hi) (fun h => Bool.noConfusion (show true = false from h))
          · exact absurd (ready_off hi) (fun h => Bool.noConfusion (show true = false from h))
          · exact absurd (ready_off hi) (fun h => Bool.noConfusion (show true = false from h))
          · exact absurd (ready_off hi) (fun h => Bool.noConfusion (show true = false from h))
          · exact .inl ⟨ready_off hi, rfl⟩
          · exact .inr (.inl ⟨ready_off hi, ready_dep (d := 4) hi (by kernel_rfl), rfl⟩)
          · exact absurd (ready_off hi) (fun h => Bool.noConfusion (show true = false from h))
          · exact absurd (ready_off hi) (fun h => Bool.noConfusion (show true = false from h))
          · exact absurd (ready_off hi) (fun h => Bool.noConfusion (show true = false from h))
          · exact absurd (ready_off hi) (fun h => Bool.noConfusion (show true = false from h))
          · exact .inr (.inr (.inl ⟨ready_off hi, ready_dep (d := 5) hi (by kernel_rfl), rfl⟩))
          · exact .inr (.inr (.inr (.inl ⟨ready_off hi, ready_dep (d := 10) hi (by kernel_rfl), rfl⟩)))
          · exact absurd (ready_off hi) (fun h => Bool.noConfusion (show true = false from h))
          · exact absurd (ready_off hi) (fun h => Bool.noConfusion (show true = false from h))
          · exact absurd (ready_off hi) (fun h => Bool.noConfusion (show true = false from h))
          · exact absurd (ready_off hi) (fun h => Bool.noConfusion (show true = false from h))
          · exact .inr (.inr (.inr (.inr (.inl ⟨ready_off hi, ready_dep (d := 11) hi (by kernel_rfl), rfl⟩))))
          · exact .inr (.inr (.inr (.inr (.inr (.inl ⟨ready_off hi, ready_dep (d := 16) hi (by kernel_rfl), rfl⟩)))))
          · exact .inr (.inr (.inr (.inr (.inr (.inr (.inl ⟨ready_off hi, ready_dep (d := 5) hi (by kernel_rfl), ready_dep (d := 11) hi (by kernel_rfl), ready_dep (d := 17) hi (by kernel_rfl), rfl⟩))))))
          · exact .inr (.inr (.inr (.inr (.inr (.inr (.inr (.inl ⟨ready_off hi, ready_dep (d := 18) hi (by kernel_rfl), ready_dep (d := 17) hi (by kernel_rfl), rfl⟩)))))))
          · exact .inr (.inr (.inr (.inr (.inr (.inr (.inr (.inr (⟨ready_off hi, rfl⟩))))))))
          · have k20 : lb20 = true := ready_dep (d := 20) hi (by kernel_rfl); have k19 : lb19 = true := ready_dep (d := 19) hi (by kernel_rfl); have k4 : lb4 = true := ready_dep (d := 4) hi (by kernel_rfl); have k5 : lb5 = true := ready_dep (d := 5) hi (by kernel_rfl); have k10 : lb10 = true := ready_dep (d := 10) hi (by kernel_rfl); have k11 : lb11 = true := ready_dep (d := 11) hi (by kernel_rfl); have k16 : lb16 = true := ready_dep (d := 16) hi (by kernel_rfl); have k17 : lb17 = true := ready_dep (d := 17) hi (by kernel_rfl); have k18 : lb18 = true := ready_dep (d := 18) hi (by kernel_rfl)
            exact absurd ⟨k4, k5, k10, k11, k16, k17, k18, k19, k20⟩ hL
        clear hi hL
        rcases hd with ⟨rfl, rfl⟩ | ⟨rfl, rfl, rfl⟩ | ⟨rfl, rfl, rfl⟩ | ⟨rfl, rfl, rfl⟩ | ⟨rfl, rfl, rfl⟩ | ⟨rfl, rfl, rfl⟩ | ⟨rfl, rfl, rfl, rfl, rfl⟩ | ⟨rfl, rfl, rfl, rfl⟩ | ⟨rfl, rfl⟩
        · refine step_of 4 ?_ ?_ (fun K hK => ?_)
          rotate_left 1
          · simp only [List.getElem?_toArray, List.getElem?_cons_succ, List.getElem?_cons_zero]; exact rfl
          rw [HAk.out]
          try simp only [Act.put]
          try simp only [List.setIfInBounds_toArray, List.set_cons_zero, List.set_cons_succ]
          go_simp
          refine (fOf_any a1 (by have := HA1.out; unfold InP at this; omega) (by have := HA1.out; unfold InP at this; omega) _).mono ?_
          rintro e w22 ⟨m40, o40, n40, c40, p40, k40, d40, rfl, f40_0, hb⟩
          go_wp2_with fail
          refine hK.out _ _ (sFk (cFk zF hb)) ?_
          exact (hIVk _ _ _).2 (fun CC kk => kk true lb5 lb10 lb11 lb16 lb17 lb18 lb19 lb20 (.agg #[.bool m40, .slice o40 n40 c40, .slice p40 k40 d40]) lv5 lv10 lv11 lv16 lv17 lv18 lv19 lv20 m40 o40 n40 c40 p40 k40 d40 m41 o41 n41 c41 p41 k41 d41 m42 o42 n42 c42 p42 k42 d42 m43 o43 n43 c43 p43 k43 d43 m44 o44 n44 c44 p44 k44 d44 m45 o45 n45 c45 p45 k45 d45 m46 o46 n46 c46 p46 k46 d46 gpn gpY rfl (by simp only [HAk.out, Act.put, List.setIfInBounds_toArray, List.set_cons_zero, List.set_cons_succ]) (cFk zF hb) (fun _ => ⟨rfl, f40_0⟩) (fun h => absurd (dp5_4 h) (by decide)) (fun h => absurd (dp5_4 (dp10_5 h)) (by decide)) (fun h => absurd (dp5_4 (dp10_5 (dp11_10 h))) (by decide)) (fun h => absurd (dp5_4 (dp10_5 (dp11_10 (dp16_11 h)))) (by decide)) (fun h => absurd (dp5_4 (dp10_5 (dp11_10 (dp16_11 (dp17_16 h))))) (by decide)) (fun h => absurd (dp5_4 (dp18_5 h)) (by decide)) (fun h => absurd (dp5_4 (dp18_5 (dp19_18 h))) (by decide)) (fun h => ⟨(F20 h).1, (F20 h).2.1.below hb, (F20 h).2.2⟩) (fun _ => rfl) dp10_5 dp11_10 dp16_11 dp17_16 dp18_5 dp18_11 dp18_17 dp19_18 dp19_17 nq18_20)
        · obtain ⟨rfl, f40_0⟩ := F4 rfl
          clear F4
          obtain ⟨-, -, -, -, -, -, -, f20_0, -, -, -, -, -, -⟩ := (hFFk _).1 zF
          refine step_of 5 ?_ ?_ (fun K hK => ?_)
          rotate_left 1
          · simp only [List.getElem?_toArray, List.getElem?_cons_succ, List.getElem?_cons_zero]; exact rfl
          rw [HAk.out]
          try simp only [Act.put]
          try simp only [List.setIfInBounds_toArray, List.set_cons_zero, List.set_cons_succ]
          go_simp
          refine (qMul _ _ ((1 + 3 * (((1 + 1 + 2) + (1 + 1 + 2) + 2) + 2)) + max 2 1 + 3) 1 _ _ _ (by omega) (by omega) f20_0.q f40_0.q).mono ?_
          rintro e w23 ⟨m41, o41, n41, c41, p41, k41, d41, rfl, f41_0, hb⟩
          go_wp2_with fail
          refine hK.out _ _ (sFk (cFk zF hb)) ?_
          exact (hIVk _ _ _).2 (fun CC kk => kk true true lb10 lb11 lb16 lb17 lb18 lb19 lb20 _ (.agg #[.bool m41, .slice o41 n41 c41, .slice p41 k41 d41]) lv10 lv11 lv16 lv17 lv18 lv19 lv20 m40 o40 n40 c40 p40 k40 d40 m41 o41 n41 c41 p41 k41 d41 m42 o42 n42 c42 p42 k42 d42 m43 o43 n43 c43 p43 k43 d43 m44 o44 n44 c44 p44 k44 d44 m45 o45 n45 c45 p45 k45 d45 m46 o46 n46 c46 p46 k46 d46 gpn gpY rfl (by simp only [HAk.out, Act.put, List.setIfInBounds_toArray, List.set_cons_zero, List.set_cons_succ]) (cFk zF hb) (fun _ => ⟨rfl, f40_0.below hb⟩) (fun _ => ⟨rfl, f41_0⟩) (fun h => absurd (dp10_5 h) (by decide)) (fun h => absurd (dp10_5 (dp11_10 h)) (by decide)) (fun h => absurd (dp10_5 (dp11_10 (dp16_11 h))) (by decide)) (fun h => absurd (dp10_5 (dp11_10 (dp16_11 (dp17_16 h)))) (by decide)) (fun h => absurd (dp18_5 h) (by decide)) (fun h => absurd (dp18_5 (dp19_18 h)) (by decide)) (fun h => ⟨(F20 h).1, (F20 h).2.1.below hb, (F20 h).2.2⟩) (fun _ => rfl) (fun _ => rfl) dp11_10 dp16_11 dp17_16 (fun _ => rfl) dp18_11 dp18_17 dp19_18 dp19_17 nq18_20)
        · obtain rfl := dp5_4 rfl
          obtain ⟨rfl, f40_0⟩ := F4 rfl
          clear F4
          obtain ⟨rfl, f41_0⟩ := F5 rfl
          clear F5
          refine step_of 10 ?_ ?_ (fun K hK => ?_)
          rotate_left 1
          · simp only [List.getElem?_toArray, List.getElem?_cons_succ, List.getElem?_cons_zero]; exact rfl
          rw [HAk.out]
          try simp only [Act.put]
          try simp only [List.setIfInBounds_toArray, List.set_cons_zero, List.set_cons_succ]
          go_simp
          refine (fOf_any b1 (by have := HB1.out; unfold InP at this; omega) (by have := HB1.out; unfold InP at this; omega) _).mono ?_
          rintro e w24 ⟨m42, o42, n42, c42, p42, k42, d42, rfl, f42_0, hb⟩
          go_wp2_with fail
          refine hK.out _ _ (sFk (cFk zF hb)) ?_
          exact (hIVk _ _ _).2 (fun CC kk => kk true true true lb11 lb16 lb17 lb18 lb19 lb20 _ _ (.agg #[.bool m42, .slice o42 n42 c42, .slice p42 k42 d42]) lv11 lv16 lv17 lv18 lv19 lv20 m40 o40 n40 c40 p40 k40 d40 m41 o41 n41 c41 p41 k41 d41 m42 o42 n42 c42 p42 k42 d42 m43 o43 n43 c43 p43 k43 d43 m44 o44 n44 c44 p44 k44 d44 m45 o45 n45 c45 p45 k45 d45 m46 o46 n46 c46 p46 k46 d46 gpn gpY rfl (by simp only [HAk.out, Act.put, List.setIfInBounds_toArray, List.set_cons_zero, List.set_cons_succ]) (cFk zF hb) (fun _ => ⟨rfl, f40_0.below hb⟩) (fun _ => ⟨rfl, f41_0.below hb⟩) (fun _ => ⟨rfl, f42_0⟩) (fun h => absurd (dp11_10 h) (by decide)) (fun h => absurd (dp11_10 (dp16_11 h)) (by decide)) (fun h => absurd (dp11_10 (dp16_11 (dp17_16 h))) (by decide)) (fun h => absurd (dp11_10 (dp18_11 h)) (by decide)) (fun h => absurd (dp11_10 (dp18_11 (dp19_18 h))) (by decide)) (fun h => ⟨(F20 h).1, (F20 h).2.1.below hb, (F20 h).2.2⟩) (fun _ => rfl) (fun _ => rfl) (fun _ => rfl) dp16_11 dp17_16 (fun _ => rfl) dp18_11 dp18_17 dp19_18 dp19_17 nq18_20)
        · obtain rfl := dp10_5 rfl
          obtain rfl := dp5_4 rfl
          obtain ⟨rfl, f40_0⟩ := F4 rfl
          clear F4
          obtain ⟨rfl, f41_0⟩ := F5 rfl
          clear F5
          obtain ⟨rfl, f42_0⟩ := F10 rfl
          clear F10
          obtain ⟨-, -, -, -, -, -, -, -, f21_0, -, -, -, -, -⟩ := (hFFk _).1 zF
          refine step_of 11 ?_ ?_ (fun K hK => ?_)
          rotate_left 1
          · simp only [List.getElem?_toArray, List.getElem?_cons_succ, List.getElem?_cons_zero]; exact rfl
          rw [HAk.out]
          try simp only [Act.put]
          try simp only [List.setIfInBounds_toArray, List.set_cons_zero, List.set_cons_succ]
          go_simp
          refine (qMul _ _ ((1 + 3 * (((1 + 1 + 2) + (1 + 1 + 2) + 2) + 2)) + max 2 1 + 3) 1 _ _ _ (by omega) (by omega) f21_0.q f42_0.q).mono ?_
          rintro e w25 ⟨m43, o43, n43, c43, p43, k43, d43, rfl, f43_0, hb⟩
          go_wp2_with fail
          refine hK.out _ _ (sFk (cFk zF hb)) ?_
          exact (hIVk _ _ _).2 (fun CC kk => kk true true true true lb16 lb17 lb18 lb19 lb20 _ _ _ (.agg #[.bool m43, .slice o43 n43 c43, .slice p43 k43 d43]) lv16 lv17 lv18 lv19 lv20 m40 o40 n40 c40 p40 k40 d40 m41 o41 n41 c41 p41 k41 d41 m42 o42 n42 c42 p42 k42 d42 m43 o43 n43 c43 p43 k43 d43 m44 o44 n44 c44 p44 k44 d44 m45 o45 n45 c45 p45 k45 d45 m46 o46 n46 c46 p46 k46 d46 gpn gpY rfl (by simp only [HAk.out, Act.put, List.setIfInBounds_toArray, List.set_cons_zero, List.set_cons_succ]) (cFk zF hb) (fun _ => ⟨rfl, f40_0.below hb⟩) (fun _ => ⟨rfl, f41_0.below hb⟩) (fun _ => ⟨rfl, f42_0.below hb⟩) (fun _ => ⟨rfl, f43_0⟩) (fun h => absurd (dp16_11 h) (by decide)) (fun h => absurd (dp16_11 (dp17_16 h)) (by decide)) (fun h => absurd (dp18_11 h) (by decide)) (fun h => absurd (dp18_11 (dp19_18 h)) (by decide)) (fun h => ⟨(F20 h).1, (F20 h).2.1.below hb, (F20 h).2.2⟩) (fun _ => rfl) (fun _ => rfl) (fun _ => rfl) (fun _ => rfl) dp17_16 (fun _ => rfl) (fun _ => rfl) dp18_17 dp19_18 dp19_17 nq18_20)
        · obtain rfl := dp11_10 rfl
          obtain rfl := dp10_5 rfl
          obtain rfl := dp5_4 rfl
          obtain ⟨rfl, f40_0⟩ := F4 rfl
          clear F4
          obtain ⟨rfl, f41_0⟩ := F5 rfl
          clear F5
          obtain ⟨rfl, f42_0⟩ := F10 rfl
          clear F10
          obtain ⟨rfl, f43_0⟩ := F11 rfl
          clear F11
          refine step_of 16 ?_ ?_ (fun K hK => ?_)
          rotate_left 1
          · simp only [List.getElem?_toArray, List.getElem?_cons_succ, List.getElem?_cons_zero]; exact rfl
          rw [HAk.out]
          try simp only [Act.put]
          try simp only [List.setIfInBounds_toArray, List.set_cons_zero, List.set_cons_succ]
          go_simp
          refine (fOf_any v1 (by have := HV1.out; unfold InP at this; omega) (by have := HV1.out; unfold InP at this; omega) _).mono ?_
          rintro e w26 ⟨m44, o44, n44, c44, p44, k44, d44, rfl, f44_0, hb⟩
          go_wp2_with fail
          refine hK.out _ _ (sFk (cFk zF hb)) ?_
          exact (hIVk _ _ _).2 (fun CC kk => kk true true true true true lb17 lb18 lb19 lb20 _ _ _ _ (.agg #[.bool m44, .slice o44 n44 c44, .slice p44 k44 d44]) lv17 lv18 lv19 lv20 m40 o40 n40 c40 p40 k40 d40 m41 o41 n41 c41 p41 k41 d41 m42 o42 n42 c42 p42 k42 d42 m43 o43 n43 c43 p43 k43 d43 m44 o44 n44 c44 p44 k44 d44 m45 o45 n45 c45 p45 k45 d45 m46 o46 n46 c46 p46 k46 d46 gpn gpY rfl (by simp only [HAk.out, Act.put, List.setIfInBounds_toArray, List.set_cons_zero, List.set_cons_succ]) (cFk zF hb) (fun _ => ⟨rfl, f40_0.below hb⟩) (fun _ => ⟨rfl, f41_0.below hb⟩) (fun _ => ⟨rfl, f42_0.below hb⟩) (fun _ => ⟨rfl, f43_0.below hb⟩) (fun _ => ⟨rfl, f44_0⟩) (fun h => absurd (dp17_16 h) (by decide)) (fun h => absurd (dp17_16 (dp18_17 h)) (by decide)) (fun h => absurd (dp17_16 (dp18_17 (dp19_18 h))) (by decide)) (fun h => ⟨(F20 h).1, (F20 h).2.1.below hb, (F20 h).2.2⟩) (fun _ => rfl) (fun _ => rfl) (fun _ => rfl) (fun _ => rfl) (fun _ => rfl) (fun _ => rfl) (fun _ => rfl) dp18_17 dp19_18 dp19_17 nq18_20)
        · obtain rfl := dp16_11 rfl
          obtain rfl := dp11_10 rfl
          obtain rfl := dp10_5 rfl
          obtain rfl := dp5_4 rfl
          obtain ⟨rfl, f40_0⟩ := F4 rfl
          clear F4
          obtain ⟨rfl, f41_0⟩ := F5 rfl
          clear F5
          obtain ⟨rfl, f42_0⟩ := F10 rfl
          clear F10
          obtain ⟨rfl, f43_0⟩ := F11 rfl
          clear F11
          obtain ⟨rfl, f44_0⟩ := F16 rfl
          clear F16
          obtain ⟨-, -, -, -, -, -, -, -, -, f22_0, -, -, -, -⟩ := (hFFk _).1 zF
          refine step_of 17 ?_ ?_ (fun K hK => ?_)
          rotate_left 1
          · simp only [List.getElem?_toArray, List.getElem?_cons_succ, List.getElem?_cons_zero]; exact rfl
          rw [HAk.out]
          try simp only [Act.put]
          try simp only [List.setIfInBounds_toArray, List.set_cons_zero, List.set_cons_succ]
          go_simp
          refine (qMul _ _ ((1 + 3 * (((1 + 1 + 2) + (1 + 1 + 2) + 2) + 2)) + max 2 1 + 3) 1 _ _ _ (by omega) (by omega) f22_0.q f44_0.q).mono ?_
          rintro e w27 ⟨m45, o45, n45, c45, p45, k45, d45, rfl, f45_0, hb⟩
          go_wp2_with fail
          refine hK.out _ _ (sFk (cFk zF hb)) ?_
          exact (hIVk _ _ _).2 (fun CC kk => kk true true true true true true lb18 lb19 lb20 _ _ _ _ _ (.agg #[.bool m45, .slice o45 n45 c45, .slice p45 k45 d45]) lv18 lv19 lv20 m40 o40 n40 c40 p40 k40 d40 m41 o41 n41 c41 p41 k41 d41 m42 o42 n42 c42 p42 k42 d42 m43 o43 n43 c43 p43 k43 d43 m44 o44 n44 c44 p44 k44 d44 m45 o45 n45 c45 p45 k45 d45 m46 o46 n46 c46 p46 k46 d46 gpn gpY rfl (by simp only [HAk.out, Act.put, List.setIfInBounds_toArray, List.set_cons_zero, List.set_cons_succ]) (cFk zF hb) (fun _ => ⟨rfl, f40_0.below hb⟩) (fun _ => ⟨rfl, f41_0.below hb⟩) (fun _ => ⟨rfl, f42_0.below hb⟩) (fun _ => ⟨rfl, f43_0.below hb⟩) (fun _ => ⟨rfl, f44_0.below hb⟩) (fun _ => ⟨rfl, f45_0⟩) (fun h => absurd (dp18_17 h) (by decide)) (fun h => absurd (dp19_17 h) (by decide)) (fun h => ⟨(F20 h).1, (F20 h).2.1.below hb, (F20 h).2.2⟩) (fun _ => rfl) (fun _ => rfl) (fun _ => rfl) (fun _ => rfl) (fun _ => rfl) (fun _ => rfl) (fun _ => rfl) (fun _ => rfl) dp19_18 (fun _ => rfl) nq18_20)
        · obtain rfl := dp5_4 rfl
          obtain rfl := dp11_10 rfl
          obtain rfl := dp17_16 rfl
          obtain ⟨rfl, f40_0⟩ := F4 rfl
          clear F4
          obtain ⟨rfl, f41_0⟩ := F5 rfl
          clear F5
          obtain ⟨rfl, f42_0⟩ := F10 rfl
          clear F10
          obtain ⟨rfl, f43_0⟩ := F11 rfl
          clear F11
          obtain ⟨rfl, f44_0⟩ := F16 rfl
          clear F16
          obtain ⟨rfl, f45_0⟩ := F17 rfl
          clear F17
          refine step_of 18 ?_ ?_ (fun K hK => ?_)
          rotate_left 1
          · simp only [List.getElem?_toArray, List.getElem?_cons_succ, List.getElem?_cons_zero]; exact rfl
          rw [HAk.out]
          try simp only [Act.put]
          try simp only [List.setIfInBounds_toArray, List.set_cons_zero, List.set_cons_succ]
          go_simp
          have hgn := mFk zF
          have hq20 : lb20 = true → gpY < w15.heap.size := fun h => (F20 h).2.1.lt
          obtain ⟨wn, hwn, pn_0, hb, -⟩ := new_box w15 _ rfl [.bool m41, .slice o41 n41 c41, .slice p41 k41 d41, .bool m43, .slice o43 n43 c43, .slice p43 k43 d43, .bool m45, .slice o45 n45 c45, .slice p45 k45 d45] 31
          rw [hwn]
          refine hK.out _ _ (sFk (cFk zF hb)) ?_
          exact (hIVk _ _ _).2 (fun CC kk => kk true true true true true true true lb19 lb20 _ _ _ _ _ _ (.slice (some ⟨w15.heap.size, 0, none⟩) 3 3) lv19 lv20 m40 o40 n40 c40 p40 k40 d40 m41 o41 n41 c41 p41 k41 d41 m42 o42 n42 c42 p42 k42 d42 m43 o43 n43 c43 p43 k43 d43 m44 o44 n44 c44 p44 k44 d44 m45 o45 n45 c45 p45 k45 d45 m46 o46 n46 c46 p46 k46 d46 w15.heap.size gpY rfl (by simp only [HAk.out, Act.put, List.setIfInBounds_toArray, List.set_cons_zero, List.set_cons_succ]) (cFk zF hb) (fun _ => ⟨rfl, f40_0.below hb⟩) (fun _ => ⟨rfl, f41_0.below hb⟩) (fun _ => ⟨rfl, f42_0.below hb⟩) (fun _ => ⟨rfl, f43_0.below hb⟩) (fun _ => ⟨rfl, f44_0.below hb⟩) (fun _ => ⟨rfl, f45_0.below hb⟩) (fun _ => ⟨rfl, pn_0, hgn⟩) (fun h => absurd (dp19_18 h) (by decide)) (fun h => ⟨(F20 h).1, (F20 h).2.1.below hb, (F20 h).2.2⟩) (fun _ => rfl) (fun _ => rfl) (fun _ => rfl) (fun _ => rfl) (fun _ => rfl) (fun _ => rfl) (fun _ => rfl) (fun _ => rfl) (fun _ => rfl) (fun _ => rfl) (fun _ h => by have := hq20 h; omega))
        · obtain rfl := dp18_5 rfl
          obtain rfl := dp18_11 rfl
          obtain rfl := dp17_16 rfl
          obtain rfl := dp5_4 rfl
          obtain rfl := dp11_10 rfl
          obtain ⟨rfl, f40_0⟩ := F4 rfl
          clear F4
          obtain ⟨rfl, f41_0⟩ := F5 rfl
          clear F5
          obtain ⟨rfl, f42_0⟩ := F10 rfl
          clear F10
          obtain ⟨rfl, f43_0⟩ := F11 rfl
          clear F11
          obtain ⟨rfl, f44_0⟩ := F16 rfl
          clear F16
          obtain ⟨rfl, f45_0⟩ := F17 rfl
          clear F17
          obtain ⟨rfl, pn_0, hgpn⟩ := F18 rfl
          clear F18
          refine step_of 19 ?_ ?_ (fun K hK => ?_)
          rotate_left 1
          · simp only [List.getElem?_toArray, List.getElem?_cons_succ, List.getElem?_cons_zero]; exact rfl
          rw [HAk.out]
          try simp only [Act.put]
          try simp only [List.setIfInBounds_toArray, List.set_cons_zero, List.set_cons_succ]
          go_simp
          refine (fSum3 (((1 + 3 * (((1 + 1 + 2) + (1 + 1 + 2) + 2) + 2)) + max 2 1 + 3) + 1 + 2) _ _ _ _ (by omega) pn_0 f41_0.q f43_0.q f45_0.q).mono ?_
          rintro e w28 ⟨m46, o46, n46, c46, p46, k46, d46, rfl, f46_0, hb⟩
          go_wp2_with fail
          refine hK.out _ _ (sFk (cFk zF hb)) ?_
          exact (hIVk _ _ _).2 (fun CC kk => kk true true true true true true true true lb20 _ _ _ _ _ _ _ (.agg #[.bool m46, .slice o46 n46 c46, .slice p46 k46 d46]) lv20 m40 o40 n40 c40 p40 k40 d40 m41 o41 n41 c41 p41 k41 d41 m42 o42 n42 c42 p42 k42 d42 m43 o43 n43 c43 p43 k43 d43 m44 o44 n44 c44 p44 k44 d44 m45 o45 n45 c45 p45 k45 d45 m46 o46 n46 c46 p46 k46 d46 gpn gpY rfl (by simp only [HAk.out, Act.put, List.setIfInBounds_toArray, List.set_cons_zero, List.set_cons_succ]) (cFk zF hb) (fun _ => ⟨rfl, f40_0.below hb⟩) (fun _ => ⟨rfl, f41_0.below hb⟩) (fun _ => ⟨rfl, f42_0.below hb⟩) (fun _ => ⟨rfl, f43_0.below hb⟩) (fun _ => ⟨rfl, f44_0.below hb⟩) (fun _ => ⟨rfl, f45_0.below hb⟩) (fun _ => ⟨rfl, pn_0.below hb, hgpn⟩) (fun _ => ⟨rfl, f46_0⟩) (fun h => ⟨(F20 h).1, (F20 h).2.1.below hb, (F20 h).2.2⟩) (fun _ => rfl) (fun _ => rfl) (fun _ => rfl) (fun _ => rfl) (fun _ => rfl) (fun _ => rfl) (fun _ => rfl) (fun _ => rfl) (fun _ => rfl) (fun _ => rfl) (fun _ h2 => nq18_20 (by first | rfl | trivial) h2))
        · refine step_of 20 ?_ ?_ (fun K hK => ?_)
          rotate_left 1
          · simp only [List.getElem?_toArray, List.getElem?_cons_succ, List.getElem?_cons_zero]; exact rfl
          rw [HAk.out]
          try simp only [Act.put]
          try simp only [List.setIfInBounds_toArray, List.set_cons_zero, List.set_cons_succ]
          go_simp
          have hgn := mFk zF
          have hq18 : lb18 = true → gpn < w15.heap.size := fun h => (F18 h).2.1.lt
          obtain ⟨wn, hwn, pY_0, hb, -⟩ := new_box w15 _ rfl [.bool false, .slice none 0 0, .slice none 0 0] 31
          rw [hwn]
          refine hK.out _ _ (sFk (cFk zF hb)) ?_
          exact (hIVk _ _ _).2 (fun CC kk => kk lb4 lb5 lb10 lb11 lb16 lb17 lb18 lb19 true lv4 lv5 lv10 lv11 lv16 lv17 lv18 lv19 (.pointer (some ⟨w15.heap.size, 0, none⟩)) m40 o40 n40 c40 p40 k40 d40 m41 o41 n41 c41 p41 k41 d41 m42 o42 n42 c42 p42 k42 d42 m43 o43 n43 c43 p43 k43 d43 m44 o44 n44 c44 p44 k44 d44 m45 o45 n45 c45 p45 k45 d45 m46 o46 n46 c46 p46 k46 d46 gpn w15.heap.size rfl (by simp only [HAk.out, Act.put, List.setIfInBounds_toArray, List.set_cons_zero, List.set_cons_succ]) (cFk zF hb) (fun h => ⟨(F4 h).1, (F4 h).2.below hb⟩) (fun h => ⟨(F5 h).1, (F5 h).2.below hb⟩) (fun h => ⟨(F10 h).1, (F10 h).2.below hb⟩) (fun h => ⟨(F11 h).1, (F11 h).2.below hb⟩) (fun h => ⟨(F16 h).1, (F16 h).2.below hb⟩) (fun h => ⟨(F17 h).1, (F17 h).2.below hb⟩) (fun h => ⟨(F18 h).1, (F18 h).2.1.below hb, (F18 h).2.2⟩) (fun h => ⟨(F19 h).1, (F19 h).2.below hb⟩) (fun _ => ⟨rfl, pY_0, hgn⟩) dp5_4 dp10_5 dp11_10 dp16_11 dp17_16 dp18_5 dp18_11 dp18_17 dp19_18 dp19_17 (fun h _ => by have := hq18 h; omega))
    · right
      refine ⟨?_, fun i hi => ?_⟩
      · clear zF F4 F5 F10 F11 F16 F17 F18 F19 F20 nq18_20
        cases lb4
        · exact ready_of 4 _ rfl rfl (by kernel_rfl)
        cases lb5
        · exact ready_of 5 _ rfl rfl (by kernel_rfl)
        cases lb10
        · exact ready_of 10 _ rfl rfl (by kernel_rfl)
        cases lb11
        · exact ready_of 11 _ rfl rfl (by kernel_rfl)
        cases lb16
        · exact ready_of 16 _ rfl rfl (by kernel_rfl)
        cases lb17
        · exact ready_of 17 _ rfl rfl (by kernel_rfl)
        cases lb18
        · exact ready_of 18 _ rfl rfl (by kernel_rfl)
        cases lb19
        · exact ready_of 19 _ rfl rfl (by kernel_rfl)
        cases lb20
        · exact ready_of 20 _ rfl rfl (by kernel_rfl)
        exact absurd ⟨rfl, rfl, rfl, rfl, rfl, rfl, rfl, rfl, rfl⟩ hL
      have hd : (lb4 = false ∧ i = 4) ∨ (lb5 = false ∧ lb4 = true ∧ i = 5) ∨ (lb10 = false ∧ lb5 = true ∧ i = 10) ∨ (lb11 = false ∧ lb10 = true ∧ i = 11) ∨ (lb16 = false ∧ lb11 = true ∧ i = 16) ∨ (lb17 = false ∧ lb16 = true ∧ i = 17) ∨ (lb18 = false ∧ lb5 = true ∧ lb11 = true ∧ lb17 = true ∧ i = 18) ∨ (lb19 = false ∧ lb18 = true ∧ lb17 = true ∧ i = 19) ∨ (lb20 = false ∧ i = 20) := by
        have hin := ready_lt hi
        obtain rfl | rfl | rfl | rfl | rfl | rfl | rfl | rfl | rfl | rfl | rfl | rfl | rfl | rfl | rfl | rfl | rfl | rfl | rfl | rfl | rfl | rfl : i = 0 ∨ i = 1 ∨ i = 2 ∨ i = 3 ∨ i = 4 ∨ i = 5 ∨ i = 6 ∨ i = 7 ∨ i = 8 ∨ i = 9 ∨ i = 10 ∨ i = 11 ∨ i = 12 ∨ i = 13 ∨ i = 14 ∨ i = 15 ∨ i = 16 ∨ i = 17 ∨ i = 18 ∨ i = 19 ∨ i = 20 ∨ i = 21 := by have hin' : i < 22 := hin; omega
        · exact absurd (ready_off hi) (fun h => Bool.noConfusion (show true = false from h))
        · exact absurd (ready_off hi) (fun h => Bool.noConfusion (show true = false from h))
        · exact absurd (ready_off hi) (fun h => Bool.noConfusion (show true = false from h))
        · exact absurd (ready_off hi) (fun h => Bool.noConfusion (show true = false from h))
        · exact .inl ⟨ready_off hi, rfl⟩
        · exact .inr (.inl ⟨ready_off hi, ready_dep (d := 4) hi (by kernel_rfl), rfl⟩)
        · exact absurd (ready_off hi) (fun h => Bool.noConfusion (show true = false from h))
        · exact absurd (ready_off hi) (fun h => Bool.noConfusion (show true = false from h))
        · exact absurd (ready_off hi) (fun h => Bool.noConfusion (show true = false from h))
        · exact absurd (ready_off hi) (fun h => Bool.noConfusion (show true = false from h))
        · exact .inr (.inr (.inl ⟨ready_off hi, ready_dep (d := 5) hi (by kernel_rfl), rfl⟩))
        · exact .inr (.inr (.inr (.inl ⟨ready_off hi, ready_dep (d := 10) hi (by kernel_rfl), rfl⟩)))
        · exact absurd (ready_off hi) (fun h => Bool.noConfusion (show true = false from h))
        · exact absurd (ready_off hi) (fun h => Bool.noConfusion (show true = false from h))
        · exact absurd (ready_off hi) (fun h => Bool.noConfusion (show true = false from h))
        · exact absurd (ready_off hi) (fun h => Bool.noConfusion (show true = false from h))
        · exact .inr (.inr (.inr (.inr (.inl ⟨ready_off hi, ready_dep (d := 11) hi (by kernel_rfl), rfl⟩))))
        · exact .inr (.inr (.inr (.inr (.inr (.inl ⟨ready_off hi, ready_dep (d := 16) hi (by kernel_rfl), rfl⟩)))))
        · exact .inr (.inr (.inr (.inr (.inr (.inr (.inl ⟨ready_off hi, ready_dep (d := 5) hi (by kernel_rfl), ready_dep (d := 11) hi (by kernel_rfl), ready_dep (d := 17) hi (by kernel_rfl), rfl⟩))))))
        · exact .inr (.inr (.inr (.inr (.inr (.inr (.inr (.inl ⟨ready_off hi, ready_dep (d := 18) hi (by kernel_rfl), ready_dep (d := 17) hi (by kernel_rfl), rfl⟩)))))))
        · exact .inr (.inr (.inr (.inr (.inr (.inr (.inr (.inr (⟨ready_off hi, rfl⟩))))))))
        · have k20 : lb20 = true := ready_dep (d := 20) hi (by kernel_rfl); have k19 : lb19 = true := ready_dep (d := 19) hi (by kernel_rfl); have k4 : lb4 = true := ready_dep (d := 4) hi (by kernel_rfl); have k5 : lb5 = true := ready_dep (d := 5) hi (by kernel_rfl); have k10 : lb10 = true := ready_dep (d := 10) hi (by kernel_rfl); have k11 : lb11 = true := ready_dep (d := 11) hi (by kernel_rfl); have k16 : lb16 = true := ready_dep (d := 16) hi (by kernel_rfl); have k17 : lb17 = true := ready_dep (d := 17) hi (by kernel_rfl); have k18 : lb18 = true := ready_dep (d := 18) hi (by kernel_rfl)
          exact absurd ⟨k4, k5, k10, k11, k16, k17, k18, k19, k20⟩ hL
      clear hi hL
      rcases hd with ⟨rfl, rfl⟩ | ⟨rfl, rfl, rfl⟩ | ⟨rfl, rfl, rfl⟩ | ⟨rfl, rfl, rfl⟩ | ⟨rfl, rfl, rfl⟩ | ⟨rfl, rfl, rfl⟩ | ⟨rfl, rfl, rfl, rfl, rfl⟩ | ⟨rfl, rfl, rfl, rfl⟩ | ⟨rfl, rfl⟩
      · refine step_of 4 ?_ ?_ (fun K hK => ?_)
        rotate_left 1
        · simp only [List.getElem?_toArray, List.getElem?_cons_succ, List.getElem?_cons_zero]; exact rfl
        rw [HAj.out]
        try simp only [Act.put]
        try simp only [List.setIfInBounds_toArray, List.set_cons_zero, List.set_cons_succ]
        go_simp
        refine (fOf_any a0 (by have := HA0.out; unfold InP at this; omega) (by have := HA0.out; unfold InP at this; omega) _).mono ?_
        rintro e w29 ⟨m30, o30, n30, c30, p30, k30, d30, rfl, f30_0, hb⟩
        go_wp2_with fail
        refine hK.out _ _ (sFj (cFj zF hb)) ?_
        exact (hIVj _ _ _).2 (fun CC kk => kk true lb5 lb10 lb11 lb16 lb17 lb18 lb19 lb20 (.agg #[.bool m30, .slice o30 n30 c30, .slice p30 k30 d30]) lv5 lv10 lv11 lv16 lv17 lv18 lv19 lv20 m30 o30 n30 c30 p30 k30 d30 m31 o31 n31 c31 p31 k31 d31 m32 o32 n32 c32 p32 k32 d32 m33 o33 n33 c33 p33 k33 d33 m34 o34 n34 c34 p34 k34 d34 m35 o35 n35 c35 p35 k35 d35 m36 o36 n36 c36 p36 k36 d36 gpm gpX rfl (by simp only [HAj.out, Act.put, List.setIfInBounds_toArray, List.set_cons_zero, List.set_cons_succ]) (cFj zF hb) (fun _ => ⟨rfl, f30_0⟩) (fun h => absurd (dp5_4 h) (by decide)) (fun h => absurd (dp5_4 (dp10_5 h)) (by decide)) (fun h => absurd (dp5_4 (dp10_5 (dp11_10 h))) (by decide)) (fun h => absurd (dp5_4 (dp10_5 (dp11_10 (dp16_11 h)))) (by decide)) (fun h => absurd (dp5_4 (dp10_5 (dp11_10 (dp16_11 (dp17_16 h))))) (by decide)) (fun h => absurd (dp5_4 (dp18_5 h)) (by decide)) (fun h => absurd (dp5_4 (dp18_5 (dp19_18 h))) (by decide)) (fun h => ⟨(F20 h).1, (F20 h).2.1.below hb, (F20 h).2.2⟩) (fun _ => rfl) dp10_5 dp11_10 dp16_11 dp17_16 dp18_5 dp18_11 dp18_17 dp19_18 dp19_17 nq18_20)
      · obtain ⟨rfl, f30_0⟩ := F4 rfl
        clear F4
        obtain ⟨-, -, -, -, -, -, -, f20_0, -, -, -, -⟩ := (hFFj _).1 zF
        refine step_of 5 ?_ ?_ (fun K hK => ?_)
        rotate_left 1
        · simp only [List.getElem?_toArray, List.getElem?_cons_succ, List.getElem?_cons_zero]; exact rfl
        rw [HAj.out]
        try simp only [Act.put]
        try simp only [List.setIfInBounds_toArray, List.set_cons_zero, List.set_cons_succ]
        go_simp
        refine (qMul _ _ ((1 + 3 * (((1 + 1 + 2) + (1 + 1 + 2) + 2) + 2)) + max 2 1 + 3) 1 _ _ _ (by omega) (by omega) f20_0.q f30_0.q).mono ?_
        rintro e w30 ⟨m31, o31, n31, c31, p31, k31, d31, rfl, f31_0, hb⟩
        go_wp2_with fail
        refine hK.out _ _ (sFj (cFj zF hb)) ?_
        exact (hIVj _ _ _).2 (fun CC kk => kk true true lb10 lb11 lb16 lb17 lb18 lb19 lb20 _ (.agg #[.bool m31, .slice o31 n31 c31, .slice p31 k31 d31]) lv10 lv11 lv16 lv17 lv18 lv19 lv20 m30 o30 n30 c30 p30 k30 d30 m31 o31 n31 c31 p31 k31 d31 m32 o32 n32 c32 p32 k32 d32 m33 o33 n33 c33 p33 k33 d33 m34 o34 n34 c34 p34 k34 d34 m35 o35 n35 c35 p35 k35 d35 m36 o36 n36 c36 p36 k36 d36 gpm gpX rfl (by simp only [HAj.out, Act.put, List.setIfInBounds_toArray, List.set_cons_zero, List.set_cons_succ]) (cFj zF hb) (fun _ => ⟨rfl, f30_0.below hb⟩) (fun _ => ⟨rfl, f31_0⟩) (fun h => absurd (dp10_5 h) (by decide)) (fun h => absurd (dp10_5 (dp11_10 h)) (by decide)) (fun h => absurd (dp10_5 (dp11_10 (dp16_11 h))) (by decide)) (fun h => absurd (dp10_5 (dp11_10 (dp16_11 (dp17_16 h)))) (by decide)) (fun h => absurd (dp18_5 h) (by decide)) (fun h => absurd (dp18_5 (dp19_18 h)) (by decide)) (fun h => ⟨(F20 h).1, (F20 h).2.1.below hb, (F20 h).2.2⟩) (fun _ => rfl) (fun _ => rfl) dp11_10 dp16_11 dp17_16 (fun _ => rfl) dp18_11 dp18_17 dp19_18 dp19_17 nq18_20)
      · obtain rfl := dp5_4 rfl
        obtain ⟨rfl, f30_0⟩ := F4 rfl
        clear F4
        obtain ⟨rfl, f31_0⟩ := F5 rfl
        clear F5
        refine step_of 10 ?_ ?_ (fun K hK => ?_)
        rotate_left 1
        · simp only [List.getElem?_toArray, List.getElem?_cons_succ, List.getElem?_cons_zero]; exact rfl
        rw [HAj.out]
        try simp only [Act.put]
        try simp only [List.setIfInBounds_toArray, List.set_cons_zero, List.set_cons_succ]
        go_simp
        refine (fOf_any b0 (by have := HB0.out; unfold InP at this; omega) (by have := HB0.out; unfold InP at this; omega) _).mono ?_
        rintro e w31 ⟨m32, o32, n32, c32, p32, k32, d32, rfl, f32_0, hb⟩
        go_wp2_with fail
        refine hK.out _ _ (sFj (cFj zF hb)) ?_
        exact (hIVj _ _ _).2 (fun CC kk => kk true true true lb11 lb16 lb17 lb18 lb19 lb20 _ _ (.agg #[.bool m32, .slice o32 n32 c32, .slice p32 k32 d32]) lv11 lv16 lv17 lv18 lv19 lv20 m30 o30 n30 c30 p30 k30 d30 m31 o31 n31 c31 p31 k31 d31 m32 o32 n32 c32 p32 k32 d32 m33 o33 n33 c33 p33 k33 d33 m34 o34 n34 c34 p34 k34 d34 m35 o35 n35 c35 p35 k35 d35 m36 o36 n36 c36 p36 k36 d36 gpm gpX rfl (by simp only [HAj.out, Act.put, List.setIfInBounds_toArray, List.set_cons_zero, List.set_cons_succ]) (cFj zF hb) (fun _ => ⟨rfl, f30_0.below hb⟩) (fun _ => ⟨rfl, f31_0.below hb⟩) (fun _ => ⟨rfl, f32_0⟩) (fun h => absurd (dp11_10 h) (by decide)) (fun h => absurd (dp11_10 (dp16_11 h)) (by decide)) (fun h => absurd (dp11_10 (dp16_11 (dp17_16 h))) (by decide)) (fun h => absurd (dp11_10 (dp18_11 h)) (by decide)) (fun h => absurd (dp11_10 (dp18_11 (dp19_18 h))) (by decide)) (fun h => ⟨(F20 h).1, (F20 h).2.1.below hb, (F20 h).2.2⟩) (fun _ => rfl) (fun _ => rfl) (fun _ => rfl) dp16_11 dp17_16 (fun _ => rfl) dp18_11 dp18_17 dp19_18 dp19_17 nq18_20)
      · obtain rfl := dp10_5 rfl
        obtain rfl := dp5_4 rfl
        obtain ⟨rfl, f30_0⟩ := F4 rfl
        clear F4
        obtain ⟨rfl, f31_0⟩ := F5 rfl
        clear F5
        obtain ⟨rfl, f32_0⟩ := F10 rfl
        clear F10
        obtain ⟨-, -, -, -, -, -, -, -, f21_0, -, -, -⟩ := (hFFj _).1 zF
        refine step_of 11 ?_ ?_ (fun K hK => ?_)
        rotate_left 1
        · simp only [List.getElem?_toArray, List.getElem?_cons_succ, List.getElem?_cons_zero]; exact rfl
        rw [HAj.out]
        try simp only [Act.put]
        try simp only [List.setIfInBounds_toArray, List.set_cons_zero, List.set_cons_succ]
        go_simp
        refine (qMul _ _ ((1 + 3 * (((1 + 1 + 2) + (1 + 1 + 2) + 2) + 2)) + max 2 1 + 3) 1 _ _ _ (by omega) (by omega) f21_0.q f32_0.q).mono ?_
        rintro e w32 ⟨m33, o33, n33, c33, p33, k33, d33, rfl, f33_0, hb⟩
        go_wp2_with fail
        refine hK.out _ _ (sFj (cFj zF hb)) ?_
        exact (hIVj _ _ _).2 (fun CC kk => kk true true true true lb16 lb17 lb18 lb19 lb20 _ _ _ (.agg #[.bool m33, .slice o33 n33 c33, .slice p33 k33 d33]) lv16 lv17 lv18 lv19 lv20 m30 o30 n30 c30 p30 k30 d30 m31 o31 n31 c31 p31 k31 d31 m32 o32 n32 c32 p32 k32 d32 m33 o33 n33 c33 p33 k33 d33 m34 o34 n34 c34 p34 k34 d34 m35 o35 n35 c35 p35 k35 d35 m36 o36 n36 c36 p36 k36 d36 gpm gpX rfl (by simp only [HAj.out, Act.put, List.setIfInBounds_toArray, List.set_cons_zero, List.set_cons_succ]) (cFj zF hb) (fun _ => ⟨rfl, f30_0.below hb⟩) (fun _ => ⟨rfl, f31_0.below hb⟩) (fun _ => ⟨rfl, f32_0.below hb⟩) (fun _ => ⟨rfl, f33_0⟩) (fun h => absurd (dp16_11 h) (by decide)) (fun h => absurd (dp16_11 (dp17_16 h)) (by decide)) (fun h => absurd (dp18_11 h) (by decide)) (fun h => absurd (dp18_11 (dp19_18 h)) (by decide)) (fun h => ⟨(F20 h).1, (F20 h).2.1.below hb, (F20 h).2.2⟩) (fun _ => rfl) (fun _ => rfl) (fun _ => rfl) (fun _ => rfl) dp17_16 (fun _ => rfl) (fun _ => rfl) dp18_17 dp19_18 dp19_17 nq18_20)
      · obtain rfl := dp11_10 rfl
        obtain rfl := dp10_5 rfl
        obtain rfl := dp5_4 rfl
        obtain ⟨rfl, f30_0⟩ := F4 rfl
        clear F4
        obtain ⟨rfl, f31_0⟩ := F5 rfl
        clear F5
        obtain ⟨rfl, f32_0⟩ := F10 rfl
        clear F10
        obtain ⟨rfl, f33_0⟩ := F11 rfl
        clear F11
        refine step_of 16 ?_ ?_ (fun K hK => ?_)
        rotate_left 1
        · simp only [List.getElem?_toArray, List.getElem?_cons_succ, List.getElem?_cons_zero]; exact rfl
        rw [HAj.out]
        try simp only [Act.put]
        try simp only [List.setIfInBounds_toArray, List.set_cons_zero, List.set_cons_succ]
        go_simp
        refine (fOf_any v0 (by have := HV0.out; unfold InP at this; omega) (by have := HV0.out; unfold InP at this; omega) _).mono ?_
        rintro e w33 ⟨m34, o34, n34, c34, p34, k34, d34, rfl, f34_0, hb⟩
        go_wp2_with fail
        refine hK.out _ _ (sFj (cFj zF hb)) ?_
        exact (hIVj _ _ _).2 (fun CC kk => kk true true true true true lb17 lb18 lb19 lb20 _ _ _ _ (.agg #[.bool m34, .slice o34 n34 c34, .slice p34 k34 d34]) lv17 lv18 lv19 lv20 m30 o30 n30 c30 p30 k30 d30 m31 o31 n31 c31 p31 k31 d31 m32 o32 n32 c32 p32 k32 d32 m33 o33 n33 c33 p33 k33 d33 m34 o34 n34 c34 p34 k34 d34 m35 o35 n35 c35 p35 k35 d35 m36 o36 n36 c36 p36 k36 d36 gpm gpX rfl (by simp only [HAj.out, Act.put, List.setIfInBounds_toArray, List.set_cons_zero, List.set_cons_succ]) (cFj zF hb) (fun _ => ⟨rfl, f30_0.below hb⟩) (fun _ => ⟨rfl, f31_0.below hb⟩) (fun _ => ⟨rfl, f32_0.below hb⟩) (fun _ => ⟨rfl, f33_0.below hb⟩) (fun _ => ⟨rfl, f34_0⟩) (fun h => absurd (dp17_16 h) (by decide)) (fun h => absurd (dp17_16 (dp18_17 h)) (by decide)) (fun h => absurd (dp17_16 (dp18_17 (dp19_18 h))) (by decide)) (fun h => ⟨(F20 h).1, (F20 h).2.1.below hb, (F20 h).2.2⟩) (fun _ => rfl) (fun _ => rfl) (fun _ => rfl) (fun _ => rfl) (fun _ => rfl) (fun _ => rfl) (fun _ => rfl) dp18_17 dp19_18 dp19_17 nq18_20)
      · obtain rfl := dp16_11 rfl
        obtain rfl := dp11_10 rfl
        obtain rfl := dp10_5 rfl
        obtain rfl := dp5_4 rfl
        obtain ⟨rfl, f30_0⟩ := F4 rfl
        clear F4
        obtain ⟨rfl, f31_0⟩ := F5 rfl
        clear F5
        obtain ⟨rfl, f32_0⟩ := F10 rfl
        clear F10
        obtain ⟨rfl, f33_0⟩ := F11 rfl
        clear F11
        obtain ⟨rfl, f34_0⟩ := F16 rfl
        clear F16
        obtain ⟨-, -, -, -, -, -, -, -, -, f22_0, -, -⟩ := (hFFj _).1 zF
        refine step_of 17 ?_ ?_ (fun K hK => ?_)
        rotate_left 1
        · simp only [List.getElem?_toArray, List.getElem?_cons_succ, List.getElem?_cons_zero]; exact rfl
        rw [HAj.out]
        try simp only [Act.put]
        try simp only [List.setIfInBounds_toArray, List.set_cons_zero, List.set_cons_succ]
        go_simp
        refine (qMul _ _ ((1 + 3 * (((1 + 1 + 2) + (1 + 1 + 2) + 2) + 2)) + max 2 1 + 3) 1 _ _ _ (by omega) (by omega) f22_0.q f34_0.q).mono ?_
        rintro e w34 ⟨m35, o35, n35, c35, p35, k35, d35, rfl, f35_0, hb⟩
        go_wp2_with fail
        refine hK.out _ _ (sFj (cFj zF hb)) ?_
        exact (hIVj _ _ _).2 (fun CC kk => kk true true true true true true lb18 lb19 lb20 _ _ _ _ _ (.agg #[.bool m35, .slice o35 n35 c35, .slice p35 k35 d35]) lv18 lv19 lv20 m30 o30 n30 c30 p30 k30 d30 m31 o31 n31 c31 p31 k31 d31 m32 o32 n32 c32 p32 k32 d32 m33 o33 n33 c33 p33 k33 d33 m34 o34 n34 c34 p34 k34 d34 m35 o35 n35 c35 p35 k35 d35 m36 o36 n36 c36 p36 k36 d36 gpm gpX rfl (by simp only [HAj.out, Act.put, List.setIfInBounds_toArray, List.set_cons_zero, List.set_cons_succ]) (cFj zF hb) (fun _ => ⟨rfl, f30_0.below hb⟩) (fun _ => ⟨rfl, f31_0.below hb⟩) (fun _ => ⟨rfl, f32_0.below hb⟩) (fun _ => ⟨rfl, f33_0.below hb⟩) (fun _ => ⟨rfl, f34_0.below hb⟩) (fun _ => ⟨rfl, f35_0⟩) (fun h => absurd (dp18_17 h) (by decide)) (fun h => absurd (dp19_17 h) (by decide)) (fun h => ⟨(F20 h).1, (F20 h).2.1.below hb, (F20 h).2.2⟩) (fun _ => rfl) (fun _ => rfl) (fun _ => rfl) (fun _ => rfl) (fun _ => rfl) (fun _ => rfl) (fun _ => rfl) (fun _ => rfl) dp19_18 (fun _ => rfl) nq18_20)
      · obtain rfl := dp5_4 rfl
        obtain rfl := dp11_10 rfl
        obtain rfl := dp17_16 rfl
        obtain ⟨rfl, f30_0⟩ := F4 rfl
        clear F4
        obtain ⟨rfl, f31_0⟩ := F5 rfl
        clear F5
        obtain ⟨rfl, f32_0⟩ := F10 rfl
        clear F10
        obtain ⟨rfl, f33_0⟩ := F11 rfl
        clear F11
        obtain ⟨rfl, f34_0⟩ := F16 rfl
        clear F16
        obtain ⟨rfl, f35_0⟩ := F17 rfl
        clear F17
        refine step_of 18 ?_ ?_ (fun K hK => ?_)
        rotate_left 1
        · simp only [List.getElem?_toArray, List.getElem?_cons_succ, List.getElem?_cons_zero]; exact rfl
        rw [HAj.out]
        try simp only [Act.put]
        try simp only [List.setIfInBounds_toArray, List.set_cons_zero, List.set_cons_succ]
        go_simp
        have hgn := mFj zF
        have hq20 : lb20 = true → gpX < w13.heap.size := fun h => (F20 h).2.1.lt
        obtain ⟨wn, hwn, pm_0, hb, -⟩ := new_box w13 _ rfl [.bool m31, .slice o31 n31 c31, .slice p31 k31 d31, .bool m33, .slice o33 n33 c33, .slice p33 k33 d33, .bool m35, .slice o35 n35 c35, .slice p35 k35 d35] 31
        rw [hwn]
        refine hK.out _ _ (sFj (cFj zF hb)) ?_
        exact (hIVj _ _ _).2 (fun CC kk => kk true true true true true true true lb19 lb20 _ _ _ _ _ _ (.slice (some ⟨w13.heap.size, 0, none⟩) 3 3) lv19 lv20 m30 o30 n30 c30 p30 k30 d30 m31 o31 n31 c31 p31 k31 d31 m32 o32 n32 c32 p32 k32 d32 m33 o33 n33 c33 p33 k33 d33 m34 o34 n34 c34 p34 k34 d34 m35 o35 n35 c35 p35 k35 d35 m36 o36 n36 c36 p36 k36 d36 w13.heap.size gpX rfl (by simp only [HAj.out, Act.put, List.setIfInBounds_toArray, List.set_cons_zero, List.set_cons_succ]) (cFj zF hb) (fun _ => ⟨rfl, f30_0.below hb⟩) (fun _ => ⟨rfl, f31_0.below hb⟩) (fun _ => ⟨rfl, f32_0.below hb⟩) (fun _ => ⟨rfl, f33_0.below hb⟩) (fun _ => ⟨rfl, f34_0.below hb⟩) (fun _ => ⟨rfl, f35_0.below hb⟩) (fun _ => ⟨rfl, pm_0, hgn⟩) (fun h => absurd (dp19_18 h) (by decide)) (fun h => ⟨(F20 h).1, (F20 h).2.1.below hb, (F20 h).2.2⟩) (fun _ => rfl) (fun _ => rfl) (fun _ => rfl) (fun _ => rfl) (fun _ => rfl) (fun _ => rfl) (fun _ => rfl) (fun _ => rfl) (fun _ => rfl) (fun _ => rfl) (fun _ h => by have := hq20 h; omega))
      · obtain rfl := dp18_5 rfl
        obtain rfl := dp18_11 rfl
        obtain rfl := dp17_16 rfl
        obtain rfl := dp5_4 rfl
        obtain rfl := dp11_10 rfl
        obtain ⟨rfl, f30_0⟩ := F4 rfl
        clear F4
        obtain ⟨rfl, f31_0⟩ := F5 rfl
        clear F5
        obtain ⟨rfl, f32_0⟩ := F10 rfl
        clear F10
        obtain ⟨rfl, f33_0⟩ := F11 rfl
        clear F11
        obtain ⟨rfl, f34_0⟩ := F16 rfl
        clear F16
        obtain ⟨rfl, f35_0⟩ := F17 rfl
        clear F17
        obtain ⟨rfl, pm_0, hgpm⟩ := F18 rfl
        clear F18
        refine step_of 19 ?_ ?_ (fun K hK => ?_)
        rotate_left 1
        · simp only [List.getElem?_toArray, List.getElem?_cons_succ, List.getElem?_cons_zero]; exact rfl
        rw [HAj.out]
        try simp only [Act.put]
        try simp only [List.setIfInBounds_toArray, List.set_cons_zero, List.set_cons_succ]
        go_simp
        refine (fSum3 (((1 + 3 * (((1 + 1 + 2) + (1 + 1 + 2) + 2) + 2)) + max 2 1 + 3) + 1 + 2) _ _ _ _ (by omega) pm_0 f31_0.q f33_0.q f35_0.q).mono ?_
        rintro e w35 ⟨m36, o36, n36, c36, p36, k36, d36, rfl, f36_0, hb⟩
        go_wp2_with fail
        refine hK.out _ _ (sFj (cFj zF hb)) ?_
        exact (hIVj _ _ _).2 (fun CC kk => kk true true true true true true true true lb20 _ _ _ _ _ _ _ (.agg #[.bool m36, .slice o36 n36 c36, .slice p36 k36 d36]) lv20 m30 o30 n30 c30 p30 k30 d30 m31 o31 n31 c31 p31 k31 d31 m32 o32 n32 c32 p32 k32 d32 m33 o33 n33 c33 p33 k33 d33 m34 o34 n34 c34 p34 k34 d34 m35 o35 n35 c35 p35 k35 d35 m36 o36 n36 c36 p36 k36 d36 gpm gpX rfl (by simp only [HAj.out, Act.put, List.setIfInBounds_toArray, List.set_cons_zero, List.set_cons_succ]) (cFj zF hb) (fun _ => ⟨rfl, f30_0.below hb⟩) (fun _ => ⟨rfl, f31_0.below hb⟩) (fun _ => ⟨rfl, f32_0.below hb⟩) (fun _ => ⟨rfl, f33_0.below hb⟩) (fun _ => ⟨rfl, f34_0.below hb⟩) (fun _ => ⟨rfl, f35_0.below hb⟩) (fun _ => ⟨rfl, pm_0.below hb, hgpm⟩) (fun _ => ⟨rfl, f36_0⟩) (fun h => ⟨(F20 h).1, (F20 h).2.1.below hb, (F20 h).2.2⟩) (fun _ => rfl) (fun _ => rfl) (fun _ => rfl) (fun _ => rfl) (fun _ => rfl) (fun _ => rfl) (fun _ => rfl) (fun _ => rfl) (fun _ => rfl) (fun _ => rfl) (fun _ h2 => nq18_20 (by first | rfl | trivial) h2))
      · refine step_of 20 ?_ ?_ (fun K hK => ?_)
        rotate_left 1
        · simp only [List.getElem?_toArray, List.getElem?_cons_succ, List.getElem?_cons_zero]; exact rfl
        rw [HAj.out]
        try simp only [Act.put]
        try simp only [List.setIfInBounds_toArray, List.set_cons_zero, List.set_cons_succ]
        go_simp
        have hgn := mFj zF
        have hq18 : lb18 = true → gpm < w13.heap.size := fun h => (F18 h).2.1.lt
        obtain ⟨wn, hwn, pX_0, hb, -⟩ := new_box w13 _ rfl [.bool false, .slice none 0 0, .slice none 0 0] 31
        rw [hwn]
        refine hK.out _ _ (sFj (cFj zF hb)) ?_
        exact (hIVj _ _ _).2 (fun CC kk => kk lb4 lb5 lb10 lb11 lb16 lb17 lb18 lb19 true lv4 lv5 lv10 lv11 lv16 lv17 lv18 lv19 (.pointer (some ⟨w13.heap.size, 0, none⟩)) m30 o30 n30 c30 p30 k30 d30 m31 o31 n31 c31 p31 k31 d31 m32 o32 n32 c32 p32 k32 d32 m33 o33 n33 c33 p33 k33 d33 m34 o34 n34 c34 p34 k34 d34 m35 o35 n35 c35 p35 k35 d35 m36 o36 n36 c36 p36 k36 d36 gpm w13.heap.size rfl (by simp only [HAj.out, Act.put, List.setIfInBounds_toArray, List.set_cons_zero, List.set_cons_succ]) (cFj zF hb) (fun h => ⟨(F4 h).1, (F4 h).2.below hb⟩) (fun h => ⟨(F5 h).1, (F5 h).2.below hb⟩) (fun h => ⟨(F10 h).1, (F10 h).2.below hb⟩) (fun h => ⟨(F11 h).1, (F11 h).2.below hb⟩) (fun h => ⟨(F16 h).1, (F16 h).2.below hb⟩) (fun h => ⟨(F17 h).1, (F17 h).2.below hb⟩) (fun h => ⟨(F18 h).1, (F18 h).2.1.below hb, (F18 h).2.2⟩) (fun h => ⟨(F19 h).1, (F19 h).2.below hb⟩) (fun _ => ⟨rfl, pX_0, hgn⟩) dp5_4 dp10_5 dp11_10 dp16_11 dp17_16 dp18_5 dp18_11 dp18_17 dp19_18 dp19_17 (fun h _ => by have := hq18 h; omega))
  · right
    refine ⟨?_, fun i hi => ?_⟩
    · clear zF F2 F5 F8 F9 F10 F11 nq9_10 nq9_11 nq10_11
      cases lb2
      · exact ready_of 2 _ rfl rfl (by kernel_rfl)
      cases lb5
      · exact ready_of 5 _ rfl rfl (by kernel_rfl)
      cases lb8
      · exact ready_of 8 _ rfl rfl (by kernel_rfl)
      cases lb9
      · exact ready_of 9 _ rfl rfl (by kernel_rfl)
      cases lb10
      · exact ready_of 10 _ rfl rfl (by kernel_rfl)
      cases lb11
      · exact ready_of 11 _ rfl rfl (by kernel_rfl)
      exact absurd ⟨rfl, rfl, rfl, rfl, rfl, rfl⟩ hL
    have hd : (lb2 = false ∧ i = 2) ∨ (lb5 = false ∧ lb2 = true ∧ i = 5) ∨ (lb8 = false ∧ lb5 = true ∧ i = 8) ∨ (lb9 = false ∧ i = 9) ∨ (lb10 = false ∧ i = 10) ∨ (lb11 = false ∧ i = 11) := by
      have hin := ready_lt hi
      obtain rfl | rfl | rfl | rfl | rfl | rfl | rfl | rfl | rfl | rfl | rfl | rfl | rfl | rfl | rfl : i = 0 ∨ i = 1 ∨ i = 2 ∨ i = 3 ∨ i = 4 ∨ i = 5 ∨ i = 6 ∨ i = 7 ∨ i = 8 ∨ i = 9 ∨ i = 10 ∨ i = 11 ∨ i = 12 ∨ i = 13 ∨ i = 14 := by have hin' : i < 15 := hin; omega
      · exact absurd (ready_off hi) (fun h => Bool.noConfusion (show true = false from h))
      · exact absurd (ready_off hi) (fun h => Bool.noConfusion (show true = false from h))
      · exact .inl ⟨ready_off hi, rfl⟩
      · exact absurd (ready_off hi) (fun h => Bool.noConfusion (show true = false from h))
      · exact absurd (ready_off hi) (fun h => Bool.noConfusion (show true = false from h))
      · exact .inr (.inl ⟨ready_off hi, ready_dep (d := 2) hi (by kernel_rfl), rfl⟩)
      · exact absurd (ready_off hi) (fun h => Bool.noConfusion (show true = false from h))
      · exact absurd (ready_off hi) (fun h => Bool.noConfusion (show true = false from h))
      · exact .inr (.inr (.inl ⟨ready_off hi, ready_dep (d := 5) hi (by kernel_rfl), rfl⟩))
      · exact .inr (.inr (.inr (.inl ⟨ready_off hi, rfl⟩)))
      · exact .inr (.inr (.inr (.inr (.inl ⟨ready_off hi, rfl⟩))))
      · exact .inr (.inr (.inr (.inr (.inr (⟨ready_off hi, rfl⟩)))))
      · have k9 : lb9 = true := ready_dep (d := 9) hi (by kernel_rfl); have k2 : lb2 = true := ready_dep (d := 2) hi (by kernel_rfl); have k8 : lb8 = true := ready_dep (d := 8) hi (by kernel_rfl); have k10 : lb10 = true := ready_dep (d := 10) hi (by kernel_rfl); have k11 : lb11 = true := ready_dep (d := 11) hi (by kernel_rfl)
        have k5 := dp8_5 k8
        exact absurd ⟨k2, k5, k8, k9, k10, k11⟩ hL
      · exact absurd (ready_dep (d := 12) hi (by kernel_rfl)) (fun h => Bool.noConfusion (show false = true from h))
      · exact absurd (ready_dep (d := 13) hi (by kernel_rfl)) (fun h => Bool.noConfusion (show false = true from h))
    clear hi hL
    rcases hd with ⟨rfl, rfl⟩ | ⟨rfl, rfl, rfl⟩ | ⟨rfl, rfl, rfl⟩ | ⟨rfl, rfl⟩ | ⟨rfl, rfl⟩ | ⟨rfl, rfl⟩
    · refine step_of 2 ?_ ?_ (fun K hK => ?_)
      rotate_left 1
      · simp only [List.getElem?_toArray, List.getElem?_cons_succ, List.getElem?_cons_zero]; exact rfl
      rw [HAi.out]
      try simp only [Act.put]
      try simp only [List.setIfInBounds_toArray, List.set_cons_zero, List.set_cons_succ]
      go_simp
      refine (T0.out _).mono ?_
      rintro e w36 ⟨rfl, hb⟩
      go_wp2_with fail
      refine hK.out _ _ (sFi (cFi zF hb)) ?_
      exact (hIVi _ _ _).2 (fun CC kk => kk true lb5 lb8 lb9 lb10 lb11 (.agg #[.int .i64 a0, .int .i64 a1]) lv5 lv8 lv9 lv10 lv11 gpa gpb gpv rfl (by simp only [HAi.out, Act.put, List.setIfInBounds_toArray, List.set_cons_zero, List.set_cons_succ]) (cFi zF hb) (fun _ => rfl) (fun h => absurd (dp5_2 h) (by decide)) (fun h => absurd (dp5_2 (dp8_5 h)) (by decide)) (fun h => ⟨(F9 h).1, (F9 h).2.1.below hb, (F9 h).2.2⟩) (fun h => ⟨(F10 h).1, (F10 h).2.1.below hb, (F10 h).2.2⟩) (fun h => ⟨(F11 h).1, (F11 h).2.1.below hb, (F11 h).2.2⟩) (fun _ => rfl) dp8_5 nq9_10 nq9_11 nq10_11)
    · obtain rfl := F2 rfl
      clear F2
      refine step_of 5 ?_ ?_ (fun K hK => ?_)
      rotate_left 1
      · simp only [List.getElem?_toArray, List.getElem?_cons_succ, List.getElem?_cons_zero]; exact rfl
      rw [HAi.out]
      try simp only [Act.put]
      try simp only [List.setIfInBounds_toArray, List.set_cons_zero, List.set_cons_succ]
      go_simp
      refine (T1.out _).mono ?_
      rintro e w37 ⟨rfl, hb⟩
      go_wp2_with fail
      refine hK.out _ _ (sFi (cFi zF hb)) ?_
      exact (hIVi _ _ _).2 (fun CC kk => kk true true lb8 lb9 lb10 lb11 _ (.agg #[.int .i64 b0, .int .i64 b1]) lv8 lv9 lv10 lv11 gpa gpb gpv rfl (by simp only [HAi.out, Act.put, List.setIfInBounds_toArray, List.set_cons_zero, List.set_cons_succ]) (cFi zF hb) (fun _ => rfl) (fun _ => rfl) (fun h => absurd (dp8_5 h) (by decide)) (fun h => ⟨(F9 h).1, (F9 h).2.1.below hb, (F9 h).2.2⟩) (fun h => ⟨(F10 h).1, (F10 h).2.1.below hb, (F10 h).2.2⟩) (fun h => ⟨(F11 h).1, (F11 h).2.1.below hb, (F11 h).2.2⟩) (fun _ => rfl) (fun _ => rfl) nq9_10 nq9_11 nq10_11)
    · obtain rfl := dp5_2 rfl
      obtain rfl := F2 rfl
      clear F2
      obtain rfl := F5 rfl
      clear F5
      refine step_of 8 ?_ ?_ (fun K hK => ?_)
      rotate_left 1
      · simp only [List.getElem?_toArray, List.getElem?_cons_succ, List.getElem?_cons_zero]; exact rfl
      rw [HAi.out]
      try simp only [Act.put]
      try simp only [List.setIfInBounds_toArray, List.set_cons_zero, List.set_cons_succ]
      go_simp
      refine (T2.out _).mono ?_
      rintro e w38 ⟨rfl, hb⟩
      go_wp2_with fail
      refine hK.out _ _ (sFi (cFi zF hb)) ?_
      exact (hIVi _ _ _).2 (fun CC kk => kk true true true lb9 lb10 lb11 _ _ (.agg #[.int .i64 v0, .int .i64 v1]) lv9 lv10 lv11 gpa gpb gpv rfl (by simp only [HAi.out, Act.put, List.setIfInBounds_toArray, List.set_cons_zero, List.set_cons_succ]) (cFi zF hb) (fun _ => rfl) (fun _ => rfl) (fun _ => rfl) (fun h => ⟨(F9 h).1, (F9 h).2.1.below hb, (F9 h).2.2⟩) (fun h => ⟨(F10 h).1, (F10 h).2.1.below hb, (F10 h).2.2⟩) (fun h => ⟨(F11 h).1, (F11 h).2.1.below hb, (F11 h).2.2⟩) (fun _ => rfl) (fun _ => rfl) nq9_10 nq9_11 nq10_11)
    · refine step_of 9 ?_ ?_ (fun K hK => ?_)
      rotate_left 1
      · simp only [List.getElem?_toArray, List.getElem?_cons_succ, List.getElem?_cons_zero]; exact rfl
      rw [HAi.out]
      try simp only [Act.put]
      try simp only [List.setIfInBounds_toArray, List.set_cons_zero, List.set_cons_succ]
      go_simp
      have hgn := mFi zF
      have hq10 : lb10 = true → gpb < w4.heap.size := fun h => (F10 h).2.1.lt
      have hq11 : lb11 = true → gpv < w4.heap.size := fun h => (F11 h).2.1.lt
      obtain ⟨wn, hwn, pa_0, hb, -⟩ := new_box w4 _ rfl [.int .i64 0, .int .i64 0] 23
      rw [hwn]
      refine hK.out _ _ (sFi (cFi zF hb)) ?_
      exact (hIVi _ _ _).2 (fun CC kk => kk lb2 lb5 lb8 true lb10 lb11 lv2 lv5 lv8 (.pointer (some ⟨w4.heap.size, 0, none⟩)) lv10 lv11 w4.heap.size gpb gpv rfl (by simp only [HAi.out, Act.put, List.setIfInBounds_toArray, List.set_cons_zero, List.set_cons_succ]) (cFi zF hb) F2 F5 F8 (fun _ => ⟨rfl, pa_0, hgn⟩) (fun h => ⟨(F10 h).1, (F10 h).2.1.below hb, (F10 h).2.2⟩) (fun h => ⟨(F11 h).1, (F11 h).2.1.below hb, (F11 h).2.2⟩) dp5_2 dp8_5 (fun _ h => by have := hq10 h; omega) (fun _ h => by have := hq11 h; omega) nq10_11)
    · refine step_of 10 ?_ ?_ (fun K hK => ?_)
      rotate_left 1
      · simp only [List.getElem?_toArray, List.getElem?_cons_succ, List.getElem?_cons_zero]; exact rfl
      rw [HAi.out]
      try simp only [Act.put]
      try simp only [List.setIfInBounds_toArray, List.set_cons_zero, List.set_cons_succ]
      go_simp
      have hgn := mFi zF
      have hq9 : lb9 = true → gpa < w4.heap.size := fun h => (F9 h).2.1.lt
      have hq11 : lb11 = true → gpv < w4.heap.size := fun h => (F11 h).2.1.lt
      obtain ⟨wn, hwn, pb_0, hb, -⟩ := new_box w4 _ rfl [.int .i64 0, .int .i64 0] 23
      rw [hwn]
      refine hK.out _ _ (sFi (cFi zF hb)) ?_
      exact (hIVi _ _ _).2 (fun CC kk => kk lb2 lb5 lb8 lb9 true lb11 lv2 lv5 lv8 lv9 (.pointer (some ⟨w4.heap.size, 0, none⟩)) lv11 gpa w4.heap.size gpv rfl (by simp only [HAi.out, Act.put, List.setIfInBounds_toArray, List.set_cons_zero, List.set_cons_succ]) (cFi zF hb) F2 F5 F8 (fun h => ⟨(F9 h).1, (F9 h).2.1.below hb, (F9 h).2.2⟩) (fun _ => ⟨rfl, pb_0, hgn⟩) (fun h => ⟨(F11 h).1, (F11 h).2.1.below hb, (F11 h).2.2⟩) dp5_2 dp8_5 (fun h _ => by have := hq9 h; omega) nq9_11 (fun _ h => by have := hq11 h; omega))
    · refine step_of 11 ?_ ?_ (fun K hK => ?_)
      rotate_left 1
      · simp only [List.getElem?_toArray, List.getElem?_cons_succ, List.getElem?_cons_zero]; exact rfl
      rw [HAi.out]
      try simp only [Act.put]
      try simp only [List.setIfInBounds_toArray, List.set_cons_zero, List.set_cons_succ]
      go_simp
      have hgn := mFi zF
      have hq9 : lb9 = true → gpa < w4.heap.size := fun h => (F9 h).2.1.lt
      have hq10 : lb10 = true → gpb < w4.heap.size := fun h => (F10 h).2.1.lt
      obtain ⟨wn, hwn, pv_0, hb, -⟩ := new_box w4 _ rfl [.int .i64 0, .int .i64 0] 23
      rw [hwn]
      refine hK.out _ _ (sFi (cFi zF hb)) ?_
      exact (hIVi _ _ _).2 (fun CC kk => kk lb2 lb5 lb8 lb9 lb10 true lv2 lv5 lv8 lv9 lv10 (.pointer (some ⟨w4.heap.size, 0, none⟩)) gpa gpb w4.heap.size rfl (by simp only [HAi.out, Act.put, List.setIfInBounds_toArray, List.set_cons_zero, List.set_cons_succ]) (cFi zF hb) F2 F5 F8 (fun h => ⟨(F9 h).1, (F9 h).2.1.below hb, (F9 h).2.2⟩) (fun h => ⟨(F10 h).1, (F10 h).2.1.below hb, (F10 h).2.2⟩) (fun _ => ⟨rfl, pv_0, hgn⟩) dp5_2 dp8_5 nq9_10 (fun h _ => by have := hq9 h; omega) (fun h _ => by have := hq10 h; omega))
end Go.Proofs.Ytkcfaddilknelaa
/- The statement SpotShares: for all inputs. -/
namespace Go.Proofs.Ytkcfaddilknelaa
open Go.RowKit Go.MagM
theorem SpotShares_walk (x0 x1 y0 y1 z0 z1 : Int) {sxm : Bool} {sxo : Option Addr} {sxn sxc : Nat} {sxp : Option Addr} {sxk sxd : Nat} {sym : Bool} {syo : Option Addr} {syn syc : Nat} {syp : Option Addr} {syk syd : Nat} {Lsx Lsy : Nat} {Xsx Xsy : Int} {Dsx Dsy : Nat} (w : World) (fsx_0 : FD w (.agg #[.bool sxm, .slice sxo sxn sxc, .slice sxp sxk sxd]) Lsx Xsx Dsx) (fsy_0 : FD w (.agg #[.bool sym, .slice syo syn syc, .slice syp syk syd]) Lsy Xsy Dsy) : Calls Try.prog 7 #[.agg #[.int .i64 x0, .int .i64 x1, .int .i64 y0, .int .i64 y1, .int .i64 z0, .int .i64 z1], .agg #[.bool sxm, .slice sxo sxn sxc, .slice sxp sxk sxd, .bool sym, .slice syo syn syc, .slice syp syk syd]] w fun e w' => e = .returned (.bool true) ∧ Below w.heap.size w w' := by
  by_cases h : crs (tame x0) (tame x1) (tame y0) (tame y1) (tame z0) (tame z1) = 0
  · exact SpotShares_n x0 x1 y0 y1 z0 z1 (tame x0) (tame x1) (tame y0) (tame y1) (tame z0) (tame z1) Lsx Lsy Xsx Xsy Dsx Dsy (fun w => Tame_any x0 x1 w) (fun w => Tame_any y0 y1 w) (fun w => Tame_any z0 z1 w) (tame_in x0) (tame_in x1) (tame_in y0) (tame_in y1) (tame_in z0) (tame_in z1) (by rw [h]; rfl) w fsx_0 fsy_0
  · exact SpotShares_s x0 x1 y0 y1 z0 z1 (tame x0) (tame x1) (tame y0) (tame y1) (tame z0) (tame z1) Lsx Lsy Xsx Xsy Dsx Dsy (fun w => Tame_any x0 x1 w) (fun w => Tame_any y0 y1 w) (fun w => Tame_any z0 z1 w) (tame_in x0) (tame_in x1) (tame_in y0) (tame_in y1) (tame_in z0) (tame_in z1) _ rfl h (beq_eq_false_iff_ne.2 (fun k => h (Int.sign_eq_zero_iff_zero.1 k))) w fsx_0 fsy_0
end Go.Proofs.Ytkcfaddilknelaa
