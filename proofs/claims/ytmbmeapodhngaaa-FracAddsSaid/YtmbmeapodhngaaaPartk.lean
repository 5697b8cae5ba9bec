/- The helpers of layer 3's statements, on: below, Right, is, fit. -/
import Derived.Test.YtmbmeapodhngaaaPartj
namespace Go.Proofs.Ytmbmeapodhngaaa
open Go.RowKit Go.MagM
theorem len_is (va : Value) (L X : Nat) (k : Int) (w : World) (hL : L ≤ 4000000000) (ha : Mag w va L X) (h : ((bl X : Nat) : Int) = k) : Calls Try.prog 37 #[va] w fun e w' => e = .returned (.int .i64 k) ∧ Below w.heap.size w w' :=
  (Len_any va L X w hL ha).mono fun e w' ⟨h1, h2⟩ => ⟨by rw [h1, h], by subst h2; exact Below.refl _ _⟩
set_option maxHeartbeats 4000000 in
theorem below_zero (am : Bool) (ao : Option Addr) (an ac : Nat) (ap : Option Addr) (ak ad : Nat) (L : Nat) (X : Int) (D : Nat) (w : World) (hL : L ≤ 100000000) (fa_0 : FD w (.agg #[.bool am, .slice ao an ac, .slice ap ak ad]) L X D) (h0 : D = 0) :
    Calls Try.prog 11 #[.agg #[.bool am, .slice ao an ac, .slice ap ak ad]] w fun e w' => AnsNum w w' e (max L 1) (den1 D : Nat) := by
  have hB_0 := Below.refl w.heap.size w
  have _ := hL
  subst h0
  obtain ⟨w1, hw1, pa_0, hb1, hs1⟩ := new_box w (w.heap.size) rfl [.bool am, .slice ao an ac, .slice ap ak ad] 27
  have hb1' : Below w.heap.size w w1 := hb1.mono (by omega)
  clear hb1
  have hB_1 := hB_0.trans (hb1'.mono hB_0.size)
  have fa_1 := fa_0.below hb1'
  clear hb1' hB_0 fa_0
  obtain ⟨w2, hw2, pr_0, hb2, hs2⟩ := new_box w1 (w.heap.size + 1) hs1 [.bool false, .slice none 0 0] 25
  have hb2' : Below w1.heap.size w1 w2 := hb2.mono (by omega)
  clear hb2
  have hB_2 := hB_1.trans (hb2'.mono hB_1.size)
  have fa_2 := fa_1.below hb2'
  have pa_1 := pa_0.below hb2'
  clear hb2' hB_1 fa_1 pa_0
  go_enter Try.func11, Try.ntmps11
  obtain ⟨pae0, pae1, pae2, pae3, pae4, pae5⟩ := pa_1.open3
  go_wp2_with fail
  refine (len_is _ L 0 0 _ (by omega) fa_2.mag rfl).mono ?_
  rintro e w3 ⟨rfl, hb3⟩
  clear pae0 pae1 pae2 pae3 pae4 pae5
  have hB_3 := hB_2.trans (hb3.mono hB_2.size)
  have fa_3 := fa_2.below hb3
  have pa_2 := pa_1.below hb3
  have pr_1 := pr_0.below hb3
  clear hb3 hB_2 fa_2 pa_1 pr_0
  obtain ⟨pae0, pae1, pae2, pae3, pae4, pae5⟩ := pa_2.open3
  clear pae0 pae1 pae2 pae3 pae4 pae5
  go_wp2_with fail
  refine (nOf_any 1 (by omega) (by omega) _).mono ?_
  rintro e w4 ⟨m1, o1, n1, c1, rfl, f1_0, hb4⟩
  have hB_4 := hB_3.trans (hb4.mono hB_3.size)
  have fa_4 := fa_3.below hb4
  have pa_3 := pa_2.below hb4
  have pr_2 := pr_1.below hb4
  clear hb4 hB_3 fa_3 pa_2 pr_1
  obtain ⟨sf4a, sf4b, sf4c, sf4d⟩ := pr_2.open2
  obtain ⟨sg4a, sg4b⟩ := Box.put2 pr_2 (.bool m1)
  go_wp2
  clear sf4a sf4b sf4c sf4d sg4a sg4b
  have hB_5 := below_setAll hB_4 (g := w.heap.size + 1) (by omega) [.bool m1, .slice o1 n1 c1]
  have fa_5 := fa_4.setAll pr_2 (noWord2 _ _ _ _) [.bool m1, .slice o1 n1 c1] rfl
  have pa_4 := pa_3.farAll (g' := w.heap.size + 1) (by omega) [.bool m1, .slice o1 n1 c1]
  have f1_1 := f1_0.setAll pr_2 (noWord2 _ _ _ _) [.bool m1, .slice o1 n1 c1] rfl
  have pr_3 := pr_2.setAll [.bool m1, .slice o1 n1 c1] rfl
  simp only [setAll, Nat.zero_add] at hB_5 fa_5 pa_4 pr_3 f1_1
  clear hB_4 fa_4 pa_3 f1_0 pr_2
  generalize (World.setCell (World.setCell w4 ⟨w.heap.size + 1, 0, none⟩ (.bool m1)) ⟨w.heap.size + 1, 1, none⟩ (.slice o1 n1 c1)) = w5 at *
  go_wp2
  obtain ⟨pre0, pre1, pre2, pre3⟩ := pr_3.open2
  exact bodyPost_ret (v := .agg #[.bool m1, .slice o1 n1 c1]) (by simp [results, Try.results11, go_sem, pre0, pre1]) rfl ⟨_, _, _, _, rfl, f1_1.more (by omega), hB_5⟩
set_option maxHeartbeats 4000000 in
theorem below_some (am : Bool) (ao : Option Addr) (an ac : Nat) (ap : Option Addr) (ak ad : Nat) (L : Nat) (X : Int) (D : Nat) (w : World) (hL : L ≤ 100000000) (fa_0 : FD w (.agg #[.bool am, .slice ao an ac, .slice ap ak ad]) L X D) (h0 : D ≠ 0) :
    Calls Try.prog 11 #[.agg #[.bool am, .slice ao an ac, .slice ap ak ad]] w fun e w' => AnsNum w w' e (max L 1) (den1 D : Nat) := by
  have hB_0 := Below.refl w.heap.size w
  have hz : (((bl D : Nat) : Int) == 0) = false := bl_ne h0
  obtain ⟨w1, hw1, pa_0, hb1, hs1⟩ := new_box w (w.heap.size) rfl [.bool am, .slice ao an ac, .slice ap ak ad] 27
  have hb1' : Below w.heap.size w w1 := hb1.mono (by omega)
  clear hb1
  have hB_1 := hB_0.trans (hb1'.mono hB_0.size)
  have fa_1 := fa_0.below hb1'
  clear hb1' hB_0 fa_0
  obtain ⟨w2, hw2, pr_0, hb2, hs2⟩ := new_box w1 (w.heap.size + 1) hs1 [.bool false, .slice none 0 0] 25
  have hb2' : Below w1.heap.size w1 w2 := hb2.mono (by omega)
  clear hb2
  have hB_2 := hB_1.trans (hb2'.mono hB_1.size)
  have fa_2 := fa_1.below hb2'
  have pa_1 := pa_0.below hb2'
  clear hb2' hB_1 fa_1 pa_0
  go_enter Try.func11, Try.ntmps11
  obtain ⟨pae0, pae1, pae2, pae3, pae4, pae5⟩ := pa_1.open3
  go_wp2_with fail
  refine (len_is _ L D _ _ (by omega) fa_2.mag rfl).mono ?_
  rintro e w3 ⟨rfl, hb3⟩
  clear pae0 pae1 pae2 pae3 pae4 pae5
  have hB_3 := hB_2.trans (hb3.mono hB_2.size)
  have fa_3 := fa_2.below hb3
  have pa_2 := pa_1.below hb3
  have pr_1 := pr_0.below hb3
  clear hb3 hB_2 fa_2 pa_1 pr_0
  obtain ⟨pae0, pae1, pae2, pae3, pae4, pae5⟩ := pa_2.open3
  clear pae0 pae1 pae2 pae3 pae4 pae5
  obtain ⟨pae0, pae1, pae2, pae3, pae4, pae5⟩ := pa_2.open3
  go_wp2_with fail
  refine (Make_any false _ L D _ (by omega) fa_3.mag).mono ?_
  rintro e w4 ⟨m1, o1, n1, c1, rfl, f1_0, hb4⟩
  clear pae0 pae1 pae2 pae3 pae4 pae5
  have hB_4 := hB_3.trans (hb4.mono hB_3.size)
  have fa_4 := fa_3.below hb4
  have pa_3 := pa_2.below hb4
  have pr_2 := pr_1.below hb4
  clear hb4 hB_3 fa_3 pa_2 pr_1
  obtain ⟨pae0, pae1, pae2, pae3, pae4, pae5⟩ := pa_3.open3
  obtain ⟨sf4a, sf4b, sf4c, sf4d⟩ := pr_2.open2
  obtain ⟨sg4a, sg4b⟩ := Box.put2 pr_2 (.bool m1)
  go_wp2
  clear pae0 pae1 pae2 pae3 pae4 pae5 sf4a sf4b sf4c sf4d sg4a sg4b
  have hB_5 := below_setAll hB_4 (g := w.heap.size + 1) (by omega) [.bool m1, .slice o1 n1 c1]
  have fa_5 := fa_4.setAll pr_2 (noWord2 _ _ _ _) [.bool m1, .slice o1 n1 c1] rfl
  have pa_4 := pa_3.farAll (g' := w.heap.size + 1) (by omega) [.bool m1, .slice o1 n1 c1]
  have f1_1 := f1_0.setAll pr_2 (noWord2 _ _ _ _) [.bool m1, .slice o1 n1 c1] rfl
  have pr_3 := pr_2.setAll [.bool m1, .slice o1 n1 c1] rfl
  simp only [setAll, Nat.zero_add] at hB_5 fa_5 pa_4 pr_3 f1_1
  clear hB_4 fa_4 pa_3 f1_0 pr_2
  generalize (World.setCell (World.setCell w4 ⟨w.heap.size + 1, 0, none⟩ (.bool m1)) ⟨w.heap.size + 1, 1, none⟩ (.slice o1 n1 c1)) = w5 at *
  go_wp2
  obtain ⟨pre0, pre1, pre2, pre3⟩ := pr_3.open2
  exact bodyPost_ret (v := .agg #[.bool m1, .slice o1 n1 c1]) (by simp [results, Try.results11, go_sem, pre0, pre1]) rfl ⟨_, _, _, _, rfl, (RNum.of f1_1 (by rw [den1_of h0]; rfl)).more (by omega), hB_5⟩
theorem below_any (va : Value) (L : Nat) (X : Int) (D : Nat) (w : World) (hL : L ≤ 100000000) (ha : FD w va L X D) : Calls Try.prog 11 #[va] w fun e w' => AnsNum w w' e (max L 1) (den1 D : Nat) := by
  have ha' := ha
  obtain ⟨_, _, _, _, _, _, _, rfl, _, _⟩ := ha
  by_cases h0 : D = 0
  · exact below_zero _ _ _ _ _ _ _ L X D w hL ha' h0
  · exact below_some _ _ _ _ _ _ _ L X D w hL ha' h0
set_option maxHeartbeats 4000000 in
theorem fRight_core (am : Bool) (ao : Option Addr) (an ac : Nat) (b o k d : Nat) (x : Nat) (L : Nat) (X : Int) (D : Nat) (w : World) (hk : k + 1 ≤ 4000000000) (hL : L ≤ 100000000) (h0 : x ≠ 0) (fa_0 : RNum w (.agg #[.bool am, .slice ao an ac]) L X) (fd_0 : RMag w (.slice (some ⟨b, o, none⟩) (k + 1) d) L D) (wc_0 : WCell w b (o + k) x) (hgcd : Nat.gcd X.natAbs D = 1) :
    Calls Try.prog 28 #[.agg #[.bool am, .slice ao an ac, .slice (some ⟨b, o, none⟩) (k + 1) d]] w fun e w' => e = .returned (.bool true) ∧ Below w.heap.size w w' := by
  have hB_0 := Below.refl w.heap.size w
  have hx1 : ((x : Int) != 0) = true := by simp; omega
  have hk1 : (0 : Int) < (k : Int) + 1 := by omega
  have hk2 : IntKind.i64.wrap ((k : Int) + 1 - 1) = (k : Int) := by rw [IntWalk.i64_in _ (by omega)]; omega
  have hk3 : (0 : Int) ≤ (k : Int) := by omega
  have hk4 : (k : Int) < (k : Int) + 1 := by omega
  obtain ⟨N, fn_0, hX, _⟩ := fa_0.part
  have hg : Nat.gcd N D = 1 := by rw [← hgcd, hX, sgn_natAbs]
  obtain ⟨w1, hw1, pa_0, hb1, hs1⟩ := new_box w (w.heap.size) rfl [.bool am, .slice ao an ac, .slice (some ⟨b, o, none⟩) (k + 1) d] 27
  have hb1' : Below w.heap.size w w1 := hb1.mono (by omega)
  clear hb1
  have hB_1 := hB_0.trans (hb1'.mono hB_0.size)
  have fa_1 := fa_0.below hb1'
  have fd_1 := fd_0.below hb1'
  have wc_1 := wc_0.below hb1'
  have fn_1 := fn_0.below hb1'
  clear hb1' hB_0 fa_0 fd_0 wc_0 fn_0
  go_enter Try.func28, Try.ntmps28
  obtain ⟨pae0, pae1, pae2, pae3, pae4, pae5⟩ := pa_0.open3
  have wce := wc_1.c
  go_wp2_with fail
  refine (Right_any _ L X _ (by omega) fa_1).mono ?_
  rintro e w2 ⟨rfl, hb2⟩
  clear pae0 pae1 pae2 pae3 pae4 pae5 wce
  have hB_2 := hB_1.trans (hb2.mono hB_1.size)
  have fa_2 := fa_1.below hb2
  have fd_2 := fd_1.below hb2
  have wc_2 := wc_1.below hb2
  have fn_2 := fn_1.below hb2
  have pa_1 := pa_0.below hb2
  clear hb2 hB_1 fa_1 fd_1 wc_1 fn_1 pa_0
  obtain ⟨pae0, pae1, pae2, pae3, pae4, pae5⟩ := pa_1.open3
  have wce := wc_2.c
  go_wp2_with fail
  refine (Gcd_any _ _ L L N D _ (by omega) (by omega) fn_2.mag fd_2.mag).mono ?_
  rintro e w3 ⟨v1, rfl, f1_0, hb3⟩
  clear pae0 pae1 pae2 pae3 pae4 pae5 wce
  have hB_3 := hB_2.trans (hb3.mono hB_2.size)
  have fa_3 := fa_2.below hb3
  have fd_3 := fd_2.below hb3
  have wc_3 := wc_2.below hb3
  have fn_3 := fn_2.below hb3
  have pa_2 := pa_1.below hb3
  clear hb3 hB_2 fa_2 fd_2 wc_2 fn_2 pa_1
  obtain ⟨pae0, pae1, pae2, pae3, pae4, pae5⟩ := pa_2.open3
  obtain ⟨o1, n1, c1, rfl⟩ := f1_0.slice
  go_wp2_with fail
  refine (len_is _ (max L L) (Nat.gcd N D) 1 _ (by omega) f1_0.mag (by rw [hg]; unfold bl; decide)).mono ?_
  rintro e w4 ⟨rfl, hb4⟩
  clear pae0 pae1 pae2 pae3 pae4 pae5
  have hB_4 := hB_3.trans (hb4.mono hB_3.size)
  have fa_4 := fa_3.below hb4
  have fd_4 := fd_3.below hb4
  have wc_4 := wc_3.below hb4
  have fn_4 := fn_3.below hb4
  have pa_3 := pa_2.below hb4
  have f1_1 := f1_0.below hb4
  clear hb4 hB_3 fa_3 fd_3 wc_3 fn_3 pa_2 f1_0
  obtain ⟨pae0, pae1, pae2, pae3, pae4, pae5⟩ := pa_3.open3
  go_wp2
  go_ret
  exact ⟨rfl, hB_4⟩
theorem fRight_any (va : Value) (L : Nat) (q : Rat) (w : World) (hL : L ≤ 100000000) (ha : RF w va L q) : Calls Try.prog 28 #[va] w fun e w' => e = .returned (.bool true) ∧ Below w.heap.size w w' := by
  obtain ⟨am, ao, an, ac, bo, bn, bc, rfl, h1, h2⟩ := ha
  obtain ⟨b, o, k, x, rfl, rfl, h3, h4, h5⟩ := h2.top q.den_nz
  exact fRight_core am ao an ac b o k bc x L q.num q.den w (by omega) hL h4 h1 h2 h5 q.reduced
set_option maxHeartbeats 4000000 in
theorem is_core (am : Bool) (ao : Option Addr) (an ac : Nat) (ap : Option Addr) (ak ad : Nat) (nm : Bool) (no : Option Addr) (nn nc : Nat) (zm : Bool) (zo : Option Addr) (zn zc : Nat) (L M H : Nat) (q : Rat) (X Y : Int) (w : World) (hL : L ≤ 100000000) (hM : M ≤ 100000000) (hH : H ≤ 100000000) (fa_0 : RF w (.agg #[.bool am, .slice ao an ac, .slice ap ak ad]) L q) (fn_0 : Num w (.agg #[.bool nm, .slice no nn nc]) M X) (fd_0 : Num w (.agg #[.bool zm, .slice zo zn zc]) H Y) (h : q.num * Y = X * q.den) :
    Calls Try.prog 13 #[.agg #[.bool am, .slice ao an ac, .slice ap ak ad], .agg #[.bool nm, .slice no nn nc], .agg #[.bool zm, .slice zo zn zc]] w fun e w' => e = .returned (.bool true) ∧ Below w.heap.size w w' := by
  have hB_0 := Below.refl w.heap.size w
  obtain ⟨w1, hw1, pa_0, hb1, hs1⟩ := new_box w (w.heap.size) rfl [.bool am, .slice ao an ac, .slice ap ak ad] 27
  have hb1' : Below w.heap.size w w1 := hb1.mono (by omega)
  clear hb1
  have hB_1 := hB_0.trans (hb1'.mono hB_0.size)
  have fa_1 := fa_0.below hb1'
  have fn_1 := fn_0.below hb1'
  have fd_1 := fd_0.below hb1'
  clear hb1' hB_0 fa_0 fn_0 fd_0
  obtain ⟨w2, hw2, pn_0, hb2, hs2⟩ := new_box w1 (w.heap.size + 1) hs1 [.bool nm, .slice no nn nc] 25
  have hb2' : Below w1.heap.size w1 w2 := hb2.mono (by omega)
  clear hb2
  have hB_2 := hB_1.trans (hb2'.mono hB_1.size)
  have fa_2 := fa_1.below hb2'
  have fn_2 := fn_1.below hb2'
  have fd_2 := fd_1.below hb2'
  have pa_1 := pa_0.below hb2'
  clear hb2' hB_1 fa_1 fn_1 fd_1 pa_0
  obtain ⟨w3, hw3, pd_0, hb3, hs3⟩ := new_box w2 (w.heap.size + 1 + 1) hs2 [.bool zm, .slice zo zn zc] 25
  have hb3' : Below w2.heap.size w2 w3 := hb3.mono (by omega)
  clear hb3
  have hB_3 := hB_2.trans (hb3'.mono hB_2.size)
  have fa_3 := fa_2.below hb3'
  have fn_3 := fn_2.below hb3'
  have fd_3 := fd_2.below hb3'
  have pa_2 := pa_1.below hb3'
  have pn_1 := pn_0.below hb3'
  clear hb3' hB_2 fa_2 fn_2 fd_2 pa_1 pn_0
  go_enter Try.func13, Try.ntmps13
  go_wp2
  have hB_4 := hB_3.drew'
  have fa_4 := fa_3.drew
  have fn_4 := fn_3.drew
  have fd_4 := fd_3.drew
  have pa_3 := pa_2.drew
  have pn_2 := pn_1.drew
  have pd_1 := pd_0.drew
  clear hB_3 fa_3 fn_3 fd_3 pa_2 pn_1 pd_0
  go_region_held3 (fun w' => w'.cell? ⟨w.heap.size, 0, none⟩ = some (.bool am) ∧ w'.cell? ⟨w.heap.size, 1, none⟩ = some (.slice ao an ac) ∧ w'.cell? ⟨w.heap.size, 2, none⟩ = some (.slice ap ak ad) ∧ w'.cell? ⟨w.heap.size + 1, 0, none⟩ = some (.bool nm) ∧ w'.cell? ⟨w.heap.size + 1, 1, none⟩ = some (.slice no nn nc) ∧ w'.cell? ⟨w.heap.size + 1 + 1, 0, none⟩ = some (.bool zm) ∧ w'.cell? ⟨w.heap.size + 1 + 1, 1, none⟩ = some (.slice zo zn zc))
    (first | with_reducible exact ⟨pa_3.c0, pa_3.c1, pa_3.c2, pn_2.c0, pn_2.c1, pd_1.c0, pd_1.c1⟩ | with_reducible exact ⟨pa_4.c0, pa_4.c1, pa_4.c2, pn_3.c0, pn_3.c1, pd_2.c0, pd_2.c1⟩ | with_reducible exact ⟨pa_5.c0, pa_5.c1, pa_5.c2, pn_4.c0, pn_4.c1, pd_3.c0, pd_3.c1⟩ | with_reducible exact ⟨pa_6.c0, pa_6.c1, pa_6.c2, pn_5.c0, pn_5.c1, pd_4.c0, pd_4.c1⟩ | with_reducible exact ⟨pa_7.c0, pa_7.c1, pa_7.c2, pn_6.c0, pn_6.c1, pd_5.c0, pd_5.c1⟩ | with_reducible exact ⟨pa_8.c0, pa_8.c1, pa_8.c2, pn_7.c0, pn_7.c1, pd_6.c0, pd_6.c1⟩ | fail)
    (first
      | (go_at_call 28; (with_reducible refine (fRight_any _ L q _ (by omega) fa_4).mono ?_); rintro e w4 ⟨rfl, hb4⟩; have hB_5 := hB_4.trans (hb4.mono hB_4.size); have fa_5 := fa_4.below hb4; have fn_5 := fn_4.below hb4; have fd_5 := fd_4.below hb4; have pa_4 := pa_3.below hb4; have pn_3 := pn_2.below hb4; have pd_2 := pd_1.below hb4; clear hb4 hB_4 fa_4 fn_4 fd_4 pa_3 pn_2 pd_1)
      | (go_at_call 12; (with_reducible refine (nMul_any _ _ L H q.num Y _ (by omega) (by omega) fa_5.fd.num fd_5).mono ?_); rintro e w5 ⟨m1, o1, n1, c1, rfl, f1_0, hb5⟩; have hB_6 := hB_5.trans (hb5.mono hB_5.size); have fa_6 := fa_5.below hb5; have fn_6 := fn_5.below hb5; have fd_6 := fd_5.below hb5; have pa_5 := pa_4.below hb5; have pn_4 := pn_3.below hb5; have pd_3 := pd_2.below hb5; clear hb5 hB_5 fa_5 fn_5 fd_5 pa_4 pn_3 pd_2)
      | (go_at_call 11; (with_reducible refine (below_any _ L q.num q.den _ (by omega) fa_6.fd).mono ?_); rintro e w6 ⟨m2, o2, n2, c2, rfl, f2_0, hb6⟩; have hB_7 := hB_6.trans (hb6.mono hB_6.size); have fa_7 := fa_6.below hb6; have fn_7 := fn_6.below hb6; have fd_7 := fd_6.below hb6; have pa_6 := pa_5.below hb6; have pn_5 := pn_4.below hb6; have pd_4 := pd_3.below hb6; have f1_1 := f1_0.below hb6; clear hb6 hB_6 fa_6 fn_6 fd_6 pa_5 pn_4 pd_3 f1_0)
      | (go_at_call 12; (with_reducible refine (nMul_any _ _ M (max L 1) X (den1 q.den : Nat) _ (by omega) (by omega) fn_7 f2_0.num).mono ?_); rintro e w7 ⟨m3, o3, n3, c3, rfl, f3_0, hb7⟩; have hB_8 := hB_7.trans (hb7.mono hB_7.size); have fa_8 := fa_7.below hb7; have fn_8 := fn_7.below hb7; have fd_8 := fd_7.below hb7; have pa_7 := pa_6.below hb7; have pn_6 := pn_5.below hb7; have pd_5 := pd_4.below hb7; have f1_2 := f1_1.below hb7; have f2_1 := f2_0.below hb7; clear hb7 hB_7 fa_7 fn_7 fd_7 pa_6 pn_5 pd_4 f1_1 f2_0)
      | (go_at_call 22; (with_reducible refine (nCmp_is _ _ (L + H) (M + max L 1) (q.num * Y) (X * (den1 q.den : Nat)) 0 _ (by omega) (by omega) f1_2.num f3_0.num (by rw [den1_of q.den_nz, h]; exact icmp_self _)).mono ?_); rintro e w8 ⟨rfl, hb8⟩; have hB_9 := hB_8.trans (hb8.mono hB_8.size); have fa_9 := fa_8.below hb8; have fn_9 := fn_8.below hb8; have fd_9 := fd_8.below hb8; have pa_8 := pa_7.below hb8; have pn_7 := pn_6.below hb8; have pd_6 := pd_5.below hb8; have f1_3 := f1_2.below hb8; have f2_2 := f2_1.below hb8; have f3_1 := f3_0.below hb8; clear hb8 hB_8 fa_8 fn_8 fd_8 pa_7 pn_6 pd_5 f1_2 f2_1 f3_0))
  go_wp2
  go_ret
  exact ⟨rfl, hB_9⟩
theorem fis_any (va vn vd : Value) (L M H : Nat) (q : Rat) (X Y : Int) (w : World) (hL : L ≤ 100000000) (hM : M ≤ 100000000) (hH : H ≤ 100000000) (ha : RF w va L q) (hn : Num w vn M X) (hd : Num w vd H Y) (h : q.num * Y = X * q.den) :
    Calls Try.prog 13 #[va, vn, vd] w fun e w' => e = .returned (.bool true) ∧ Below w.heap.size w w' := by
  have ha' := ha
  have hn' := hn
  have hd' := hd
  obtain ⟨_, _, _, _, _, _, _, rfl, _, _⟩ := ha
  obtain ⟨_, _, _, rfl, h1, _⟩ := hn
  obtain ⟨_, _, _, rfl⟩ := h1.slice
  obtain ⟨_, _, _, rfl, h2, _⟩ := hd
  obtain ⟨_, _, _, rfl⟩ := h2.slice
  exact is_core _ _ _ _ _ _ _ _ _ _ _ _ _ _ _ L M H q X Y w hL hM hH ha' hn' hd' h
theorem fiveHalves : (((10 : Int) : Rat) / ((4 : Int) : Rat)).num = 5 ∧ (((10 : Int) : Rat) / ((4 : Int) : Rat)).den = 2 := by
  have h := make_eq false false 10 4 (by omega)
  have e1 : sgn false 10 = 10 := rfl
  have e2 : sgn false 4 = 4 := rfl
  rw [e1, e2] at h
  rw [← h]
  have e3 : (false != false) = false := rfl
  rw [e3, e1, Rat.num_mkRat, Rat.den_mkRat]
  decide
theorem fiveHalves_den {w : World} {m : Bool} {ao bo : Option Addr} {n c k d L : Nat} (h : RF w (.agg #[.bool m, .slice ao n c, .slice bo k d]) L (((10 : Int) : Rat) / ((4 : Int) : Rat))) : RMag w (.slice bo k d) L 2 := by
  obtain ⟨_, _, _, _, _, _, _, e, h1, h2⟩ := h
  simp at e
  obtain ⟨rfl, ⟨rfl, rfl, rfl⟩, rfl, rfl, rfl⟩ := e
  rw [fiveHalves.2] at h2
  exact h2
theorem fiveHalves_num : icmp (((10 : Int) : Rat) / ((4 : Int) : Rat)).num 5 = 0 := by rw [fiveHalves.1]; exact icmp_self _
theorem fiveHalves_rnd : icmp (rnd (qv (((10 : Int) : Rat) / ((4 : Int) : Rat)).num (((10 : Int) : Rat) / ((4 : Int) : Rat)).den)) 2 = 0 := by
  rw [fiveHalves.1, fiveHalves.2, ← rnd_down 5 2 (Or.inr (by decide))]
  decide
set_option maxHeartbeats 4000000 in
theorem ffit_any (w : World) : Calls Try.prog 9 #[] w fun e w' => e = .returned (.bool true) ∧ Below w.heap.size w w' := by
  have hB_0 := Below.refl w.heap.size w
  go_enter Try.func9, Try.ntmps9
  go_wp2_with fail
  refine (nOf_any 10 (by omega) (by omega) _).mono ?_
  rintro e w1 ⟨m1, o1, n1, c1, rfl, f1_0, hb1⟩
  have hB_1 := hB_0.trans (hb1.mono hB_0.size)
  clear hb1 hB_0
  go_wp2_with fail
  refine (nOf_any 4 (by omega) (by omega) _).mono ?_
  rintro e w2 ⟨m2, o2, n2, c2, rfl, f2_0, hb2⟩
  have hB_2 := hB_1.trans (hb2.mono hB_1.size)
  have f1_1 := f1_0.below hb2
  clear hb2 hB_1 f1_0
  go_wp2_with fail
  refine (fMake_some _ _ 1 1 10 4 _ (by omega) (by omega) f1_1.num f2_0.num (by omega)).mono ?_
  rintro e w3 ⟨m3, o3, n3, c3, p3, k3, d3, rfl, f3_0, hb3⟩
  have hB_3 := hB_2.trans (hb3.mono hB_2.size)
  have f1_2 := f1_1.below hb3
  have f2_1 := f2_0.below hb3
  clear hb3 hB_2 f1_1 f2_0
  obtain ⟨b3, q3, rfl, rfl, wc_0⟩ := (fiveHalves_den f3_0).lone (by omega) (by unfold B; omega)
  have hl1B := hB_3.size
  obtain ⟨w4, hw4, pq_0, hb4, hs4⟩ := new_box w3 (w3.heap.size) rfl [.bool m3, .slice o3 n3 c3, .slice (some ⟨b3, q3, none⟩) 1 d3] 27
  have hb4' : Below w3.heap.size w3 w4 := hb4.mono (by omega)
  clear hb4
  have hB_4 := hB_3.trans (hb4'.mono hB_3.size)
  have f1_3 := f1_2.below hb4'
  have f2_2 := f2_1.below hb4'
  have f3_1 := f3_0.below hb4'
  have wc_1 := wc_0.below hb4'
  clear hb4' hB_3 f1_2 f2_1 f3_0 wc_0
  go_wp2
  try rw [hw4]
  have hB_5 := hB_4.drew'
  have f1_4 := f1_3.drew
  have f2_3 := f2_2.drew
  have f3_2 := f3_1.drew
  have wc_2 := wc_1.drew
  have pq_1 := pq_0.drew
  clear hB_4 f1_3 f2_2 f3_1 wc_1 pq_0
  go_region_held3 (fun w' => w'.cell? ⟨w3.heap.size, 0, none⟩ = some (.bool m3) ∧ w'.cell? ⟨w3.heap.size, 1, none⟩ = some (.slice o3 n3 c3) ∧ w'.cell? ⟨w3.heap.size, 2, none⟩ = some (.slice (some ⟨b3, q3, none⟩) 1 d3) ∧ w'.cell? ⟨b3, q3, none⟩ = some (.int .u64 ((2 : Nat) : Int)))
    (first | with_reducible exact ⟨pq_1.c0, pq_1.c1, pq_1.c2, wc_2.c⟩ | with_reducible exact ⟨pq_2.c0, pq_2.c1, pq_2.c2, wc_3.c⟩ | with_reducible exact ⟨pq_3.c0, pq_3.c1, pq_3.c2, wc_4.c⟩ | with_reducible exact ⟨pq_4.c0, pq_4.c1, pq_4.c2, wc_5.c⟩ | with_reducible exact ⟨pq_5.c0, pq_5.c1, pq_5.c2, wc_6.c⟩ | with_reducible exact ⟨pq_6.c0, pq_6.c1, pq_6.c2, wc_7.c⟩ | fail)
    (first
      | (go_at_call 32; (with_reducible refine (fRound_any _ (max 1 1) _ _ _ (by omega) f3_2.fd).mono ?_); rintro e w5 ⟨m4, o4, n4, c4, rfl, f4_0, hb5⟩; have hB_6 := hB_5.trans (hb5.mono hB_5.size); have f1_5 := f1_4.below hb5; have f2_4 := f2_3.below hb5; have f3_3 := f3_2.below hb5; have wc_3 := wc_2.below hb5; have pq_2 := pq_1.below hb5; clear hb5 hB_5 f1_4 f2_3 f3_2 wc_2 pq_1)
      | (go_at_call 29; (with_reducible refine (nOf_any 2 (by omega) (by omega) _).mono ?_); rintro e w6 ⟨m5, o5, n5, c5, rfl, f5_0, hb6⟩; have hB_7 := hB_6.trans (hb6.mono hB_6.size); have f1_6 := f1_5.below hb6; have f2_5 := f2_4.below hb6; have f3_4 := f3_3.below hb6; have wc_4 := wc_3.below hb6; have pq_3 := pq_2.below hb6; have f4_1 := f4_0.below hb6; clear hb6 hB_6 f1_5 f2_4 f3_3 wc_3 pq_2 f4_0)
      | (go_at_call 22; (with_reducible refine (nCmp_is _ _ (max (max 1 1) 1 + 2) 1 _ 2 0 _ (by omega) (by omega) f4_1.num f5_0.num fiveHalves_rnd).mono ?_); rintro e w7 ⟨rfl, hb7⟩; have hB_8 := hB_7.trans (hb7.mono hB_7.size); have f1_7 := f1_6.below hb7; have f2_6 := f2_5.below hb7; have f3_5 := f3_4.below hb7; have wc_5 := wc_4.below hb7; have pq_4 := pq_3.below hb7; have f4_2 := f4_1.below hb7; have f5_1 := f5_0.below hb7; clear hb7 hB_7 f1_6 f2_5 f3_4 wc_4 pq_3 f4_1 f5_0)
      | (go_at_call 29; (with_reducible refine (nOf_any 5 (by omega) (by omega) _).mono ?_); rintro e w8 ⟨m6, o6, n6, c6, rfl, f6_0, hb8⟩; have hB_9 := hB_8.trans (hb8.mono hB_8.size); have f1_8 := f1_7.below hb8; have f2_7 := f2_6.below hb8; have f3_6 := f3_5.below hb8; have wc_6 := wc_5.below hb8; have pq_5 := pq_4.below hb8; have f4_3 := f4_2.below hb8; have f5_2 := f5_1.below hb8; clear hb8 hB_8 f1_7 f2_6 f3_5 wc_5 pq_4 f4_2 f5_1)
      | (go_at_call 22; (with_reducible refine (nCmp_is _ _ (max 1 1) 1 _ 5 0 _ (by omega) (by omega) f3_6.fd.num f6_0.num fiveHalves_num).mono ?_); rintro e w9 ⟨rfl, hb9⟩; have hB_10 := hB_9.trans (hb9.mono hB_9.size); have f1_9 := f1_8.below hb9; have f2_8 := f2_7.below hb9; have f3_7 := f3_6.below hb9; have wc_7 := wc_6.below hb9; have pq_6 := pq_5.below hb9; have f4_4 := f4_3.below hb9; have f5_3 := f5_2.below hb9; have f6_1 := f6_0.below hb9; clear hb9 hB_9 f1_8 f2_7 f3_6 wc_6 pq_5 f4_3 f5_2 f6_0))
  go_wp2
  go_ret
  exact ⟨rfl, hB_10⟩
end Go.Proofs.Ytmbmeapodhngaaa
/- The calls of frac, by the numbers that they count. -/
namespace Go.Proofs.Ytmbmeapodhngaaa
open Go.RowKit Go.MagM
theorem cross (q : Rat) (N : Int) (M : Nat) (hM : M ≠ 0) (h : q = mkRat N M) : q.num * (M : Int) = N * (q.den : Int) := by
  have h1 := Rat.mkRat_self q
  rw [h] at h1
  have h2 := (Rat.mkRat_eq_iff (mkRat N M).den_nz hM).1 h1
  rw [h]
  exact h2
theorem qv_sign (X : Int) (D : Nat) : (qv X D).num.sign = X.sign := by
  have h := cross (qv X D) X (den1 D) (den1_ne D) rfl
  have h2 := congrArg Int.sign h
  rw [sign_den, Int.sign_mul, Int.sign_natCast_of_ne_zero (qv X D).den_nz, Int.mul_one] at h2
  exact h2
theorem qAdd (va vb : Value) (L M : Nat) (p q : Rat) (w : World) (hL : L ≤ 50000000) (hM : M ≤ 50000000) (ha : FQ w va L p) (hb : FQ w vb M q) : Calls Try.prog 14 #[va, vb] w fun e w' => AnsF w w' e (L + M + 2) (p + q) := by
  obtain ⟨X, D, h1, rfl⟩ := ha
  obtain ⟨Y, E, h2, rfl⟩ := hb
  exact fAdd_any _ _ L M X Y D E w (by omega) (by omega) h1 h2
theorem qSub (va vb : Value) (L M : Nat) (p q : Rat) (w : World) (hL : L ≤ 50000000) (hM : M ≤ 50000000) (ha : FQ w va L p) (hb : FQ w vb M q) : Calls Try.prog 16 #[va, vb] w fun e w' => AnsF w w' e (L + M + 2) (p - q) := by
  obtain ⟨X, D, h1, rfl⟩ := ha
  obtain ⟨Y, E, h2, rfl⟩ := hb
  exact fSub_any _ _ L M X Y D E w (by omega) (by omega) h1 h2
theorem qMul (va vb : Value) (L M : Nat) (p q : Rat) (w : World) (hL : L ≤ 50000000) (hM : M ≤ 50000000) (ha : FQ w va L p) (hb : FQ w vb M q) : Calls Try.prog 18 #[va, vb] w fun e w' => AnsF w w' e (L + M + 2) (p * q) := by
  obtain ⟨X, D, h1, rfl⟩ := ha
  obtain ⟨Y, E, h2, rfl⟩ := hb
  exact fMul_any _ _ L M X Y D E w (by omega) (by omega) h1 h2
theorem qCmp (va vb : Value) (L M : Nat) (p q : Rat) (w : World) (hL : L ≤ 50000000) (hM : M ≤ 50000000) (ha : FQ w va L p) (hb : FQ w vb M q) (c : Int) (h : qcmp p q = c) : Calls Try.prog 21 #[va, vb] w fun e w' => e = .returned (.int .i64 c) ∧ Below w.heap.size w w' := by
  obtain ⟨X, D, h1, rfl⟩ := ha
  obtain ⟨Y, E, h2, rfl⟩ := hb
  exact fCmp_is _ _ L M X Y D E w (by omega) (by omega) h1 h2 c h
theorem qSame (va vb : Value) (L M : Nat) (p q : Rat) (w : World) (hL : L ≤ 50000000) (hM : M ≤ 50000000) (ha : FQ w va L p) (hb : FQ w vb M q) (b : Bool) (h : p = q ↔ b = true) : Calls Try.prog 25 #[va, vb] w fun e w' => e = .returned (.bool b) ∧ Below w.heap.size w w' := by
  obtain ⟨X, D, h1, rfl⟩ := ha
  obtain ⟨Y, E, h2, rfl⟩ := hb
  by_cases hq : qv X D = qv Y E
  · rw [h.1 hq]; exact fSame_yes _ _ L M X Y D E w (by omega) (by omega) h1 h2 hq
  · have hb : b = false := by cases b with
      | false => rfl
      | true => exact absurd (h.2 rfl) hq
    rw [hb]; exact fSame_no _ _ L M X Y D E w (by omega) (by omega) h1 h2 hq
theorem qSame_yes (va vb : Value) (L M : Nat) (p q : Rat) (w : World) (hL : L ≤ 50000000) (hM : M ≤ 50000000) (ha : FQ w va L p) (hb : FQ w vb M q) (h : p = q) : Calls Try.prog 25 #[va, vb] w fun e w' => e = .returned (.bool true) ∧ Below w.heap.size w w' := by
  obtain ⟨X, D, h1, rfl⟩ := ha
  obtain ⟨Y, E, h2, rfl⟩ := hb
  exact fSame_yes _ _ L M X Y D E w (by omega) (by omega) h1 h2 h
theorem qDiv_zero (va vb : Value) (L M : Nat) (p q : Rat) (w : World) (hL : L ≤ 50000000) (hM : M ≤ 50000000) (ha : FQ w va L p) (hb : FQ w vb M q) (h : q = 0) : Calls Try.prog 26 #[va, vb] w fun e w' => AnsFt w w' e false 1 0 := by
  obtain ⟨X, D, h1, rfl⟩ := ha
  obtain ⟨Y, E, h2, rfl⟩ := hb
  refine fDiv_zero _ _ L M X Y D E w (by omega) (by omega) h1 h2 ?_
  rw [qv] at h
  exact (Rat.mkRat_eq_zero (den1_ne E)).1 h
theorem qDiv (va vb : Value) (L M : Nat) (p q : Rat) (w : World) (hL : L ≤ 50000000) (hM : M ≤ 50000000) (ha : FQ w va L p) (hb : FQ w vb M q) (h : q ≠ 0) : Calls Try.prog 26 #[va, vb] w fun e w' => AnsFt w w' e true (L + M + 3) (p / q) := by
  obtain ⟨X, D, h1, rfl⟩ := ha
  obtain ⟨Y, E, h2, rfl⟩ := hb
  refine fDiv_some _ _ L M X Y D E w (by omega) (by omega) h1 h2 ?_
  intro hy
  subst hy
  exact h (qv_zero E)
theorem qNeg (va : Value) (L : Nat) (p : Rat) (w : World) (hL : L ≤ 50000000) (ha : FQ w va L p) : Calls Try.prog 19 #[va] w fun e w' => AnsF w w' e (max L 1) (-p) := by
  obtain ⟨X, D, h1, rfl⟩ := ha
  exact fNeg_any _ L X D w (by omega) h1
theorem qSign (va : Value) (L : Nat) (p : Rat) (w : World) (hL : L ≤ 50000000) (ha : FQ w va L p) (s : Int) (h : p.num.sign = s) : Calls Try.prog 23 #[va] w fun e w' => e = .returned (.int .i64 s) ∧ Below w.heap.size w w' := by
  obtain ⟨X, D, h1, rfl⟩ := ha
  exact fSign_is _ L X s D w (by omega) h1 (by rw [← qv_sign X D]; exact h)
theorem qFloor (va : Value) (L : Nat) (p : Rat) (w : World) (hL : L ≤ 50000000) (ha : FQ w va L p) : Calls Try.prog 31 #[va] w fun e w' => AnsNum w w' e (max L 1 + 1) p.floor := by
  obtain ⟨X, D, h1, rfl⟩ := ha
  exact fFloor_any _ L X D w (by omega) h1
theorem qRound (va : Value) (L : Nat) (p : Rat) (w : World) (hL : L ≤ 50000000) (ha : FQ w va L p) : Calls Try.prog 32 #[va] w fun e w' => AnsNum w w' e (max L 1 + 2) (rnd p) := by
  obtain ⟨X, D, h1, rfl⟩ := ha
  exact fRound_any _ L X D w (by omega) h1
theorem fracs_three (w : World) (T : TypeId) {xm : Bool} {xo : Option Addr} {xn xc : Nat} {xp : Option Addr} {xk xd : Nat} {ym : Bool} {yo : Option Addr} {yn yc : Nat} {yp : Option Addr} {yk yd : Nat} {zm : Bool} {zo : Option Addr} {zn zc : Nat} {zp : Option Addr} {zk zd : Nat} {L1 L2 L3 : Nat} {X Y Z : Int} {D E F : Nat} (h1 : FD w (.agg #[.bool xm, .slice xo xn xc, .slice xp xk xd]) L1 X D) (h2 : FD w (.agg #[.bool ym, .slice yo yn yc, .slice yp yk yd]) L2 Y E) (h3 : FD w (.agg #[.bool zm, .slice zo zn zc, .slice zp zk zd]) L3 Z F) :
    Fracs (w.alloc (.cells #[.bool xm, .slice xo xn xc, .slice xp xk xd, .bool ym, .slice yo yn yc, .slice yp yk yd, .bool zm, .slice zo zn zc, .slice zp zk zd] T)) (some ⟨w.heap.size, 0, none⟩) [(L1, X, D), (L2, Y, E), (L3, Z, F)] := by
  have hb : Below w.heap.size w (w.alloc (.cells #[.bool xm, .slice xo xn xc, .slice xp xk xd, .bool ym, .slice yo yn yc, .slice yp yk yd, .bool zm, .slice zo zn zc, .slice zp zk zd] T)) := (Below.refl _ _).alloc (Nat.le_refl _) _
  intro i L U G hi
  have hi2 : i < 3 := by have := (List.getElem?_eq_some_iff.1 hi).1; simpa using this
  obtain rfl | rfl | rfl : i = 0 ∨ i = 1 ∨ i = 2 := by omega
  · simp at hi; obtain ⟨rfl, rfl, rfl⟩ := hi
    exact ⟨_, 0, xm, xo, xn, xc, xp, xk, xd, rfl, by simp [go_sem], by simp [go_sem], by simp [go_sem], h1.below hb⟩
  · simp at hi; obtain ⟨rfl, rfl, rfl⟩ := hi
    exact ⟨_, 0, ym, yo, yn, yc, yp, yk, yd, rfl, by simp [go_sem], by simp [go_sem], by simp [go_sem], h2.below hb⟩
  · simp at hi; obtain ⟨rfl, rfl, rfl⟩ := hi
    exact ⟨_, 0, zm, zo, zn, zc, zp, zk, zd, rfl, by simp [go_sem], by simp [go_sem], by simp [go_sem], h3.below hb⟩
theorem fSum_three (w : World) (T : TypeId) {xm : Bool} {xo : Option Addr} {xn xc : Nat} {xp : Option Addr} {xk xd : Nat} {ym : Bool} {yo : Option Addr} {yn yc : Nat} {yp : Option Addr} {yk yd : Nat} {zm : Bool} {zo : Option Addr} {zn zc : Nat} {zp : Option Addr} {zk zd : Nat} {L1 L2 L3 : Nat} {p q r : Rat} (hL1 : L1 ≤ 1000000) (hL2 : L2 ≤ 1000000) (hL3 : L3 ≤ 1000000) (h1 : FQ w (.agg #[.bool xm, .slice xo xn xc, .slice xp xk xd]) L1 p) (h2 : FQ w (.agg #[.bool ym, .slice yo yn yc, .slice yp yk yd]) L2 q) (h3 : FQ w (.agg #[.bool zm, .slice zo zn zc, .slice zp zk zd]) L3 r) :
    Calls Try.prog 30 #[.slice (some ⟨w.heap.size, 0, none⟩) 3 3] (w.alloc (.cells #[.bool xm, .slice xo xn xc, .slice xp xk xd, .bool ym, .slice yo yn yc, .slice yp yk yd, .bool zm, .slice zo zn zc, .slice zp zk zd] T)) fun e w' => AnsF w w' e (L1 + L2 + L3 + 7) (p + q + r) := by
  obtain ⟨X, D, h1, rfl⟩ := h1
  obtain ⟨Y, E, h2, rfl⟩ := h2
  obtain ⟨Z, F, h3, rfl⟩ := h3
  refine (fSum_go _ 3 3 _ _ rfl (by omega) ?_ (fracs_three w T h1 h2 h3)).mono ?_
  · intro L U G hm; simp at hm; omega
  · rintro e w' h
    obtain ⟨m, ao, n, c, bo, k, d, rfl, h4, h5⟩ := h
    refine ⟨m, ao, n, c, bo, k, d, rfl, (h4.more (by simp [fLen]; omega)).of (by simp [fVal, Rat.zero_add]), ((Below.refl _ _).alloc (Nat.le_refl _) _).trans (h5.mono (by simp))⟩
theorem fSum_none (w : World) : Calls Try.prog 30 #[.slice none 0 0] w fun e w' => AnsF w w' e 1 0 := by
  refine (fSum_go none 0 0 [] w rfl (by omega) (fun L X D hm => by cases hm) (fun i L X D hi => by simp at hi)).mono fun e w' g => g.of ?_ ?_
  · simp [fLen]
  · simp [fVal]
end Go.Proofs.Ytmbmeapodhngaaa
/- The statement FracAdds, walked. -/
namespace Go.Proofs.Ytmbmeapodhngaaa
open Go.RowKit Go.MagM
theorem cross2 (q : Rat) (N : Int) (c d : Nat) (h : q = mkRat N (den1 c * den1 d)) : q.num * (((den1 c : Nat) : Int) * ((den1 d : Nat) : Int)) = N * (q.den : Int) := by
  have := cross q N _ (Nat.mul_ne_zero (den1_ne c) (den1_ne d)) h
  rw [Int.natCast_mul] at this
  exact this
theorem cross1 (q : Rat) (N : Int) (c : Nat) (h : q = mkRat N (den1 c)) : q.num * ((den1 c : Nat) : Int) = N * (q.den : Int) := cross q N _ (den1_ne c) h
theorem qv_sub (X Y : Int) (D E : Nat) : qv X D - qv Y E = mkRat (X * den1 E - Y * den1 D) (den1 D * den1 E) := by
  rw [Rat.sub_eq_add_neg, ← qv_neg', ← qv_add, Int.neg_mul, ← Int.sub_eq_add_neg]
theorem fSame_is (va vb : Value) (L M : Nat) (X Y : Int) (D E : Nat) (c : Int) (b : Bool) (w : World) (hL : L ≤ 500000000) (hM : M ≤ 500000000) (ha : FD w va L X D) (hb : FD w vb M Y E) (hc : qcmp (qv X D) (qv Y E) = c) (h : (c == 0) = b) :
    Calls Try.prog 25 #[va, vb] w fun e w' => e = .returned (.bool b) ∧ Below w.heap.size w w' := by
  by_cases hq : qv X D = qv Y E
  · have h1 : c = 0 := by rw [← hc]; exact qcmp_zero.2 hq
    have h2 : b = true := by rw [← h, h1]; rfl
    subst h2
    exact fSame_yes va vb L M X Y D E w hL hM ha hb hq
  · have h1 : c ≠ 0 := fun e => hq (qcmp_zero.1 (hc.trans e))
    have h2 : b = false := by rw [← h]; simp only [beq_eq_false_iff_ne]; exact h1
    subst h2
    exact fSame_no va vb L M X Y D E w hL hM ha hb hq
set_option maxRecDepth 100000 in
set_option maxHeartbeats 16000000 in
theorem FracAdds_walk (am : Bool) (ao : Option Addr) (an ac : Nat) (ap : Option Addr) (ak ad : Nat) (Xa : Int) (Da : Nat) (bm : Bool) (bo : Option Addr) (bn bc : Nat) (bp : Option Addr) (bk bd : Nat) (Xb : Int) (Db : Nat) (w : World) (fa_0 : FD w (.agg #[.bool am, .slice ao an ac, .slice ap ak ad]) (max an ak) Xa Da) (fb_0 : FD w (.agg #[.bool bm, .slice bo bn bc, .slice bp bk bd]) (max bn bk) Xb Db) :
    Calls Try.prog 3 #[.agg #[.bool am, .slice ao an ac, .slice ap ak ad], .agg #[.bool bm, .slice bo bn bc, .slice bp bk bd]] w fun e w' => e = .returned (.bool true) ∧ Below w.heap.size w w' := by
  have hB_0 := Below.refl w.heap.size w
  obtain ⟨c, hc⟩ : ∃ c, qcmp (qv Xa Da) (qv Xb Db) = c := ⟨_, rfl⟩
  obtain ⟨b, hb⟩ : ∃ b, (c == 0) = b := ⟨_, rfl⟩
  obtain ⟨s, hs⟩ : ∃ s, Xa.sign = s := ⟨_, rfl⟩
  obtain ⟨w1, hw1, pa_0, hb1, hs1⟩ := new_box w (w.heap.size) rfl [.bool am, .slice ao an ac, .slice ap ak ad] 27
  have hb1' : Below w.heap.size w w1 := hb1.mono (by omega)
  clear hb1
  have hB_1 := hB_0.trans (hb1'.mono hB_0.size)
  have fa_1 := fa_0.below hb1'
  have fb_1 := fb_0.below hb1'
  clear hb1' hB_0 fa_0 fb_0
  obtain ⟨w2, hw2, pb_0, hb2, hs2⟩ := new_box w1 (w.heap.size + 1) hs1 [.bool bm, .slice bo bn bc, .slice bp bk bd] 27
  have hb2' : Below w1.heap.size w1 w2 := hb2.mono (by omega)
  clear hb2
  have hB_2 := hB_1.trans (hb2'.mono hB_1.size)
  have fa_2 := fa_1.below hb2'
  have fb_2 := fb_1.below hb2'
  have pa_1 := pa_0.below hb2'
  clear hb2' hB_1 fa_1 fb_1 pa_0
  go_enter Try.func3, Try.ntmps3
  obtain ⟨pae0, pae1, pae2, pae3, pae4, pae5⟩ := pa_1.open3
  obtain ⟨pbe0, pbe1, pbe2, pbe3, pbe4, pbe5⟩ := pb_0.open3
  go_wp2_with fail
  refine (ffit_any _).mono ?_
  rintro e w3 ⟨rfl, hb3⟩
  clear pae0 pae1 pae2 pae3 pae4 pae5 pbe0 pbe1 pbe2 pbe3 pbe4 pbe5
  have hB_3 := hB_2.trans (hb3.mono hB_2.size)
  have fa_3 := fa_2.below hb3
  have fb_3 := fb_2.below hb3
  have pa_2 := pa_1.below hb3
  have pb_1 := pb_0.below hb3
  clear hb3 hB_2 fa_2 fb_2 pa_1 pb_0
  obtain ⟨pae0, pae1, pae2, pae3, pae4, pae5⟩ := pa_2.open3
  obtain ⟨pbe0, pbe1, pbe2, pbe3, pbe4, pbe5⟩ := pb_1.open3
  by_cases hsh : (an ≤ 4 ∧ ak ≤ 4) ∧ (bn ≤ 4 ∧ bk ≤ 4)
  rotate_left
  · skip
    go_wp2_with fail
    refine (fshort2_no 4 _ _ am ao an ac ap ak ad bm bo bn bc bp bk bd (by omega) hsh).mono ?_
    rintro e w4 ⟨rfl, hb4⟩
    clear pae0 pae1 pae2 pae3 pae4 pae5 pbe0 pbe1 pbe2 pbe3 pbe4 pbe5
    have hB_4 := hB_3.trans (hb4.mono hB_3.size)
    have fa_4 := fa_3.below hb4
    have fb_4 := fb_3.below hb4
    have pa_3 := pa_2.below hb4
    have pb_2 := pb_1.below hb4
    clear hb4 hB_3 fa_3 fb_3 pa_2 pb_1
    go_wp2
    go_ret
    exact ⟨rfl, hB_4⟩
  go_wp2_with fail
  refine (fshort2_yes 4 _ _ am ao an ac ap ak ad bm bo bn bc bp bk bd (by omega) hsh).mono ?_
  rintro e w4 ⟨rfl, hb4⟩
  clear pae0 pae1 pae2 pae3 pae4 pae5 pbe0 pbe1 pbe2 pbe3 pbe4 pbe5
  have hB_4 := hB_3.trans (hb4.mono hB_3.size)
  have fa_4 := fa_3.below hb4
  have fb_4 := fb_3.below hb4
  have pa_3 := pa_2.below hb4
  have pb_2 := pb_1.below hb4
  clear hb4 hB_3 fa_3 fb_3 pa_2 pb_1
  obtain ⟨pae0, pae1, pae2, pae3, pae4, pae5⟩ := pa_3.open3
  obtain ⟨pbe0, pbe1, pbe2, pbe3, pbe4, pbe5⟩ := pb_2.open3
  have fa_5 := fa_4.more (L' := 4) (by omega)
  clear fa_4
  have fb_5 := fb_4.more (L' := 4) (by omega)
  clear fb_4
  clear hsh
  clear pae0 pae1 pae2 pae3 pae4 pae5 pbe0 pbe1 pbe2 pbe3 pbe4 pbe5
  go_wp2
  have hWq_0 := Below.refl w4.heap.size w4
  have hsq : w.heap.size ≤ w4.heap.size := hB_4.size
  have hlqpa := pa_3.lt
  have hlqpb := pb_2.lt
  have hB_5 := hB_4.drew'
  have fa_6 := fa_5.drew
  have fb_6 := fb_5.drew
  have pa_4 := pa_3.drew
  have pb_3 := pb_2.drew
  have hWq_1 := hWq_0.drew'
  clear hB_4 fa_5 fb_5 pa_3 pb_2 hWq_0
  refine wp_region_noPanic ?_
  refine wp_region_held_drew (S := fun w' => w'.cell? ⟨w.heap.size, 0, none⟩ = some (.bool am) ∧ w'.cell? ⟨w.heap.size, 1, none⟩ = some (.slice ao an ac) ∧ w'.cell? ⟨w.heap.size, 2, none⟩ = some (.slice ap ak ad) ∧ w'.cell? ⟨w.heap.size + 1, 0, none⟩ = some (.bool bm) ∧ w'.cell? ⟨w.heap.size + 1, 1, none⟩ = some (.slice bo bn bc) ∧ w'.cell? ⟨w.heap.size + 1, 2, none⟩ = some (.slice bp bk bd)) (by kernel_rfl) (⟨pa_4.c0, pa_4.c1, pa_4.c2, pb_3.c0, pb_3.c1, pb_3.c2⟩) (fun hHeld => ?_)
  refine reg_take 0 ?_ ?_ ?_ (by kernel_rfl) (by kernel_rfl) (by kernel_rfl) (fun _ _ _ h => h) ?_ ?_ (by assumption) ?_
  rotate_left 2
  · simp only [List.getElem?_toArray, List.getElem?_cons_zero]; exact rfl
  · rfl
  · intro w hSw; (try dsimp only at hSw); go_simp; try with_reducible rfl
  try simp only [Act.put]
  try simp only [List.setIfInBounds_toArray, List.set_cons_zero, List.set_cons_succ]
  refine reg_take 2 ?_ ?_ ?_ (by kernel_rfl) (by kernel_rfl) (by kernel_rfl) (fun _ _ _ h => h) ?_ ?_ (by assumption) ?_
  rotate_left 2
  · simp only [List.getElem?_toArray, List.getElem?_cons_succ, List.getElem?_cons_zero]; exact rfl
  · rfl
  · intro w hSw; (try dsimp only at hSw); go_simp; try with_reducible rfl
  try simp only [Act.put]
  try simp only [List.setIfInBounds_toArray, List.set_cons_zero, List.set_cons_succ]
  refine reg_grab (fun WWq aq hWW hAA => ?_)
  have HWq := Lib.hid hWW; have HAq := Lib.hid hAA; clear hWW hAA hHeld
  have stq_2tt : ∀ (w' : World) (m1 : Bool) (o1 : Option Addr) (n1 : Nat) (c1 : Nat) (m2 : Bool) (o2 : Option Addr) (n2 : Nat) (c2 : Nat) (gpc : Nat) (gpd : Nat), Below w.heap.size w w' → FD w' (.agg #[.bool am, .slice ao an ac, .slice ap ak ad]) 4 Xa Da → FD w' (.agg #[.bool bm, .slice bo bn bc, .slice bp bk bd]) 4 Xb Db → Box w' (w.heap.size) [.bool am, .slice ao an ac, .slice ap ak ad] → Box w' (w.heap.size + 1) [.bool bm, .slice bo bn bc, .slice bp bk bd] → Below w4.heap.size w4 w' → RNum w' (.agg #[.bool m1, .slice o1 n1 c1]) (max 4 1) ((den1 Da : Nat)) → RNum w' (.agg #[.bool m2, .slice o2 n2 c2]) (max 4 1) ((den1 Db : Nat)) → Box w' gpc [.bool false, .slice none 0 0] → Box w' gpd [.bool false, .slice none 0 0] → w4.heap.size ≤ gpc → w4.heap.size ≤ gpd → gpc ≠ gpd → WWq 2 #[true, true, true, true, true, true, false, false] ((((aq.put (some 18) (.agg #[.bool m1, .slice o1 n1 c1])).put (some 20) (.agg #[.bool m2, .slice o2 n2 c2])).put (some 5) (.pointer (some ⟨gpc, 0, none⟩))).put (some 6) (.pointer (some ⟨gpd, 0, none⟩))) w' := by
    intro w5 m1 o1 n1 c1 m2 o2 n2 c2 gpc gpd hB_0 fa_0 fb_0 pa_0 pb_0 hWq_0 f1_0 f2_0 pc_0 pd_0 hgpc hgpd hnpcpd
    rw [HWq.out, HAq.out]
    try simp only [Act.put]
    try simp only [List.setIfInBounds_toArray, List.set_cons_zero, List.set_cons_succ]
    obtain ⟨sf5a, sf5b, sf5c, sf5d⟩ := pc_0.open2
    obtain ⟨sg5a, sg5b⟩ := Box.put2 pc_0 (.bool m1)
    refine reg_call 6 ?_ (by kernel_rfl) ?_ (fun K hK => ?_)
    rotate_left 1
    · simp only [List.getElem?_toArray, List.getElem?_cons_succ, List.getElem?_cons_zero]; exact rfl
    go_simp
    have hB_1 := below_setAll hB_0 (g := gpc) (by omega) [.bool m1, .slice o1 n1 c1]
    have fa_1 := fa_0.setAll pc_0 (noWord2 _ _ _ _) [.bool m1, .slice o1 n1 c1] rfl
    have fb_1 := fb_0.setAll pc_0 (noWord2 _ _ _ _) [.bool m1, .slice o1 n1 c1] rfl
    have pa_1 := pa_0.farAll (g' := gpc) (by omega) [.bool m1, .slice o1 n1 c1]
    have pb_1 := pb_0.farAll (g' := gpc) (by omega) [.bool m1, .slice o1 n1 c1]
    have hWq_1 := below_setAll hWq_0 (g := gpc) (by omega) [.bool m1, .slice o1 n1 c1]
    have f1_1 := f1_0.setAll pc_0 (noWord2 _ _ _ _) [.bool m1, .slice o1 n1 c1] rfl
    have f2_1 := f2_0.setAll pc_0 (noWord2 _ _ _ _) [.bool m1, .slice o1 n1 c1] rfl
    have pd_1 := pd_0.farAll (g' := gpc) (by omega) [.bool m1, .slice o1 n1 c1]
    have pc_1 := pc_0.setAll [.bool m1, .slice o1 n1 c1] rfl
    simp only [setAll, Nat.zero_add] at hB_1 fa_1 fb_1 pa_1 pb_1 hWq_1 f1_1 f2_1 pc_1 pd_1
    clear sf5a sf5b sf5c sf5d sg5a sg5b
    clear hB_0 fa_0 fb_0 pa_0 pb_0 hWq_0 f1_0 f2_0 pd_0 pc_0
    refine hK.out _ _ ⟨pa_1.c0, pa_1.c1, pa_1.c2, pb_1.c0, pb_1.c1, pb_1.c2⟩ (fun hHeld => ?_)
    clear hK K hHeld
    try simp only [Act.put]
    try simp only [List.setIfInBounds_toArray, List.set_cons_zero, List.set_cons_succ]
    generalize (World.setCell (World.setCell w5 ⟨gpc, 0, none⟩ (.bool m1)) ⟨gpc, 1, none⟩ (.slice o1 n1 c1)) = w6 at *
    obtain ⟨sf6a, sf6b, sf6c, sf6d⟩ := pd_1.open2
    obtain ⟨sg6a, sg6b⟩ := Box.put2 pd_1 (.bool m2)
    refine reg_call 7 ?_ (by kernel_rfl) ?_ (fun K hK => ?_)
    rotate_left 1
    · simp only [List.getElem?_toArray, List.getElem?_cons_succ, List.getElem?_cons_zero]; exact rfl
    go_simp
    have hB_2 := below_setAll hB_1 (g := gpd) (by omega) [.bool m2, .slice o2 n2 c2]
    have fa_2 := fa_1.setAll pd_1 (noWord2 _ _ _ _) [.bool m2, .slice o2 n2 c2] rfl
    have fb_2 := fb_1.setAll pd_1 (noWord2 _ _ _ _) [.bool m2, .slice o2 n2 c2] rfl
    have pa_2 := pa_1.farAll (g' := gpd) (by omega) [.bool m2, .slice o2 n2 c2]
    have pb_2 := pb_1.farAll (g' := gpd) (by omega) [.bool m2, .slice o2 n2 c2]
    have hWq_2 := below_setAll hWq_1 (g := gpd) (by omega) [.bool m2, .slice o2 n2 c2]
    have f1_2 := f1_1.setAll pd_1 (noWord2 _ _ _ _) [.bool m2, .slice o2 n2 c2] rfl
    have f2_2 := f2_1.setAll pd_1 (noWord2 _ _ _ _) [.bool m2, .slice o2 n2 c2] rfl
    have pc_2 := pc_1.farAll (g' := gpd) (by omega) [.bool m2, .slice o2 n2 c2]
    have pd_2 := pd_1.setAll [.bool m2, .slice o2 n2 c2] rfl
    simp only [setAll, Nat.zero_add] at hB_2 fa_2 fb_2 pa_2 pb_2 hWq_2 f1_2 f2_2 pc_2 pd_2
    clear sf6a sf6b sf6c sf6d sg6a sg6b
    clear hB_1 fa_1 fb_1 pa_1 pb_1 hWq_1 f1_1 f2_1 pc_1 pd_1
    refine hK.out _ _ ⟨pa_2.c0, pa_2.c1, pa_2.c2, pb_2.c0, pb_2.c1, pb_2.c2⟩ (fun hHeld => ?_)
    clear hK K hHeld
    try simp only [Act.put]
    try simp only [List.setIfInBounds_toArray, List.set_cons_zero, List.set_cons_succ]
    generalize (World.setCell (World.setCell w6 ⟨gpd, 0, none⟩ (.bool m2)) ⟨gpd, 1, none⟩ (.slice o2 n2 c2)) = w7 at *
    refine wpAnyH_done (by kernel_rfl) ?_ _
    refine NoPanic.normal ?_
    clear hWq_2
    obtain ⟨pce0, pce1, pce2, pce3⟩ := pc_2.open2
    obtain ⟨pde0, pde1, pde2, pde3⟩ := pd_2.open2
    go_wp2_with fail
    refine (nMul_any _ _ (max 4 1) (max 4 1) _ _ _ (by omega) (by omega) f1_2.num f2_2.num).mono ?_
    rintro e w8 ⟨m3, o3, n3, c3, rfl, f3_0, hb8⟩
    clear pce0 pce1 pce2 pce3 pde0 pde1 pde2 pde3
    have hB_3 := hB_2.trans (hb8.mono hB_2.size)
    have fa_3 := fa_2.below hb8
    have fb_3 := fb_2.below hb8
    have pa_3 := pa_2.below hb8
    have pb_3 := pb_2.below hb8
    have f1_3 := f1_2.below hb8
    have f2_3 := f2_2.below hb8
    have pc_3 := pc_2.below hb8
    have pd_3 := pd_2.below hb8
    clear hb8 hB_2 fa_2 fb_2 pa_2 pb_2 f1_2 f2_2 pc_2 pd_2
    obtain ⟨pce0, pce1, pce2, pce3⟩ := pc_3.open2
    obtain ⟨pde0, pde1, pde2, pde3⟩ := pd_3.open2
    clear pce0 pce1 pce2 pce3 pde0 pde1 pde2 pde3
    have hl1pa := pa_3.lt
    have hl1pb := pb_3.lt
    have hl1pc := pc_3.lt
    have hl1pd := pd_3.lt
    have hl1B := hB_3.size
    obtain ⟨w9, hw9, pw_0, hb9, hs9⟩ := new_box w8 (w8.heap.size) rfl [.bool m3, .slice o3 n3 c3] 25
    have hb9' : Below w8.heap.size w8 w9 := hb9.mono (by omega)
    clear hb9
    have hB_4 := hB_3.trans (hb9'.mono hB_3.size)
    have fa_4 := fa_3.below hb9'
    have fb_4 := fb_3.below hb9'
    have pa_4 := pa_3.below hb9'
    have pb_4 := pb_3.below hb9'
    have f1_4 := f1_3.below hb9'
    have f2_4 := f2_3.below hb9'
    have pc_4 := pc_3.below hb9'
    have pd_4 := pd_3.below hb9'
    have f3_1 := f3_0.below hb9'
    clear hb9' hB_3 fa_3 fb_3 pa_3 pb_3 f1_3 f2_3 pc_3 pd_3 f3_0
    go_wp2
    try rw [hw9]
    have hWu_0 := Below.refl w9.heap.size w9
    have hsu : w.heap.size ≤ w9.heap.size := hB_4.size
    have hlupa := pa_4.lt
    have hlupb := pb_4.lt
    have hlupc := pc_4.lt
    have hlupd := pd_4.lt
    have hlupw := pw_0.lt
    have hB_5 := hB_4.drew'
    have fa_5 := fa_4.drew
    have fb_5 := fb_4.drew
    have pa_5 := pa_4.drew
    have pb_5 := pb_4.drew
    have f1_5 := f1_4.drew
    have f2_5 := f2_4.drew
    have pc_5 := pc_4.drew
    have pd_5 := pd_4.drew
    have f3_2 := f3_1.drew
    have pw_1 := pw_0.drew
    have hWu_1 := hWu_0.drew'
    clear hB_4 fa_4 fb_4 pa_4 pb_4 f1_4 f2_4 pc_4 pd_4 f3_1 pw_0 hWu_0
    refine wp_region_noPanic ?_
    refine wp_region_held_drew (S := fun w' => w'.cell? ⟨w.heap.size, 0, none⟩ = some (.bool am) ∧ w'.cell? ⟨w.heap.size, 1, none⟩ = some (.slice ao an ac) ∧ w'.cell? ⟨w.heap.size, 2, none⟩ = some (.slice ap ak ad) ∧ w'.cell? ⟨w.heap.size + 1, 0, none⟩ = some (.bool bm) ∧ w'.cell? ⟨w.heap.size + 1, 1, none⟩ = some (.slice bo bn bc) ∧ w'.cell? ⟨w.heap.size + 1, 2, none⟩ = some (.slice bp bk bd) ∧ w'.cell? ⟨gpc, 0, none⟩ = some (.bool m1) ∧ w'.cell? ⟨gpc, 1, none⟩ = some (.slice o1 n1 c1) ∧ w'.cell? ⟨gpd, 0, none⟩ = some (.bool m2) ∧ w'.cell? ⟨gpd, 1, none⟩ = some (.slice o2 n2 c2)) (by kernel_rfl) (⟨pa_5.c0, pa_5.c1, pa_5.c2, pb_5.c0, pb_5.c1, pb_5.c2, pc_5.c0, pc_5.c1, pd_5.c0, pd_5.c1⟩) (fun hHeld => ?_)
    refine reg_take 0 ?_ ?_ ?_ (by kernel_rfl) (by kernel_rfl) (by kernel_rfl) (fun _ _ _ h => h) ?_ ?_ (by assumption) ?_
    rotate_left 2
    · simp only [List.getElem?_toArray, List.getElem?_cons_zero]; exact rfl
    · rfl
    · intro w hSw; (try dsimp only at hSw); go_simp; try with_reducible rfl
    try simp only [Act.put]
    try simp only [List.setIfInBounds_toArray, List.set_cons_zero, List.set_cons_succ]
    refine reg_take 1 ?_ ?_ ?_ (by kernel_rfl) (by kernel_rfl) (by kernel_rfl) (fun _ _ _ h => h) ?_ ?_ (by assumption) ?_
    rotate_left 2
    · simp only [List.getElem?_toArray, List.getElem?_cons_succ, List.getElem?_cons_zero]; exact rfl
    · rfl
    · intro w hSw; (try dsimp only at hSw); go_simp; try with_reducible rfl
    try simp only [Act.put]
    try simp only [List.setIfInBounds_toArray, List.set_cons_zero, List.set_cons_succ]
    refine reg_take 2 ?_ ?_ ?_ (by kernel_rfl) (by kernel_rfl) (by kernel_rfl) (fun _ _ _ h => h) ?_ ?_ (by assumption) ?_
    rotate_left 2
    · simp only [List.getElem?_toArray, List.getElem?_cons_succ, List.getElem?_cons_zero]; exact rfl
    · rfl
    · intro w hSw; (try dsimp only at hSw); go_simp; try with_reducible rfl
    try simp only [Act.put]
    try simp only [List.setIfInBounds_toArray, List.set_cons_zero, List.set_cons_succ]
    refine reg_take 4 ?_ ?_ ?_ (by kernel_rfl) (by kernel_rfl) (by kernel_rfl) (fun _ _ _ h => h) ?_ ?_ (by assumption) ?_
    rotate_left 2
    · simp only [List.getElem?_toArray, List.getElem?_cons_succ, List.getElem?_cons_zero]; exact rfl
    · rfl
    · intro w hSw; (try dsimp only at hSw); go_simp; try with_reducible rfl
    try simp only [Act.put]
    try simp only [List.setIfInBounds_toArray, List.set_cons_zero, List.set_cons_succ]
    refine reg_take 5 ?_ ?_ ?_ (by kernel_rfl) (by kernel_rfl) (by kernel_rfl) (fun _ _ _ h => h) ?_ ?_ (by assumption) ?_
    rotate_left 2
    · simp only [List.getElem?_toArray, List.getElem?_cons_succ, List.getElem?_cons_zero]; exact rfl
    · rfl
    · intro w hSw; (try dsimp only at hSw); go_simp; try with_reducible rfl
    try simp only [Act.put]
    try simp only [List.setIfInBounds_toArray, List.set_cons_zero, List.set_cons_succ]
    refine reg_take 6 ?_ ?_ ?_ (by kernel_rfl) (by kernel_rfl) (by kernel_rfl) (fun _ _ _ h => h) ?_ ?_ (by assumption) ?_
    rotate_left 2
    · simp only [List.getElem?_toArray, List.getElem?_cons_succ, List.getElem?_cons_zero]; exact rfl
    · rfl
    · intro w hSw; (try dsimp only at hSw); go_simp; try with_reducible rfl
    try simp only [Act.put]
    try simp only [List.setIfInBounds_toArray, List.set_cons_zero, List.set_cons_succ]
    refine reg_grab (fun WWu au hWW hAA => ?_)
    have HWu := Lib.hid hWW; have HAu := Lib.hid hAA; clear hWW hAA hHeld
    have stu_2tt : ∀ (w' : World) (m4 : Bool) (o4 : Option Addr) (n4 : Nat) (c4 : Nat) (m5 : Bool) (o5 : Option Addr) (n5 : Nat) (c5 : Nat) (gpx : Nat) (gpy : Nat), Below w.heap.size w w' → FD w' (.agg #[.bool am, .slice ao an ac, .slice ap ak ad]) 4 Xa Da → FD w' (.agg #[.bool bm, .slice bo bn bc, .slice bp bk bd]) 4 Xb Db → Box w' (w.heap.size) [.bool am, .slice ao an ac, .slice ap ak ad] → Box w' (w.heap.size + 1) [.bool bm, .slice bo bn bc, .slice bp bk bd] → RNum w' (.agg #[.bool m1, .slice o1 n1 c1]) (max 4 1) ((den1 Da : Nat) : Int) → RNum w' (.agg #[.bool m2, .slice o2 n2 c2]) (max 4 1) ((den1 Db : Nat) : Int) → Box w' (gpc) [.bool m1, .slice o1 n1 c1] → Box w' (gpd) [.bool m2, .slice o2 n2 c2] → RNum w' (.agg #[.bool m3, .slice o3 n3 c3]) (max 4 1 + max 4 1) (((den1 Da : Nat) : Int) * ((den1 Db : Nat) : Int)) → Box w' (w8.heap.size) [.bool m3, .slice o3 n3 c3] → Below w9.heap.size w9 w' → RNum w' (.agg #[.bool m4, .slice o4 n4 c4]) (4 + max 4 1) (Xa * ((den1 Db : Nat) : Int)) → RNum w' (.agg #[.bool m5, .slice o5 n5 c5]) (4 + max 4 1) (Xb * ((den1 Da : Nat) : Int)) → Box w' gpx [.bool false, .slice none 0 0] → Box w' gpy [.bool false, .slice none 0 0] → w9.heap.size ≤ gpx → w9.heap.size ≤ gpy → gpx ≠ gpy → WWu 2 #[true, true, true, true, true, true, true, true, true, true, false, false] ((((au.put (some 27) (.agg #[.bool m4, .slice o4 n4 c4])).put (some 31) (.agg #[.bool m5, .slice o5 n5 c5])).put (some 8) (.pointer (some ⟨gpx, 0, none⟩))).put (some 9) (.pointer (some ⟨gpy, 0, none⟩))) w' := by
      intro w10 m4 o4 n4 c4 m5 o5 n5 c5 gpx gpy hB_0 fa_0 fb_0 pa_0 pb_0 f1_0 f2_0 pc_0 pd_0 f3_0 pw_0 hWu_0 f4_0 f5_0 px_0 py_0 hgpx hgpy hnpxpy
      rw [HWu.out, HAu.out]
      try simp only [Act.put]
      try simp only [List.setIfInBounds_toArray, List.set_cons_zero, List.set_cons_succ]
      obtain ⟨sf10a, sf10b, sf10c, sf10d⟩ := px_0.open2
      obtain ⟨sg10a, sg10b⟩ := Box.put2 px_0 (.bool m4)
      refine reg_call 10 ?_ (by kernel_rfl) ?_ (fun K hK => ?_)
      rotate_left 1
      · simp only [List.getElem?_toArray, List.getElem?_cons_succ, List.getElem?_cons_zero]; exact rfl
      go_simp
      have hB_1 := below_setAll hB_0 (g := gpx) (by omega) [.bool m4, .slice o4 n4 c4]
      have fa_1 := fa_0.setAll px_0 (noWord2 _ _ _ _) [.bool m4, .slice o4 n4 c4] rfl
      have fb_1 := fb_0.setAll px_0 (noWord2 _ _ _ _) [.bool m4, .slice o4 n4 c4] rfl
      have pa_1 := pa_0.farAll (g' := gpx) (by omega) [.bool m4, .slice o4 n4 c4]
      have pb_1 := pb_0.farAll (g' := gpx) (by omega) [.bool m4, .slice o4 n4 c4]
      have f1_1 := f1_0.setAll px_0 (noWord2 _ _ _ _) [.bool m4, .slice o4 n4 c4] rfl
      have f2_1 := f2_0.setAll px_0 (noWord2 _ _ _ _) [.bool m4, .slice o4 n4 c4] rfl
      have pc_1 := pc_0.farAll (g' := gpx) (by omega) [.bool m4, .slice o4 n4 c4]
      have pd_1 := pd_0.farAll (g' := gpx) (by omega) [.bool m4, .slice o4 n4 c4]
      have f3_1 := f3_0.setAll px_0 (noWord2 _ _ _ _) [.bool m4, .slice o4 n4 c4] rfl
      have pw_1 := pw_0.farAll (g' := gpx) (by omega) [.bool m4, .slice o4 n4 c4]
      have hWu_1 := below_setAll hWu_0 (g := gpx) (by omega) [.bool m4, .slice o4 n4 c4]
      have f4_1 := f4_0.setAll px_0 (noWord2 _ _ _ _) [.bool m4, .slice o4 n4 c4] rfl
      have f5_1 := f5_0.setAll px_0 (noWord2 _ _ _ _) [.bool m4, .slice o4 n4 c4] rfl
      have py_1 := py_0.farAll (g' := gpx) (by omega) [.bool m4, .slice o4 n4 c4]
      have px_1 := px_0.setAll [.bool m4, .slice o4 n4 c4] rfl
      simp only [setAll, Nat.zero_add] at hB_1 fa_1 fb_1 pa_1 pb_1 f1_1 f2_1 pc_1 pd_1 f3_1 pw_1 hWu_1 f4_1 f5_1 px_1 py_1
      clear sf10a sf10b sf10c sf10d sg10a sg10b
      clear hB_0 fa_0 fb_0 pa_0 pb_0 f1_0 f2_0 pc_0 pd_0 f3_0 pw_0 hWu_0 f4_0 f5_0 py_0 px_0
      refine hK.out _ _ ⟨pa_1.c0, pa_1.c1, pa_1.c2, pb_1.c0, pb_1.c1, pb_1.c2, pc_1.c0, pc_1.c1, pd_1.c0, pd_1.c1⟩ (fun hHeld => ?_)
      clear hK K hHeld
      try simp only [Act.put]
      try simp only [List.setIfInBounds_toArray, List.set_cons_zero, List.set_cons_succ]
      generalize (World.setCell (World.setCell w10 ⟨gpx, 0, none⟩ (.bool m4)) ⟨gpx, 1, none⟩ (.slice o4 n4 c4)) = w11 at *
      obtain ⟨sf11a, sf11b, sf11c, sf11d⟩ := py_1.open2
      obtain ⟨sg11a, sg11b⟩ := Box.put2 py_1 (.bool m5)
      refine reg_call 11 ?_ (by kernel_rfl) ?_ (fun K hK => ?_)
      rotate_left 1
      · simp only [List.getElem?_toArray, List.getElem?_cons_succ, List.getElem?_cons_zero]; exact rfl
      go_simp
      have hB_2 := below_setAll hB_1 (g := gpy) (by omega) [.bool m5, .slice o5 n5 c5]
      have fa_2 := fa_1.setAll py_1 (noWord2 _ _ _ _) [.bool m5, .slice o5 n5 c5] rfl
      have fb_2 := fb_1.setAll py_1 (noWord2 _ _ _ _) [.bool m5, .slice o5 n5 c5] rfl
      have pa_2 := pa_1.farAll (g' := gpy) (by omega) [.bool m5, .slice o5 n5 c5]
      have pb_2 := pb_1.farAll (g' := gpy) (by omega) [.bool m5, .slice o5 n5 c5]
      have f1_2 := f1_1.setAll py_1 (noWord2 _ _ _ _) [.bool m5, .slice o5 n5 c5] rfl
      have f2_2 := f2_1.setAll py_1 (noWord2 _ _ _ _) [.bool m5, .slice o5 n5 c5] rfl
      have pc_2 := pc_1.farAll (g' := gpy) (by omega) [.bool m5, .slice o5 n5 c5]
      have pd_2 := pd_1.farAll (g' := gpy) (by omega) [.bool m5, .slice o5 n5 c5]
      have f3_2 := f3_1.setAll py_1 (noWord2 _ _ _ _) [.bool m5, .slice o5 n5 c5] rfl
      have pw_2 := pw_1.farAll (g' := gpy) (by omega) [.bool m5, .slice o5 n5 c5]
      have hWu_2 := below_setAll hWu_1 (g := gpy) (by omega) [.bool m5, .slice o5 n5 c5]
      have f4_2 := f4_1.setAll py_1 (noWord2 _ _ _ _) [.bool m5, .slice o5 n5 c5] rfl
      have f5_2 := f5_1.setAll py_1 (noWord2 _ _ _ _) [.bool m5, .slice o5 n5 c5] rfl
      have px_2 := px_1.farAll (g' := gpy) (by omega) [.bool m5, .slice o5 n5 c5]
      have py_2 := py_1.setAll [.bool m5, .slice o5 n5 c5] rfl
      simp only [setAll, Nat.zero_add] at hB_2 fa_2 fb_2 pa_2 pb_2 f1_2 f2_2 pc_2 pd_2 f3_2 pw_2 hWu_2 f4_2 f5_2 px_2 py_2
      clear sf11a sf11b sf11c sf11d sg11a sg11b
      clear hB_1 fa_1 fb_1 pa_1 pb_1 f1_1 f2_1 pc_1 pd_1 f3_1 pw_1 hWu_1 f4_1 f5_1 px_1 py_1
      refine hK.out _ _ ⟨pa_2.c0, pa_2.c1, pa_2.c2, pb_2.c0, pb_2.c1, pb_2.c2, pc_2.c0, pc_2.c1, pd_2.c0, pd_2.c1⟩ (fun hHeld => ?_)
      clear hK K hHeld
      try simp only [Act.put]
      try simp only [List.setIfInBounds_toArray, List.set_cons_zero, List.set_cons_succ]
      generalize (World.setCell (World.setCell w11 ⟨gpy, 0, none⟩ (.bool m5)) ⟨gpy, 1, none⟩ (.slice o5 n5 c5)) = w12 at *
      refine wpAnyH_done (by kernel_rfl) ?_ _
      refine NoPanic.normal ?_
      clear hWu_2
      go_wp2
      have hB_3 := hB_2.drew'
      have fa_3 := fa_2.drew
      have fb_3 := fb_2.drew
      have pa_3 := pa_2.drew
      have pb_3 := pb_2.drew
      have f1_3 := f1_2.drew
      have f2_3 := f2_2.drew
      have pc_3 := pc_2.drew
      have pd_3 := pd_2.drew
      have f3_3 := f3_2.drew
      have pw_3 := pw_2.drew
      have f4_3 := f4_2.drew
      have f5_3 := f5_2.drew
      have px_3 := px_2.drew
      have py_3 := py_2.drew
      clear hB_2 fa_2 fb_2 pa_2 pb_2 f1_2 f2_2 pc_2 pd_2 f3_2 pw_2 f4_2 f5_2 px_2 py_2
      go_region_held3 (fun w' => w'.cell? ⟨w.heap.size, 0, none⟩ = some (.bool am) ∧ w'.cell? ⟨w.heap.size, 1, none⟩ = some (.slice ao an ac) ∧ w'.cell? ⟨w.heap.size, 2, none⟩ = some (.slice ap ak ad) ∧ w'.cell? ⟨w.heap.size + 1, 0, none⟩ = some (.bool bm) ∧ w'.cell? ⟨w.heap.size + 1, 1, none⟩ = some (.slice bo bn bc) ∧ w'.cell? ⟨w.heap.size + 1, 2, none⟩ = some (.slice bp bk bd) ∧ w'.cell? ⟨w8.heap.size, 0, none⟩ = some (.bool m3) ∧ w'.cell? ⟨w8.heap.size, 1, none⟩ = some (.slice o3 n3 c3) ∧ w'.cell? ⟨gpx, 0, none⟩ = some (.bool m4) ∧ w'.cell? ⟨gpx, 1, none⟩ = some (.slice o4 n4 c4) ∧ w'.cell? ⟨gpy, 0, none⟩ = some (.bool m5) ∧ w'.cell? ⟨gpy, 1, none⟩ = some (.slice o5 n5 c5))
        (first | with_reducible exact ⟨pa_3.c0, pa_3.c1, pa_3.c2, pb_3.c0, pb_3.c1, pb_3.c2, pw_3.c0, pw_3.c1, px_3.c0, px_3.c1, py_3.c0, py_3.c1⟩ | with_reducible exact ⟨pa_4.c0, pa_4.c1, pa_4.c2, pb_4.c0, pb_4.c1, pb_4.c2, pw_4.c0, pw_4.c1, px_4.c0, px_4.c1, py_4.c0, py_4.c1⟩ | with_reducible exact ⟨pa_5.c0, pa_5.c1, pa_5.c2, pb_5.c0, pb_5.c1, pb_5.c2, pw_5.c0, pw_5.c1, px_5.c0, px_5.c1, py_5.c0, py_5.c1⟩ | with_reducible exact ⟨pa_6.c0, pa_6.c1, pa_6.c2, pb_6.c0, pb_6.c1, pb_6.c2, pw_6.c0, pw_6.c1, px_6.c0, px_6.c1, py_6.c0, py_6.c1⟩ | with_reducible exact ⟨pa_7.c0, pa_7.c1, pa_7.c2, pb_7.c0, pb_7.c1, pb_7.c2, pw_7.c0, pw_7.c1, px_7.c0, px_7.c1, py_7.c0, py_7.c1⟩ | with_reducible exact ⟨pa_8.c0, pa_8.c1, pa_8.c2, pb_8.c0, pb_8.c1, pb_8.c2, pw_8.c0, pw_8.c1, px_8.c0, px_8.c1, py_8.c0, py_8.c1⟩ | with_reducible exact ⟨pa_9.c0, pa_9.c1, pa_9.c2, pb_9.c0, pb_9.c1, pb_9.c2, pw_9.c0, pw_9.c1, px_9.c0, px_9.c1, py_9.c0, py_9.c1⟩ | with_reducible exact ⟨pa_10.c0, pa_10.c1, pa_10.c2, pb_10.c0, pb_10.c1, pb_10.c2, pw_10.c0, pw_10.c1, px_10.c0, px_10.c1, py_10.c0, py_10.c1⟩ | with_reducible exact ⟨pa_11.c0, pa_11.c1, pa_11.c2, pb_11.c0, pb_11.c1, pb_11.c2, pw_11.c0, pw_11.c1, px_11.c0, px_11.c1, py_11.c0, py_11.c1⟩ | with_reducible exact ⟨pa_12.c0, pa_12.c1, pa_12.c2, pb_12.c0, pb_12.c1, pb_12.c2, pw_12.c0, pw_12.c1, px_12.c0, px_12.c1, py_12.c0, py_12.c1⟩ | fail)
        (first
          | (go_at_call 14; (with_reducible refine (fAdd_any _ _ 4 4 Xa Xb Da Db _ (by omega) (by omega) fa_3 fb_3).mono ?_); rintro e w13 ⟨m6, o6, n6, c6, p6, k6, d6, rfl, f6_0, hb13⟩; have hB_4 := hB_3.trans (hb13.mono hB_3.size); have fa_4 := fa_3.below hb13; have fb_4 := fb_3.below hb13; have pa_4 := pa_3.below hb13; have pb_4 := pb_3.below hb13; have f1_4 := f1_3.below hb13; have f2_4 := f2_3.below hb13; have pc_4 := pc_3.below hb13; have pd_4 := pd_3.below hb13; have f3_4 := f3_3.below hb13; have pw_4 := pw_3.below hb13; have f4_4 := f4_3.below hb13; have f5_4 := f5_3.below hb13; have px_4 := px_3.below hb13; have py_4 := py_3.below hb13; clear hb13 hB_3 fa_3 fb_3 pa_3 pb_3 f1_3 f2_3 pc_3 pd_3 f3_3 pw_3 f4_3 f5_3 px_3 py_3)
          | (go_at_call 15; (with_reducible refine (nAdd_any _ _ (4 + max 4 1) (4 + max 4 1) _ _ _ (by omega) (by omega) f4_4.num f5_4.num).mono ?_); rintro e w14 ⟨m7, o7, n7, c7, rfl, f7_0, hb14⟩; have hB_5 := hB_4.trans (hb14.mono hB_4.size); have fa_5 := fa_4.below hb14; have fb_5 := fb_4.below hb14; have pa_5 := pa_4.below hb14; have pb_5 := pb_4.below hb14; have f1_5 := f1_4.below hb14; have f2_5 := f2_4.below hb14; have pc_5 := pc_4.below hb14; have pd_5 := pd_4.below hb14; have f3_5 := f3_4.below hb14; have pw_5 := pw_4.below hb14; have f4_5 := f4_4.below hb14; have f5_5 := f5_4.below hb14; have px_5 := px_4.below hb14; have py_5 := py_4.below hb14; have f6_1 := f6_0.below hb14; clear hb14 hB_4 fa_4 fb_4 pa_4 pb_4 f1_4 f2_4 pc_4 pd_4 f3_4 pw_4 f4_4 f5_4 px_4 py_4 f6_0)
          | (go_at_call 13; (with_reducible refine (fis_any _ _ _ (4 + 4 + 2) (max (4 + max 4 1) (4 + max 4 1) + 1) (max 4 1 + max 4 1) (qv Xa Da + qv Xb Db) (Xa * ((den1 Db : Nat) : Int) + Xb * ((den1 Da : Nat) : Int)) (((den1 Da : Nat) : Int) * ((den1 Db : Nat) : Int)) _ (by omega) (by omega) (by omega) f6_1 f7_0.num f3_5.num (cross2 _ _ Da Db (qv_add Xa Xb Da Db).symm)).mono ?_); rintro e w15 ⟨rfl, hb15⟩; have hB_6 := hB_5.trans (hb15.mono hB_5.size); have fa_6 := fa_5.below hb15; have fb_6 := fb_5.below hb15; have pa_6 := pa_5.below hb15; have pb_6 := pb_5.below hb15; have f1_6 := f1_5.below hb15; have f2_6 := f2_5.below hb15; have pc_6 := pc_5.below hb15; have pd_6 := pd_5.below hb15; have f3_6 := f3_5.below hb15; have pw_6 := pw_5.below hb15; have f4_6 := f4_5.below hb15; have f5_6 := f5_5.below hb15; have px_6 := px_5.below hb15; have py_6 := py_5.below hb15; clear hb15 hB_5 fa_5 fb_5 pa_5 pb_5 f1_5 f2_5 pc_5 pd_5 f3_5 pw_5 f4_5 f5_5 px_5 py_5 f6_1 f7_0)
          | (go_at_call 16; (with_reducible refine (fSub_any _ _ 4 4 Xa Xb Da Db _ (by omega) (by omega) fa_6 fb_6).mono ?_); rintro e w16 ⟨m8, o8, n8, c8, p8, k8, d8, rfl, f8_0, hb16⟩; have hB_7 := hB_6.trans (hb16.mono hB_6.size); have fa_7 := fa_6.below hb16; have fb_7 := fb_6.below hb16; have pa_7 := pa_6.below hb16; have pb_7 := pb_6.below hb16; have f1_7 := f1_6.below hb16; have f2_7 := f2_6.below hb16; have pc_7 := pc_6.below hb16; have pd_7 := pd_6.below hb16; have f3_7 := f3_6.below hb16; have pw_7 := pw_6.below hb16; have f4_7 := f4_6.below hb16; have f5_7 := f5_6.below hb16; have px_7 := px_6.below hb16; have py_7 := py_6.below hb16; clear hb16 hB_6 fa_6 fb_6 pa_6 pb_6 f1_6 f2_6 pc_6 pd_6 f3_6 pw_6 f4_6 f5_6 px_6 py_6)
          | (go_at_call 17; (with_reducible refine (nSub_any _ _ (4 + max 4 1) (4 + max 4 1) _ _ _ (by omega) (by omega) f4_7.num f5_7.num).mono ?_); rintro e w17 ⟨m9, o9, n9, c9, rfl, f9_0, hb17⟩; have hB_8 := hB_7.trans (hb17.mono hB_7.size); have fa_8 := fa_7.below hb17; have fb_8 := fb_7.below hb17; have pa_8 := pa_7.below hb17; have pb_8 := pb_7.below hb17; have f1_8 := f1_7.below hb17; have f2_8 := f2_7.below hb17; have pc_8 := pc_7.below hb17; have pd_8 := pd_7.below hb17; have f3_8 := f3_7.below hb17; have pw_8 := pw_7.below hb17; have f4_8 := f4_7.below hb17; have f5_8 := f5_7.below hb17; have px_8 := px_7.below hb17; have py_8 := py_7.below hb17; have f8_1 := f8_0.below hb17; clear hb17 hB_7 fa_7 fb_7 pa_7 pb_7 f1_7 f2_7 pc_7 pd_7 f3_7 pw_7 f4_7 f5_7 px_7 py_7 f8_0)
          | (go_at_call 13; (with_reducible refine (fis_any _ _ _ (4 + 4 + 2) (max (4 + max 4 1) (4 + max 4 1) + 1) (max 4 1 + max 4 1) (qv Xa Da - qv Xb Db) (Xa * ((den1 Db : Nat) : Int) - Xb * ((den1 Da : Nat) : Int)) (((den1 Da : Nat) : Int) * ((den1 Db : Nat) : Int)) _ (by omega) (by omega) (by omega) f8_1 f9_0.num f3_8.num (cross2 _ _ Da Db (qv_sub Xa Xb Da Db))).mono ?_); rintro e w18 ⟨rfl, hb18⟩; have hB_9 := hB_8.trans (hb18.mono hB_8.size); have fa_9 := fa_8.below hb18; have fb_9 := fb_8.below hb18; have pa_9 := pa_8.below hb18; have pb_9 := pb_8.below hb18; have f1_9 := f1_8.below hb18; have f2_9 := f2_8.below hb18; have pc_9 := pc_8.below hb18; have pd_9 := pd_8.below hb18; have f3_9 := f3_8.below hb18; have pw_9 := pw_8.below hb18; have f4_9 := f4_8.below hb18; have f5_9 := f5_8.below hb18; have px_9 := px_8.below hb18; have py_9 := py_8.below hb18; clear hb18 hB_8 fa_8 fb_8 pa_8 pb_8 f1_8 f2_8 pc_8 pd_8 f3_8 pw_8 f4_8 f5_8 px_8 py_8 f8_1 f9_0)
          | (go_at_call 18; (with_reducible refine (fMul_any _ _ 4 4 Xa Xb Da Db _ (by omega) (by omega) fa_9 fb_9).mono ?_); rintro e w19 ⟨m10, o10, n10, c10, p10, k10, d10, rfl, f10_0, hb19⟩; have hB_10 := hB_9.trans (hb19.mono hB_9.size); have fa_10 := fa_9.below hb19; have fb_10 := fb_9.below hb19; have pa_10 := pa_9.below hb19; have pb_10 := pb_9.below hb19; have f1_10 := f1_9.below hb19; have f2_10 := f2_9.below hb19; have pc_10 := pc_9.below hb19; have pd_10 := pd_9.below hb19; have f3_10 := f3_9.below hb19; have pw_10 := pw_9.below hb19; have f4_10 := f4_9.below hb19; have f5_10 := f5_9.below hb19; have px_10 := px_9.below hb19; have py_10 := py_9.below hb19; clear hb19 hB_9 fa_9 fb_9 pa_9 pb_9 f1_9 f2_9 pc_9 pd_9 f3_9 pw_9 f4_9 f5_9 px_9 py_9)
          | (go_at_call 12; (with_reducible refine (nMul_any _ _ 4 4 Xa Xb _ (by omega) (by omega) fa_10.num fb_10.num).mono ?_); rintro e w20 ⟨m11, o11, n11, c11, rfl, f11_0, hb20⟩; have hB_11 := hB_10.trans (hb20.mono hB_10.size); have fa_11 := fa_10.below hb20; have fb_11 := fb_10.below hb20; have pa_11 := pa_10.below hb20; have pb_11 := pb_10.below hb20; have f1_11 := f1_10.below hb20; have f2_11 := f2_10.below hb20; have pc_11 := pc_10.below hb20; have pd_11 := pd_10.below hb20; have f3_11 := f3_10.below hb20; have pw_11 := pw_10.below hb20; have f4_11 := f4_10.below hb20; have f5_11 := f5_10.below hb20; have px_11 := px_10.below hb20; have py_11 := py_10.below hb20; have f10_1 := f10_0.below hb20; clear hb20 hB_10 fa_10 fb_10 pa_10 pb_10 f1_10 f2_10 pc_10 pd_10 f3_10 pw_10 f4_10 f5_10 px_10 py_10 f10_0)
          | (go_at_call 13; (with_reducible refine (fis_any _ _ _ (4 + 4 + 2) (4 + 4) (max 4 1 + max 4 1) (qv Xa Da * qv Xb Db) (Xa * Xb) (((den1 Da : Nat) : Int) * ((den1 Db : Nat) : Int)) _ (by omega) (by omega) (by omega) f10_1 f11_0.num f3_11.num (cross2 _ _ Da Db (qv_mul Xa Xb Da Db).symm)).mono ?_); rintro e w21 ⟨rfl, hb21⟩; have hB_12 := hB_11.trans (hb21.mono hB_11.size); have fa_12 := fa_11.below hb21; have fb_12 := fb_11.below hb21; have pa_12 := pa_11.below hb21; have pb_12 := pb_11.below hb21; have f1_12 := f1_11.below hb21; have f2_12 := f2_11.below hb21; have pc_12 := pc_11.below hb21; have pd_12 := pd_11.below hb21; have f3_12 := f3_11.below hb21; have pw_12 := pw_11.below hb21; have f4_12 := f4_11.below hb21; have f5_12 := f5_11.below hb21; have px_12 := px_11.below hb21; have py_12 := py_11.below hb21; clear hb21 hB_11 fa_11 fb_11 pa_11 pb_11 f1_11 f2_11 pc_11 pd_11 f3_11 pw_11 f4_11 f5_11 px_11 py_11 f10_1 f11_0))
      go_wp2
      have hB_13 := hB_12.drew'
      have fa_13 := fa_12.drew
      have fb_13 := fb_12.drew
      have pa_13 := pa_12.drew
      have pb_13 := pb_12.drew
      have f1_13 := f1_12.drew
      have f2_13 := f2_12.drew
      have pc_13 := pc_12.drew
      have pd_13 := pd_12.drew
      have f3_13 := f3_12.drew
      have pw_13 := pw_12.drew
      have f4_13 := f4_12.drew
      have f5_13 := f5_12.drew
      have px_13 := px_12.drew
      have py_13 := py_12.drew
      clear hB_12 fa_12 fb_12 pa_12 pb_12 f1_12 f2_12 pc_12 pd_12 f3_12 pw_12 f4_12 f5_12 px_12 py_12
      go_region_held3 (fun w' => w'.cell? ⟨w.heap.size, 0, none⟩ = some (.bool am) ∧ w'.cell? ⟨w.heap.size, 1, none⟩ = some (.slice ao an ac) ∧ w'.cell? ⟨w.heap.size, 2, none⟩ = some (.slice ap ak ad) ∧ w'.cell? ⟨w.heap.size + 1, 0, none⟩ = some (.bool bm) ∧ w'.cell? ⟨w.heap.size + 1, 1, none⟩ = some (.slice bo bn bc) ∧ w'.cell? ⟨w.heap.size + 1, 2, none⟩ = some (.slice bp bk bd) ∧ w'.cell? ⟨gpc, 0, none⟩ = some (.bool m1) ∧ w'.cell? ⟨gpc, 1, none⟩ = some (.slice o1 n1 c1) ∧ w'.cell? ⟨gpx, 0, none⟩ = some (.bool m4) ∧ w'.cell? ⟨gpx, 1, none⟩ = some (.slice o4 n4 c4) ∧ w'.cell? ⟨gpy, 0, none⟩ = some (.bool m5) ∧ w'.cell? ⟨gpy, 1, none⟩ = some (.slice o5 n5 c5))
        (first | with_reducible exact ⟨pa_13.c0, pa_13.c1, pa_13.c2, pb_13.c0, pb_13.c1, pb_13.c2, pc_13.c0, pc_13.c1, px_13.c0, px_13.c1, py_13.c0, py_13.c1⟩ | with_reducible exact ⟨pa_14.c0, pa_14.c1, pa_14.c2, pb_14.c0, pb_14.c1, pb_14.c2, pc_14.c0, pc_14.c1, px_14.c0, px_14.c1, py_14.c0, py_14.c1⟩ | with_reducible exact ⟨pa_15.c0, pa_15.c1, pa_15.c2, pb_15.c0, pb_15.c1, pb_15.c2, pc_15.c0, pc_15.c1, px_15.c0, px_15.c1, py_15.c0, py_15.c1⟩ | with_reducible exact ⟨pa_16.c0, pa_16.c1, pa_16.c2, pb_16.c0, pb_16.c1, pb_16.c2, pc_16.c0, pc_16.c1, px_16.c0, px_16.c1, py_16.c0, py_16.c1⟩ | with_reducible exact ⟨pa_17.c0, pa_17.c1, pa_17.c2, pb_17.c0, pb_17.c1, pb_17.c2, pc_17.c0, pc_17.c1, px_17.c0, px_17.c1, py_17.c0, py_17.c1⟩ | with_reducible exact ⟨pa_18.c0, pa_18.c1, pa_18.c2, pb_18.c0, pb_18.c1, pb_18.c2, pc_18.c0, pc_18.c1, px_18.c0, px_18.c1, py_18.c0, py_18.c1⟩ | with_reducible exact ⟨pa_19.c0, pa_19.c1, pa_19.c2, pb_19.c0, pb_19.c1, pb_19.c2, pc_19.c0, pc_19.c1, px_19.c0, px_19.c1, py_19.c0, py_19.c1⟩ | with_reducible exact ⟨pa_20.c0, pa_20.c1, pa_20.c2, pb_20.c0, pb_20.c1, pb_20.c2, pc_20.c0, pc_20.c1, px_20.c0, px_20.c1, py_20.c0, py_20.c1⟩ | with_reducible exact ⟨pa_21.c0, pa_21.c1, pa_21.c2, pb_21.c0, pb_21.c1, pb_21.c2, pc_21.c0, pc_21.c1, px_21.c0, px_21.c1, py_21.c0, py_21.c1⟩ | with_reducible exact ⟨pa_22.c0, pa_22.c1, pa_22.c2, pb_22.c0, pb_22.c1, pb_22.c2, pc_22.c0, pc_22.c1, px_22.c0, px_22.c1, py_22.c0, py_22.c1⟩ | fail)
        (first
          | (go_at_call 19; (with_reducible refine (fNeg_any _ 4 Xa Da _ (by omega) fa_13).mono ?_); rintro e w22 ⟨m12, o12, n12, c12, p12, k12, d12, rfl, f12_0, hb22⟩; have hB_14 := hB_13.trans (hb22.mono hB_13.size); have fa_14 := fa_13.below hb22; have fb_14 := fb_13.below hb22; have pa_14 := pa_13.below hb22; have pb_14 := pb_13.below hb22; have f1_14 := f1_13.below hb22; have f2_14 := f2_13.below hb22; have pc_14 := pc_13.below hb22; have pd_14 := pd_13.below hb22; have f3_14 := f3_13.below hb22; have pw_14 := pw_13.below hb22; have f4_14 := f4_13.below hb22; have f5_14 := f5_13.below hb22; have px_14 := px_13.below hb22; have py_14 := py_13.below hb22; clear hb22 hB_13 fa_13 fb_13 pa_13 pb_13 f1_13 f2_13 pc_13 pd_13 f3_13 pw_13 f4_13 f5_13 px_13 py_13)
          | (go_at_call 20; (with_reducible refine (Neg_any _ 4 Xa _ (by omega) fa_14.num).mono ?_); rintro e w23 ⟨m13, o13, n13, c13, rfl, f13_0, hb23⟩; have hB_15 := hB_14.trans (hb23.mono hB_14.size); have fa_15 := fa_14.below hb23; have fb_15 := fb_14.below hb23; have pa_15 := pa_14.below hb23; have pb_15 := pb_14.below hb23; have f1_15 := f1_14.below hb23; have f2_15 := f2_14.below hb23; have pc_15 := pc_14.below hb23; have pd_15 := pd_14.below hb23; have f3_15 := f3_14.below hb23; have pw_15 := pw_14.below hb23; have f4_15 := f4_14.below hb23; have f5_15 := f5_14.below hb23; have px_15 := px_14.below hb23; have py_15 := py_14.below hb23; have f12_1 := f12_0.below hb23; clear hb23 hB_14 fa_14 fb_14 pa_14 pb_14 f1_14 f2_14 pc_14 pd_14 f3_14 pw_14 f4_14 f5_14 px_14 py_14 f12_0)
          | (go_at_call 13; (with_reducible refine (fis_any _ _ _ (max 4 1) 4 (max 4 1) (-qv Xa Da) (-Xa) ((den1 Da : Nat) : Int) _ (by omega) (by omega) (by omega) f12_1 f13_0.num f1_15.num (cross1 _ _ Da (qv_neg Xa Da).symm)).mono ?_); rintro e w24 ⟨rfl, hb24⟩; have hB_16 := hB_15.trans (hb24.mono hB_15.size); have fa_16 := fa_15.below hb24; have fb_16 := fb_15.below hb24; have pa_16 := pa_15.below hb24; have pb_16 := pb_15.below hb24; have f1_16 := f1_15.below hb24; have f2_16 := f2_15.below hb24; have pc_16 := pc_15.below hb24; have pd_16 := pd_15.below hb24; have f3_16 := f3_15.below hb24; have pw_16 := pw_15.below hb24; have f4_16 := f4_15.below hb24; have f5_16 := f5_15.below hb24; have px_16 := px_15.below hb24; have py_16 := py_15.below hb24; clear hb24 hB_15 fa_15 fb_15 pa_15 pb_15 f1_15 f2_15 pc_15 pd_15 f3_15 pw_15 f4_15 f5_15 px_15 py_15 f12_1 f13_0)
          | (go_at_call 21; (with_reducible refine (fCmp_is _ _ 4 4 Xa Xb Da Db _ (by omega) (by omega) fa_16 fb_16 c hc).mono ?_); rintro e w25 ⟨rfl, hb25⟩; have hB_17 := hB_16.trans (hb25.mono hB_16.size); have fa_17 := fa_16.below hb25; have fb_17 := fb_16.below hb25; have pa_17 := pa_16.below hb25; have pb_17 := pb_16.below hb25; have f1_17 := f1_16.below hb25; have f2_17 := f2_16.below hb25; have pc_17 := pc_16.below hb25; have pd_17 := pd_16.below hb25; have f3_17 := f3_16.below hb25; have pw_17 := pw_16.below hb25; have f4_17 := f4_16.below hb25; have f5_17 := f5_16.below hb25; have px_17 := px_16.below hb25; have py_17 := py_16.below hb25; clear hb25 hB_16 fa_16 fb_16 pa_16 pb_16 f1_16 f2_16 pc_16 pd_16 f3_16 pw_16 f4_16 f5_16 px_16 py_16)
          | (go_at_call 22; (with_reducible refine (nCmp_is _ _ (4 + max 4 1) (4 + max 4 1) (Xa * ((den1 Db : Nat) : Int)) (Xb * ((den1 Da : Nat) : Int)) c _ (by omega) (by omega) f4_17.num f5_17.num (by rw [icmp_q]; exact hc)).mono ?_); rintro e w26 ⟨rfl, hb26⟩; have hB_18 := hB_17.trans (hb26.mono hB_17.size); have fa_18 := fa_17.below hb26; have fb_18 := fb_17.below hb26; have pa_18 := pa_17.below hb26; have pb_18 := pb_17.below hb26; have f1_18 := f1_17.below hb26; have f2_18 := f2_17.below hb26; have pc_18 := pc_17.below hb26; have pd_18 := pd_17.below hb26; have f3_18 := f3_17.below hb26; have pw_18 := pw_17.below hb26; have f4_18 := f4_17.below hb26; have f5_18 := f5_17.below hb26; have px_18 := px_17.below hb26; have py_18 := py_17.below hb26; clear hb26 hB_17 fa_17 fb_17 pa_17 pb_17 f1_17 f2_17 pc_17 pd_17 f3_17 pw_17 f4_17 f5_17 px_17 py_17)
          | (go_at_call 23; (with_reducible refine (fSign_is _ 4 Xa s Da _ (by omega) fa_18 hs).mono ?_); rintro e w27 ⟨rfl, hb27⟩; have hB_19 := hB_18.trans (hb27.mono hB_18.size); have fa_19 := fa_18.below hb27; have fb_19 := fb_18.below hb27; have pa_19 := pa_18.below hb27; have pb_19 := pb_18.below hb27; have f1_19 := f1_18.below hb27; have f2_19 := f2_18.below hb27; have pc_19 := pc_18.below hb27; have pd_19 := pd_18.below hb27; have f3_19 := f3_18.below hb27; have pw_19 := pw_18.below hb27; have f4_19 := f4_18.below hb27; have f5_19 := f5_18.below hb27; have px_19 := px_18.below hb27; have py_19 := py_18.below hb27; clear hb27 hB_18 fa_18 fb_18 pa_18 pb_18 f1_18 f2_18 pc_18 pd_18 f3_18 pw_18 f4_18 f5_18 px_18 py_18)
          | (go_at_call 24; (with_reducible refine (Sign_is _ 4 Xa s _ (by omega) fa_19.num hs).mono ?_); rintro e w28 ⟨rfl, hb28⟩; have hB_20 := hB_19.trans (hb28.mono hB_19.size); have fa_20 := fa_19.below hb28; have fb_20 := fb_19.below hb28; have pa_20 := pa_19.below hb28; have pb_20 := pb_19.below hb28; have f1_20 := f1_19.below hb28; have f2_20 := f2_19.below hb28; have pc_20 := pc_19.below hb28; have pd_20 := pd_19.below hb28; have f3_20 := f3_19.below hb28; have pw_20 := pw_19.below hb28; have f4_20 := f4_19.below hb28; have f5_20 := f5_19.below hb28; have px_20 := px_19.below hb28; have py_20 := py_19.below hb28; clear hb28 hB_19 fa_19 fb_19 pa_19 pb_19 f1_19 f2_19 pc_19 pd_19 f3_19 pw_19 f4_19 f5_19 px_19 py_19)
          | (go_at_call 25; (with_reducible refine (fSame_is _ _ 4 4 Xa Xb Da Db c b _ (by omega) (by omega) fa_20 fb_20 hc hb).mono ?_); rintro e w29 ⟨rfl, hb29⟩; have hB_21 := hB_20.trans (hb29.mono hB_20.size); have fa_21 := fa_20.below hb29; have fb_21 := fb_20.below hb29; have pa_21 := pa_20.below hb29; have pb_21 := pb_20.below hb29; have f1_21 := f1_20.below hb29; have f2_21 := f2_20.below hb29; have pc_21 := pc_20.below hb29; have pd_21 := pd_20.below hb29; have f3_21 := f3_20.below hb29; have pw_21 := pw_20.below hb29; have f4_21 := f4_20.below hb29; have f5_21 := f5_20.below hb29; have px_21 := px_20.below hb29; have py_21 := py_20.below hb29; clear hb29 hB_20 fa_20 fb_20 pa_20 pb_20 f1_20 f2_20 pc_20 pd_20 f3_20 pw_20 f4_20 f5_20 px_20 py_20)
          | (go_at_call 22; (with_reducible refine (nCmp_is _ _ (4 + max 4 1) (4 + max 4 1) (Xa * ((den1 Db : Nat) : Int)) (Xb * ((den1 Da : Nat) : Int)) c _ (by omega) (by omega) f4_21.num f5_21.num (by rw [icmp_q]; exact hc)).mono ?_); rintro e w30 ⟨rfl, hb30⟩; have hB_22 := hB_21.trans (hb30.mono hB_21.size); have fa_22 := fa_21.below hb30; have fb_22 := fb_21.below hb30; have pa_22 := pa_21.below hb30; have pb_22 := pb_21.below hb30; have f1_22 := f1_21.below hb30; have f2_22 := f2_21.below hb30; have pc_22 := pc_21.below hb30; have pd_22 := pd_21.below hb30; have f3_22 := f3_21.below hb30; have pw_22 := pw_21.below hb30; have f4_22 := f4_21.below hb30; have f5_22 := f5_21.below hb30; have px_22 := px_21.below hb30; have py_22 := py_21.below hb30; clear hb30 hB_21 fa_21 fb_21 pa_21 pb_21 f1_21 f2_21 pc_21 pd_21 f3_21 pw_21 f4_21 f5_21 px_21 py_21))
      go_wp2
      go_ret
      exact ⟨rfl, hB_22⟩
    simp only [HAu.out, Act.put, List.setIfInBounds_toArray, List.set_cons_zero, List.set_cons_succ] at stu_2tt
    have stu_2tf : ∀ (w' : World) (m4 : Bool) (o4 : Option Addr) (n4 : Nat) (c4 : Nat) (m5 : Bool) (o5 : Option Addr) (n5 : Nat) (c5 : Nat) (gpx : Nat), Below w.heap.size w w' → FD w' (.agg #[.bool am, .slice ao an ac, .slice ap ak ad]) 4 Xa Da → FD w' (.agg #[.bool bm, .slice bo bn bc, .slice bp bk bd]) 4 Xb Db → Box w' (w.heap.size) [.bool am, .slice ao an ac, .slice ap ak ad] → Box w' (w.heap.size + 1) [.bool bm, .slice bo bn bc, .slice bp bk bd] → RNum w' (.agg #[.bool m1, .slice o1 n1 c1]) (max 4 1) ((den1 Da : Nat) : Int) → RNum w' (.agg #[.bool m2, .slice o2 n2 c2]) (max 4 1) ((den1 Db : Nat) : Int) → Box w' (gpc) [.bool m1, .slice o1 n1 c1] → Box w' (gpd) [.bool m2, .slice o2 n2 c2] → RNum w' (.agg #[.bool m3, .slice o3 n3 c3]) (max 4 1 + max 4 1) (((den1 Da : Nat) : Int) * ((den1 Db : Nat) : Int)) → Box w' (w8.heap.size) [.bool m3, .slice o3 n3 c3] → Below w9.heap.size w9 w' → RNum w' (.agg #[.bool m4, .slice o4 n4 c4]) (4 + max 4 1) (Xa * ((den1 Db : Nat) : Int)) → RNum w' (.agg #[.bool m5, .slice o5 n5 c5]) (4 + max 4 1) (Xb * ((den1 Da : Nat) : Int)) → Box w' gpx [.bool false, .slice none 0 0] → w9.heap.size ≤ gpx → WWu 3 #[true, true, true, true, true, true, true, true, true, false, false, false] (((au.put (some 27) (.agg #[.bool m4, .slice o4 n4 c4])).put (some 31) (.agg #[.bool m5, .slice o5 n5 c5])).put (some 8) (.pointer (some ⟨gpx, 0, none⟩))) w' := by
      intro w31 m4 o4 n4 c4 m5 o5 n5 c5 gpx hB_0 fa_0 fb_0 pa_0 pb_0 f1_0 f2_0 pc_0 pd_0 f3_0 pw_0 hWu_0 f4_0 f5_0 px_0 hgpx
      rw [HWu.out, HAu.out]
      try simp only [Act.put]
      try simp only [List.setIfInBounds_toArray, List.set_cons_zero, List.set_cons_succ]
      refine reg_all1 9 ?_ (by kernel_rfl) ?_ (fun K hK => ?_)
      rotate_left 1
      · simp only [List.getElem?_toArray, List.getElem?_cons_succ, List.getElem?_cons_zero]; exact rfl
      · go_simp
        have hgn : w9.heap.size ≤ w31.heap.size := hWu_0.size
        have hlpx := px_0.lt
        obtain ⟨w32, hww32, py_0, hb32, -⟩ := new_box w31 _ rfl [.bool false, .slice none 0 0] 25
        rw [hww32]
        have hB_1 := hB_0.trans (hb32.mono hB_0.size)
        have fa_1 := fa_0.below hb32
        have fb_1 := fb_0.below hb32
        have pa_1 := pa_0.below hb32
        have pb_1 := pb_0.below hb32
        have f1_1 := f1_0.below hb32
        have f2_1 := f2_0.below hb32
        have pc_1 := pc_0.below hb32
        have pd_1 := pd_0.below hb32
        have f3_1 := f3_0.below hb32
        have pw_1 := pw_0.below hb32
        have hWu_1 := hWu_0.trans (hb32.mono hWu_0.size)
        have f4_1 := f4_0.below hb32
        have f5_1 := f5_0.below hb32
        have px_1 := px_0.below hb32
        clear hb32 hB_0 fa_0 fb_0 pa_0 pb_0 f1_0 f2_0 pc_0 pd_0 f3_0 pw_0 hWu_0 f4_0 f5_0 px_0
        refine hK.out _ _ ⟨pa_1.c0, pa_1.c1, pa_1.c2, pb_1.c0, pb_1.c1, pb_1.c2, pc_1.c0, pc_1.c1, pd_1.c0, pd_1.c1⟩ (fun hHeld => ?_)
        clear hK K
        try simp only [Act.put]
        try simp only [List.setIfInBounds_toArray, List.set_cons_zero, List.set_cons_succ]
        rw [← HWu.out]
        exact stu_2tt _ m4 o4 n4 c4 m5 o5 n5 c5 gpx w31.heap.size hB_1 fa_1 fb_1 pa_1 pb_1 f1_1 f2_1 pc_1 pd_1 f3_1 pw_1 hWu_1 f4_1 f5_1 px_1 py_0 (by omega) (by omega) (by omega)
    try simp only [HAu.out, Act.put, List.setIfInBounds_toArray, List.set_cons_zero, List.set_cons_succ] at stu_2tf
    have stu_2ft : ∀ (w' : World) (m4 : Bool) (o4 : Option Addr) (n4 : Nat) (c4 : Nat) (m5 : Bool) (o5 : Option Addr) (n5 : Nat) (c5 : Nat) (gpy : Nat), Below w.heap.size w w' → FD w' (.agg #[.bool am, .slice ao an ac, .slice ap ak ad]) 4 Xa Da → FD w' (.agg #[.bool bm, .slice bo bn bc, .slice bp bk bd]) 4 Xb Db → Box w' (w.heap.size) [.bool am, .slice ao an ac, .slice ap ak ad] → Box w' (w.heap.size + 1) [.bool bm, .slice bo bn bc, .slice bp bk bd] → RNum w' (.agg #[.bool m1, .slice o1 n1 c1]) (max 4 1) ((den1 Da : Nat) : Int) → RNum w' (.agg #[.bool m2, .slice o2 n2 c2]) (max 4 1) ((den1 Db : Nat) : Int) → Box w' (gpc) [.bool m1, .slice o1 n1 c1] → Box w' (gpd) [.bool m2, .slice o2 n2 c2] → RNum w' (.agg #[.bool m3, .slice o3 n3 c3]) (max 4 1 + max 4 1) (((den1 Da : Nat) : Int) * ((den1 Db : Nat) : Int)) → Box w' (w8.heap.size) [.bool m3, .slice o3 n3 c3] → Below w9.heap.size w9 w' → RNum w' (.agg #[.bool m4, .slice o4 n4 c4]) (4 + max 4 1) (Xa * ((den1 Db : Nat) : Int)) → RNum w' (.agg #[.bool m5, .slice o5 n5 c5]) (4 + max 4 1) (Xb * ((den1 Da : Nat) : Int)) → Box w' gpy [.bool false, .slice none 0 0] → w9.heap.size ≤ gpy → WWu 3 #[true, true, true, true, true, true, true, true, false, true, false, false] (((au.put (some 27) (.agg #[.bool m4, .slice o4 n4 c4])).put (some 31) (.agg #[.bool m5, .slice o5 n5 c5])).put (some 9) (.pointer (some ⟨gpy, 0, none⟩))) w' := by
      intro w33 m4 o4 n4 c4 m5 o5 n5 c5 gpy hB_0 fa_0 fb_0 pa_0 pb_0 f1_0 f2_0 pc_0 pd_0 f3_0 pw_0 hWu_0 f4_0 f5_0 py_0 hgpy
      rw [HWu.out, HAu.out]
      try simp only [Act.put]
      try simp only [List.setIfInBounds_toArray, List.set_cons_zero, List.set_cons_succ]
      refine reg_all1 8 ?_ (by kernel_rfl) ?_ (fun K hK => ?_)
      rotate_left 1
      · simp only [List.getElem?_toArray, List.getElem?_cons_succ, List.getElem?_cons_zero]; exact rfl
      · go_simp
        have hgn : w9.heap.size ≤ w33.heap.size := hWu_0.size
        have hlpy := py_0.lt
        obtain ⟨w34, hww34, px_0, hb34, -⟩ := new_box w33 _ rfl [.bool false, .slice none 0 0] 25
        rw [hww34]
        have hB_1 := hB_0.trans (hb34.mono hB_0.size)
        have fa_1 := fa_0.below hb34
        have fb_1 := fb_0.below hb34
        have pa_1 := pa_0.below hb34
        have pb_1 := pb_0.below hb34
        have f1_1 := f1_0.below hb34
        have f2_1 := f2_0.below hb34
        have pc_1 := pc_0.below hb34
        have pd_1 := pd_0.below hb34
        have f3_1 := f3_0.below hb34
        have pw_1 := pw_0.below hb34
        have hWu_1 := hWu_0.trans (hb34.mono hWu_0.size)
        have f4_1 := f4_0.below hb34
        have f5_1 := f5_0.below hb34
        have py_1 := py_0.below hb34
        clear hb34 hB_0 fa_0 fb_0 pa_0 pb_0 f1_0 f2_0 pc_0 pd_0 f3_0 pw_0 hWu_0 f4_0 f5_0 py_0
        refine hK.out _ _ ⟨pa_1.c0, pa_1.c1, pa_1.c2, pb_1.c0, pb_1.c1, pb_1.c2, pc_1.c0, pc_1.c1, pd_1.c0, pd_1.c1⟩ (fun hHeld => ?_)
        clear hK K
        try simp only [Act.put]
        try simp only [List.setIfInBounds_toArray, List.set_cons_zero, List.set_cons_succ]
        rw [← HWu.out]
        exact stu_2tt _ m4 o4 n4 c4 m5 o5 n5 c5 w33.heap.size gpy hB_1 fa_1 fb_1 pa_1 pb_1 f1_1 f2_1 pc_1 pd_1 f3_1 pw_1 hWu_1 f4_1 f5_1 px_0 py_1 (by omega) (by omega) (by omega)
    try simp only [HAu.out, Act.put, List.setIfInBounds_toArray, List.set_cons_zero, List.set_cons_succ] at stu_2ft
    have stu_1tt : ∀ (w' : World) (m4 : Bool) (o4 : Option Addr) (n4 : Nat) (c4 : Nat) (gpx : Nat) (gpy : Nat), Below w.heap.size w w' → FD w' (.agg #[.bool am, .slice ao an ac, .slice ap ak ad]) 4 Xa Da → FD w' (.agg #[.bool bm, .slice bo bn bc, .slice bp bk bd]) 4 Xb Db → Box w' (w.heap.size) [.bool am, .slice ao an ac, .slice ap ak ad] → Box w' (w.heap.size + 1) [.bool bm, .slice bo bn bc, .slice bp bk bd] → RNum w' (.agg #[.bool m1, .slice o1 n1 c1]) (max 4 1) ((den1 Da : Nat) : Int) → RNum w' (.agg #[.bool m2, .slice o2 n2 c2]) (max 4 1) ((den1 Db : Nat) : Int) → Box w' (gpc) [.bool m1, .slice o1 n1 c1] → Box w' (gpd) [.bool m2, .slice o2 n2 c2] → RNum w' (.agg #[.bool m3, .slice o3 n3 c3]) (max 4 1 + max 4 1) (((den1 Da : Nat) : Int) * ((den1 Db : Nat) : Int)) → Box w' (w8.heap.size) [.bool m3, .slice o3 n3 c3] → Below w9.heap.size w9 w' → RNum w' (.agg #[.bool m4, .slice o4 n4 c4]) (4 + max 4 1) (Xa * ((den1 Db : Nat) : Int)) → Box w' gpx [.bool false, .slice none 0 0] → Box w' gpy [.bool false, .slice none 0 0] → w9.heap.size ≤ gpx → w9.heap.size ≤ gpy → gpx ≠ gpy → WWu 3 #[true, true, true, true, true, true, true, false, true, true, false, false] (((au.put (some 27) (.agg #[.bool m4, .slice o4 n4 c4])).put (some 8) (.pointer (some ⟨gpx, 0, none⟩))).put (some 9) (.pointer (some ⟨gpy, 0, none⟩))) w' := by
      intro w35 m4 o4 n4 c4 gpx gpy hB_0 fa_0 fb_0 pa_0 pb_0 f1_0 f2_0 pc_0 pd_0 f3_0 pw_0 hWu_0 f4_0 px_0 py_0 hgpx hgpy hnpxpy
      rw [HWu.out, HAu.out]
      try simp only [Act.put]
      try simp only [List.setIfInBounds_toArray, List.set_cons_zero, List.set_cons_succ]
      refine reg_all1 7 ?_ (by kernel_rfl) ?_ (fun K hK => ?_)
      rotate_left 1
      · simp only [List.getElem?_toArray, List.getElem?_cons_succ, List.getElem?_cons_zero]; exact rfl
      · go_simp
        refine (nMul_any _ _ 4 (max 4 1) Xb _ _ (by omega) (by omega) fb_0.num f1_0.num).mono ?_
        rintro e w36 ⟨m5, o5, n5, c5, rfl, f5_0, hb36⟩
        have hB_1 := hB_0.trans (hb36.mono hB_0.size)
        have fa_1 := fa_0.below hb36
        have fb_1 := fb_0.below hb36
        have pa_1 := pa_0.below hb36
        have pb_1 := pb_0.below hb36
        have f1_1 := f1_0.below hb36
        have f2_1 := f2_0.below hb36
        have pc_1 := pc_0.below hb36
        have pd_1 := pd_0.below hb36
        have f3_1 := f3_0.below hb36
        have pw_1 := pw_0.below hb36
        have hWu_1 := hWu_0.trans (hb36.mono hWu_0.size)
        have f4_1 := f4_0.below hb36
        have px_1 := px_0.below hb36
        have py_1 := py_0.below hb36
        clear hb36 hB_0 fa_0 fb_0 pa_0 pb_0 f1_0 f2_0 pc_0 pd_0 f3_0 pw_0 hWu_0 f4_0 px_0 py_0
        go_wp2_with fail
        refine hK.out _ _ ⟨pa_1.c0, pa_1.c1, pa_1.c2, pb_1.c0, pb_1.c1, pb_1.c2, pc_1.c0, pc_1.c1, pd_1.c0, pd_1.c1⟩ (fun hHeld => ?_)
        clear hK K
        try simp only [Act.put]
        try simp only [List.setIfInBounds_toArray, List.set_cons_zero, List.set_cons_succ]
        rw [← HWu.out]
        exact stu_2tt _ m4 o4 n4 c4 m5 o5 n5 c5 gpx gpy hB_1 fa_1 fb_1 pa_1 pb_1 f1_1 f2_1 pc_1 pd_1 f3_1 pw_1 hWu_1 f4_1 f5_0 px_1 py_1 (by omega) (by omega) (by omega)
    try simp only [HAu.out, Act.put, List.setIfInBounds_toArray, List.set_cons_zero, List.set_cons_succ] at stu_1tt
    have stu_2ff : ∀ (w' : World) (m4 : Bool) (o4 : Option Addr) (n4 : Nat) (c4 : Nat) (m5 : Bool) (o5 : Option Addr) (n5 : Nat) (c5 : Nat), Below w.heap.size w w' → FD w' (.agg #[.bool am, .slice ao an ac, .slice ap ak ad]) 4 Xa Da → FD w' (.agg #[.bool bm, .slice bo bn bc, .slice bp bk bd]) 4 Xb Db → Box w' (w.heap.size) [.bool am, .slice ao an ac, .slice ap ak ad] → Box w' (w.heap.size + 1) [.bool bm, .slice bo bn bc, .slice bp bk bd] → RNum w' (.agg #[.bool m1, .slice o1 n1 c1]) (max 4 1) ((den1 Da : Nat) : Int) → RNum w' (.agg #[.bool m2, .slice o2 n2 c2]) (max 4 1) ((den1 Db : Nat) : Int) → Box w' (gpc) [.bool m1, .slice o1 n1 c1] → Box w' (gpd) [.bool m2, .slice o2 n2 c2] → RNum w' (.agg #[.bool m3, .slice o3 n3 c3]) (max 4 1 + max 4 1) (((den1 Da : Nat) : Int) * ((den1 Db : Nat) : Int)) → Box w' (w8.heap.size) [.bool m3, .slice o3 n3 c3] → Below w9.heap.size w9 w' → RNum w' (.agg #[.bool m4, .slice o4 n4 c4]) (4 + max 4 1) (Xa * ((den1 Db : Nat) : Int)) → RNum w' (.agg #[.bool m5, .slice o5 n5 c5]) (4 + max 4 1) (Xb * ((den1 Da : Nat) : Int)) → WWu 4 #[true, true, true, true, true, true, true, true, false, false, false, false] ((au.put (some 27) (.agg #[.bool m4, .slice o4 n4 c4])).put (some 31) (.agg #[.bool m5, .slice o5 n5 c5])) w' := by
      intro w37 m4 o4 n4 c4 m5 o5 n5 c5 hB_0 fa_0 fb_0 pa_0 pb_0 f1_0 f2_0 pc_0 pd_0 f3_0 pw_0 hWu_0 f4_0 f5_0
      rw [HWu.out, HAu.out]
      try simp only [Act.put]
      try simp only [List.setIfInBounds_toArray, List.set_cons_zero, List.set_cons_succ]
      refine reg_all2 8 9 ?_ ?_ (by kernel_rfl) ?_ ?_ (fun K hK => ?_) (fun K hK => ?_)
      rotate_left 2
      · simp only [List.getElem?_toArray, List.getElem?_cons_succ, List.getElem?_cons_zero]; exact rfl
      · simp only [List.getElem?_toArray, List.getElem?_cons_succ, List.getElem?_cons_zero]; exact rfl
      · go_simp
        have hgn : w9.heap.size ≤ w37.heap.size := hWu_0.size
        obtain ⟨w38, hww38, px_0, hb38, -⟩ := new_box w37 _ rfl [.bool false, .slice none 0 0] 25
        rw [hww38]
        have hB_1 := hB_0.trans (hb38.mono hB_0.size)
        have fa_1 := fa_0.below hb38
        have fb_1 := fb_0.below hb38
        have pa_1 := pa_0.below hb38
        have pb_1 := pb_0.below hb38
        have f1_1 := f1_0.below hb38
        have f2_1 := f2_0.below hb38
        have pc_1 := pc_0.below hb38
        have pd_1 := pd_0.below hb38
        have f3_1 := f3_0.below hb38
        have pw_1 := pw_0.below hb38
        have hWu_1 := hWu_0.trans (hb38.mono hWu_0.size)
        have f4_1 := f4_0.below hb38
        have f5_1 := f5_0.below hb38
        clear hb38 hB_0 fa_0 fb_0 pa_0 pb_0 f1_0 f2_0 pc_0 pd_0 f3_0 pw_0 hWu_0 f4_0 f5_0
        refine hK.out _ _ ⟨pa_1.c0, pa_1.c1, pa_1.c2, pb_1.c0, pb_1.c1, pb_1.c2, pc_1.c0, pc_1.c1, pd_1.c0, pd_1.c1⟩ (fun hHeld => ?_)
        clear hK K
        try simp only [Act.put]
        try simp only [List.setIfInBounds_toArray, List.set_cons_zero, List.set_cons_succ]
        rw [← HWu.out]
        exact stu_2tf _ m4 o4 n4 c4 m5 o5 n5 c5 w37.heap.size hB_1 fa_1 fb_1 pa_1 pb_1 f1_1 f2_1 pc_1 pd_1 f3_1 pw_1 hWu_1 f4_1 f5_1 px_0 (by omega)
      · go_simp
        have hgn : w9.heap.size ≤ w37.heap.size := hWu_0.size
        obtain ⟨w39, hww39, py_0, hb39, -⟩ := new_box w37 _ rfl [.bool false, .slice none 0 0] 25
        rw [hww39]
        have hB_1 := hB_0.trans (hb39.mono hB_0.size)
        have fa_1 := fa_0.below hb39
        have fb_1 := fb_0.below hb39
        have pa_1 := pa_0.below hb39
        have pb_1 := pb_0.below hb39
        have f1_1 := f1_0.below hb39
        have f2_1 := f2_0.below hb39
        have pc_1 := pc_0.below hb39
        have pd_1 := pd_0.below hb39
        have f3_1 := f3_0.below hb39
        have pw_1 := pw_0.below hb39
        have hWu_1 := hWu_0.trans (hb39.mono hWu_0.size)
        have f4_1 := f4_0.below hb39
        have f5_1 := f5_0.below hb39
        clear hb39 hB_0 fa_0 fb_0 pa_0 pb_0 f1_0 f2_0 pc_0 pd_0 f3_0 pw_0 hWu_0 f4_0 f5_0
        refine hK.out _ _ ⟨pa_1.c0, pa_1.c1, pa_1.c2, pb_1.c0, pb_1.c1, pb_1.c2, pc_1.c0, pc_1.c1, pd_1.c0, pd_1.c1⟩ (fun hHeld => ?_)
        clear hK K
        try simp only [Act.put]
        try simp only [List.setIfInBounds_toArray, List.set_cons_zero, List.set_cons_succ]
        rw [← HWu.out]
        exact stu_2ft _ m4 o4 n4 c4 m5 o5 n5 c5 w37.heap.size hB_1 fa_1 fb_1 pa_1 pb_1 f1_1 f2_1 pc_1 pd_1 f3_1 pw_1 hWu_1 f4_1 f5_1 py_0 (by omega)
    try simp only [HAu.out, Act.put, List.setIfInBounds_toArray, List.set_cons_zero, List.set_cons_succ] at stu_2ff
    have stu_1tf : ∀ (w' : World) (m4 : Bool) (o4 : Option Addr) (n4 : Nat) (c4 : Nat) (gpx : Nat), Below w.heap.size w w' → FD w' (.agg #[.bool am, .slice ao an ac, .slice ap ak ad]) 4 Xa Da → FD w' (.agg #[.bool bm, .slice bo bn bc, .slice bp bk bd]) 4 Xb Db → Box w' (w.heap.size) [.bool am, .slice ao an ac, .slice ap ak ad] → Box w' (w.heap.size + 1) [.bool bm, .slice bo bn bc, .slice bp bk bd] → RNum w' (.agg #[.bool m1, .slice o1 n1 c1]) (max 4 1) ((den1 Da : Nat) : Int) → RNum w' (.agg #[.bool m2, .slice o2 n2 c2]) (max 4 1) ((den1 Db : Nat) : Int) → Box w' (gpc) [.bool m1, .slice o1 n1 c1] → Box w' (gpd) [.bool m2, .slice o2 n2 c2] → RNum w' (.agg #[.bool m3, .slice o3 n3 c3]) (max 4 1 + max 4 1) (((den1 Da : Nat) : Int) * ((den1 Db : Nat) : Int)) → Box w' (w8.heap.size) [.bool m3, .slice o3 n3 c3] → Below w9.heap.size w9 w' → RNum w' (.agg #[.bool m4, .slice o4 n4 c4]) (4 + max 4 1) (Xa * ((den1 Db : Nat) : Int)) → Box w' gpx [.bool false, .slice none 0 0] → w9.heap.size ≤ gpx → WWu 4 #[true, true, true, true, true, true, true, false, true, false, false, false] ((au.put (some 27) (.agg #[.bool m4, .slice o4 n4 c4])).put (some 8) (.pointer (some ⟨gpx, 0, none⟩))) w' := by
      intro w40 m4 o4 n4 c4 gpx hB_0 fa_0 fb_0 pa_0 pb_0 f1_0 f2_0 pc_0 pd_0 f3_0 pw_0 hWu_0 f4_0 px_0 hgpx
      rw [HWu.out, HAu.out]
      try simp only [Act.put]
      try simp only [List.setIfInBounds_toArray, List.set_cons_zero, List.set_cons_succ]
      refine reg_all2 7 9 ?_ ?_ (by kernel_rfl) ?_ ?_ (fun K hK => ?_) (fun K hK => ?_)
      rotate_left 2
      · simp only [List.getElem?_toArray, List.getElem?_cons_succ, List.getElem?_cons_zero]; exact rfl
      · simp only [List.getElem?_toArray, List.getElem?_cons_succ, List.getElem?_cons_zero]; exact rfl
      · go_simp
        refine (nMul_any _ _ 4 (max 4 1) Xb _ _ (by omega) (by omega) fb_0.num f1_0.num).mono ?_
        rintro e w41 ⟨m5, o5, n5, c5, rfl, f5_0, hb41⟩
        have hB_1 := hB_0.trans (hb41.mono hB_0.size)
        have fa_1 := fa_0.below hb41
        have fb_1 := fb_0.below hb41
        have pa_1 := pa_0.below hb41
        have pb_1 := pb_0.below hb41
        have f1_1 := f1_0.below hb41
        have f2_1 := f2_0.below hb41
        have pc_1 := pc_0.below hb41
        have pd_1 := pd_0.below hb41
        have f3_1 := f3_0.below hb41
        have pw_1 := pw_0.below hb41
        have hWu_1 := hWu_0.trans (hb41.mono hWu_0.size)
        have f4_1 := f4_0.below hb41
        have px_1 := px_0.below hb41
        clear hb41 hB_0 fa_0 fb_0 pa_0 pb_0 f1_0 f2_0 pc_0 pd_0 f3_0 pw_0 hWu_0 f4_0 px_0
        go_wp2_with fail
        refine hK.out _ _ ⟨pa_1.c0, pa_1.c1, pa_1.c2, pb_1.c0, pb_1.c1, pb_1.c2, pc_1.c0, pc_1.c1, pd_1.c0, pd_1.c1⟩ (fun hHeld => ?_)
        clear hK K
        try simp only [Act.put]
        try simp only [List.setIfInBounds_toArray, List.set_cons_zero, List.set_cons_succ]
        rw [← HWu.out]
        exact stu_2tf _ m4 o4 n4 c4 m5 o5 n5 c5 gpx hB_1 fa_1 fb_1 pa_1 pb_1 f1_1 f2_1 pc_1 pd_1 f3_1 pw_1 hWu_1 f4_1 f5_0 px_1 (by omega)
      · go_simp
        have hgn : w9.heap.size ≤ w40.heap.size := hWu_0.size
        have hlpx := px_0.lt
        obtain ⟨w42, hww42, py_0, hb42, -⟩ := new_box w40 _ rfl [.bool false, .slice none 0 0] 25
        rw [hww42]
        have hB_1 := hB_0.trans (hb42.mono hB_0.size)
        have fa_1 := fa_0.below hb42
        have fb_1 := fb_0.below hb42
        have pa_1 := pa_0.below hb42
        have pb_1 := pb_0.below hb42
        have f1_1 := f1_0.below hb42
        have f2_1 := f2_0.below hb42
        have pc_1 := pc_0.below hb42
        have pd_1 := pd_0.below hb42
        have f3_1 := f3_0.below hb42
        have pw_1 := pw_0.below hb42
        have hWu_1 := hWu_0.trans (hb42.mono hWu_0.size)
        have f4_1 := f4_0.below hb42
        have px_1 := px_0.below hb42
        clear hb42 hB_0 fa_0 fb_0 pa_0 pb_0 f1_0 f2_0 pc_0 pd_0 f3_0 pw_0 hWu_0 f4_0 px_0
        refine hK.out _ _ ⟨pa_1.c0, pa_1.c1, pa_1.c2, pb_1.c0, pb_1.c1, pb_1.c2, pc_1.c0, pc_1.c1, pd_1.c0, pd_1.c1⟩ (fun hHeld => ?_)
        clear hK K
        try simp only [Act.put]
        try simp only [List.setIfInBounds_toArray, List.set_cons_zero, List.set_cons_succ]
        rw [← HWu.out]
        exact stu_1tt _ m4 o4 n4 c4 gpx w40.heap.size hB_1 fa_1 fb_1 pa_1 pb_1 f1_1 f2_1 pc_1 pd_1 f3_1 pw_1 hWu_1 f4_1 px_1 py_0 (by omega) (by omega) (by omega)
    try simp only [HAu.out, Act.put, List.setIfInBounds_toArray, List.set_cons_zero, List.set_cons_succ] at stu_1tf
    have stu_1ft : ∀ (w' : World) (m4 : Bool) (o4 : Option Addr) (n4 : Nat) (c4 : Nat) (gpy : Nat), Below w.heap.size w w' → FD w' (.agg #[.bool am, .slice ao an ac, .slice ap ak ad]) 4 Xa Da → FD w' (.agg #[.bool bm, .slice bo bn bc, .slice bp bk bd]) 4 Xb Db → Box w' (w.heap.size) [.bool am, .slice ao an ac, .slice ap ak ad] → Box w' (w.heap.size + 1) [.bool bm, .slice bo bn bc, .slice bp bk bd] → RNum w' (.agg #[.bool m1, .slice o1 n1 c1]) (max 4 1) ((den1 Da : Nat) : Int) → RNum w' (.agg #[.bool m2, .slice o2 n2 c2]) (max 4 1) ((den1 Db : Nat) : Int) → Box w' (gpc) [.bool m1, .slice o1 n1 c1] → Box w' (gpd) [.bool m2, .slice o2 n2 c2] → RNum w' (.agg #[.bool m3, .slice o3 n3 c3]) (max 4 1 + max 4 1) (((den1 Da : Nat) : Int) * ((den1 Db : Nat) : Int)) → Box w' (w8.heap.size) [.bool m3, .slice o3 n3 c3] → Below w9.heap.size w9 w' → RNum w' (.agg #[.bool m4, .slice o4 n4 c4]) (4 + max 4 1) (Xa * ((den1 Db : Nat) : Int)) → Box w' gpy [.bool false, .slice none 0 0] → w9.heap.size ≤ gpy → WWu 4 #[true, true, true, true, true, true, true, false, false, true, false, false] ((au.put (some 27) (.agg #[.bool m4, .slice o4 n4 c4])).put (some 9) (.pointer (some ⟨gpy, 0, none⟩))) w' := by
      intro w43 m4 o4 n4 c4 gpy hB_0 fa_0 fb_0 pa_0 pb_0 f1_0 f2_0 pc_0 pd_0 f3_0 pw_0 hWu_0 f4_0 py_0 hgpy
      rw [HWu.out, HAu.out]
      try simp only [Act.put]
      try simp only [List.setIfInBounds_toArray, List.set_cons_zero, List.set_cons_succ]
      refine reg_all2 7 8 ?_ ?_ (by kernel_rfl) ?_ ?_ (fun K hK => ?_) (fun K hK => ?_)
      rotate_left 2
      · simp only [List.getElem?_toArray, List.getElem?_cons_succ, List.getElem?_cons_zero]; exact rfl
      · simp only [List.getElem?_toArray, List.getElem?_cons_succ, List.getElem?_cons_zero]; exact rfl
      · go_simp
        refine (nMul_any _ _ 4 (max 4 1) Xb _ _ (by omega) (by omega) fb_0.num f1_0.num).mono ?_
        rintro e w44 ⟨m5, o5, n5, c5, rfl, f5_0, hb44⟩
        have hB_1 := hB_0.trans (hb44.mono hB_0.size)
        have fa_1 := fa_0.below hb44
        have fb_1 := fb_0.below hb44
        have pa_1 := pa_0.below hb44
        have pb_1 := pb_0.below hb44
        have f1_1 := f1_0.below hb44
        have f2_1 := f2_0.below hb44
        have pc_1 := pc_0.below hb44
        have pd_1 := pd_0.below hb44
        have f3_1 := f3_0.below hb44
        have pw_1 := pw_0.below hb44
        have hWu_1 := hWu_0.trans (hb44.mono hWu_0.size)
        have f4_1 := f4_0.below hb44
        have py_1 := py_0.below hb44
        clear hb44 hB_0 fa_0 fb_0 pa_0 pb_0 f1_0 f2_0 pc_0 pd_0 f3_0 pw_0 hWu_0 f4_0 py_0
        go_wp2_with fail
        refine hK.out _ _ ⟨pa_1.c0, pa_1.c1, pa_1.c2, pb_1.c0, pb_1.c1, pb_1.c2, pc_1.c0, pc_1.c1, pd_1.c0, pd_1.c1⟩ (fun hHeld => ?_)
        clear hK K
        try simp only [Act.put]
        try simp only [List.setIfInBounds_toArray, List.set_cons_zero, List.set_cons_succ]
        rw [← HWu.out]
        exact stu_2ft _ m4 o4 n4 c4 m5 o5 n5 c5 gpy hB_1 fa_1 fb_1 pa_1 pb_1 f1_1 f2_1 pc_1 pd_1 f3_1 pw_1 hWu_1 f4_1 f5_0 py_1 (by omega)
      · go_simp
        have hgn : w9.heap.size ≤ w43.heap.size := hWu_0.size
        have hlpy := py_0.lt
        obtain ⟨w45, hww45, px_0, hb45, -⟩ := new_box w43 _ rfl [.bool false, .slice none 0 0] 25
        rw [hww45]
        have hB_1 := hB_0.trans (hb45.mono hB_0.size)
        have fa_1 := fa_0.below hb45
        have fb_1 := fb_0.below hb45
        have pa_1 := pa_0.below hb45
        have pb_1 := pb_0.below hb45
        have f1_1 := f1_0.below hb45
        have f2_1 := f2_0.below hb45
        have pc_1 := pc_0.below hb45
        have pd_1 := pd_0.below hb45
        have f3_1 := f3_0.below hb45
        have pw_1 := pw_0.below hb45
        have hWu_1 := hWu_0.trans (hb45.mono hWu_0.size)
        have f4_1 := f4_0.below hb45
        have py_1 := py_0.below hb45
        clear hb45 hB_0 fa_0 fb_0 pa_0 pb_0 f1_0 f2_0 pc_0 pd_0 f3_0 pw_0 hWu_0 f4_0 py_0
        refine hK.out _ _ ⟨pa_1.c0, pa_1.c1, pa_1.c2, pb_1.c0, pb_1.c1, pb_1.c2, pc_1.c0, pc_1.c1, pd_1.c0, pd_1.c1⟩ (fun hHeld => ?_)
        clear hK K
        try simp only [Act.put]
        try simp only [List.setIfInBounds_toArray, List.set_cons_zero, List.set_cons_succ]
        rw [← HWu.out]
        exact stu_1tt _ m4 o4 n4 c4 w43.heap.size gpy hB_1 fa_1 fb_1 pa_1 pb_1 f1_1 f2_1 pc_1 pd_1 f3_1 pw_1 hWu_1 f4_1 px_0 py_1 (by omega) (by omega) (by omega)
    try simp only [HAu.out, Act.put, List.setIfInBounds_toArray, List.set_cons_zero, List.set_cons_succ] at stu_1ft
    have stu_0tt : ∀ (w' : World) (gpx : Nat) (gpy : Nat), Below w.heap.size w w' → FD w' (.agg #[.bool am, .slice ao an ac, .slice ap ak ad]) 4 Xa Da → FD w' (.agg #[.bool bm, .slice bo bn bc, .slice bp bk bd]) 4 Xb Db → Box w' (w.heap.size) [.bool am, .slice ao an ac, .slice ap ak ad] → Box w' (w.heap.size + 1) [.bool bm, .slice bo bn bc, .slice bp bk bd] → RNum w' (.agg #[.bool m1, .slice o1 n1 c1]) (max 4 1) ((den1 Da : Nat) : Int) → RNum w' (.agg #[.bool m2, .slice o2 n2 c2]) (max 4 1) ((den1 Db : Nat) : Int) → Box w' (gpc) [.bool m1, .slice o1 n1 c1] → Box w' (gpd) [.bool m2, .slice o2 n2 c2] → RNum w' (.agg #[.bool m3, .slice o3 n3 c3]) (max 4 1 + max 4 1) (((den1 Da : Nat) : Int) * ((den1 Db : Nat) : Int)) → Box w' (w8.heap.size) [.bool m3, .slice o3 n3 c3] → Below w9.heap.size w9 w' → Box w' gpx [.bool false, .slice none 0 0] → Box w' gpy [.bool false, .slice none 0 0] → w9.heap.size ≤ gpx → w9.heap.size ≤ gpy → gpx ≠ gpy → WWu 4 #[true, true, true, false, true, true, true, false, true, true, false, false] ((au.put (some 8) (.pointer (some ⟨gpx, 0, none⟩))).put (some 9) (.pointer (some ⟨gpy, 0, none⟩))) w' := by
      intro w46 gpx gpy hB_0 fa_0 fb_0 pa_0 pb_0 f1_0 f2_0 pc_0 pd_0 f3_0 pw_0 hWu_0 px_0 py_0 hgpx hgpy hnpxpy
      rw [HWu.out, HAu.out]
      try simp only [Act.put]
      try simp only [List.setIfInBounds_toArray, List.set_cons_zero, List.set_cons_succ]
      refine reg_all1 3 ?_ (by kernel_rfl) ?_ (fun K hK => ?_)
      rotate_left 1
      · simp only [List.getElem?_toArray, List.getElem?_cons_succ, List.getElem?_cons_zero]; exact rfl
      · go_simp
        refine (nMul_any _ _ 4 (max 4 1) Xa _ _ (by omega) (by omega) fa_0.num f2_0.num).mono ?_
        rintro e w47 ⟨m4, o4, n4, c4, rfl, f4_0, hb47⟩
        have hB_1 := hB_0.trans (hb47.mono hB_0.size)
        have fa_1 := fa_0.below hb47
        have fb_1 := fb_0.below hb47
        have pa_1 := pa_0.below hb47
        have pb_1 := pb_0.below hb47
        have f1_1 := f1_0.below hb47
        have f2_1 := f2_0.below hb47
        have pc_1 := pc_0.below hb47
        have pd_1 := pd_0.below hb47
        have f3_1 := f3_0.below hb47
        have pw_1 := pw_0.below hb47
        have hWu_1 := hWu_0.trans (hb47.mono hWu_0.size)
        have px_1 := px_0.below hb47
        have py_1 := py_0.below hb47
        clear hb47 hB_0 fa_0 fb_0 pa_0 pb_0 f1_0 f2_0 pc_0 pd_0 f3_0 pw_0 hWu_0 px_0 py_0
        go_wp2_with fail
        refine hK.out _ _ ⟨pa_1.c0, pa_1.c1, pa_1.c2, pb_1.c0, pb_1.c1, pb_1.c2, pc_1.c0, pc_1.c1, pd_1.c0, pd_1.c1⟩ (fun hHeld => ?_)
        clear hK K
        try simp only [Act.put]
        try simp only [List.setIfInBounds_toArray, List.set_cons_zero, List.set_cons_succ]
        rw [← HWu.out]
        exact stu_1tt _ m4 o4 n4 c4 gpx gpy hB_1 fa_1 fb_1 pa_1 pb_1 f1_1 f2_1 pc_1 pd_1 f3_1 pw_1 hWu_1 f4_0 px_1 py_1 (by omega) (by omega) (by omega)
    try simp only [HAu.out, Act.put, List.setIfInBounds_toArray, List.set_cons_zero, List.set_cons_succ] at stu_0tt
    have stu_1ff : ∀ (w' : World) (m4 : Bool) (o4 : Option Addr) (n4 : Nat) (c4 : Nat), Below w.heap.size w w' → FD w' (.agg #[.bool am, .slice ao an ac, .slice ap ak ad]) 4 Xa Da → FD w' (.agg #[.bool bm, .slice bo bn bc, .slice bp bk bd]) 4 Xb Db → Box w' (w.heap.size) [.bool am, .slice ao an ac, .slice ap ak ad] → Box w' (w.heap.size + 1) [.bool bm, .slice bo bn bc, .slice bp bk bd] → RNum w' (.agg #[.bool m1, .slice o1 n1 c1]) (max 4 1) ((den1 Da : Nat) : Int) → RNum w' (.agg #[.bool m2, .slice o2 n2 c2]) (max 4 1) ((den1 Db : Nat) : Int) → Box w' (gpc) [.bool m1, .slice o1 n1 c1] → Box w' (gpd) [.bool m2, .slice o2 n2 c2] → RNum w' (.agg #[.bool m3, .slice o3 n3 c3]) (max 4 1 + max 4 1) (((den1 Da : Nat) : Int) * ((den1 Db : Nat) : Int)) → Box w' (w8.heap.size) [.bool m3, .slice o3 n3 c3] → Below w9.heap.size w9 w' → RNum w' (.agg #[.bool m4, .slice o4 n4 c4]) (4 + max 4 1) (Xa * ((den1 Db : Nat) : Int)) → WWu 5 #[true, true, true, true, true, true, true, false, false, false, false, false] (au.put (some 27) (.agg #[.bool m4, .slice o4 n4 c4])) w' := by
      intro w48 m4 o4 n4 c4 hB_0 fa_0 fb_0 pa_0 pb_0 f1_0 f2_0 pc_0 pd_0 f3_0 pw_0 hWu_0 f4_0
      rw [HWu.out, HAu.out]
      try simp only [Act.put]
      try simp only [List.setIfInBounds_toArray, List.set_cons_zero, List.set_cons_succ]
      refine reg_all3 7 8 9 ?_ ?_ ?_ (by kernel_rfl) ?_ ?_ ?_ (fun K hK => ?_) (fun K hK => ?_) (fun K hK => ?_)
      rotate_left 3
      · simp only [List.getElem?_toArray, List.getElem?_cons_succ, List.getElem?_cons_zero]; exact rfl
      · simp only [List.getElem?_toArray, List.getElem?_cons_succ, List.getElem?_cons_zero]; exact rfl
      · simp only [List.getElem?_toArray, List.getElem?_cons_succ, List.getElem?_cons_zero]; exact rfl
      · go_simp
        refine (nMul_any _ _ 4 (max 4 1) Xb _ _ (by omega) (by omega) fb_0.num f1_0.num).mono ?_
        rintro e w49 ⟨m5, o5, n5, c5, rfl, f5_0, hb49⟩
        have hB_1 := hB_0.trans (hb49.mono hB_0.size)
        have fa_1 := fa_0.below hb49
        have fb_1 := fb_0.below hb49
        have pa_1 := pa_0.below hb49
        have pb_1 := pb_0.below hb49
        have f1_1 := f1_0.below hb49
        have f2_1 := f2_0.below hb49
        have pc_1 := pc_0.below hb49
        have pd_1 := pd_0.below hb49
        have f3_1 := f3_0.below hb49
        have pw_1 := pw_0.below hb49
        have hWu_1 := hWu_0.trans (hb49.mono hWu_0.size)
        have f4_1 := f4_0.below hb49
        clear hb49 hB_0 fa_0 fb_0 pa_0 pb_0 f1_0 f2_0 pc_0 pd_0 f3_0 pw_0 hWu_0 f4_0
        go_wp2_with fail
        refine hK.out _ _ ⟨pa_1.c0, pa_1.c1, pa_1.c2, pb_1.c0, pb_1.c1, pb_1.c2, pc_1.c0, pc_1.c1, pd_1.c0, pd_1.c1⟩ (fun hHeld => ?_)
        clear hK K
        try simp only [Act.put]
        try simp only [List.setIfInBounds_toArray, List.set_cons_zero, List.set_cons_succ]
        rw [← HWu.out]
        exact stu_2ff _ m4 o4 n4 c4 m5 o5 n5 c5 hB_1 fa_1 fb_1 pa_1 pb_1 f1_1 f2_1 pc_1 pd_1 f3_1 pw_1 hWu_1 f4_1 f5_0
      · go_simp
        have hgn : w9.heap.size ≤ w48.heap.size := hWu_0.size
        obtain ⟨w50, hww50, px_0, hb50, -⟩ := new_box w48 _ rfl [.bool false, .slice none 0 0] 25
        rw [hww50]
        have hB_1 := hB_0.trans (hb50.mono hB_0.size)
        have fa_1 := fa_0.below hb50
        have fb_1 := fb_0.below hb50
        have pa_1 := pa_0.below hb50
        have pb_1 := pb_0.below hb50
        have f1_1 := f1_0.below hb50
        have f2_1 := f2_0.below hb50
        have pc_1 := pc_0.below hb50
        have pd_1 := pd_0.below hb50
        have f3_1 := f3_0.below hb50
        have pw_1 := pw_0.below hb50
        have hWu_1 := hWu_0.trans (hb50.mono hWu_0.size)
        have f4_1 := f4_0.below hb50
        clear hb50 hB_0 fa_0 fb_0 pa_0 pb_0 f1_0 f2_0 pc_0 pd_0 f3_0 pw_0 hWu_0 f4_0
        refine hK.out _ _ ⟨pa_1.c0, pa_1.c1, pa_1.c2, pb_1.c0, pb_1.c1, pb_1.c2, pc_1.c0, pc_1.c1, pd_1.c0, pd_1.c1⟩ (fun hHeld => ?_)
        clear hK K
        try simp only [Act.put]
        try simp only [List.setIfInBounds_toArray, List.set_cons_zero, List.set_cons_succ]
        rw [← HWu.out]
        exact stu_1tf _ m4 o4 n4 c4 w48.heap.size hB_1 fa_1 fb_1 pa_1 pb_1 f1_1 f2_1 pc_1 pd_1 f3_1 pw_1 hWu_1 f4_1 px_0 (by omega)
      · go_simp
        have hgn : w9.heap.size ≤ w48.heap.size := hWu_0.size
        obtain ⟨w51, hww51, py_0, hb51, -⟩ := new_box w48 _ rfl [.bool false, .slice none 0 0] 25
        rw [hww51]
        have hB_1 := hB_0.trans (hb51.mono hB_0.size)
        have fa_1 := fa_0.below hb51
        have fb_1 := fb_0.below hb51
        have pa_1 := pa_0.below hb51
        have pb_1 := pb_0.below hb51
        have f1_1 := f1_0.below hb51
        have f2_1 := f2_0.below hb51
        have pc_1 := pc_0.below hb51
        have pd_1 := pd_0.below hb51
        have f3_1 := f3_0.below hb51
        have pw_1 := pw_0.below hb51
        have hWu_1 := hWu_0.trans (hb51.mono hWu_0.size)
        have f4_1 := f4_0.below hb51
        clear hb51 hB_0 fa_0 fb_0 pa_0 pb_0 f1_0 f2_0 pc_0 pd_0 f3_0 pw_0 hWu_0 f4_0
        refine hK.out _ _ ⟨pa_1.c0, pa_1.c1, pa_1.c2, pb_1.c0, pb_1.c1, pb_1.c2, pc_1.c0, pc_1.c1, pd_1.c0, pd_1.c1⟩ (fun hHeld => ?_)
        clear hK K
        try simp only [Act.put]
        try simp only [List.setIfInBounds_toArray, List.set_cons_zero, List.set_cons_succ]
        rw [← HWu.out]
        exact stu_1ft _ m4 o4 n4 c4 w48.heap.size hB_1 fa_1 fb_1 pa_1 pb_1 f1_1 f2_1 pc_1 pd_1 f3_1 pw_1 hWu_1 f4_1 py_0 (by omega)
    try simp only [HAu.out, Act.put, List.setIfInBounds_toArray, List.set_cons_zero, List.set_cons_succ] at stu_1ff
    have stu_0tf : ∀ (w' : World) (gpx : Nat), Below w.heap.size w w' → FD w' (.agg #[.bool am, .slice ao an ac, .slice ap ak ad]) 4 Xa Da → FD w' (.agg #[.bool bm, .slice bo bn bc, .slice bp bk bd]) 4 Xb Db → Box w' (w.heap.size) [.bool am, .slice ao an ac, .slice ap ak ad] → Box w' (w.heap.size + 1) [.bool bm, .slice bo bn bc, .slice bp bk bd] → RNum w' (.agg #[.bool m1, .slice o1 n1 c1]) (max 4 1) ((den1 Da : Nat) : Int) → RNum w' (.agg #[.bool m2, .slice o2 n2 c2]) (max 4 1) ((den1 Db : Nat) : Int) → Box w' (gpc) [.bool m1, .slice o1 n1 c1] → Box w' (gpd) [.bool m2, .slice o2 n2 c2] → RNum w' (.agg #[.bool m3, .slice o3 n3 c3]) (max 4 1 + max 4 1) (((den1 Da : Nat) : Int) * ((den1 Db : Nat) : Int)) → Box w' (w8.heap.size) [.bool m3, .slice o3 n3 c3] → Below w9.heap.size w9 w' → Box w' gpx [.bool false, .slice none 0 0] → w9.heap.size ≤ gpx → WWu 5 #[true, true, true, false, true, true, true, false, true, false, false, false] (au.put (some 8) (.pointer (some ⟨gpx, 0, none⟩))) w' := by
      intro w52 gpx hB_0 fa_0 fb_0 pa_0 pb_0 f1_0 f2_0 pc_0 pd_0 f3_0 pw_0 hWu_0 px_0 hgpx
      rw [HWu.out, HAu.out]
      try simp only [Act.put]
      try simp only [List.setIfInBounds_toArray, List.set_cons_zero, List.set_cons_succ]
      refine reg_all2 3 9 ?_ ?_ (by kernel_rfl) ?_ ?_ (fun K hK => ?_) (fun K hK => ?_)
      rotate_left 2
      · simp only [List.getElem?_toArray, List.getElem?_cons_succ, List.getElem?_cons_zero]; exact rfl
      · simp only [List.getElem?_toArray, List.getElem?_cons_succ, List.getElem?_cons_zero]; exact rfl
      · go_simp
        refine (nMul_any _ _ 4 (max 4 1) Xa _ _ (by omega) (by omega) fa_0.num f2_0.num).mono ?_
        rintro e w53 ⟨m4, o4, n4, c4, rfl, f4_0, hb53⟩
        have hB_1 := hB_0.trans (hb53.mono hB_0.size)
        have fa_1 := fa_0.below hb53
        have fb_1 := fb_0.below hb53
        have pa_1 := pa_0.below hb53
        have pb_1 := pb_0.below hb53
        have f1_1 := f1_0.below hb53
        have f2_1 := f2_0.below hb53
        have pc_1 := pc_0.below hb53
        have pd_1 := pd_0.below hb53
        have f3_1 := f3_0.below hb53
        have pw_1 := pw_0.below hb53
        have hWu_1 := hWu_0.trans (hb53.mono hWu_0.size)
        have px_1 := px_0.below hb53
        clear hb53 hB_0 fa_0 fb_0 pa_0 pb_0 f1_0 f2_0 pc_0 pd_0 f3_0 pw_0 hWu_0 px_0
        go_wp2_with fail
        refine hK.out _ _ ⟨pa_1.c0, pa_1.c1, pa_1.c2, pb_1.c0, pb_1.c1, pb_1.c2, pc_1.c0, pc_1.c1, pd_1.c0, pd_1.c1⟩ (fun hHeld => ?_)
        clear hK K
        try simp only [Act.put]
        try simp only [List.setIfInBounds_toArray, List.set_cons_zero, List.set_cons_succ]
        rw [← HWu.out]
        exact stu_1tf _ m4 o4 n4 c4 gpx hB_1 fa_1 fb_1 pa_1 pb_1 f1_1 f2_1 pc_1 pd_1 f3_1 pw_1 hWu_1 f4_0 px_1 (by omega)
      · go_simp
        have hgn : w9.heap.size ≤ w52.heap.size := hWu_0.size
        have hlpx := px_0.lt
        obtain ⟨w54, hww54, py_0, hb54, -⟩ := new_box w52 _ rfl [.bool false, .slice none 0 0] 25
        rw [hww54]
        have hB_1 := hB_0.trans (hb54.mono hB_0.size)
        have fa_1 := fa_0.below hb54
        have fb_1 := fb_0.below hb54
        have pa_1 := pa_0.below hb54
        have pb_1 := pb_0.below hb54
        have f1_1 := f1_0.below hb54
        have f2_1 := f2_0.below hb54
        have pc_1 := pc_0.below hb54
        have pd_1 := pd_0.below hb54
        have f3_1 := f3_0.below hb54
        have pw_1 := pw_0.below hb54
        have hWu_1 := hWu_0.trans (hb54.mono hWu_0.size)
        have px_1 := px_0.below hb54
        clear hb54 hB_0 fa_0 fb_0 pa_0 pb_0 f1_0 f2_0 pc_0 pd_0 f3_0 pw_0 hWu_0 px_0
        refine hK.out _ _ ⟨pa_1.c0, pa_1.c1, pa_1.c2, pb_1.c0, pb_1.c1, pb_1.c2, pc_1.c0, pc_1.c1, pd_1.c0, pd_1.c1⟩ (fun hHeld => ?_)
        clear hK K
        try simp only [Act.put]
        try simp only [List.setIfInBounds_toArray, List.set_cons_zero, List.set_cons_succ]
        rw [← HWu.out]
        exact stu_0tt _ gpx w52.heap.size hB_1 fa_1 fb_1 pa_1 pb_1 f1_1 f2_1 pc_1 pd_1 f3_1 pw_1 hWu_1 px_1 py_0 (by omega) (by omega) (by omega)
    try simp only [HAu.out, Act.put, List.setIfInBounds_toArray, List.set_cons_zero, List.set_cons_succ] at stu_0tf
    have stu_0ft : ∀ (w' : World) (gpy : Nat), Below w.heap.size w w' → FD w' (.agg #[.bool am, .slice ao an ac, .slice ap ak ad]) 4 Xa Da → FD w' (.agg #[.bool bm, .slice bo bn bc, .slice bp bk bd]) 4 Xb Db → Box w' (w.heap.size) [.bool am, .slice ao an ac, .slice ap ak ad] → Box w' (w.heap.size + 1) [.bool bm, .slice bo bn bc, .slice bp bk bd] → RNum w' (.agg #[.bool m1, .slice o1 n1 c1]) (max 4 1) ((den1 Da : Nat) : Int) → RNum w' (.agg #[.bool m2, .slice o2 n2 c2]) (max 4 1) ((den1 Db : Nat) : Int) → Box w' (gpc) [.bool m1, .slice o1 n1 c1] → Box w' (gpd) [.bool m2, .slice o2 n2 c2] → RNum w' (.agg #[.bool m3, .slice o3 n3 c3]) (max 4 1 + max 4 1) (((den1 Da : Nat) : Int) * ((den1 Db : Nat) : Int)) → Box w' (w8.heap.size) [.bool m3, .slice o3 n3 c3] → Below w9.heap.size w9 w' → Box w' gpy [.bool false, .slice none 0 0] → w9.heap.size ≤ gpy → WWu 5 #[true, true, true, false, true, true, true, false, false, true, false, false] (au.put (some 9) (.pointer (some ⟨gpy, 0, none⟩))) w' := by
      intro w55 gpy hB_0 fa_0 fb_0 pa_0 pb_0 f1_0 f2_0 pc_0 pd_0 f3_0 pw_0 hWu_0 py_0 hgpy
      rw [HWu.out, HAu.out]
      try simp only [Act.put]
      try simp only [List.setIfInBounds_toArray, List.set_cons_zero, List.set_cons_succ]
      refine reg_all2 3 8 ?_ ?_ (by kernel_rfl) ?_ ?_ (fun K hK => ?_) (fun K hK => ?_)
      rotate_left 2
      · simp only [List.getElem?_toArray, List.getElem?_cons_succ, List.getElem?_cons_zero]; exact rfl
      · simp only [List.getElem?_toArray, List.getElem?_cons_succ, List.getElem?_cons_zero]; exact rfl
      · go_simp
        refine (nMul_any _ _ 4 (max 4 1) Xa _ _ (by omega) (by omega) fa_0.num f2_0.num).mono ?_
        rintro e w56 ⟨m4, o4, n4, c4, rfl, f4_0, hb56⟩
        have hB_1 := hB_0.trans (hb56.mono hB_0.size)
        have fa_1 := fa_0.below hb56
        have fb_1 := fb_0.below hb56
        have pa_1 := pa_0.below hb56
        have pb_1 := pb_0.below hb56
        have f1_1 := f1_0.below hb56
        have f2_1 := f2_0.below hb56
        have pc_1 := pc_0.below hb56
        have pd_1 := pd_0.below hb56
        have f3_1 := f3_0.below hb56
        have pw_1 := pw_0.below hb56
        have hWu_1 := hWu_0.trans (hb56.mono hWu_0.size)
        have py_1 := py_0.below hb56
        clear hb56 hB_0 fa_0 fb_0 pa_0 pb_0 f1_0 f2_0 pc_0 pd_0 f3_0 pw_0 hWu_0 py_0
        go_wp2_with fail
        refine hK.out _ _ ⟨pa_1.c0, pa_1.c1, pa_1.c2, pb_1.c0, pb_1.c1, pb_1.c2, pc_1.c0, pc_1.c1, pd_1.c0, pd_1.c1⟩ (fun hHeld => ?_)
        clear hK K
        try simp only [Act.put]
        try simp only [List.setIfInBounds_toArray, List.set_cons_zero, List.set_cons_succ]
        rw [← HWu.out]
        exact stu_1ft _ m4 o4 n4 c4 gpy hB_1 fa_1 fb_1 pa_1 pb_1 f1_1 f2_1 pc_1 pd_1 f3_1 pw_1 hWu_1 f4_0 py_1 (by omega)
      · go_simp
        have hgn : w9.heap.size ≤ w55.heap.size := hWu_0.size
        have hlpy := py_0.lt
        obtain ⟨w57, hww57, px_0, hb57, -⟩ := new_box w55 _ rfl [.bool false, .slice none 0 0] 25
        rw [hww57]
        have hB_1 := hB_0.trans (hb57.mono hB_0.size)
        have fa_1 := fa_0.below hb57
        have fb_1 := fb_0.below hb57
        have pa_1 := pa_0.below hb57
        have pb_1 := pb_0.below hb57
        have f1_1 := f1_0.below hb57
        have f2_1 := f2_0.below hb57
        have pc_1 := pc_0.below hb57
        have pd_1 := pd_0.below hb57
        have f3_1 := f3_0.below hb57
        have pw_1 := pw_0.below hb57
        have hWu_1 := hWu_0.trans (hb57.mono hWu_0.size)
        have py_1 := py_0.below hb57
        clear hb57 hB_0 fa_0 fb_0 pa_0 pb_0 f1_0 f2_0 pc_0 pd_0 f3_0 pw_0 hWu_0 py_0
        refine hK.out _ _ ⟨pa_1.c0, pa_1.c1, pa_1.c2, pb_1.c0, pb_1.c1, pb_1.c2, pc_1.c0, pc_1.c1, pd_1.c0, pd_1.c1⟩ (fun hHeld => ?_)
        clear hK K
        try simp only [Act.put]
        try simp only [List.setIfInBounds_toArray, List.set_cons_zero, List.set_cons_succ]
        rw [← HWu.out]
        exact stu_0tt _ w55.heap.size gpy hB_1 fa_1 fb_1 pa_1 pb_1 f1_1 f2_1 pc_1 pd_1 f3_1 pw_1 hWu_1 px_0 py_1 (by omega) (by omega) (by omega)
    try simp only [HAu.out, Act.put, List.setIfInBounds_toArray, List.set_cons_zero, List.set_cons_succ] at stu_0ft
    have stu_0ff : ∀ (w' : World), Below w.heap.size w w' → FD w' (.agg #[.bool am, .slice ao an ac, .slice ap ak ad]) 4 Xa Da → FD w' (.agg #[.bool bm, .slice bo bn bc, .slice bp bk bd]) 4 Xb Db → Box w' (w.heap.size) [.bool am, .slice ao an ac, .slice ap ak ad] → Box w' (w.heap.size + 1) [.bool bm, .slice bo bn bc, .slice bp bk bd] → RNum w' (.agg #[.bool m1, .slice o1 n1 c1]) (max 4 1) ((den1 Da : Nat) : Int) → RNum w' (.agg #[.bool m2, .slice o2 n2 c2]) (max 4 1) ((den1 Db : Nat) : Int) → Box w' (gpc) [.bool m1, .slice o1 n1 c1] → Box w' (gpd) [.bool m2, .slice o2 n2 c2] → RNum w' (.agg #[.bool m3, .slice o3 n3 c3]) (max 4 1 + max 4 1) (((den1 Da : Nat) : Int) * ((den1 Db : Nat) : Int)) → Box w' (w8.heap.size) [.bool m3, .slice o3 n3 c3] → Below w9.heap.size w9 w' → WWu 6 #[true, true, true, false, true, true, true, false, false, false, false, false] au w' := by
      intro w58 hB_0 fa_0 fb_0 pa_0 pb_0 f1_0 f2_0 pc_0 pd_0 f3_0 pw_0 hWu_0
      rw [HWu.out, HAu.out]
      try simp only [Act.put]
      try simp only [List.setIfInBounds_toArray, List.set_cons_zero, List.set_cons_succ]
      refine reg_all3 3 8 9 ?_ ?_ ?_ (by kernel_rfl) ?_ ?_ ?_ (fun K hK => ?_) (fun K hK => ?_) (fun K hK => ?_)
      rotate_left 3
      · simp only [List.getElem?_toArray, List.getElem?_cons_succ, List.getElem?_cons_zero]; exact rfl
      · simp only [List.getElem?_toArray, List.getElem?_cons_succ, List.getElem?_cons_zero]; exact rfl
      · simp only [List.getElem?_toArray, List.getElem?_cons_succ, List.getElem?_cons_zero]; exact rfl
      · go_simp
        refine (nMul_any _ _ 4 (max 4 1) Xa _ _ (by omega) (by omega) fa_0.num f2_0.num).mono ?_
        rintro e w59 ⟨m4, o4, n4, c4, rfl, f4_0, hb59⟩
        have hB_1 := hB_0.trans (hb59.mono hB_0.size)
        have fa_1 := fa_0.below hb59
        have fb_1 := fb_0.below hb59
        have pa_1 := pa_0.below hb59
        have pb_1 := pb_0.below hb59
        have f1_1 := f1_0.below hb59
        have f2_1 := f2_0.below hb59
        have pc_1 := pc_0.below hb59
        have pd_1 := pd_0.below hb59
        have f3_1 := f3_0.below hb59
        have pw_1 := pw_0.below hb59
        have hWu_1 := hWu_0.trans (hb59.mono hWu_0.size)
        clear hb59 hB_0 fa_0 fb_0 pa_0 pb_0 f1_0 f2_0 pc_0 pd_0 f3_0 pw_0 hWu_0
        go_wp2_with fail
        refine hK.out _ _ ⟨pa_1.c0, pa_1.c1, pa_1.c2, pb_1.c0, pb_1.c1, pb_1.c2, pc_1.c0, pc_1.c1, pd_1.c0, pd_1.c1⟩ (fun hHeld => ?_)
        clear hK K
        try simp only [Act.put]
        try simp only [List.setIfInBounds_toArray, List.set_cons_zero, List.set_cons_succ]
        rw [← HWu.out]
        exact stu_1ff _ m4 o4 n4 c4 hB_1 fa_1 fb_1 pa_1 pb_1 f1_1 f2_1 pc_1 pd_1 f3_1 pw_1 hWu_1 f4_0
      · go_simp
        have hgn : w9.heap.size ≤ w58.heap.size := hWu_0.size
        obtain ⟨w60, hww60, px_0, hb60, -⟩ := new_box w58 _ rfl [.bool false, .slice none 0 0] 25
        rw [hww60]
        have hB_1 := hB_0.trans (hb60.mono hB_0.size)
        have fa_1 := fa_0.below hb60
        have fb_1 := fb_0.below hb60
        have pa_1 := pa_0.below hb60
        have pb_1 := pb_0.below hb60
        have f1_1 := f1_0.below hb60
        have f2_1 := f2_0.below hb60
        have pc_1 := pc_0.below hb60
        have pd_1 := pd_0.below hb60
        have f3_1 := f3_0.below hb60
        have pw_1 := pw_0.below hb60
        have hWu_1 := hWu_0.trans (hb60.mono hWu_0.size)
        clear hb60 hB_0 fa_0 fb_0 pa_0 pb_0 f1_0 f2_0 pc_0 pd_0 f3_0 pw_0 hWu_0
        refine hK.out _ _ ⟨pa_1.c0, pa_1.c1, pa_1.c2, pb_1.c0, pb_1.c1, pb_1.c2, pc_1.c0, pc_1.c1, pd_1.c0, pd_1.c1⟩ (fun hHeld => ?_)
        clear hK K
        try simp only [Act.put]
        try simp only [List.setIfInBounds_toArray, List.set_cons_zero, List.set_cons_succ]
        rw [← HWu.out]
        exact stu_0tf _ w58.heap.size hB_1 fa_1 fb_1 pa_1 pb_1 f1_1 f2_1 pc_1 pd_1 f3_1 pw_1 hWu_1 px_0 (by omega)
      · go_simp
        have hgn : w9.heap.size ≤ w58.heap.size := hWu_0.size
        obtain ⟨w61, hww61, py_0, hb61, -⟩ := new_box w58 _ rfl [.bool false, .slice none 0 0] 25
        rw [hww61]
        have hB_1 := hB_0.trans (hb61.mono hB_0.size)
        have fa_1 := fa_0.below hb61
        have fb_1 := fb_0.below hb61
        have pa_1 := pa_0.below hb61
        have pb_1 := pb_0.below hb61
        have f1_1 := f1_0.below hb61
        have f2_1 := f2_0.below hb61
        have pc_1 := pc_0.below hb61
        have pd_1 := pd_0.below hb61
        have f3_1 := f3_0.below hb61
        have pw_1 := pw_0.below hb61
        have hWu_1 := hWu_0.trans (hb61.mono hWu_0.size)
        clear hb61 hB_0 fa_0 fb_0 pa_0 pb_0 f1_0 f2_0 pc_0 pd_0 f3_0 pw_0 hWu_0
        refine hK.out _ _ ⟨pa_1.c0, pa_1.c1, pa_1.c2, pb_1.c0, pb_1.c1, pb_1.c2, pc_1.c0, pc_1.c1, pd_1.c0, pd_1.c1⟩ (fun hHeld => ?_)
        clear hK K
        try simp only [Act.put]
        try simp only [List.setIfInBounds_toArray, List.set_cons_zero, List.set_cons_succ]
        rw [← HWu.out]
        exact stu_0ft _ w58.heap.size hB_1 fa_1 fb_1 pa_1 pb_1 f1_1 f2_1 pc_1 pd_1 f3_1 pw_1 hWu_1 py_0 (by omega)
    exact stu_0ff _ hB_5 fa_5 fb_5 pa_5 pb_5 f1_5 f2_5 pc_5 pd_5 f3_2 pw_1 hWu_1
  simp only [HAq.out, Act.put, List.setIfInBounds_toArray, List.set_cons_zero, List.set_cons_succ] at stq_2tt
  have stq_2tf : ∀ (w' : World) (m1 : Bool) (o1 : Option Addr) (n1 : Nat) (c1 : Nat) (m2 : Bool) (o2 : Option Addr) (n2 : Nat) (c2 : Nat) (gpc : Nat), Below w.heap.size w w' → FD w' (.agg #[.bool am, .slice ao an ac, .slice ap ak ad]) 4 Xa Da → FD w' (.agg #[.bool bm, .slice bo bn bc, .slice bp bk bd]) 4 Xb Db → Box w' (w.heap.size) [.bool am, .slice ao an ac, .slice ap ak ad] → Box w' (w.heap.size + 1) [.bool bm, .slice bo bn bc, .slice bp bk bd] → Below w4.heap.size w4 w' → RNum w' (.agg #[.bool m1, .slice o1 n1 c1]) (max 4 1) ((den1 Da : Nat)) → RNum w' (.agg #[.bool m2, .slice o2 n2 c2]) (max 4 1) ((den1 Db : Nat)) → Box w' gpc [.bool false, .slice none 0 0] → w4.heap.size ≤ gpc → WWq 3 #[true, true, true, true, true, false, false, false] (((aq.put (some 18) (.agg #[.bool m1, .slice o1 n1 c1])).put (some 20) (.agg #[.bool m2, .slice o2 n2 c2])).put (some 5) (.pointer (some ⟨gpc, 0, none⟩))) w' := by
    intro w62 m1 o1 n1 c1 m2 o2 n2 c2 gpc hB_0 fa_0 fb_0 pa_0 pb_0 hWq_0 f1_0 f2_0 pc_0 hgpc
    rw [HWq.out, HAq.out]
    try simp only [Act.put]
    try simp only [List.setIfInBounds_toArray, List.set_cons_zero, List.set_cons_succ]
    refine reg_all1 5 ?_ (by kernel_rfl) ?_ (fun K hK => ?_)
    rotate_left 1
    · simp only [List.getElem?_toArray, List.getElem?_cons_succ, List.getElem?_cons_zero]; exact rfl
    · go_simp
      have hgn : w4.heap.size ≤ w62.heap.size := hWq_0.size
      have hlpc := pc_0.lt
      obtain ⟨w63, hww63, pd_0, hb63, -⟩ := new_box w62 _ rfl [.bool false, .slice none 0 0] 25
      rw [hww63]
      have hB_1 := hB_0.trans (hb63.mono hB_0.size)
      have fa_1 := fa_0.below hb63
      have fb_1 := fb_0.below hb63
      have pa_1 := pa_0.below hb63
      have pb_1 := pb_0.below hb63
      have hWq_1 := hWq_0.trans (hb63.mono hWq_0.size)
      have f1_1 := f1_0.below hb63
      have f2_1 := f2_0.below hb63
      have pc_1 := pc_0.below hb63
      clear hb63 hB_0 fa_0 fb_0 pa_0 pb_0 hWq_0 f1_0 f2_0 pc_0
      refine hK.out _ _ ⟨pa_1.c0, pa_1.c1, pa_1.c2, pb_1.c0, pb_1.c1, pb_1.c2⟩ (fun hHeld => ?_)
      clear hK K
      try simp only [Act.put]
      try simp only [List.setIfInBounds_toArray, List.set_cons_zero, List.set_cons_succ]
      rw [← HWq.out]
      exact stq_2tt _ m1 o1 n1 c1 m2 o2 n2 c2 gpc w62.heap.size hB_1 fa_1 fb_1 pa_1 pb_1 hWq_1 f1_1 f2_1 pc_1 pd_0 (by omega) (by omega) (by omega)
  try simp only [HAq.out, Act.put, List.setIfInBounds_toArray, List.set_cons_zero, List.set_cons_succ] at stq_2tf
  have stq_2ft : ∀ (w' : World) (m1 : Bool) (o1 : Option Addr) (n1 : Nat) (c1 : Nat) (m2 : Bool) (o2 : Option Addr) (n2 : Nat) (c2 : Nat) (gpd : Nat), Below w.heap.size w w' → FD w' (.agg #[.bool am, .slice ao an ac, .slice ap ak ad]) 4 Xa Da → FD w' (.agg #[.bool bm, .slice bo bn bc, .slice bp bk bd]) 4 Xb Db → Box w' (w.heap.size) [.bool am, .slice ao an ac, .slice ap ak ad] → Box w' (w.heap.size + 1) [.bool bm, .slice bo bn bc, .slice bp bk bd] → Below w4.heap.size w4 w' → RNum w' (.agg #[.bool m1, .slice o1 n1 c1]) (max 4 1) ((den1 Da : Nat)) → RNum w' (.agg #[.bool m2, .slice o2 n2 c2]) (max 4 1) ((den1 Db : Nat)) → Box w' gpd [.bool false, .slice none 0 0] → w4.heap.size ≤ gpd → WWq 3 #[true, true, true, true, false, true, false, false] (((aq.put (some 18) (.agg #[.bool m1, .slice o1 n1 c1])).put (some 20) (.agg #[.bool m2, .slice o2 n2 c2])).put (some 6) (.pointer (some ⟨gpd, 0, none⟩))) w' := by
    intro w64 m1 o1 n1 c1 m2 o2 n2 c2 gpd hB_0 fa_0 fb_0 pa_0 pb_0 hWq_0 f1_0 f2_0 pd_0 hgpd
    rw [HWq.out, HAq.out]
    try simp only [Act.put]
    try simp only [List.setIfInBounds_toArray, List.set_cons_zero, List.set_cons_succ]
    refine reg_all1 4 ?_ (by kernel_rfl) ?_ (fun K hK => ?_)
    rotate_left 1
    · simp only [List.getElem?_toArray, List.getElem?_cons_succ, List.getElem?_cons_zero]; exact rfl
    · go_simp
      have hgn : w4.heap.size ≤ w64.heap.size := hWq_0.size
      have hlpd := pd_0.lt
      obtain ⟨w65, hww65, pc_0, hb65, -⟩ := new_box w64 _ rfl [.bool false, .slice none 0 0] 25
      rw [hww65]
      have hB_1 := hB_0.trans (hb65.mono hB_0.size)
      have fa_1 := fa_0.below hb65
      have fb_1 := fb_0.below hb65
      have pa_1 := pa_0.below hb65
      have pb_1 := pb_0.below hb65
      have hWq_1 := hWq_0.trans (hb65.mono hWq_0.size)
      have f1_1 := f1_0.below hb65
      have f2_1 := f2_0.below hb65
      have pd_1 := pd_0.below hb65
      clear hb65 hB_0 fa_0 fb_0 pa_0 pb_0 hWq_0 f1_0 f2_0 pd_0
      refine hK.out _ _ ⟨pa_1.c0, pa_1.c1, pa_1.c2, pb_1.c0, pb_1.c1, pb_1.c2⟩ (fun hHeld => ?_)
      clear hK K
      try simp only [Act.put]
      try simp only [List.setIfInBounds_toArray, List.set_cons_zero, List.set_cons_succ]
      rw [← HWq.out]
      exact stq_2tt _ m1 o1 n1 c1 m2 o2 n2 c2 w64.heap.size gpd hB_1 fa_1 fb_1 pa_1 pb_1 hWq_1 f1_1 f2_1 pc_0 pd_1 (by omega) (by omega) (by omega)
  try simp only [HAq.out, Act.put, List.setIfInBounds_toArray, List.set_cons_zero, List.set_cons_succ] at stq_2ft
  have stq_1tt : ∀ (w' : World) (m1 : Bool) (o1 : Option Addr) (n1 : Nat) (c1 : Nat) (gpc : Nat) (gpd : Nat), Below w.heap.size w w' → FD w' (.agg #[.bool am, .slice ao an ac, .slice ap ak ad]) 4 Xa Da → FD w' (.agg #[.bool bm, .slice bo bn bc, .slice bp bk bd]) 4 Xb Db → Box w' (w.heap.size) [.bool am, .slice ao an ac, .slice ap ak ad] → Box w' (w.heap.size + 1) [.bool bm, .slice bo bn bc, .slice bp bk bd] → Below w4.heap.size w4 w' → RNum w' (.agg #[.bool m1, .slice o1 n1 c1]) (max 4 1) ((den1 Da : Nat)) → Box w' gpc [.bool false, .slice none 0 0] → Box w' gpd [.bool false, .slice none 0 0] → w4.heap.size ≤ gpc → w4.heap.size ≤ gpd → gpc ≠ gpd → WWq 3 #[true, true, true, false, true, true, false, false] (((aq.put (some 18) (.agg #[.bool m1, .slice o1 n1 c1])).put (some 5) (.pointer (some ⟨gpc, 0, none⟩))).put (some 6) (.pointer (some ⟨gpd, 0, none⟩))) w' := by
    intro w66 m1 o1 n1 c1 gpc gpd hB_0 fa_0 fb_0 pa_0 pb_0 hWq_0 f1_0 pc_0 pd_0 hgpc hgpd hnpcpd
    rw [HWq.out, HAq.out]
    try simp only [Act.put]
    try simp only [List.setIfInBounds_toArray, List.set_cons_zero, List.set_cons_succ]
    refine reg_all1 3 ?_ (by kernel_rfl) ?_ (fun K hK => ?_)
    rotate_left 1
    · simp only [List.getElem?_toArray, List.getElem?_cons_succ, List.getElem?_cons_zero]; exact rfl
    · go_simp
      refine (below_any _ 4 Xb Db _ (by omega) fb_0).mono ?_
      rintro e w67 ⟨m2, o2, n2, c2, rfl, f2_0, hb67⟩
      have hB_1 := hB_0.trans (hb67.mono hB_0.size)
      have fa_1 := fa_0.below hb67
      have fb_1 := fb_0.below hb67
      have pa_1 := pa_0.below hb67
      have pb_1 := pb_0.below hb67
      have hWq_1 := hWq_0.trans (hb67.mono hWq_0.size)
      have f1_1 := f1_0.below hb67
      have pc_1 := pc_0.below hb67
      have pd_1 := pd_0.below hb67
      clear hb67 hB_0 fa_0 fb_0 pa_0 pb_0 hWq_0 f1_0 pc_0 pd_0
      go_wp2_with fail
      refine hK.out _ _ ⟨pa_1.c0, pa_1.c1, pa_1.c2, pb_1.c0, pb_1.c1, pb_1.c2⟩ (fun hHeld => ?_)
      clear hK K
      try simp only [Act.put]
      try simp only [List.setIfInBounds_toArray, List.set_cons_zero, List.set_cons_succ]
      rw [← HWq.out]
      exact stq_2tt _ m1 o1 n1 c1 m2 o2 n2 c2 gpc gpd hB_1 fa_1 fb_1 pa_1 pb_1 hWq_1 f1_1 f2_0 pc_1 pd_1 (by omega) (by omega) (by omega)
  try simp only [HAq.out, Act.put, List.setIfInBounds_toArray, List.set_cons_zero, List.set_cons_succ] at stq_1tt
  have stq_2ff : ∀ (w' : World) (m1 : Bool) (o1 : Option Addr) (n1 : Nat) (c1 : Nat) (m2 : Bool) (o2 : Option Addr) (n2 : Nat) (c2 : Nat), Below w.heap.size w w' → FD w' (.agg #[.bool am, .slice ao an ac, .slice ap ak ad]) 4 Xa Da → FD w' (.agg #[.bool bm, .slice bo bn bc, .slice bp bk bd]) 4 Xb Db → Box w' (w.heap.size) [.bool am, .slice ao an ac, .slice ap ak ad] → Box w' (w.heap.size + 1) [.bool bm, .slice bo bn bc, .slice bp bk bd] → Below w4.heap.size w4 w' → RNum w' (.agg #[.bool m1, .slice o1 n1 c1]) (max 4 1) ((den1 Da : Nat)) → RNum w' (.agg #[.bool m2, .slice o2 n2 c2]) (max 4 1) ((den1 Db : Nat)) → WWq 4 #[true, true, true, true, false, false, false, false] ((aq.put (some 18) (.agg #[.bool m1, .slice o1 n1 c1])).put (some 20) (.agg #[.bool m2, .slice o2 n2 c2])) w' := by
    intro w68 m1 o1 n1 c1 m2 o2 n2 c2 hB_0 fa_0 fb_0 pa_0 pb_0 hWq_0 f1_0 f2_0
    rw [HWq.out, HAq.out]
    try simp only [Act.put]
    try simp only [List.setIfInBounds_toArray, List.set_cons_zero, List.set_cons_succ]
    refine reg_all2 4 5 ?_ ?_ (by kernel_rfl) ?_ ?_ (fun K hK => ?_) (fun K hK => ?_)
    rotate_left 2
    · simp only [List.getElem?_toArray, List.getElem?_cons_succ, List.getElem?_cons_zero]; exact rfl
    · simp only [List.getElem?_toArray, List.getElem?_cons_succ, List.getElem?_cons_zero]; exact rfl
    · go_simp
      have hgn : w4.heap.size ≤ w68.heap.size := hWq_0.size
      obtain ⟨w69, hww69, pc_0, hb69, -⟩ := new_box w68 _ rfl [.bool false, .slice none 0 0] 25
      rw [hww69]
      have hB_1 := hB_0.trans (hb69.mono hB_0.size)
      have fa_1 := fa_0.below hb69
      have fb_1 := fb_0.below hb69
      have pa_1 := pa_0.below hb69
      have pb_1 := pb_0.below hb69
      have hWq_1 := hWq_0.trans (hb69.mono hWq_0.size)
      have f1_1 := f1_0.below hb69
      have f2_1 := f2_0.below hb69
      clear hb69 hB_0 fa_0 fb_0 pa_0 pb_0 hWq_0 f1_0 f2_0
      refine hK.out _ _ ⟨pa_1.c0, pa_1.c1, pa_1.c2, pb_1.c0, pb_1.c1, pb_1.c2⟩ (fun hHeld => ?_)
      clear hK K
      try simp only [Act.put]
      try simp only [List.setIfInBounds_toArray, List.set_cons_zero, List.set_cons_succ]
      rw [← HWq.out]
      exact stq_2tf _ m1 o1 n1 c1 m2 o2 n2 c2 w68.heap.size hB_1 fa_1 fb_1 pa_1 pb_1 hWq_1 f1_1 f2_1 pc_0 (by omega)
    · go_simp
      have hgn : w4.heap.size ≤ w68.heap.size := hWq_0.size
      obtain ⟨w70, hww70, pd_0, hb70, -⟩ := new_box w68 _ rfl [.bool false, .slice none 0 0] 25
      rw [hww70]
      have hB_1 := hB_0.trans (hb70.mono hB_0.size)
      have fa_1 := fa_0.below hb70
      have fb_1 := fb_0.below hb70
      have pa_1 := pa_0.below hb70
      have pb_1 := pb_0.below hb70
      have hWq_1 := hWq_0.trans (hb70.mono hWq_0.size)
      have f1_1 := f1_0.below hb70
      have f2_1 := f2_0.below hb70
      clear hb70 hB_0 fa_0 fb_0 pa_0 pb_0 hWq_0 f1_0 f2_0
      refine hK.out _ _ ⟨pa_1.c0, pa_1.c1, pa_1.c2, pb_1.c0, pb_1.c1, pb_1.c2⟩ (fun hHeld => ?_)
      clear hK K
      try simp only [Act.put]
      try simp only [List.setIfInBounds_toArray, List.set_cons_zero, List.set_cons_succ]
      rw [← HWq.out]
      exact stq_2ft _ m1 o1 n1 c1 m2 o2 n2 c2 w68.heap.size hB_1 fa_1 fb_1 pa_1 pb_1 hWq_1 f1_1 f2_1 pd_0 (by omega)
  try simp only [HAq.out, Act.put, List.setIfInBounds_toArray, List.set_cons_zero, List.set_cons_succ] at stq_2ff
  have stq_1tf : ∀ (w' : World) (m1 : Bool) (o1 : Option Addr) (n1 : Nat) (c1 : Nat) (gpc : Nat), Below w.heap.size w w' → FD w' (.agg #[.bool am, .slice ao an ac, .slice ap ak ad]) 4 Xa Da → FD w' (.agg #[.bool bm, .slice bo bn bc, .slice bp bk bd]) 4 Xb Db → Box w' (w.heap.size) [.bool am, .slice ao an ac, .slice ap ak ad] → Box w' (w.heap.size + 1) [.bool bm, .slice bo bn bc, .slice bp bk bd] → Below w4.heap.size w4 w' → RNum w' (.agg #[.bool m1, .slice o1 n1 c1]) (max 4 1) ((den1 Da : Nat)) → Box w' gpc [.bool false, .slice none 0 0] → w4.heap.size ≤ gpc → WWq 4 #[true, true, true, false, true, false, false, false] ((aq.put (some 18) (.agg #[.bool m1, .slice o1 n1 c1])).put (some 5) (.pointer (some ⟨gpc, 0, none⟩))) w' := by
    intro w71 m1 o1 n1 c1 gpc hB_0 fa_0 fb_0 pa_0 pb_0 hWq_0 f1_0 pc_0 hgpc
    rw [HWq.out, HAq.out]
    try simp only [Act.put]
    try simp only [List.setIfInBounds_toArray, List.set_cons_zero, List.set_cons_succ]
    refine reg_all2 3 5 ?_ ?_ (by kernel_rfl) ?_ ?_ (fun K hK => ?_) (fun K hK => ?_)
    rotate_left 2
    · simp only [List.getElem?_toArray, List.getElem?_cons_succ, List.getElem?_cons_zero]; exact rfl
    · simp only [List.getElem?_toArray, List.getElem?_cons_succ, List.getElem?_cons_zero]; exact rfl
    · go_simp
      refine (below_any _ 4 Xb Db _ (by omega) fb_0).mono ?_
      rintro e w72 ⟨m2, o2, n2, c2, rfl, f2_0, hb72⟩
      have hB_1 := hB_0.trans (hb72.mono hB_0.size)
      have fa_1 := fa_0.below hb72
      have fb_1 := fb_0.below hb72
      have pa_1 := pa_0.below hb72
      have pb_1 := pb_0.below hb72
      have hWq_1 := hWq_0.trans (hb72.mono hWq_0.size)
      have f1_1 := f1_0.below hb72
      have pc_1 := pc_0.below hb72
      clear hb72 hB_0 fa_0 fb_0 pa_0 pb_0 hWq_0 f1_0 pc_0
      go_wp2_with fail
      refine hK.out _ _ ⟨pa_1.c0, pa_1.c1, pa_1.c2, pb_1.c0, pb_1.c1, pb_1.c2⟩ (fun hHeld => ?_)
      clear hK K
      try simp only [Act.put]
      try simp only [List.setIfInBounds_toArray, List.set_cons_zero, List.set_cons_succ]
      rw [← HWq.out]
      exact stq_2tf _ m1 o1 n1 c1 m2 o2 n2 c2 gpc hB_1 fa_1 fb_1 pa_1 pb_1 hWq_1 f1_1 f2_0 pc_1 (by omega)
    · go_simp
      have hgn : w4.heap.size ≤ w71.heap.size := hWq_0.size
      have hlpc := pc_0.lt
      obtain ⟨w73, hww73, pd_0, hb73, -⟩ := new_box w71 _ rfl [.bool false, .slice none 0 0] 25
      rw [hww73]
      have hB_1 := hB_0.trans (hb73.mono hB_0.size)
      have fa_1 := fa_0.below hb73
      have fb_1 := fb_0.below hb73
      have pa_1 := pa_0.below hb73
      have pb_1 := pb_0.below hb73
      have hWq_1 := hWq_0.trans (hb73.mono hWq_0.size)
      have f1_1 := f1_0.below hb73
      have pc_1 := pc_0.below hb73
      clear hb73 hB_0 fa_0 fb_0 pa_0 pb_0 hWq_0 f1_0 pc_0
      refine hK.out _ _ ⟨pa_1.c0, pa_1.c1, pa_1.c2, pb_1.c0, pb_1.c1, pb_1.c2⟩ (fun hHeld => ?_)
      clear hK K
      try simp only [Act.put]
      try simp only [List.setIfInBounds_toArray, List.set_cons_zero, List.set_cons_succ]
      rw [← HWq.out]
      exact stq_1tt _ m1 o1 n1 c1 gpc w71.heap.size hB_1 fa_1 fb_1 pa_1 pb_1 hWq_1 f1_1 pc_1 pd_0 (by omega) (by omega) (by omega)
  try simp only [HAq.out, Act.put, List.setIfInBounds_toArray, List.set_cons_zero, List.set_cons_succ] at stq_1tf
  have stq_1ft : ∀ (w' : World) (m1 : Bool) (o1 : Option Addr) (n1 : Nat) (c1 : Nat) (gpd : Nat), Below w.heap.size w w' → FD w' (.agg #[.bool am, .slice ao an ac, .slice ap ak ad]) 4 Xa Da → FD w' (.agg #[.bool bm, .slice bo bn bc, .slice bp bk bd]) 4 Xb Db → Box w' (w.heap.size) [.bool am, .slice ao an ac, .slice ap ak ad] → Box w' (w.heap.size + 1) [.bool bm, .slice bo bn bc, .slice bp bk bd] → Below w4.heap.size w4 w' → RNum w' (.agg #[.bool m1, .slice o1 n1 c1]) (max 4 1) ((den1 Da : Nat)) → Box w' gpd [.bool false, .slice none 0 0] → w4.heap.size ≤ gpd → WWq 4 #[true, true, true, false, false, true, false, false] ((aq.put (some 18) (.agg #[.bool m1, .slice o1 n1 c1])).put (some 6) (.pointer (some ⟨gpd, 0, none⟩))) w' := by
    intro w74 m1 o1 n1 c1 gpd hB_0 fa_0 fb_0 pa_0 pb_0 hWq_0 f1_0 pd_0 hgpd
    rw [HWq.out, HAq.out]
    try simp only [Act.put]
    try simp only [List.setIfInBounds_toArray, List.set_cons_zero, List.set_cons_succ]
    refine reg_all2 3 4 ?_ ?_ (by kernel_rfl) ?_ ?_ (fun K hK => ?_) (fun K hK => ?_)
    rotate_left 2
    · simp only [List.getElem?_toArray, List.getElem?_cons_succ, List.getElem?_cons_zero]; exact rfl
    · simp only [List.getElem?_toArray, List.getElem?_cons_succ, List.getElem?_cons_zero]; exact rfl
    · go_simp
      refine (below_any _ 4 Xb Db _ (by omega) fb_0).mono ?_
      rintro e w75 ⟨m2, o2, n2, c2, rfl, f2_0, hb75⟩
      have hB_1 := hB_0.trans (hb75.mono hB_0.size)
      have fa_1 := fa_0.below hb75
      have fb_1 := fb_0.below hb75
      have pa_1 := pa_0.below hb75
      have pb_1 := pb_0.below hb75
      have hWq_1 := hWq_0.trans (hb75.mono hWq_0.size)
      have f1_1 := f1_0.below hb75
      have pd_1 := pd_0.below hb75
      clear hb75 hB_0 fa_0 fb_0 pa_0 pb_0 hWq_0 f1_0 pd_0
      go_wp2_with fail
      refine hK.out _ _ ⟨pa_1.c0, pa_1.c1, pa_1.c2, pb_1.c0, pb_1.c1, pb_1.c2⟩ (fun hHeld => ?_)
      clear hK K
      try simp only [Act.put]
      try simp only [List.setIfInBounds_toArray, List.set_cons_zero, List.set_cons_succ]
      rw [← HWq.out]
      exact stq_2ft _ m1 o1 n1 c1 m2 o2 n2 c2 gpd hB_1 fa_1 fb_1 pa_1 pb_1 hWq_1 f1_1 f2_0 pd_1 (by omega)
    · go_simp
      have hgn : w4.heap.size ≤ w74.heap.size := hWq_0.size
      have hlpd := pd_0.lt
      obtain ⟨w76, hww76, pc_0, hb76, -⟩ := new_box w74 _ rfl [.bool false, .slice none 0 0] 25
      rw [hww76]
      have hB_1 := hB_0.trans (hb76.mono hB_0.size)
      have fa_1 := fa_0.below hb76
      have fb_1 := fb_0.below hb76
      have pa_1 := pa_0.below hb76
      have pb_1 := pb_0.below hb76
      have hWq_1 := hWq_0.trans (hb76.mono hWq_0.size)
      have f1_1 := f1_0.below hb76
      have pd_1 := pd_0.below hb76
      clear hb76 hB_0 fa_0 fb_0 pa_0 pb_0 hWq_0 f1_0 pd_0
      refine hK.out _ _ ⟨pa_1.c0, pa_1.c1, pa_1.c2, pb_1.c0, pb_1.c1, pb_1.c2⟩ (fun hHeld => ?_)
      clear hK K
      try simp only [Act.put]
      try simp only [List.setIfInBounds_toArray, List.set_cons_zero, List.set_cons_succ]
      rw [← HWq.out]
      exact stq_1tt _ m1 o1 n1 c1 w74.heap.size gpd hB_1 fa_1 fb_1 pa_1 pb_1 hWq_1 f1_1 pc_0 pd_1 (by omega) (by omega) (by omega)
  try simp only [HAq.out, Act.put, List.setIfInBounds_toArray, List.set_cons_zero, List.set_cons_succ] at stq_1ft
  have stq_0tt : ∀ (w' : World) (gpc : Nat) (gpd : Nat), Below w.heap.size w w' → FD w' (.agg #[.bool am, .slice ao an ac, .slice ap ak ad]) 4 Xa Da → FD w' (.agg #[.bool bm, .slice bo bn bc, .slice bp bk bd]) 4 Xb Db → Box w' (w.heap.size) [.bool am, .slice ao an ac, .slice ap ak ad] → Box w' (w.heap.size + 1) [.bool bm, .slice bo bn bc, .slice bp bk bd] → Below w4.heap.size w4 w' → Box w' gpc [.bool false, .slice none 0 0] → Box w' gpd [.bool false, .slice none 0 0] → w4.heap.size ≤ gpc → w4.heap.size ≤ gpd → gpc ≠ gpd → WWq 4 #[true, false, true, false, true, true, false, false] ((aq.put (some 5) (.pointer (some ⟨gpc, 0, none⟩))).put (some 6) (.pointer (some ⟨gpd, 0, none⟩))) w' := by
    intro w77 gpc gpd hB_0 fa_0 fb_0 pa_0 pb_0 hWq_0 pc_0 pd_0 hgpc hgpd hnpcpd
    rw [HWq.out, HAq.out]
    try simp only [Act.put]
    try simp only [List.setIfInBounds_toArray, List.set_cons_zero, List.set_cons_succ]
    refine reg_all1 1 ?_ (by kernel_rfl) ?_ (fun K hK => ?_)
    rotate_left 1
    · simp only [List.getElem?_toArray, List.getElem?_cons_succ, List.getElem?_cons_zero]; exact rfl
    · go_simp
      refine (below_any _ 4 Xa Da _ (by omega) fa_0).mono ?_
      rintro e w78 ⟨m1, o1, n1, c1, rfl, f1_0, hb78⟩
      have hB_1 := hB_0.trans (hb78.mono hB_0.size)
      have fa_1 := fa_0.below hb78
      have fb_1 := fb_0.below hb78
      have pa_1 := pa_0.below hb78
      have pb_1 := pb_0.below hb78
      have hWq_1 := hWq_0.trans (hb78.mono hWq_0.size)
      have pc_1 := pc_0.below hb78
      have pd_1 := pd_0.below hb78
      clear hb78 hB_0 fa_0 fb_0 pa_0 pb_0 hWq_0 pc_0 pd_0
      go_wp2_with fail
      refine hK.out _ _ ⟨pa_1.c0, pa_1.c1, pa_1.c2, pb_1.c0, pb_1.c1, pb_1.c2⟩ (fun hHeld => ?_)
      clear hK K
      try simp only [Act.put]
      try simp only [List.setIfInBounds_toArray, List.set_cons_zero, List.set_cons_succ]
      rw [← HWq.out]
      exact stq_1tt _ m1 o1 n1 c1 gpc gpd hB_1 fa_1 fb_1 pa_1 pb_1 hWq_1 f1_0 pc_1 pd_1 (by omega) (by omega) (by omega)
  try simp only [HAq.out, Act.put, List.setIfInBounds_toArray, List.set_cons_zero, List.set_cons_succ] at stq_0tt
  have stq_1ff : ∀ (w' : World) (m1 : Bool) (o1 : Option Addr) (n1 : Nat) (c1 : Nat), Below w.heap.size w w' → FD w' (.agg #[.bool am, .slice ao an ac, .slice ap ak ad]) 4 Xa Da → FD w' (.agg #[.bool bm, .slice bo bn bc, .slice bp bk bd]) 4 Xb Db → Box w' (w.heap.size) [.bool am, .slice ao an ac, .slice ap ak ad] → Box w' (w.heap.size + 1) [.bool bm, .slice bo bn bc, .slice bp bk bd] → Below w4.heap.size w4 w' → RNum w' (.agg #[.bool m1, .slice o1 n1 c1]) (max 4 1) ((den1 Da : Nat)) → WWq 5 #[true, true, true, false, false, false, false, false] (aq.put (some 18) (.agg #[.bool m1, .slice o1 n1 c1])) w' := by
    intro w79 m1 o1 n1 c1 hB_0 fa_0 fb_0 pa_0 pb_0 hWq_0 f1_0
    rw [HWq.out, HAq.out]
    try simp only [Act.put]
    try simp only [List.setIfInBounds_toArray, List.set_cons_zero, List.set_cons_succ]
    refine reg_all3 3 4 5 ?_ ?_ ?_ (by kernel_rfl) ?_ ?_ ?_ (fun K hK => ?_) (fun K hK => ?_) (fun K hK => ?_)
    rotate_left 3
    · simp only [List.getElem?_toArray, List.getElem?_cons_succ, List.getElem?_cons_zero]; exact rfl
    · simp only [List.getElem?_toArray, List.getElem?_cons_succ, List.getElem?_cons_zero]; exact rfl
    · simp only [List.getElem?_toArray, List.getElem?_cons_succ, List.getElem?_cons_zero]; exact rfl
    · go_simp
      refine (below_any _ 4 Xb Db _ (by omega) fb_0).mono ?_
      rintro e w80 ⟨m2, o2, n2, c2, rfl, f2_0, hb80⟩
      have hB_1 := hB_0.trans (hb80.mono hB_0.size)
      have fa_1 := fa_0.below hb80
      have fb_1 := fb_0.below hb80
      have pa_1 := pa_0.below hb80
      have pb_1 := pb_0.below hb80
      have hWq_1 := hWq_0.trans (hb80.mono hWq_0.size)
      have f1_1 := f1_0.below hb80
      clear hb80 hB_0 fa_0 fb_0 pa_0 pb_0 hWq_0 f1_0
      go_wp2_with fail
      refine hK.out _ _ ⟨pa_1.c0, pa_1.c1, pa_1.c2, pb_1.c0, pb_1.c1, pb_1.c2⟩ (fun hHeld => ?_)
      clear hK K
      try simp only [Act.put]
      try simp only [List.setIfInBounds_toArray, List.set_cons_zero, List.set_cons_succ]
      rw [← HWq.out]
      exact stq_2ff _ m1 o1 n1 c1 m2 o2 n2 c2 hB_1 fa_1 fb_1 pa_1 pb_1 hWq_1 f1_1 f2_0
    · go_simp
      have hgn : w4.heap.size ≤ w79.heap.size := hWq_0.size
      obtain ⟨w81, hww81, pc_0, hb81, -⟩ := new_box w79 _ rfl [.bool false, .slice none 0 0] 25
      rw [hww81]
      have hB_1 := hB_0.trans (hb81.mono hB_0.size)
      have fa_1 := fa_0.below hb81
      have fb_1 := fb_0.below hb81
      have pa_1 := pa_0.below hb81
      have pb_1 := pb_0.below hb81
      have hWq_1 := hWq_0.trans (hb81.mono hWq_0.size)
      have f1_1 := f1_0.below hb81
      clear hb81 hB_0 fa_0 fb_0 pa_0 pb_0 hWq_0 f1_0
      refine hK.out _ _ ⟨pa_1.c0, pa_1.c1, pa_1.c2, pb_1.c0, pb_1.c1, pb_1.c2⟩ (fun hHeld => ?_)
      clear hK K
      try simp only [Act.put]
      try simp only [List.setIfInBounds_toArray, List.set_cons_zero, List.set_cons_succ]
      rw [← HWq.out]
      exact stq_1tf _ m1 o1 n1 c1 w79.heap.size hB_1 fa_1 fb_1 pa_1 pb_1 hWq_1 f1_1 pc_0 (by omega)
    · go_simp
      have hgn : w4.heap.size ≤ w79.heap.size := hWq_0.size
      obtain ⟨w82, hww82, pd_0, hb82, -⟩ := new_box w79 _ rfl [.bool false, .slice none 0 0] 25
      rw [hww82]
      have hB_1 := hB_0.trans (hb82.mono hB_0.size)
      have fa_1 := fa_0.below hb82
      have fb_1 := fb_0.below hb82
      have pa_1 := pa_0.below hb82
      have pb_1 := pb_0.below hb82
      have hWq_1 := hWq_0.trans (hb82.mono hWq_0.size)
      have f1_1 := f1_0.below hb82
      clear hb82 hB_0 fa_0 fb_0 pa_0 pb_0 hWq_0 f1_0
      refine hK.out _ _ ⟨pa_1.c0, pa_1.c1, pa_1.c2, pb_1.c0, pb_1.c1, pb_1.c2⟩ (fun hHeld => ?_)
      clear hK K
      try simp only [Act.put]
      try simp only [List.setIfInBounds_toArray, List.set_cons_zero, List.set_cons_succ]
      rw [← HWq.out]
      exact stq_1ft _ m1 o1 n1 c1 w79.heap.size hB_1 fa_1 fb_1 pa_1 pb_1 hWq_1 f1_1 pd_0 (by omega)
  try simp only [HAq.out, Act.put, List.setIfInBounds_toArray, List.set_cons_zero, List.set_cons_succ] at stq_1ff
  have stq_0tf : ∀ (w' : World) (gpc : Nat), Below w.heap.size w w' → FD w' (.agg #[.bool am, .slice ao an ac, .slice ap ak ad]) 4 Xa Da → FD w' (.agg #[.bool bm, .slice bo bn bc, .slice bp bk bd]) 4 Xb Db → Box w' (w.heap.size) [.bool am, .slice ao an ac, .slice ap ak ad] → Box w' (w.heap.size + 1) [.bool bm, .slice bo bn bc, .slice bp bk bd] → Below w4.heap.size w4 w' → Box w' gpc [.bool false, .slice none 0 0] → w4.heap.size ≤ gpc → WWq 5 #[true, false, true, false, true, false, false, false] (aq.put (some 5) (.pointer (some ⟨gpc, 0, none⟩))) w' := by
    intro w83 gpc hB_0 fa_0 fb_0 pa_0 pb_0 hWq_0 pc_0 hgpc
    rw [HWq.out, HAq.out]
    try simp only [Act.put]
    try simp only [List.setIfInBounds_toArray, List.set_cons_zero, List.set_cons_succ]
    refine reg_all2 1 5 ?_ ?_ (by kernel_rfl) ?_ ?_ (fun K hK => ?_) (fun K hK => ?_)
    rotate_left 2
    · simp only [List.getElem?_toArray, List.getElem?_cons_succ, List.getElem?_cons_zero]; exact rfl
    · simp only [List.getElem?_toArray, List.getElem?_cons_succ, List.getElem?_cons_zero]; exact rfl
    · go_simp
      refine (below_any _ 4 Xa Da _ (by omega) fa_0).mono ?_
      rintro e w84 ⟨m1, o1, n1, c1, rfl, f1_0, hb84⟩
      have hB_1 := hB_0.trans (hb84.mono hB_0.size)
      have fa_1 := fa_0.below hb84
      have fb_1 := fb_0.below hb84
      have pa_1 := pa_0.below hb84
      have pb_1 := pb_0.below hb84
      have hWq_1 := hWq_0.trans (hb84.mono hWq_0.size)
      have pc_1 := pc_0.below hb84
      clear hb84 hB_0 fa_0 fb_0 pa_0 pb_0 hWq_0 pc_0
      go_wp2_with fail
      refine hK.out _ _ ⟨pa_1.c0, pa_1.c1, pa_1.c2, pb_1.c0, pb_1.c1, pb_1.c2⟩ (fun hHeld => ?_)
      clear hK K
      try simp only [Act.put]
      try simp only [List.setIfInBounds_toArray, List.set_cons_zero, List.set_cons_succ]
      rw [← HWq.out]
      exact stq_1tf _ m1 o1 n1 c1 gpc hB_1 fa_1 fb_1 pa_1 pb_1 hWq_1 f1_0 pc_1 (by omega)
    · go_simp
      have hgn : w4.heap.size ≤ w83.heap.size := hWq_0.size
      have hlpc := pc_0.lt
      obtain ⟨w85, hww85, pd_0, hb85, -⟩ := new_box w83 _ rfl [.bool false, .slice none 0 0] 25
      rw [hww85]
      have hB_1 := hB_0.trans (hb85.mono hB_0.size)
      have fa_1 := fa_0.below hb85
      have fb_1 := fb_0.below hb85
      have pa_1 := pa_0.below hb85
      have pb_1 := pb_0.below hb85
      have hWq_1 := hWq_0.trans (hb85.mono hWq_0.size)
      have pc_1 := pc_0.below hb85
      clear hb85 hB_0 fa_0 fb_0 pa_0 pb_0 hWq_0 pc_0
      refine hK.out _ _ ⟨pa_1.c0, pa_1.c1, pa_1.c2, pb_1.c0, pb_1.c1, pb_1.c2⟩ (fun hHeld => ?_)
      clear hK K
      try simp only [Act.put]
      try simp only [List.setIfInBounds_toArray, List.set_cons_zero, List.set_cons_succ]
      rw [← HWq.out]
      exact stq_0tt _ gpc w83.heap.size hB_1 fa_1 fb_1 pa_1 pb_1 hWq_1 pc_1 pd_0 (by omega) (by omega) (by omega)
  try simp only [HAq.out, Act.put, List.setIfInBounds_toArray, List.set_cons_zero, List.set_cons_succ] at stq_0tf
  have stq_0ft : ∀ (w' : World) (gpd : Nat), Below w.heap.size w w' → FD w' (.agg #[.bool am, .slice ao an ac, .slice ap ak ad]) 4 Xa Da → FD w' (.agg #[.bool bm, .slice bo bn bc, .slice bp bk bd]) 4 Xb Db → Box w' (w.heap.size) [.bool am, .slice ao an ac, .slice ap ak ad] → Box w' (w.heap.size + 1) [.bool bm, .slice bo bn bc, .slice bp bk bd] → Below w4.heap.size w4 w' → Box w' gpd [.bool false, .slice none 0 0] → w4.heap.size ≤ gpd → WWq 5 #[true, false, true, false, false, true, false, false] (aq.put (some 6) (.pointer (some ⟨gpd, 0, none⟩))) w' := by
    intro w86 gpd hB_0 fa_0 fb_0 pa_0 pb_0 hWq_0 pd_0 hgpd
    rw [HWq.out, HAq.out]
    try simp only [Act.put]
    try simp only [List.setIfInBounds_toArray, List.set_cons_zero, List.set_cons_succ]
    refine reg_all2 1 4 ?_ ?_ (by kernel_rfl) ?_ ?_ (fun K hK => ?_) (fun K hK => ?_)
    rotate_left 2
    · simp only [List.getElem?_toArray, List.getElem?_cons_succ, List.getElem?_cons_zero]; exact rfl
    · simp only [List.getElem?_toArray, List.getElem?_cons_succ, List.getElem?_cons_zero]; exact rfl
    · go_simp
      refine (below_any _ 4 Xa Da _ (by omega) fa_0).mono ?_
      rintro e w87 ⟨m1, o1, n1, c1, rfl, f1_0, hb87⟩
      have hB_1 := hB_0.trans (hb87.mono hB_0.size)
      have fa_1 := fa_0.below hb87
      have fb_1 := fb_0.below hb87
      have pa_1 := pa_0.below hb87
      have pb_1 := pb_0.below hb87
      have hWq_1 := hWq_0.trans (hb87.mono hWq_0.size)
      have pd_1 := pd_0.below hb87
      clear hb87 hB_0 fa_0 fb_0 pa_0 pb_0 hWq_0 pd_0
      go_wp2_with fail
      refine hK.out _ _ ⟨pa_1.c0, pa_1.c1, pa_1.c2, pb_1.c0, pb_1.c1, pb_1.c2⟩ (fun hHeld => ?_)
      clear hK K
      try simp only [Act.put]
      try simp only [List.setIfInBounds_toArray, List.set_cons_zero, List.set_cons_succ]
      rw [← HWq.out]
      exact stq_1ft _ m1 o1 n1 c1 gpd hB_1 fa_1 fb_1 pa_1 pb_1 hWq_1 f1_0 pd_1 (by omega)
    · go_simp
      have hgn : w4.heap.size ≤ w86.heap.size := hWq_0.size
      have hlpd := pd_0.lt
      obtain ⟨w88, hww88, pc_0, hb88, -⟩ := new_box w86 _ rfl [.bool false, .slice none 0 0] 25
      rw [hww88]
      have hB_1 := hB_0.trans (hb88.mono hB_0.size)
      have fa_1 := fa_0.below hb88
      have fb_1 := fb_0.below hb88
      have pa_1 := pa_0.below hb88
      have pb_1 := pb_0.below hb88
      have hWq_1 := hWq_0.trans (hb88.mono hWq_0.size)
      have pd_1 := pd_0.below hb88
      clear hb88 hB_0 fa_0 fb_0 pa_0 pb_0 hWq_0 pd_0
      refine hK.out _ _ ⟨pa_1.c0, pa_1.c1, pa_1.c2, pb_1.c0, pb_1.c1, pb_1.c2⟩ (fun hHeld => ?_)
      clear hK K
      try simp only [Act.put]
      try simp only [List.setIfInBounds_toArray, List.set_cons_zero, List.set_cons_succ]
      rw [← HWq.out]
      exact stq_0tt _ w86.heap.size gpd hB_1 fa_1 fb_1 pa_1 pb_1 hWq_1 pc_0 pd_1 (by omega) (by omega) (by omega)
  try simp only [HAq.out, Act.put, List.setIfInBounds_toArray, List.set_cons_zero, List.set_cons_succ] at stq_0ft
  have stq_0ff : ∀ (w' : World), Below w.heap.size w w' → FD w' (.agg #[.bool am, .slice ao an ac, .slice ap ak ad]) 4 Xa Da → FD w' (.agg #[.bool bm, .slice bo bn bc, .slice bp bk bd]) 4 Xb Db → Box w' (w.heap.size) [.bool am, .slice ao an ac, .slice ap ak ad] → Box w' (w.heap.size + 1) [.bool bm, .slice bo bn bc, .slice bp bk bd] → Below w4.heap.size w4 w' → WWq 6 #[true, false, true, false, false, false, false, false] aq w' := by
    intro w89 hB_0 fa_0 fb_0 pa_0 pb_0 hWq_0
    rw [HWq.out, HAq.out]
    try simp only [Act.put]
    try simp only [List.setIfInBounds_toArray, List.set_cons_zero, List.set_cons_succ]
    refine reg_all3 1 4 5 ?_ ?_ ?_ (by kernel_rfl) ?_ ?_ ?_ (fun K hK => ?_) (fun K hK => ?_) (fun K hK => ?_)
    rotate_left 3
    · simp only [List.getElem?_toArray, List.getElem?_cons_succ, List.getElem?_cons_zero]; exact rfl
    · simp only [List.getElem?_toArray, List.getElem?_cons_succ, List.getElem?_cons_zero]; exact rfl
    · simp only [List.getElem?_toArray, List.getElem?_cons_succ, List.getElem?_cons_zero]; exact rfl
    · go_simp
      refine (below_any _ 4 Xa Da _ (by omega) fa_0).mono ?_
      rintro e w90 ⟨m1, o1, n1, c1, rfl, f1_0, hb90⟩
      have hB_1 := hB_0.trans (hb90.mono hB_0.size)
      have fa_1 := fa_0.below hb90
      have fb_1 := fb_0.below hb90
      have pa_1 := pa_0.below hb90
      have pb_1 := pb_0.below hb90
      have hWq_1 := hWq_0.trans (hb90.mono hWq_0.size)
      clear hb90 hB_0 fa_0 fb_0 pa_0 pb_0 hWq_0
      go_wp2_with fail
      refine hK.out _ _ ⟨pa_1.c0, pa_1.c1, pa_1.c2, pb_1.c0, pb_1.c1, pb_1.c2⟩ (fun hHeld => ?_)
      clear hK K
      try simp only [Act.put]
      try simp only [List.setIfInBounds_toArray, List.set_cons_zero, List.set_cons_succ]
      rw [← HWq.out]
      exact stq_1ff _ m1 o1 n1 c1 hB_1 fa_1 fb_1 pa_1 pb_1 hWq_1 f1_0
    · go_simp
      have hgn : w4.heap.size ≤ w89.heap.size := hWq_0.size
      obtain ⟨w91, hww91, pc_0, hb91, -⟩ := new_box w89 _ rfl [.bool false, .slice none 0 0] 25
      rw [hww91]
      have hB_1 := hB_0.trans (hb91.mono hB_0.size)
      have fa_1 := fa_0.below hb91
      have fb_1 := fb_0.below hb91
      have pa_1 := pa_0.below hb91
      have pb_1 := pb_0.below hb91
      have hWq_1 := hWq_0.trans (hb91.mono hWq_0.size)
      clear hb91 hB_0 fa_0 fb_0 pa_0 pb_0 hWq_0
      refine hK.out _ _ ⟨pa_1.c0, pa_1.c1, pa_1.c2, pb_1.c0, pb_1.c1, pb_1.c2⟩ (fun hHeld => ?_)
      clear hK K
      try simp only [Act.put]
      try simp only [List.setIfInBounds_toArray, List.set_cons_zero, List.set_cons_succ]
      rw [← HWq.out]
      exact stq_0tf _ w89.heap.size hB_1 fa_1 fb_1 pa_1 pb_1 hWq_1 pc_0 (by omega)
    · go_simp
      have hgn : w4.heap.size ≤ w89.heap.size := hWq_0.size
      obtain ⟨w92, hww92, pd_0, hb92, -⟩ := new_box w89 _ rfl [.bool false, .slice none 0 0] 25
      rw [hww92]
      have hB_1 := hB_0.trans (hb92.mono hB_0.size)
      have fa_1 := fa_0.below hb92
      have fb_1 := fb_0.below hb92
      have pa_1 := pa_0.below hb92
      have pb_1 := pb_0.below hb92
      have hWq_1 := hWq_0.trans (hb92.mono hWq_0.size)
      clear hb92 hB_0 fa_0 fb_0 pa_0 pb_0 hWq_0
      refine hK.out _ _ ⟨pa_1.c0, pa_1.c1, pa_1.c2, pb_1.c0, pb_1.c1, pb_1.c2⟩ (fun hHeld => ?_)
      clear hK K
      try simp only [Act.put]
      try simp only [List.setIfInBounds_toArray, List.set_cons_zero, List.set_cons_succ]
      rw [← HWq.out]
      exact stq_0ft _ w89.heap.size hB_1 fa_1 fb_1 pa_1 pb_1 hWq_1 pd_0 (by omega)
  exact stq_0ff _ hB_5 fa_6 fb_6 pa_4 pb_3 hWq_1
end Go.Proofs.Ytmbmeapodhngaaa
