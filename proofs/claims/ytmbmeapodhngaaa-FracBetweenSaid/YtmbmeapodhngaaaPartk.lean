/- The helpers of layer 3's statements, on: below, Right, is, fit. -/
import Derived.Test.YtmbmeapodhngaaaPartj
namespace Go.Proofs.Ytmbmeapodhngaaa
open Go.RowKit Go.MagM
theorem len_is (va : Value) (L X : Nat) (k : Int) (w : World) (hL : L ≤ 4000000000) (ha : Mag w va L X) (h : ((bl X : Nat) : Int) = k) : Calls Try.prog 37 #[va] w fun e w' => e = .returned (.int .i64 k) ∧ Below w.heap.size w w' :=
  (Len_any va L X w hL ha).mono fun e w' ⟨h1, h2⟩ => ⟨by rw [h1, h], by subst h2; exact Below.refl _ _⟩
set_option maxHeartbeats 4000000 in
theorem below_zero (am : Bool) (ao : Option Addr) (an ac : Nat) (ap : Option Addr) (ak ad : Nat) (L : Nat) (X : Int) (D : Nat) (w : World) (hL : L ≤ 100000000) (fa_0 : FD w (.agg #[.bool am, .slice ao an ac, .slice ap ak ad]) L X D) (h0 : D = 0) :
    Calls Try.prog 11 #[.agg #[.bool am, .slice ao an ac, .slice ap ak ad]] w fun e w' => AnsNum w w' e (max L 1) (den1 D : Nat) := by
  have hB_0 := Below.refl w.heap.size w
  have _ := hL
  subst h0
  obtain ⟨w1, hw1, pa_0, hb1, hs1⟩ := new_box w (w.heap.size) rfl [.bool am, .slice ao an ac, .slice ap ak ad] 27
  have hb1' : Below w.heap.size w w1 := hb1.mono (by omega)
  clear hb1
  have hB_1 := hB_0.trans (hb1'.mono hB_0.size)
  have fa_1 := fa_0.below hb1'
  clear hb1' hB_0 fa_0
  obtain ⟨w2, hw2, pr_0, hb2, hs2⟩ := new_box w1 (w.heap.size + 1) hs1 [.bool false, .slice none 0 0] 25
  have hb2' : Below w1.heap.size w1 w2 := hb2.mono (by omega)
  clear hb2
  have hB_2 := hB_1.trans (hb2'.mono hB_1.size)
  have fa_2 := fa_1.below hb2'
  have pa_1 := pa_0.below hb2'
  clear hb2' hB_1 fa_1 pa_0
  go_enter Try.func11, Try.ntmps11
  obtain ⟨pae0, pae1, pae2, pae3, pae4, pae5⟩ := pa_1.open3
  go_wp2_with fail
  refine (len_is _ L 0 0 _ (by omega) fa_2.mag rfl).mono ?_
  rintro e w3 ⟨rfl, hb3⟩
  clear pae0 pae1 pae2 pae3 pae4 pae5
  have hB_3 := hB_2.trans (hb3.mono hB_2.size)
  have fa_3 := fa_2.below hb3
  have pa_2 := pa_1.below hb3
  have pr_1 := pr_0.below hb3
  clear hb3 hB_2 fa_2 pa_1 pr_0
  obtain ⟨pae0, pae1, pae2, pae3, pae4, pae5⟩ := pa_2.open3
  clear pae0 pae1 pae2 pae3 pae4 pae5
  go_wp2_with fail
  refine (nOf_any 1 (by omega) (by omega) _).mono ?_
  rintro e w4 ⟨m1, o1, n1, c1, rfl, f1_0, hb4⟩
  have hB_4 := hB_3.trans (hb4.mono hB_3.size)
  have fa_4 := fa_3.below hb4
  have pa_3 := pa_2.below hb4
  have pr_2 := pr_1.below hb4
  clear hb4 hB_3 fa_3 pa_2 pr_1
  obtain ⟨sf4a, sf4b, sf4c, sf4d⟩ := pr_2.open2
  obtain ⟨sg4a, sg4b⟩ := Box.put2 pr_2 (.bool m1)
  go_wp2
  clear sf4a sf4b sf4c sf4d sg4a sg4b
  have hB_5 := below_setAll hB_4 (g := w.heap.size + 1) (by omega) [.bool m1, .slice o1 n1 c1]
  have fa_5 := fa_4.setAll pr_2 (noWord2 _ _ _ _) [.bool m1, .slice o1 n1 c1] rfl
  have pa_4 := pa_3.farAll (g' := w.heap.size + 1) (by omega) [.bool m1, .slice o1 n1 c1]
  have f1_1 := f1_0.setAll pr_2 (noWord2 _ _ _ _) [.bool m1, .slice o1 n1 c1] rfl
  have pr_3 := pr_2.setAll [.bool m1, .slice o1 n1 c1] rfl
  simp only [setAll, Nat.zero_add] at hB_5 fa_5 pa_4 pr_3 f1_1
  clear hB_4 fa_4 pa_3 f1_0 pr_2
  generalize (World.setCell (World.setCell w4 ⟨w.heap.size + 1, 0, none⟩ (.bool m1)) ⟨w.heap.size + 1, 1, none⟩ (.slice o1 n1 c1)) = w5 at *
  go_wp2
  obtain ⟨pre0, pre1, pre2, pre3⟩ := pr_3.open2
  exact bodyPost_ret (v := .agg #[.bool m1, .slice o1 n1 c1]) (by simp [results, Try.results11, go_sem, pre0, pre1]) rfl ⟨_, _, _, _, rfl, f1_1.more (by omega), hB_5⟩
set_option maxHeartbeats 4000000 in
theorem below_some (am : Bool) (ao : Option Addr) (an ac : Nat) (ap : Option Addr) (ak ad : Nat) (L : Nat) (X : Int) (D : Nat) (w : World) (hL : L ≤ 100000000) (fa_0 : FD w (.agg #[.bool am, .slice ao an ac, .slice ap ak ad]) L X D) (h0 : D ≠ 0) :
    Calls Try.prog 11 #[.agg #[.bool am, .slice ao an ac, .slice ap ak ad]] w fun e w' => AnsNum w w' e (max L 1) (den1 D : Nat) := by
  have hB_0 := Below.refl w.heap.size w
  have hz : (((bl D : Nat) : Int) == 0) = false := bl_ne h0
  obtain ⟨w1, hw1, pa_0, hb1, hs1⟩ := new_box w (w.heap.size) rfl [.bool am, .slice ao an ac, .slice ap ak ad] 27
  have hb1' : Below w.heap.size w w1 := hb1.mono (by omega)
  clear hb1
  have hB_1 := hB_0.trans (hb1'.mono hB_0.size)
  have fa_1 := fa_0.below hb1'
  clear hb1' hB_0 fa_0
  obtain ⟨w2, hw2, pr_0, hb2, hs2⟩ := new_box w1 (w.heap.size + 1) hs1 [.bool false, .slice none 0 0] 25
  have hb2' : Below w1.heap.size w1 w2 := hb2.mono (by omega)
  clear hb2
  have hB_2 := hB_1.trans (hb2'.mono hB_1.size)
  have fa_2 := fa_1.below hb2'
  have pa_1 := pa_0.below hb2'
  clear hb2' hB_1 fa_1 pa_0
  go_enter Try.func11, Try.ntmps11
  obtain ⟨pae0, pae1, pae2, pae3, pae4, pae5⟩ := pa_1.open3
  go_wp2_with fail
  refine (len_is _ L D _ _ (by omega) fa_2.mag rfl).mono ?_
  rintro e w3 ⟨rfl, hb3⟩
  clear pae0 pae1 pae2 pae3 pae4 pae5
  have hB_3 := hB_2.trans (hb3.mono hB_2.size)
  have fa_3 := fa_2.below hb3
  have pa_2 := pa_1.below hb3
  have pr_1 := pr_0.below hb3
  clear hb3 hB_2 fa_2 pa_1 pr_0
  obtain ⟨pae0, pae1, pae2, pae3, pae4, pae5⟩ := pa_2.open3
  clear pae0 pae1 pae2 pae3 pae4 pae5
  obtain ⟨pae0, pae1, pae2, pae3, pae4, pae5⟩ := pa_2.open3
  go_wp2_with fail
  refine (Make_any false _ L D _ (by omega) fa_3.mag).mono ?_
  rintro e w4 ⟨m1, o1, n1, c1, rfl, f1_0, hb4⟩
  clear pae0 pae1 pae2 pae3 pae4 pae5
  have hB_4 := hB_3.trans (hb4.mono hB_3.size)
  have fa_4 := fa_3.below hb4
  have pa_3 := pa_2.below hb4
  have pr_2 := pr_1.below hb4
  clear hb4 hB_3 fa_3 pa_2 pr_1
  obtain ⟨pae0, pae1, pae2, pae3, pae4, pae5⟩ := pa_3.open3
  obtain ⟨sf4a, sf4b, sf4c, sf4d⟩ := pr_2.open2
  obtain ⟨sg4a, sg4b⟩ := Box.put2 pr_2 (.bool m1)
  go_wp2
  clear pae0 pae1 pae2 pae3 pae4 pae5 sf4a sf4b sf4c sf4d sg4a sg4b
  have hB_5 := below_setAll hB_4 (g := w.heap.size + 1) (by omega) [.bool m1, .slice o1 n1 c1]
  have fa_5 := fa_4.setAll pr_2 (noWord2 _ _ _ _) [.bool m1, .slice o1 n1 c1] rfl
  have pa_4 := pa_3.farAll (g' := w.heap.size + 1) (by omega) [.bool m1, .slice o1 n1 c1]
  have f1_1 := f1_0.setAll pr_2 (noWord2 _ _ _ _) [.bool m1, .slice o1 n1 c1] rfl
  have pr_3 := pr_2.setAll [.bool m1, .slice o1 n1 c1] rfl
  simp only [setAll, Nat.zero_add] at hB_5 fa_5 pa_4 pr_3 f1_1
  clear hB_4 fa_4 pa_3 f1_0 pr_2
  generalize (World.setCell (World.setCell w4 ⟨w.heap.size + 1, 0, none⟩ (.bool m1)) ⟨w.heap.size + 1, 1, none⟩ (.slice o1 n1 c1)) = w5 at *
  go_wp2
  obtain ⟨pre0, pre1, pre2, pre3⟩ := pr_3.open2
  exact bodyPost_ret (v := .agg #[.bool m1, .slice o1 n1 c1]) (by simp [results, Try.results11, go_sem, pre0, pre1]) rfl ⟨_, _, _, _, rfl, (RNum.of f1_1 (by rw [den1_of h0]; rfl)).more (by omega), hB_5⟩
theorem below_any (va : Value) (L : Nat) (X : Int) (D : Nat) (w : World) (hL : L ≤ 100000000) (ha : FD w va L X D) : Calls Try.prog 11 #[va] w fun e w' => AnsNum w w' e (max L 1) (den1 D : Nat) := by
  have ha' := ha
  obtain ⟨_, _, _, _, _, _, _, rfl, _, _⟩ := ha
  by_cases h0 : D = 0
  · exact below_zero _ _ _ _ _ _ _ L X D w hL ha' h0
  · exact below_some _ _ _ _ _ _ _ L X D w hL ha' h0
set_option maxHeartbeats 4000000 in
theorem fRight_core (am : Bool) (ao : Option Addr) (an ac : Nat) (b o k d : Nat) (x : Nat) (L : Nat) (X : Int) (D : Nat) (w : World) (hk : k + 1 ≤ 4000000000) (hL : L ≤ 100000000) (h0 : x ≠ 0) (fa_0 : RNum w (.agg #[.bool am, .slice ao an ac]) L X) (fd_0 : RMag w (.slice (some ⟨b, o, none⟩) (k + 1) d) L D) (wc_0 : WCell w b (o + k) x) (hgcd : Nat.gcd X.natAbs D = 1) :
    Calls Try.prog 28 #[.agg #[.bool am, .slice ao an ac, .slice (some ⟨b, o, none⟩) (k + 1) d]] w fun e w' => e = .returned (.bool true) ∧ Below w.heap.size w w' := by
  have hB_0 := Below.refl w.heap.size w
  have hx1 : ((x : Int) != 0) = true := by simp; omega
  have hk1 : (0 : Int) < (k : Int) + 1 := by omega
  have hk2 : IntKind.i64.wrap ((k : Int) + 1 - 1) = (k : Int) := by rw [IntWalk.i64_in _ (by omega)]; omega
  have hk3 : (0 : Int) ≤ (k : Int) := by omega
  have hk4 : (k : Int) < (k : Int) + 1 := by omega
  obtain ⟨N, fn_0, hX, _⟩ := fa_0.part
  have hg : Nat.gcd N D = 1 := by rw [← hgcd, hX, sgn_natAbs]
  obtain ⟨w1, hw1, pa_0, hb1, hs1⟩ := new_box w (w.heap.size) rfl [.bool am, .slice ao an ac, .slice (some ⟨b, o, none⟩) (k + 1) d] 27
  have hb1' : Below w.heap.size w w1 := hb1.mono (by omega)
  clear hb1
  have hB_1 := hB_0.trans (hb1'.mono hB_0.size)
  have fa_1 := fa_0.below hb1'
  have fd_1 := fd_0.below hb1'
  have wc_1 := wc_0.below hb1'
  have fn_1 := fn_0.below hb1'
  clear hb1' hB_0 fa_0 fd_0 wc_0 fn_0
  go_enter Try.func28, Try.ntmps28
  obtain ⟨pae0, pae1, pae2, pae3, pae4, pae5⟩ := pa_0.open3
  have wce := wc_1.c
  go_wp2_with fail
  refine (Right_any _ L X _ (by omega) fa_1).mono ?_
  rintro e w2 ⟨rfl, hb2⟩
  clear pae0 pae1 pae2 pae3 pae4 pae5 wce
  have hB_2 := hB_1.trans (hb2.mono hB_1.size)
  have fa_2 := fa_1.below hb2
  have fd_2 := fd_1.below hb2
  have wc_2 := wc_1.below hb2
  have fn_2 := fn_1.below hb2
  have pa_1 := pa_0.below hb2
  clear hb2 hB_1 fa_1 fd_1 wc_1 fn_1 pa_0
  obtain ⟨pae0, pae1, pae2, pae3, pae4, pae5⟩ := pa_1.open3
  have wce := wc_2.c
  go_wp2_with fail
  refine (Gcd_any _ _ L L N D _ (by omega) (by omega) fn_2.mag fd_2.mag).mono ?_
  rintro e w3 ⟨v1, rfl, f1_0, hb3⟩
  clear pae0 pae1 pae2 pae3 pae4 pae5 wce
  have hB_3 := hB_2.trans (hb3.mono hB_2.size)
  have fa_3 := fa_2.below hb3
  have fd_3 := fd_2.below hb3
  have wc_3 := wc_2.below hb3
  have fn_3 := fn_2.below hb3
  have pa_2 := pa_1.below hb3
  clear hb3 hB_2 fa_2 fd_2 wc_2 fn_2 pa_1
  obtain ⟨pae0, pae1, pae2, pae3, pae4, pae5⟩ := pa_2.open3
  obtain ⟨o1, n1, c1, rfl⟩ := f1_0.slice
  go_wp2_with fail
  refine (len_is _ (max L L) (Nat.gcd N D) 1 _ (by omega) f1_0.mag (by rw [hg]; unfold bl; decide)).mono ?_
  rintro e w4 ⟨rfl, hb4⟩
  clear pae0 pae1 pae2 pae3 pae4 pae5
  have hB_4 := hB_3.trans (hb4.mono hB_3.size)
  have fa_4 := fa_3.below hb4
  have fd_4 := fd_3.below hb4
  have wc_4 := wc_3.below hb4
  have fn_4 := fn_3.below hb4
  have pa_3 := pa_2.below hb4
  have f1_1 := f1_0.below hb4
  clear hb4 hB_3 fa_3 fd_3 wc_3 fn_3 pa_2 f1_0
  obtain ⟨pae0, pae1, pae2, pae3, pae4, pae5⟩ := pa_3.open3
  go_wp2
  go_ret
  exact ⟨rfl, hB_4⟩
theorem fRight_any (va : Value) (L : Nat) (q : Rat) (w : World) (hL : L ≤ 100000000) (ha : RF w va L q) : Calls Try.prog 28 #[va] w fun e w' => e = .returned (.bool true) ∧ Below w.heap.size w w' := by
  obtain ⟨am, ao, an, ac, bo, bn, bc, rfl, h1, h2⟩ := ha
  obtain ⟨b, o, k, x, rfl, rfl, h3, h4, h5⟩ := h2.top q.den_nz
  exact fRight_core am ao an ac b o k bc x L q.num q.den w (by omega) hL h4 h1 h2 h5 q.reduced
set_option maxHeartbeats 4000000 in
theorem is_core (am : Bool) (ao : Option Addr) (an ac : Nat) (ap : Option Addr) (ak ad : Nat) (nm : Bool) (no : Option Addr) (nn nc : Nat) (zm : Bool) (zo : Option Addr) (zn zc : Nat) (L M H : Nat) (q : Rat) (X Y : Int) (w : World) (hL : L ≤ 100000000) (hM : M ≤ 100000000) (hH : H ≤ 100000000) (fa_0 : RF w (.agg #[.bool am, .slice ao an ac, .slice ap ak ad]) L q) (fn_0 : Num w (.agg #[.bool nm, .slice no nn nc]) M X) (fd_0 : Num w (.agg #[.bool zm, .slice zo zn zc]) H Y) (h : q.num * Y = X * q.den) :
    Calls Try.prog 13 #[.agg #[.bool am, .slice ao an ac, .slice ap ak ad], .agg #[.bool nm, .slice no nn nc], .agg #[.bool zm, .slice zo zn zc]] w fun e w' => e = .returned (.bool true) ∧ Below w.heap.size w w' := by
  have hB_0 := Below.refl w.heap.size w
  obtain ⟨w1, hw1, pa_0, hb1, hs1⟩ := new_box w (w.heap.size) rfl [.bool am, .slice ao an ac, .slice ap ak ad] 27
  have hb1' : Below w.heap.size w w1 := hb1.mono (by omega)
  clear hb1
  have hB_1 := hB_0.trans (hb1'.mono hB_0.size)
  have fa_1 := fa_0.below hb1'
  have fn_1 := fn_0.below hb1'
  have fd_1 := fd_0.below hb1'
  clear hb1' hB_0 fa_0 fn_0 fd_0
  obtain ⟨w2, hw2, pn_0, hb2, hs2⟩ := new_box w1 (w.heap.size + 1) hs1 [.bool nm, .slice no nn nc] 25
  have hb2' : Below w1.heap.size w1 w2 := hb2.mono (by omega)
  clear hb2
  have hB_2 := hB_1.trans (hb2'.mono hB_1.size)
  have fa_2 := fa_1.below hb2'
  have fn_2 := fn_1.below hb2'
  have fd_2 := fd_1.below hb2'
  have pa_1 := pa_0.below hb2'
  clear hb2' hB_1 fa_1 fn_1 fd_1 pa_0
  obtain ⟨w3, hw3, pd_0, hb3, hs3⟩ := new_box w2 (w.heap.size + 1 + 1) hs2 [.bool zm, .slice zo zn zc] 25
  have hb3' : Below w2.heap.size w2 w3 := hb3.mono (by omega)
  clear hb3
  have hB_3 := hB_2.trans (hb3'.mono hB_2.size)
  have fa_3 := fa_2.below hb3'
  have fn_3 := fn_2.below hb3'
  have fd_3 := fd_2.below hb3'
  have pa_2 := pa_1.below hb3'
  have pn_1 := pn_0.below hb3'
  clear hb3' hB_2 fa_2 fn_2 fd_2 pa_1 pn_0
  go_enter Try.func13, Try.ntmps13
  go_wp2
  have hB_4 := hB_3.drew'
  have fa_4 := fa_3.drew
  have fn_4 := fn_3.drew
  have fd_4 := fd_3.drew
  have pa_3 := pa_2.drew
  have pn_2 := pn_1.drew
  have pd_1 := pd_0.drew
  clear hB_3 fa_3 fn_3 fd_3 pa_2 pn_1 pd_0
  go_region_held3 (fun w' => w'.cell? ⟨w.heap.size, 0, none⟩ = some (.bool am) ∧ w'.cell? ⟨w.heap.size, 1, none⟩ = some (.slice ao an ac) ∧ w'.cell? ⟨w.heap.size, 2, none⟩ = some (.slice ap ak ad) ∧ w'.cell? ⟨w.heap.size + 1, 0, none⟩ = some (.bool nm) ∧ w'.cell? ⟨w.heap.size + 1, 1, none⟩ = some (.slice no nn nc) ∧ w'.cell? ⟨w.heap.size + 1 + 1, 0, none⟩ = some (.bool zm) ∧ w'.cell? ⟨w.heap.size + 1 + 1, 1, none⟩ = some (.slice zo zn zc))
    (first | with_reducible exact ⟨pa_3.c0, pa_3.c1, pa_3.c2, pn_2.c0, pn_2.c1, pd_1.c0, pd_1.c1⟩ | with_reducible exact ⟨pa_4.c0, pa_4.c1, pa_4.c2, pn_3.c0, pn_3.c1, pd_2.c0, pd_2.c1⟩ | with_reducible exact ⟨pa_5.c0, pa_5.c1, pa_5.c2, pn_4.c0, pn_4.c1, pd_3.c0, pd_3.c1⟩ | with_reducible exact ⟨pa_6.c0, pa_6.c1, pa_6.c2, pn_5.c0, pn_5.c1, pd_4.c0, pd_4.c1⟩ | with_reducible exact ⟨pa_7.c0, pa_7.c1, pa_7.c2, pn_6.c0, pn_6.c1, pd_5.c0, pd_5.c1⟩ | with_reducible exact ⟨pa_8.c0, pa_8.c1, pa_8.c2, pn_7.c0, pn_7.c1, pd_6.c0, pd_6.c1⟩ | fail)
    (first
      | (go_at_call 28; (with_reducible refine (fRight_any _ L q _ (by omega) fa_4).mono ?_); rintro e w4 ⟨rfl, hb4⟩; have hB_5 := hB_4.trans (hb4.mono hB_4.size); have fa_5 := fa_4.below hb4; have fn_5 := fn_4.below hb4; have fd_5 := fd_4.below hb4; have pa_4 := pa_3.below hb4; have pn_3 := pn_2.below hb4; have pd_2 := pd_1.below hb4; clear hb4 hB_4 fa_4 fn_4 fd_4 pa_3 pn_2 pd_1)
      | (go_at_call 12; (with_reducible refine (nMul_any _ _ L H q.num Y _ (by omega) (by omega) fa_5.fd.num fd_5).mono ?_); rintro e w5 ⟨m1, o1, n1, c1, rfl, f1_0, hb5⟩; have hB_6 := hB_5.trans (hb5.mono hB_5.size); have fa_6 := fa_5.below hb5; have fn_6 := fn_5.below hb5; have fd_6 := fd_5.below hb5; have pa_5 := pa_4.below hb5; have pn_4 := pn_3.below hb5; have pd_3 := pd_2.below hb5; clear hb5 hB_5 fa_5 fn_5 fd_5 pa_4 pn_3 pd_2)
      | (go_at_call 11; (with_reducible refine (below_any _ L q.num q.den _ (by omega) fa_6.fd).mono ?_); rintro e w6 ⟨m2, o2, n2, c2, rfl, f2_0, hb6⟩; have hB_7 := hB_6.trans (hb6.mono hB_6.size); have fa_7 := fa_6.below hb6; have fn_7 := fn_6.below hb6; have fd_7 := fd_6.below hb6; have pa_6 := pa_5.below hb6; have pn_5 := pn_4.below hb6; have pd_4 := pd_3.below hb6; have f1_1 := f1_0.below hb6; clear hb6 hB_6 fa_6 fn_6 fd_6 pa_5 pn_4 pd_3 f1_0)
      | (go_at_call 12; (with_reducible refine (nMul_any _ _ M (max L 1) X (den1 q.den : Nat) _ (by omega) (by omega) fn_7 f2_0.num).mono ?_); rintro e w7 ⟨m3, o3, n3, c3, rfl, f3_0, hb7⟩; have hB_8 := hB_7.trans (hb7.mono hB_7.size); have fa_8 := fa_7.below hb7; have fn_8 := fn_7.below hb7; have fd_8 := fd_7.below hb7; have pa_7 := pa_6.below hb7; have pn_6 := pn_5.below hb7; have pd_5 := pd_4.below hb7; have f1_2 := f1_1.below hb7; have f2_1 := f2_0.below hb7; clear hb7 hB_7 fa_7 fn_7 fd_7 pa_6 pn_5 pd_4 f1_1 f2_0)
      | (go_at_call 22; (with_reducible refine (nCmp_is _ _ (L + H) (M + max L 1) (q.num * Y) (X * (den1 q.den : Nat)) 0 _ (by omega) (by omega) f1_2.num f3_0.num (by rw [den1_of q.den_nz, h]; exact icmp_self _)).mono ?_); rintro e w8 ⟨rfl, hb8⟩; have hB_9 := hB_8.trans (hb8.mono hB_8.size); have fa_9 := fa_8.below hb8; have fn_9 := fn_8.below hb8; have fd_9 := fd_8.below hb8; have pa_8 := pa_7.below hb8; have pn_7 := pn_6.below hb8; have pd_6 := pd_5.below hb8; have f1_3 := f1_2.below hb8; have f2_2 := f2_1.below hb8; have f3_1 := f3_0.below hb8; clear hb8 hB_8 fa_8 fn_8 fd_8 pa_7 pn_6 pd_5 f1_2 f2_1 f3_0))
  go_wp2
  go_ret
  exact ⟨rfl, hB_9⟩
theorem fis_any (va vn vd : Value) (L M H : Nat) (q : Rat) (X Y : Int) (w : World) (hL : L ≤ 100000000) (hM : M ≤ 100000000) (hH : H ≤ 100000000) (ha : RF w va L q) (hn : Num w vn M X) (hd : Num w vd H Y) (h : q.num * Y = X * q.den) :
    Calls Try.prog 13 #[va, vn, vd] w fun e w' => e = .returned (.bool true) ∧ Below w.heap.size w w' := by
  have ha' := ha
  have hn' := hn
  have hd' := hd
  obtain ⟨_, _, _, _, _, _, _, rfl, _, _⟩ := ha
  obtain ⟨_, _, _, rfl, h1, _⟩ := hn
  obtain ⟨_, _, _, rfl⟩ := h1.slice
  obtain ⟨_, _, _, rfl, h2, _⟩ := hd
  obtain ⟨_, _, _, rfl⟩ := h2.slice
  exact is_core _ _ _ _ _ _ _ _ _ _ _ _ _ _ _ L M H q X Y w hL hM hH ha' hn' hd' h
theorem fiveHalves : (((10 : Int) : Rat) / ((4 : Int) : Rat)).num = 5 ∧ (((10 : Int) : Rat) / ((4 : Int) : Rat)).den = 2 := by
  have h := make_eq false false 10 4 (by omega)
  have e1 : sgn false 10 = 10 := rfl
  have e2 : sgn false 4 = 4 := rfl
  rw [e1, e2] at h
  rw [← h]
  have e3 : (false != false) = false := rfl
  rw [e3, e1, Rat.num_mkRat, Rat.den_mkRat]
  decide
theorem fiveHalves_den {w : World} {m : Bool} {ao bo : Option Addr} {n c k d L : Nat} (h : RF w (.agg #[.bool m, .slice ao n c, .slice bo k d]) L (((10 : Int) : Rat) / ((4 : Int) : Rat))) : RMag w (.slice bo k d) L 2 := by
  obtain ⟨_, _, _, _, _, _, _, e, h1, h2⟩ := h
  simp at e
  obtain ⟨rfl, ⟨rfl, rfl, rfl⟩, rfl, rfl, rfl⟩ := e
  rw [fiveHalves.2] at h2
  exact h2
theorem fiveHalves_num : icmp (((10 : Int) : Rat) / ((4 : Int) : Rat)).num 5 = 0 := by rw [fiveHalves.1]; exact icmp_self _
theorem fiveHalves_rnd : icmp (rnd (qv (((10 : Int) : Rat) / ((4 : Int) : Rat)).num (((10 : Int) : Rat) / ((4 : Int) : Rat)).den)) 2 = 0 := by
  rw [fiveHalves.1, fiveHalves.2, ← rnd_down 5 2 (Or.inr (by decide))]
  decide
set_option maxHeartbeats 4000000 in
theorem ffit_any (w : World) : Calls Try.prog 9 #[] w fun e w' => e = .returned (.bool true) ∧ Below w.heap.size w w' := by
  have hB_0 := Below.refl w.heap.size w
  go_enter Try.func9, Try.ntmps9
  go_wp2_with fail
  refine (nOf_any 10 (by omega) (by omega) _).mono ?_
  rintro e w1 ⟨m1, o1, n1, c1, rfl, f1_0, hb1⟩
  have hB_1 := hB_0.trans (hb1.mono hB_0.size)
  clear hb1 hB_0
  go_wp2_with fail
  refine (nOf_any 4 (by omega) (by omega) _).mono ?_
  rintro e w2 ⟨m2, o2, n2, c2, rfl, f2_0, hb2⟩
  have hB_2 := hB_1.trans (hb2.mono hB_1.size)
  have f1_1 := f1_0.below hb2
  clear hb2 hB_1 f1_0
  go_wp2_with fail
  refine (fMake_some _ _ 1 1 10 4 _ (by omega) (by omega) f1_1.num f2_0.num (by omega)).mono ?_
  rintro e w3 ⟨m3, o3, n3, c3, p3, k3, d3, rfl, f3_0, hb3⟩
  have hB_3 := hB_2.trans (hb3.mono hB_2.size)
  have f1_2 := f1_1.below hb3
  have f2_1 := f2_0.below hb3
  clear hb3 hB_2 f1_1 f2_0
  obtain ⟨b3, q3, rfl, rfl, wc_0⟩ := (fiveHalves_den f3_0).lone (by omega) (by unfold B; omega)
  have hl1B := hB_3.size
  obtain ⟨w4, hw4, pq_0, hb4, hs4⟩ := new_box w3 (w3.heap.size) rfl [.bool m3, .slice o3 n3 c3, .slice (some ⟨b3, q3, none⟩) 1 d3] 27
  have hb4' : Below w3.heap.size w3 w4 := hb4.mono (by omega)
  clear hb4
  have hB_4 := hB_3.trans (hb4'.mono hB_3.size)
  have f1_3 := f1_2.below hb4'
  have f2_2 := f2_1.below hb4'
  have f3_1 := f3_0.below hb4'
  have wc_1 := wc_0.below hb4'
  clear hb4' hB_3 f1_2 f2_1 f3_0 wc_0
  go_wp2
  try rw [hw4]
  have hB_5 := hB_4.drew'
  have f1_4 := f1_3.drew
  have f2_3 := f2_2.drew
  have f3_2 := f3_1.drew
  have wc_2 := wc_1.drew
  have pq_1 := pq_0.drew
  clear hB_4 f1_3 f2_2 f3_1 wc_1 pq_0
  go_region_held3 (fun w' => w'.cell? ⟨w3.heap.size, 0, none⟩ = some (.bool m3) ∧ w'.cell? ⟨w3.heap.size, 1, none⟩ = some (.slice o3 n3 c3) ∧ w'.cell? ⟨w3.heap.size, 2, none⟩ = some (.slice (some ⟨b3, q3, none⟩) 1 d3) ∧ w'.cell? ⟨b3, q3, none⟩ = some (.int .u64 ((2 : Nat) : Int)))
    (first | with_reducible exact ⟨pq_1.c0, pq_1.c1, pq_1.c2, wc_2.c⟩ | with_reducible exact ⟨pq_2.c0, pq_2.c1, pq_2.c2, wc_3.c⟩ | with_reducible exact ⟨pq_3.c0, pq_3.c1, pq_3.c2, wc_4.c⟩ | with_reducible exact ⟨pq_4.c0, pq_4.c1, pq_4.c2, wc_5.c⟩ | with_reducible exact ⟨pq_5.c0, pq_5.c1, pq_5.c2, wc_6.c⟩ | with_reducible exact ⟨pq_6.c0, pq_6.c1, pq_6.c2, wc_7.c⟩ | fail)
    (first
      | (go_at_call 32; (with_reducible refine (fRound_any _ (max 1 1) _ _ _ (by omega) f3_2.fd).mono ?_); rintro e w5 ⟨m4, o4, n4, c4, rfl, f4_0, hb5⟩; have hB_6 := hB_5.trans (hb5.mono hB_5.size); have f1_5 := f1_4.below hb5; have f2_4 := f2_3.below hb5; have f3_3 := f3_2.below hb5; have wc_3 := wc_2.below hb5; have pq_2 := pq_1.below hb5; clear hb5 hB_5 f1_4 f2_3 f3_2 wc_2 pq_1)
      | (go_at_call 29; (with_reducible refine (nOf_any 2 (by omega) (by omega) _).mono ?_); rintro e w6 ⟨m5, o5, n5, c5, rfl, f5_0, hb6⟩; have hB_7 := hB_6.trans (hb6.mono hB_6.size); have f1_6 := f1_5.below hb6; have f2_5 := f2_4.below hb6; have f3_4 := f3_3.below hb6; have wc_4 := wc_3.below hb6; have pq_3 := pq_2.below hb6; have f4_1 := f4_0.below hb6; clear hb6 hB_6 f1_5 f2_4 f3_3 wc_3 pq_2 f4_0)
      | (go_at_call 22; (with_reducible refine (nCmp_is _ _ (max (max 1 1) 1 + 2) 1 _ 2 0 _ (by omega) (by omega) f4_1.num f5_0.num fiveHalves_rnd).mono ?_); rintro e w7 ⟨rfl, hb7⟩; have hB_8 := hB_7.trans (hb7.mono hB_7.size); have f1_7 := f1_6.below hb7; have f2_6 := f2_5.below hb7; have f3_5 := f3_4.below hb7; have wc_5 := wc_4.below hb7; have pq_4 := pq_3.below hb7; have f4_2 := f4_1.below hb7; have f5_1 := f5_0.below hb7; clear hb7 hB_7 f1_6 f2_5 f3_4 wc_4 pq_3 f4_1 f5_0)
      | (go_at_call 29; (with_reducible refine (nOf_any 5 (by omega) (by omega) _).mono ?_); rintro e w8 ⟨m6, o6, n6, c6, rfl, f6_0, hb8⟩; have hB_9 := hB_8.trans (hb8.mono hB_8.size); have f1_8 := f1_7.below hb8; have f2_7 := f2_6.below hb8; have f3_6 := f3_5.below hb8; have wc_6 := wc_5.below hb8; have pq_5 := pq_4.below hb8; have f4_3 := f4_2.below hb8; have f5_2 := f5_1.below hb8; clear hb8 hB_8 f1_7 f2_6 f3_5 wc_5 pq_4 f4_2 f5_1)
      | (go_at_call 22; (with_reducible refine (nCmp_is _ _ (max 1 1) 1 _ 5 0 _ (by omega) (by omega) f3_6.fd.num f6_0.num fiveHalves_num).mono ?_); rintro e w9 ⟨rfl, hb9⟩; have hB_10 := hB_9.trans (hb9.mono hB_9.size); have f1_9 := f1_8.below hb9; have f2_8 := f2_7.below hb9; have f3_7 := f3_6.below hb9; have wc_7 := wc_6.below hb9; have pq_6 := pq_5.below hb9; have f4_4 := f4_3.below hb9; have f5_3 := f5_2.below hb9; have f6_1 := f6_0.below hb9; clear hb9 hB_9 f1_8 f2_7 f3_6 wc_6 pq_5 f4_3 f5_2 f6_0))
  go_wp2
  go_ret
  exact ⟨rfl, hB_10⟩
end Go.Proofs.Ytmbmeapodhngaaa
/- The calls of frac, by the numbers that they count. -/
namespace Go.Proofs.Ytmbmeapodhngaaa
open Go.RowKit Go.MagM
theorem cross (q : Rat) (N : Int) (M : Nat) (hM : M ≠ 0) (h : q = mkRat N M) : q.num * (M : Int) = N * (q.den : Int) := by
  have h1 := Rat.mkRat_self q
  rw [h] at h1
  have h2 := (Rat.mkRat_eq_iff (mkRat N M).den_nz hM).1 h1
  rw [h]
  exact h2
theorem qv_sign (X : Int) (D : Nat) : (qv X D).num.sign = X.sign := by
  have h := cross (qv X D) X (den1 D) (den1_ne D) rfl
  have h2 := congrArg Int.sign h
  rw [sign_den, Int.sign_mul, Int.sign_natCast_of_ne_zero (qv X D).den_nz, Int.mul_one] at h2
  exact h2
theorem qAdd (va vb : Value) (L M : Nat) (p q : Rat) (w : World) (hL : L ≤ 50000000) (hM : M ≤ 50000000) (ha : FQ w va L p) (hb : FQ w vb M q) : Calls Try.prog 14 #[va, vb] w fun e w' => AnsF w w' e (L + M + 2) (p + q) := by
  obtain ⟨X, D, h1, rfl⟩ := ha
  obtain ⟨Y, E, h2, rfl⟩ := hb
  exact fAdd_any _ _ L M X Y D E w (by omega) (by omega) h1 h2
theorem qSub (va vb : Value) (L M : Nat) (p q : Rat) (w : World) (hL : L ≤ 50000000) (hM : M ≤ 50000000) (ha : FQ w va L p) (hb : FQ w vb M q) : Calls Try.prog 16 #[va, vb] w fun e w' => AnsF w w' e (L + M + 2) (p - q) := by
  obtain ⟨X, D, h1, rfl⟩ := ha
  obtain ⟨Y, E, h2, rfl⟩ := hb
  exact fSub_any _ _ L M X Y D E w (by omega) (by omega) h1 h2
theorem qMul (va vb : Value) (L M : Nat) (p q : Rat) (w : World) (hL : L ≤ 50000000) (hM : M ≤ 50000000) (ha : FQ w va L p) (hb : FQ w vb M q) : Calls Try.prog 18 #[va, vb] w fun e w' => AnsF w w' e (L + M + 2) (p * q) := by
  obtain ⟨X, D, h1, rfl⟩ := ha
  obtain ⟨Y, E, h2, rfl⟩ := hb
  exact fMul_any _ _ L M X Y D E w (by omega) (by omega) h1 h2
theorem qCmp (va vb : Value) (L M : Nat) (p q : Rat) (w : World) (hL : L ≤ 50000000) (hM : M ≤ 50000000) (ha : FQ w va L p) (hb : FQ w vb M q) (c : Int) (h : qcmp p q = c) : Calls Try.prog 21 #[va, vb] w fun e w' => e = .returned (.int .i64 c) ∧ Below w.heap.size w w' := by
  obtain ⟨X, D, h1, rfl⟩ := ha
  obtain ⟨Y, E, h2, rfl⟩ := hb
  exact fCmp_is _ _ L M X Y D E w (by omega) (by omega) h1 h2 c h
theorem qSame (va vb : Value) (L M : Nat) (p q : Rat) (w : World) (hL : L ≤ 50000000) (hM : M ≤ 50000000) (ha : FQ w va L p) (hb : FQ w vb M q) (b : Bool) (h : p = q ↔ b = true) : Calls Try.prog 25 #[va, vb] w fun e w' => e = .returned (.bool b) ∧ Below w.heap.size w w' := by
  obtain ⟨X, D, h1, rfl⟩ := ha
  obtain ⟨Y, E, h2, rfl⟩ := hb
  by_cases hq : qv X D = qv Y E
  · rw [h.1 hq]; exact fSame_yes _ _ L M X Y D E w (by omega) (by omega) h1 h2 hq
  · have hb : b = false := by cases b with
      | false => rfl
      | true => exact absurd (h.2 rfl) hq
    rw [hb]; exact fSame_no _ _ L M X Y D E w (by omega) (by omega) h1 h2 hq
theorem qSame_yes (va vb : Value) (L M : Nat) (p q : Rat) (w : World) (hL : L ≤ 50000000) (hM : M ≤ 50000000) (ha : FQ w va L p) (hb : FQ w vb M q) (h : p = q) : Calls Try.prog 25 #[va, vb] w fun e w' => e = .returned (.bool true) ∧ Below w.heap.size w w' := by
  obtain ⟨X, D, h1, rfl⟩ := ha
  obtain ⟨Y, E, h2, rfl⟩ := hb
  exact fSame_yes _ _ L M X Y D E w (by omega) (by omega) h1 h2 h
theorem qDiv_zero (va vb : Value) (L M : Nat) (p q : Rat) (w : World) (hL : L ≤ 50000000) (hM : M ≤ 50000000) (ha : FQ w va L p) (hb : FQ w vb M q) (h : q = 0) : Calls Try.prog 26 #[va, vb] w fun e w' => AnsFt w w' e false 1 0 := by
  obtain ⟨X, D, h1, rfl⟩ := ha
  obtain ⟨Y, E, h2, rfl⟩ := hb
  refine fDiv_zero _ _ L M X Y D E w (by omega) (by omega) h1 h2 ?_
  rw [qv] at h
  exact (Rat.mkRat_eq_zero (den1_ne E)).1 h
theorem qDiv (va vb : Value) (L M : Nat) (p q : Rat) (w : World) (hL : L ≤ 50000000) (hM : M ≤ 50000000) (ha : FQ w va L p) (hb : FQ w vb M q) (h : q ≠ 0) : Calls Try.prog 26 #[va, vb] w fun e w' => AnsFt w w' e true (L + M + 3) (p / q) := by
  obtain ⟨X, D, h1, rfl⟩ := ha
  obtain ⟨Y, E, h2, rfl⟩ := hb
  refine fDiv_some _ _ L M X Y D E w (by omega) (by omega) h1 h2 ?_
  intro hy
  subst hy
  exact h (qv_zero E)
theorem qNeg (va : Value) (L : Nat) (p : Rat) (w : World) (hL : L ≤ 50000000) (ha : FQ w va L p) : Calls Try.prog 19 #[va] w fun e w' => AnsF w w' e (max L 1) (-p) := by
  obtain ⟨X, D, h1, rfl⟩ := ha
  exact fNeg_any _ L X D w (by omega) h1
theorem qSign (va : Value) (L : Nat) (p : Rat) (w : World) (hL : L ≤ 50000000) (ha : FQ w va L p) (s : Int) (h : p.num.sign = s) : Calls Try.prog 23 #[va] w fun e w' => e = .returned (.int .i64 s) ∧ Below w.heap.size w w' := by
  obtain ⟨X, D, h1, rfl⟩ := ha
  exact fSign_is _ L X s D w (by omega) h1 (by rw [← qv_sign X D]; exact h)
theorem qFloor (va : Value) (L : Nat) (p : Rat) (w : World) (hL : L ≤ 50000000) (ha : FQ w va L p) : Calls Try.prog 31 #[va] w fun e w' => AnsNum w w' e (max L 1 + 1) p.floor := by
  obtain ⟨X, D, h1, rfl⟩ := ha
  exact fFloor_any _ L X D w (by omega) h1
theorem qRound (va : Value) (L : Nat) (p : Rat) (w : World) (hL : L ≤ 50000000) (ha : FQ w va L p) : Calls Try.prog 32 #[va] w fun e w' => AnsNum w w' e (max L 1 + 2) (rnd p) := by
  obtain ⟨X, D, h1, rfl⟩ := ha
  exact fRound_any _ L X D w (by omega) h1
theorem fracs_three (w : World) (T : TypeId) {xm : Bool} {xo : Option Addr} {xn xc : Nat} {xp : Option Addr} {xk xd : Nat} {ym : Bool} {yo : Option Addr} {yn yc : Nat} {yp : Option Addr} {yk yd : Nat} {zm : Bool} {zo : Option Addr} {zn zc : Nat} {zp : Option Addr} {zk zd : Nat} {L1 L2 L3 : Nat} {X Y Z : Int} {D E F : Nat} (h1 : FD w (.agg #[.bool xm, .slice xo xn xc, .slice xp xk xd]) L1 X D) (h2 : FD w (.agg #[.bool ym, .slice yo yn yc, .slice yp yk yd]) L2 Y E) (h3 : FD w (.agg #[.bool zm, .slice zo zn zc, .slice zp zk zd]) L3 Z F) :
    Fracs (w.alloc (.cells #[.bool xm, .slice xo xn xc, .slice xp xk xd, .bool ym, .slice yo yn yc, .slice yp yk yd, .bool zm, .slice zo zn zc, .slice zp zk zd] T)) (some ⟨w.heap.size, 0, none⟩) [(L1, X, D), (L2, Y, E), (L3, Z, F)] := by
  have hb : Below w.heap.size w (w.alloc (.cells #[.bool xm, .slice xo xn xc, .slice xp xk xd, .bool ym, .slice yo yn yc, .slice yp yk yd, .bool zm, .slice zo zn zc, .slice zp zk zd] T)) := (Below.refl _ _).alloc (Nat.le_refl _) _
  intro i L U G hi
  have hi2 : i < 3 := by have := (List.getElem?_eq_some_iff.1 hi).1; simpa using this
  obtain rfl | rfl | rfl : i = 0 ∨ i = 1 ∨ i = 2 := by omega
  · simp at hi; obtain ⟨rfl, rfl, rfl⟩ := hi
    exact ⟨_, 0, xm, xo, xn, xc, xp, xk, xd, rfl, by simp [go_sem], by simp [go_sem], by simp [go_sem], h1.below hb⟩
  · simp at hi; obtain ⟨rfl, rfl, rfl⟩ := hi
    exact ⟨_, 0, ym, yo, yn, yc, yp, yk, yd, rfl, by simp [go_sem], by simp [go_sem], by simp [go_sem], h2.below hb⟩
  · simp at hi; obtain ⟨rfl, rfl, rfl⟩ := hi
    exact ⟨_, 0, zm, zo, zn, zc, zp, zk, zd, rfl, by simp [go_sem], by simp [go_sem], by simp [go_sem], h3.below hb⟩
theorem fSum_three (w : World) (T : TypeId) {xm : Bool} {xo : Option Addr} {xn xc : Nat} {xp : Option Addr} {xk xd : Nat} {ym : Bool} {yo : Option Addr} {yn yc : Nat} {yp : Option Addr} {yk yd : Nat} {zm : Bool} {zo : Option Addr} {zn zc : Nat} {zp : Option Addr} {zk zd : Nat} {L1 L2 L3 : Nat} {p q r : Rat} (hL1 : L1 ≤ 1000000) (hL2 : L2 ≤ 1000000) (hL3 : L3 ≤ 1000000) (h1 : FQ w (.agg #[.bool xm, .slice xo xn xc, .slice xp xk xd]) L1 p) (h2 : FQ w (.agg #[.bool ym, .slice yo yn yc, .slice yp yk yd]) L2 q) (h3 : FQ w (.agg #[.bool zm, .slice zo zn zc, .slice zp zk zd]) L3 r) :
    Calls Try.prog 30 #[.slice (some ⟨w.heap.size, 0, none⟩) 3 3] (w.alloc (.cells #[.bool xm, .slice xo xn xc, .slice xp xk xd, .bool ym, .slice yo yn yc, .slice yp yk yd, .bool zm, .slice zo zn zc, .slice zp zk zd] T)) fun e w' => AnsF w w' e (L1 + L2 + L3 + 7) (p + q + r) := by
  obtain ⟨X, D, h1, rfl⟩ := h1
  obtain ⟨Y, E, h2, rfl⟩ := h2
  obtain ⟨Z, F, h3, rfl⟩ := h3
  refine (fSum_go _ 3 3 _ _ rfl (by omega) ?_ (fracs_three w T h1 h2 h3)).mono ?_
  · intro L U G hm; simp at hm; omega
  · rintro e w' h
    obtain ⟨m, ao, n, c, bo, k, d, rfl, h4, h5⟩ := h
    refine ⟨m, ao, n, c, bo, k, d, rfl, (h4.more (by simp [fLen]; omega)).of (by simp [fVal, Rat.zero_add]), ((Below.refl _ _).alloc (Nat.le_refl _) _).trans (h5.mono (by simp))⟩
theorem fSum_none (w : World) : Calls Try.prog 30 #[.slice none 0 0] w fun e w' => AnsF w w' e 1 0 := by
  refine (fSum_go none 0 0 [] w rfl (by omega) (fun L X D hm => by cases hm) (fun i L X D hi => by simp at hi)).mono fun e w' g => g.of ?_ ?_
  · simp [fLen]
  · simp [fVal]
end Go.Proofs.Ytmbmeapodhngaaa
/- The statement FracBetween, walked. -/
namespace Go.Proofs.Ytmbmeapodhngaaa
open Go.RowKit Go.MagM
theorem icmp_addl (k x y : Int) : icmp (k + x) (k + y) = icmp x y := by
  unfold icmp
  simp only [Int.add_lt_add_iff_left]
theorem mid_eq (p q : Rat) : ((p.num + q.num : Int) : Rat) / ((((den1 p.den : Nat) : Int) + ((den1 q.den : Nat) : Int) : Int) : Rat) = qv (p.num + q.num) (p.den + q.den) := by
  have h1 := p.den_nz
  have h2 := q.den_nz
  rw [qv_eq, den1_of h1, den1_of h2, den1_of (show p.den + q.den ≠ 0 by omega), ← Int.natCast_add, Rat.intCast_natCast]
theorem mid_below (p q : Rat) : qcmp p (qv (p.num + q.num) (p.den + q.den)) = qcmp p q := by
  have h1 := p.den_nz
  have h2 := q.den_nz
  have e1 : qcmp p q = qcmp (qv p.num p.den) (qv q.num q.den) := by rw [qv_self, qv_self]
  have e2 : qcmp p (qv (p.num + q.num) (p.den + q.den)) = qcmp (qv p.num p.den) (qv (p.num + q.num) (p.den + q.den)) := by rw [qv_self]
  rw [e1, e2, ← icmp_q, ← icmp_q, den1_of h1, den1_of h2, den1_of (show p.den + q.den ≠ 0 by omega), Int.natCast_add, Int.mul_add, Int.add_mul]
  exact icmp_addl _ _ _
theorem mid_above (p q : Rat) : qcmp (qv (p.num + q.num) (p.den + q.den)) q = qcmp p q := by
  have h1 := p.den_nz
  have h2 := q.den_nz
  have e1 : qcmp p q = qcmp (qv p.num p.den) (qv q.num q.den) := by rw [qv_self, qv_self]
  have e2 : qcmp (qv (p.num + q.num) (p.den + q.den)) q = qcmp (qv (p.num + q.num) (p.den + q.den)) (qv q.num q.den) := by rw [qv_self]
  rw [e1, e2, ← icmp_q, ← icmp_q, den1_of h1, den1_of h2, den1_of (show p.den + q.den ≠ 0 by omega), Int.natCast_add, Int.mul_add, Int.add_mul, Int.add_comm (p.num * _), Int.add_comm (q.num * (p.den : Int))]
  exact icmp_addl _ _ _
set_option maxRecDepth 100000 in
set_option maxHeartbeats 16000000 in
theorem FracBetween_walk (am : Bool) (ao : Option Addr) (an ac : Nat) (ap : Option Addr) (ak ad : Nat) (Xa : Int) (Da : Nat) (bm : Bool) (bo : Option Addr) (bn bc : Nat) (bp : Option Addr) (bk bd : Nat) (Xb : Int) (Db : Nat) (w : World) (fa_0 : FD w (.agg #[.bool am, .slice ao an ac, .slice ap ak ad]) (max an ak) Xa Da) (fb_0 : FD w (.agg #[.bool bm, .slice bo bn bc, .slice bp bk bd]) (max bn bk) Xb Db) :
    Calls Try.prog 8 #[.agg #[.bool am, .slice ao an ac, .slice ap ak ad], .agg #[.bool bm, .slice bo bn bc, .slice bp bk bd]] w fun e w' => e = .returned (.bool true) ∧ Below w.heap.size w w' := by
  have hB_0 := Below.refl w.heap.size w
  obtain ⟨p, hp⟩ : ∃ p, qv Xa Da + ((0 : Int) : Rat) = p := ⟨_, rfl⟩
  obtain ⟨q, hq⟩ : ∃ q, qv Xb Db + ((0 : Int) : Rat) = q := ⟨_, rfl⟩
  obtain ⟨c, hc⟩ : ∃ c, qcmp p q = c := ⟨_, rfl⟩
  obtain ⟨w1, hw1, pa_0, hb1, hs1⟩ := new_box w (w.heap.size) rfl [.bool am, .slice ao an ac, .slice ap ak ad] 27
  have hb1' : Below w.heap.size w w1 := hb1.mono (by omega)
  clear hb1
  have hB_1 := hB_0.trans (hb1'.mono hB_0.size)
  have fa_1 := fa_0.below hb1'
  have fb_1 := fb_0.below hb1'
  clear hb1' hB_0 fa_0 fb_0
  obtain ⟨w2, hw2, pb_0, hb2, hs2⟩ := new_box w1 (w.heap.size + 1) hs1 [.bool bm, .slice bo bn bc, .slice bp bk bd] 27
  have hb2' : Below w1.heap.size w1 w2 := hb2.mono (by omega)
  clear hb2
  have hB_2 := hB_1.trans (hb2'.mono hB_1.size)
  have fa_2 := fa_1.below hb2'
  have fb_2 := fb_1.below hb2'
  have pa_1 := pa_0.below hb2'
  clear hb2' hB_1 fa_1 fb_1 pa_0
  go_enter Try.func8, Try.ntmps8
  obtain ⟨pae0, pae1, pae2, pae3, pae4, pae5⟩ := pa_1.open3
  obtain ⟨pbe0, pbe1, pbe2, pbe3, pbe4, pbe5⟩ := pb_0.open3
  go_wp2_with fail
  refine (ffit_any _).mono ?_
  rintro e w3 ⟨rfl, hb3⟩
  clear pae0 pae1 pae2 pae3 pae4 pae5 pbe0 pbe1 pbe2 pbe3 pbe4 pbe5
  have hB_3 := hB_2.trans (hb3.mono hB_2.size)
  have fa_3 := fa_2.below hb3
  have fb_3 := fb_2.below hb3
  have pa_2 := pa_1.below hb3
  have pb_1 := pb_0.below hb3
  clear hb3 hB_2 fa_2 fb_2 pa_1 pb_0
  obtain ⟨pae0, pae1, pae2, pae3, pae4, pae5⟩ := pa_2.open3
  obtain ⟨pbe0, pbe1, pbe2, pbe3, pbe4, pbe5⟩ := pb_1.open3
  by_cases hsh : (an ≤ 6 ∧ ak ≤ 6) ∧ (bn ≤ 6 ∧ bk ≤ 6)
  rotate_left
  · skip
    go_wp2_with fail
    refine (fshort2_no 6 _ _ am ao an ac ap ak ad bm bo bn bc bp bk bd (by omega) hsh).mono ?_
    rintro e w4 ⟨rfl, hb4⟩
    clear pae0 pae1 pae2 pae3 pae4 pae5 pbe0 pbe1 pbe2 pbe3 pbe4 pbe5
    have hB_4 := hB_3.trans (hb4.mono hB_3.size)
    have fa_4 := fa_3.below hb4
    have fb_4 := fb_3.below hb4
    have pa_3 := pa_2.below hb4
    have pb_2 := pb_1.below hb4
    clear hb4 hB_3 fa_3 fb_3 pa_2 pb_1
    go_wp2
    go_ret
    exact ⟨rfl, hB_4⟩
  go_wp2_with fail
  refine (fshort2_yes 6 _ _ am ao an ac ap ak ad bm bo bn bc bp bk bd (by omega) hsh).mono ?_
  rintro e w4 ⟨rfl, hb4⟩
  clear pae0 pae1 pae2 pae3 pae4 pae5 pbe0 pbe1 pbe2 pbe3 pbe4 pbe5
  have hB_4 := hB_3.trans (hb4.mono hB_3.size)
  have fa_4 := fa_3.below hb4
  have fb_4 := fb_3.below hb4
  have pa_3 := pa_2.below hb4
  have pb_2 := pb_1.below hb4
  clear hb4 hB_3 fa_3 fb_3 pa_2 pb_1
  obtain ⟨pae0, pae1, pae2, pae3, pae4, pae5⟩ := pa_3.open3
  obtain ⟨pbe0, pbe1, pbe2, pbe3, pbe4, pbe5⟩ := pb_2.open3
  have fa_5 := fa_4.more (L' := 6) (by omega)
  clear fa_4
  have fb_5 := fb_4.more (L' := 6) (by omega)
  clear fb_4
  clear hsh
  clear pae0 pae1 pae2 pae3 pae4 pae5 pbe0 pbe1 pbe2 pbe3 pbe4 pbe5
  go_wp2
  have hWu_0 := Below.refl w4.heap.size w4
  have hsu : w.heap.size ≤ w4.heap.size := hB_4.size
  have hlupa := pa_3.lt
  have hlupb := pb_2.lt
  have hB_5 := hB_4.drew'
  have fa_6 := fa_5.drew
  have fb_6 := fb_5.drew
  have pa_4 := pa_3.drew
  have pb_3 := pb_2.drew
  have hWu_1 := hWu_0.drew'
  clear hB_4 fa_5 fb_5 pa_3 pb_2 hWu_0
  refine wp_region_noPanic ?_
  refine wp_region_held_drew (S := fun w' => True) (by kernel_rfl) (trivial) (fun hHeld => ?_)
  refine reg_grab (fun WWu au hWW hAA => ?_)
  have HWu := Lib.hid hWW; have HAu := Lib.hid hAA; clear hWW hAA hHeld
  have stu_4tt : ∀ (w' : World) (m1 : Bool) (o1 : Option Addr) (n1 : Nat) (c1 : Nat) (p1 : Option Addr) (k1 : Nat) (d1 : Nat) (m2 : Bool) (o2 : Option Addr) (n2 : Nat) (c2 : Nat) (p2 : Option Addr) (k2 : Nat) (d2 : Nat) (m3 : Bool) (o3 : Option Addr) (n3 : Nat) (c3 : Nat) (p3 : Option Addr) (k3 : Nat) (d3 : Nat) (m4 : Bool) (o4 : Option Addr) (n4 : Nat) (c4 : Nat) (p4 : Option Addr) (k4 : Nat) (d4 : Nat), Below w.heap.size w w' → FD w' (.agg #[.bool am, .slice ao an ac, .slice ap ak ad]) 6 Xa Da → FD w' (.agg #[.bool bm, .slice bo bn bc, .slice bp bk bd]) 6 Xb Db → Box w' (w.heap.size) [.bool am, .slice ao an ac, .slice ap ak ad] → Box w' (w.heap.size + 1) [.bool bm, .slice bo bn bc, .slice bp bk bd] → Below w4.heap.size w4 w' → RF w' (.agg #[.bool m1, .slice o1 n1 c1, .slice p1 k1 d1]) (1) (((0 : Int) : Rat)) → RF w' (.agg #[.bool m2, .slice o2 n2 c2, .slice p2 k2 d2]) (6 + 1 + 2) (qv Xa Da + ((0 : Int) : Rat)) → RF w' (.agg #[.bool m3, .slice o3 n3 c3, .slice p3 k3 d3]) (1) (((0 : Int) : Rat)) → RF w' (.agg #[.bool m4, .slice o4 n4 c4, .slice p4 k4 d4]) (6 + 1 + 2) (qv Xb Db + ((0 : Int) : Rat)) → WWu 2 #[true, true, true, true, true, true, false, false] ((((((au.put (some 15) (.agg #[.bool am, .slice ao an ac, .slice ap ak ad])).put (some 16) (.agg #[.bool m1, .slice o1 n1 c1, .slice p1 k1 d1])).put (some 17) (.agg #[.bool m2, .slice o2 n2 c2, .slice p2 k2 d2])).put (some 18) (.agg #[.bool bm, .slice bo bn bc, .slice bp bk bd])).put (some 19) (.agg #[.bool m3, .slice o3 n3 c3, .slice p3 k3 d3])).put (some 20) (.agg #[.bool m4, .slice o4 n4 c4, .slice p4 k4 d4])) w' := by
    intro w5 m1 o1 n1 c1 p1 k1 d1 m2 o2 n2 c2 p2 k2 d2 m3 o3 n3 c3 p3 k3 d3 m4 o4 n4 c4 p4 k4 d4 hB_0 fa_0 fb_0 pa_0 pb_0 hWu_0 f1_0 f2_0 f3_0 f4_0
    rw [HWu.out, HAu.out]
    try simp only [Act.put]
    try simp only [List.setIfInBounds_toArray, List.set_cons_zero, List.set_cons_succ]
    clear hWu_0
    obtain ⟨sf1a, sf1b, sf1c, sf1d, sf1e, sf1f⟩ := pa_0.open3
    obtain ⟨sg1a, sg1b, sg1c, sg1d⟩ := Box.put3 pa_0 (.bool m2) (.slice o2 n2 c2)
    refine reg_call 6 ?_ (by kernel_rfl) ?_ (fun K hK => ?_)
    rotate_left 1
    · simp only [List.getElem?_toArray, List.getElem?_cons_succ, List.getElem?_cons_zero]; exact rfl
    go_simp
    have hB_1 := below_setAll hB_0 (g := w.heap.size) (by omega) [.bool m2, .slice o2 n2 c2, .slice p2 k2 d2]
    have fa_1 := fa_0.setAll pa_0 (noWord3 _ _ _ _ _ _ _) [.bool m2, .slice o2 n2 c2, .slice p2 k2 d2] rfl
    have fb_1 := fb_0.setAll pa_0 (noWord3 _ _ _ _ _ _ _) [.bool m2, .slice o2 n2 c2, .slice p2 k2 d2] rfl
    have pb_1 := pb_0.farAll (g' := w.heap.size) (by omega) [.bool m2, .slice o2 n2 c2, .slice p2 k2 d2]
    have f1_1 := f1_0.setAll pa_0 (noWord3 _ _ _ _ _ _ _) [.bool m2, .slice o2 n2 c2, .slice p2 k2 d2] rfl
    have f2_1 := f2_0.setAll pa_0 (noWord3 _ _ _ _ _ _ _) [.bool m2, .slice o2 n2 c2, .slice p2 k2 d2] rfl
    have f3_1 := f3_0.setAll pa_0 (noWord3 _ _ _ _ _ _ _) [.bool m2, .slice o2 n2 c2, .slice p2 k2 d2] rfl
    have f4_1 := f4_0.setAll pa_0 (noWord3 _ _ _ _ _ _ _) [.bool m2, .slice o2 n2 c2, .slice p2 k2 d2] rfl
    have pa_1 := pa_0.setAll [.bool m2, .slice o2 n2 c2, .slice p2 k2 d2] rfl
    simp only [setAll, Nat.zero_add, Nat.reduceAdd] at hB_1 fa_1 fb_1 pa_1 pb_1 f1_1 f2_1 f3_1 f4_1
    clear sf1a sf1b sf1c sf1d sf1e sf1f sg1a sg1b sg1c sg1d
    clear hB_0 fa_0 fb_0 pb_0 f1_0 f2_0 f3_0 f4_0 pa_0
    refine hK.out _ _ trivial (fun hHeld => ?_)
    clear hK K
    try simp only [Act.put]
    try simp only [List.setIfInBounds_toArray, List.set_cons_zero, List.set_cons_succ]
    generalize (World.setCell (World.setCell (World.setCell w5 ⟨w.heap.size, 0, none⟩ (.bool m2)) ⟨w.heap.size, 1, none⟩ (.slice o2 n2 c2)) ⟨w.heap.size, 2, none⟩ (.slice p2 k2 d2)) = w6 at *
    obtain ⟨sf2a, sf2b, sf2c, sf2d, sf2e, sf2f⟩ := pb_1.open3
    obtain ⟨sg2a, sg2b, sg2c, sg2d⟩ := Box.put3 pb_1 (.bool m4) (.slice o4 n4 c4)
    refine reg_call 7 ?_ (by kernel_rfl) ?_ (fun K hK => ?_)
    rotate_left 1
    · simp only [List.getElem?_toArray, List.getElem?_cons_succ, List.getElem?_cons_zero]; exact rfl
    go_simp
    have hB_2 := below_setAll hB_1 (g := w.heap.size + 1) (by omega) [.bool m4, .slice o4 n4 c4, .slice p4 k4 d4]
    have fa_2 := fa_1.setAll pb_1 (noWord3 _ _ _ _ _ _ _) [.bool m4, .slice o4 n4 c4, .slice p4 k4 d4] rfl
    have fb_2 := fb_1.setAll pb_1 (noWord3 _ _ _ _ _ _ _) [.bool m4, .slice o4 n4 c4, .slice p4 k4 d4] rfl
    have pa_2 := pa_1.farAll (g' := w.heap.size + 1) (by omega) [.bool m4, .slice o4 n4 c4, .slice p4 k4 d4]
    have f1_2 := f1_1.setAll pb_1 (noWord3 _ _ _ _ _ _ _) [.bool m4, .slice o4 n4 c4, .slice p4 k4 d4] rfl
    have f2_2 := f2_1.setAll pb_1 (noWord3 _ _ _ _ _ _ _) [.bool m4, .slice o4 n4 c4, .slice p4 k4 d4] rfl
    have f3_2 := f3_1.setAll pb_1 (noWord3 _ _ _ _ _ _ _) [.bool m4, .slice o4 n4 c4, .slice p4 k4 d4] rfl
    have f4_2 := f4_1.setAll pb_1 (noWord3 _ _ _ _ _ _ _) [.bool m4, .slice o4 n4 c4, .slice p4 k4 d4] rfl
    have pb_2 := pb_1.setAll [.bool m4, .slice o4 n4 c4, .slice p4 k4 d4] rfl
    simp only [setAll, Nat.zero_add, Nat.reduceAdd] at hB_2 fa_2 fb_2 pa_2 pb_2 f1_2 f2_2 f3_2 f4_2
    clear sf2a sf2b sf2c sf2d sf2e sf2f sg2a sg2b sg2c sg2d
    clear hB_1 fa_1 fb_1 pa_1 f1_1 f2_1 f3_1 f4_1 pb_1
    refine hK.out _ _ trivial (fun hHeld => ?_)
    clear hK K
    try simp only [Act.put]
    try simp only [List.setIfInBounds_toArray, List.set_cons_zero, List.set_cons_succ]
    generalize (World.setCell (World.setCell (World.setCell w6 ⟨w.heap.size + 1, 0, none⟩ (.bool m4)) ⟨w.heap.size + 1, 1, none⟩ (.slice o4 n4 c4)) ⟨w.heap.size + 1, 2, none⟩ (.slice p4 k4 d4)) = w7 at *
    refine wpAnyH_done (by kernel_rfl) ?_ _
    refine NoPanic.normal ?_
    clear f1_2 f3_2 fa_2 fb_2
    rw [hp] at f2_2
    rw [hq] at f4_2
    obtain ⟨pae0, pae1, pae2, pae3, pae4, pae5⟩ := pa_2.open3
    obtain ⟨pbe0, pbe1, pbe2, pbe3, pbe4, pbe5⟩ := pb_2.open3
    go_wp2_with fail
    refine (qCmp _ _ _ _ _ _ _ (by omega) (by omega) f2_2.q f4_2.q c hc).mono ?_
    rintro e w8 ⟨rfl, hb8⟩
    clear pae0 pae1 pae2 pae3 pae4 pae5 pbe0 pbe1 pbe2 pbe3 pbe4 pbe5
    have hB_3 := hB_2.trans (hb8.mono hB_2.size)
    have pa_3 := pa_2.below hb8
    have pb_3 := pb_2.below hb8
    have f2_3 := f2_2.below hb8
    have f4_3 := f4_2.below hb8
    clear hb8 hB_2 pa_2 pb_2 f2_2 f4_2
    obtain ⟨pae0, pae1, pae2, pae3, pae4, pae5⟩ := pa_3.open3
    obtain ⟨pbe0, pbe1, pbe2, pbe3, pbe4, pbe5⟩ := pb_3.open3
    clear pae0 pae1 pae2 pae3 pae4 pae5 pbe0 pbe1 pbe2 pbe3 pbe4 pbe5
    go_wp2
    have hWq_0 := Below.refl w8.heap.size w8
    have hsq : w.heap.size ≤ w8.heap.size := hB_3.size
    have hlqpa := pa_3.lt
    have hlqpb := pb_3.lt
    have hB_4 := hB_3.drew'
    have pa_4 := pa_3.drew
    have pb_4 := pb_3.drew
    have f2_4 := f2_3.drew
    have f4_4 := f4_3.drew
    have hWq_1 := hWq_0.drew'
    clear hB_3 pa_3 pb_3 f2_3 f4_3 hWq_0
    refine wp_region_noPanic ?_
    refine wp_region_held_drew (S := fun w' => w'.cell? ⟨w.heap.size, 0, none⟩ = some (.bool m2) ∧ w'.cell? ⟨w.heap.size, 1, none⟩ = some (.slice o2 n2 c2) ∧ w'.cell? ⟨w.heap.size, 2, none⟩ = some (.slice p2 k2 d2) ∧ w'.cell? ⟨w.heap.size + 1, 0, none⟩ = some (.bool m4) ∧ w'.cell? ⟨w.heap.size + 1, 1, none⟩ = some (.slice o4 n4 c4) ∧ w'.cell? ⟨w.heap.size + 1, 2, none⟩ = some (.slice p4 k4 d4)) (by kernel_rfl) (⟨pa_4.c0, pa_4.c1, pa_4.c2, pb_4.c0, pb_4.c1, pb_4.c2⟩) (fun hHeld => ?_)
    refine reg_take 0 ?_ ?_ ?_ (by kernel_rfl) (by kernel_rfl) (by kernel_rfl) (fun _ _ _ h => h) ?_ ?_ (by assumption) ?_
    rotate_left 2
    · simp only [List.getElem?_toArray, List.getElem?_cons_zero]; exact rfl
    · rfl
    · intro w hSw; (try dsimp only at hSw); go_simp; try with_reducible rfl
    try simp only [Act.put]
    try simp only [List.setIfInBounds_toArray, List.set_cons_zero, List.set_cons_succ]
    refine reg_take 1 ?_ ?_ ?_ (by kernel_rfl) (by kernel_rfl) (by kernel_rfl) (fun _ _ _ h => h) ?_ ?_ (by assumption) ?_
    rotate_left 2
    · simp only [List.getElem?_toArray, List.getElem?_cons_succ, List.getElem?_cons_zero]; exact rfl
    · rfl
    · intro w hSw; (try dsimp only at hSw); go_simp; try with_reducible rfl
    try simp only [Act.put]
    try simp only [List.setIfInBounds_toArray, List.set_cons_zero, List.set_cons_succ]
    refine reg_take 2 ?_ ?_ ?_ (by kernel_rfl) (by kernel_rfl) (by kernel_rfl) (fun _ _ _ h => h) ?_ ?_ (by assumption) ?_
    rotate_left 2
    · simp only [List.getElem?_toArray, List.getElem?_cons_succ, List.getElem?_cons_zero]; exact rfl
    · rfl
    · intro w hSw; (try dsimp only at hSw); go_simp; try with_reducible rfl
    try simp only [Act.put]
    try simp only [List.setIfInBounds_toArray, List.set_cons_zero, List.set_cons_succ]
    refine reg_take 3 ?_ ?_ ?_ (by kernel_rfl) (by kernel_rfl) (by kernel_rfl) (fun _ _ _ h => h) ?_ ?_ (by assumption) ?_
    rotate_left 2
    · simp only [List.getElem?_toArray, List.getElem?_cons_succ, List.getElem?_cons_zero]; exact rfl
    · rfl
    · intro w hSw; (try dsimp only at hSw); go_simp; try with_reducible rfl
    try simp only [Act.put]
    try simp only [List.setIfInBounds_toArray, List.set_cons_zero, List.set_cons_succ]
    refine reg_take 5 ?_ ?_ ?_ (by kernel_rfl) (by kernel_rfl) (by kernel_rfl) (fun _ _ _ h => h) ?_ ?_ (by assumption) ?_
    rotate_left 2
    · simp only [List.getElem?_toArray, List.getElem?_cons_succ, List.getElem?_cons_zero]; exact rfl
    · rfl
    · intro w hSw; (try dsimp only at hSw); go_simp; try with_reducible rfl
    try simp only [Act.put]
    try simp only [List.setIfInBounds_toArray, List.set_cons_zero, List.set_cons_succ]
    refine reg_take 7 ?_ ?_ ?_ (by kernel_rfl) (by kernel_rfl) (by kernel_rfl) (fun _ _ _ h => h) ?_ ?_ (by assumption) ?_
    rotate_left 2
    · simp only [List.getElem?_toArray, List.getElem?_cons_succ, List.getElem?_cons_zero]; exact rfl
    · rfl
    · intro w hSw; (try dsimp only at hSw); go_simp; try with_reducible rfl
    try simp only [Act.put]
    try simp only [List.setIfInBounds_toArray, List.set_cons_zero, List.set_cons_succ]
    refine reg_grab (fun WWq aq hWW hAA => ?_)
    have HWq := Lib.hid hWW; have HAq := Lib.hid hAA; clear hWW hAA hHeld
    have stq_5t : ∀ (w' : World) (m5 : Bool) (o5 : Option Addr) (n5 : Nat) (c5 : Nat) (m6 : Bool) (o6 : Option Addr) (n6 : Nat) (c6 : Nat) (m7 : Bool) (o7 : Option Addr) (n7 : Nat) (c7 : Nat) (m8 : Bool) (o8 : Option Addr) (n8 : Nat) (c8 : Nat) (m9 : Bool) (o9 : Option Addr) (n9 : Nat) (c9 : Nat) (p9 : Option Addr) (k9 : Nat) (d9 : Nat) (gpm : Nat), Below w.heap.size w w' → Box w' (w.heap.size) [.bool m2, .slice o2 n2 c2, .slice p2 k2 d2] → Box w' (w.heap.size + 1) [.bool m4, .slice o4 n4 c4, .slice p4 k4 d4] → RF w' (.agg #[.bool m2, .slice o2 n2 c2, .slice p2 k2 d2]) (6 + 1 + 2) p → RF w' (.agg #[.bool m4, .slice o4 n4 c4, .slice p4 k4 d4]) (6 + 1 + 2) q → Below w8.heap.size w8 w' → RNum w' (.agg #[.bool m5, .slice o5 n5 c5]) (max (6 + 1 + 2) (6 + 1 + 2) + 1) (p.num + q.num) → RNum w' (.agg #[.bool m6, .slice o6 n6 c6]) ((max (6 + 1 + 2) 1)) (((den1 p.den : Nat) : Int)) → RNum w' (.agg #[.bool m7, .slice o7 n7 c7]) ((max (6 + 1 + 2) 1)) (((den1 q.den : Nat) : Int)) → RNum w' (.agg #[.bool m8, .slice o8 n8 c8]) (max (max (6 + 1 + 2) 1) (max (6 + 1 + 2) 1) + 1) (((den1 p.den : Nat) : Int) + ((den1 q.den : Nat) : Int)) → RF w' (.agg #[.bool m9, .slice o9 n9 c9, .slice p9 k9 d9]) (max (max (6 + 1 + 2) (6 + 1 + 2) + 1) (max (max (6 + 1 + 2) 1) (max (6 + 1 + 2) 1) + 1)) (((p.num + q.num : Int) : Rat) / ((((den1 p.den : Nat) : Int) + ((den1 q.den : Nat) : Int) : Int) : Rat)) → Box w' gpm [.bool false, .slice none 0 0, .slice none 0 0] → w8.heap.size ≤ gpm → WWq 2 #[true, true, true, true, true, true, true, true, true, true, true, true, true, true, true, false, false] (((((((((aq.put (some 29) (.agg #[.bool m5, .slice o5 n5 c5])).put (some 31) (.agg #[.bool m6, .slice o6 n6 c6])).put (some 33) (.agg #[.bool m7, .slice o7 n7 c7])).put (some 34) (.agg #[.bool m8, .slice o8 n8 c8])).put (some 35) (.tuple #[.agg #[.bool m9, .slice o9 n9 c9, .slice p9 k9 d9], .bool true])).put (some 24) (.tuple #[.agg #[.bool m9, .slice o9 n9 c9, .slice p9 k9 d9], .bool true])).put (some 36) (.agg #[.bool m9, .slice o9 n9 c9, .slice p9 k9 d9])).put (some 37) (.bool true)).put (some 6) (.pointer (some ⟨gpm, 0, none⟩))) w' := by
      intro w9 m5 o5 n5 c5 m6 o6 n6 c6 m7 o7 n7 c7 m8 o8 n8 c8 m9 o9 n9 c9 p9 k9 d9 gpm hB_0 pa_0 pb_0 f2_0 f4_0 hWq_0 f5_0 f6_0 f7_0 f8_0 f9_0 pm_0 hgpm
      rw [HWq.out, HAq.out]
      try simp only [Act.put]
      try simp only [List.setIfInBounds_toArray, List.set_cons_zero, List.set_cons_succ]
      clear hWq_0
      obtain ⟨sf3a, sf3b, sf3c, sf3d, sf3e, sf3f⟩ := pm_0.open3
      obtain ⟨sg3a, sg3b, sg3c, sg3d⟩ := Box.put3 pm_0 (.bool m9) (.slice o9 n9 c9)
      refine reg_call 15 ?_ (by kernel_rfl) ?_ (fun K hK => ?_)
      rotate_left 1
      · simp only [List.getElem?_toArray, List.getElem?_cons_succ, List.getElem?_cons_zero]; exact rfl
      go_simp
      have hB_1 := below_setAll hB_0 (g := gpm) (by omega) [.bool m9, .slice o9 n9 c9, .slice p9 k9 d9]
      have pa_1 := pa_0.farAll (g' := gpm) (by omega) [.bool m9, .slice o9 n9 c9, .slice p9 k9 d9]
      have pb_1 := pb_0.farAll (g' := gpm) (by omega) [.bool m9, .slice o9 n9 c9, .slice p9 k9 d9]
      have f2_1 := f2_0.setAll pm_0 (noWord3 _ _ _ _ _ _ _) [.bool m9, .slice o9 n9 c9, .slice p9 k9 d9] rfl
      have f4_1 := f4_0.setAll pm_0 (noWord3 _ _ _ _ _ _ _) [.bool m9, .slice o9 n9 c9, .slice p9 k9 d9] rfl
      have f5_1 := f5_0.setAll pm_0 (noWord3 _ _ _ _ _ _ _) [.bool m9, .slice o9 n9 c9, .slice p9 k9 d9] rfl
      have f6_1 := f6_0.setAll pm_0 (noWord3 _ _ _ _ _ _ _) [.bool m9, .slice o9 n9 c9, .slice p9 k9 d9] rfl
      have f7_1 := f7_0.setAll pm_0 (noWord3 _ _ _ _ _ _ _) [.bool m9, .slice o9 n9 c9, .slice p9 k9 d9] rfl
      have f8_1 := f8_0.setAll pm_0 (noWord3 _ _ _ _ _ _ _) [.bool m9, .slice o9 n9 c9, .slice p9 k9 d9] rfl
      have f9_1 := f9_0.setAll pm_0 (noWord3 _ _ _ _ _ _ _) [.bool m9, .slice o9 n9 c9, .slice p9 k9 d9] rfl
      have pm_1 := pm_0.setAll [.bool m9, .slice o9 n9 c9, .slice p9 k9 d9] rfl
      simp only [setAll, Nat.zero_add, Nat.reduceAdd] at hB_1 pa_1 pb_1 f2_1 f4_1 f5_1 f6_1 f7_1 f8_1 f9_1 pm_1
      clear sf3a sf3b sf3c sf3d sf3e sf3f sg3a sg3b sg3c sg3d
      clear hB_0 pa_0 pb_0 f2_0 f4_0 f5_0 f6_0 f7_0 f8_0 f9_0 pm_0
      refine hK.out _ _ ⟨pa_1.c0, pa_1.c1, pa_1.c2, pb_1.c0, pb_1.c1, pb_1.c2⟩ (fun hHeld => ?_)
      clear hK K
      try simp only [Act.put]
      try simp only [List.setIfInBounds_toArray, List.set_cons_zero, List.set_cons_succ]
      generalize (World.setCell (World.setCell (World.setCell w9 ⟨gpm, 0, none⟩ (.bool m9)) ⟨gpm, 1, none⟩ (.slice o9 n9 c9)) ⟨gpm, 2, none⟩ (.slice p9 k9 d9)) = w10 at *
      refine reg_take 16 ?_ ?_ ?_ (by kernel_rfl) (by kernel_rfl) (by kernel_rfl) (fun _ _ _ h => h) ?_ ?_ (by assumption) ?_
      rotate_left 2
      · simp only [List.getElem?_toArray, List.getElem?_cons_succ, List.getElem?_cons_zero]; exact rfl
      · rfl
      · intro w hSw; (try dsimp only at hSw); go_simp; try with_reducible rfl
      try simp only [Act.put]
      try simp only [List.setIfInBounds_toArray, List.set_cons_zero, List.set_cons_succ]
      refine wpAnyH_done (by kernel_rfl) ?_ _
      refine NoPanic.normal ?_
      rw [mid_eq] at f9_1
      obtain ⟨pme0, pme1, pme2, pme3, pme4, pme5⟩ := pm_1.open3
      go_wp2_with fail
      refine (fRight_any _ _ _ _ (by omega) f9_1).mono ?_
      rintro e w11 ⟨rfl, hb11⟩
      clear pme0 pme1 pme2 pme3 pme4 pme5
      have hB_2 := hB_1.trans (hb11.mono hB_1.size)
      have pa_2 := pa_1.below hb11
      have pb_2 := pb_1.below hb11
      have f2_2 := f2_1.below hb11
      have f4_2 := f4_1.below hb11
      have f5_2 := f5_1.below hb11
      have f6_2 := f6_1.below hb11
      have f7_2 := f7_1.below hb11
      have f8_2 := f8_1.below hb11
      have f9_2 := f9_1.below hb11
      have pm_2 := pm_1.below hb11
      clear hb11 hB_1 pa_1 pb_1 f2_1 f4_1 f5_1 f6_1 f7_1 f8_1 f9_1 pm_1
      obtain ⟨pme0, pme1, pme2, pme3, pme4, pme5⟩ := pm_2.open3
      clear pme0 pme1 pme2 pme3 pme4 pme5
      obtain ⟨pae0, pae1, pae2, pae3, pae4, pae5⟩ := pa_2.open3
      obtain ⟨pbe0, pbe1, pbe2, pbe3, pbe4, pbe5⟩ := pb_2.open3
      obtain ⟨pme0, pme1, pme2, pme3, pme4, pme5⟩ := pm_2.open3
      go_wp2_with fail
      refine (qCmp _ _ _ _ _ _ _ (by omega) (by omega) f2_2.q f9_2.q c ((mid_below p q).trans hc)).mono ?_
      rintro e w12 ⟨rfl, hb12⟩
      clear pae0 pae1 pae2 pae3 pae4 pae5 pbe0 pbe1 pbe2 pbe3 pbe4 pbe5 pme0 pme1 pme2 pme3 pme4 pme5
      have hB_3 := hB_2.trans (hb12.mono hB_2.size)
      have pa_3 := pa_2.below hb12
      have pb_3 := pb_2.below hb12
      have f2_3 := f2_2.below hb12
      have f4_3 := f4_2.below hb12
      have f5_3 := f5_2.below hb12
      have f6_3 := f6_2.below hb12
      have f7_3 := f7_2.below hb12
      have f8_3 := f8_2.below hb12
      have f9_3 := f9_2.below hb12
      have pm_3 := pm_2.below hb12
      clear hb12 hB_2 pa_2 pb_2 f2_2 f4_2 f5_2 f6_2 f7_2 f8_2 f9_2 pm_2
      obtain ⟨pae0, pae1, pae2, pae3, pae4, pae5⟩ := pa_3.open3
      obtain ⟨pbe0, pbe1, pbe2, pbe3, pbe4, pbe5⟩ := pb_3.open3
      obtain ⟨pme0, pme1, pme2, pme3, pme4, pme5⟩ := pm_3.open3
      go_wp2_with fail
      refine (qCmp _ _ _ _ _ _ _ (by omega) (by omega) f9_3.q f4_3.q c ((mid_above p q).trans hc)).mono ?_
      rintro e w13 ⟨rfl, hb13⟩
      clear pae0 pae1 pae2 pae3 pae4 pae5 pbe0 pbe1 pbe2 pbe3 pbe4 pbe5 pme0 pme1 pme2 pme3 pme4 pme5
      have hB_4 := hB_3.trans (hb13.mono hB_3.size)
      have pa_4 := pa_3.below hb13
      have pb_4 := pb_3.below hb13
      have f2_4 := f2_3.below hb13
      have f4_4 := f4_3.below hb13
      have f5_4 := f5_3.below hb13
      have f6_4 := f6_3.below hb13
      have f7_4 := f7_3.below hb13
      have f8_4 := f8_3.below hb13
      have f9_4 := f9_3.below hb13
      have pm_4 := pm_3.below hb13
      clear hb13 hB_3 pa_3 pb_3 f2_3 f4_3 f5_3 f6_3 f7_3 f8_3 f9_3 pm_3
      obtain ⟨pae0, pae1, pae2, pae3, pae4, pae5⟩ := pa_4.open3
      obtain ⟨pbe0, pbe1, pbe2, pbe3, pbe4, pbe5⟩ := pb_4.open3
      obtain ⟨pme0, pme1, pme2, pme3, pme4, pme5⟩ := pm_4.open3
      go_wp2
      go_ret
      exact ⟨rfl, hB_4⟩
    simp only [HAq.out, Act.put, List.setIfInBounds_toArray, List.set_cons_zero, List.set_cons_succ] at stq_5t
    have stq_5f : ∀ (w' : World) (m5 : Bool) (o5 : Option Addr) (n5 : Nat) (c5 : Nat) (m6 : Bool) (o6 : Option Addr) (n6 : Nat) (c6 : Nat) (m7 : Bool) (o7 : Option Addr) (n7 : Nat) (c7 : Nat) (m8 : Bool) (o8 : Option Addr) (n8 : Nat) (c8 : Nat) (m9 : Bool) (o9 : Option Addr) (n9 : Nat) (c9 : Nat) (p9 : Option Addr) (k9 : Nat) (d9 : Nat), Below w.heap.size w w' → Box w' (w.heap.size) [.bool m2, .slice o2 n2 c2, .slice p2 k2 d2] → Box w' (w.heap.size + 1) [.bool m4, .slice o4 n4 c4, .slice p4 k4 d4] → RF w' (.agg #[.bool m2, .slice o2 n2 c2, .slice p2 k2 d2]) (6 + 1 + 2) p → RF w' (.agg #[.bool m4, .slice o4 n4 c4, .slice p4 k4 d4]) (6 + 1 + 2) q → Below w8.heap.size w8 w' → RNum w' (.agg #[.bool m5, .slice o5 n5 c5]) (max (6 + 1 + 2) (6 + 1 + 2) + 1) (p.num + q.num) → RNum w' (.agg #[.bool m6, .slice o6 n6 c6]) ((max (6 + 1 + 2) 1)) (((den1 p.den : Nat) : Int)) → RNum w' (.agg #[.bool m7, .slice o7 n7 c7]) ((max (6 + 1 + 2) 1)) (((den1 q.den : Nat) : Int)) → RNum w' (.agg #[.bool m8, .slice o8 n8 c8]) (max (max (6 + 1 + 2) 1) (max (6 + 1 + 2) 1) + 1) (((den1 p.den : Nat) : Int) + ((den1 q.den : Nat) : Int)) → RF w' (.agg #[.bool m9, .slice o9 n9 c9, .slice p9 k9 d9]) (max (max (6 + 1 + 2) (6 + 1 + 2) + 1) (max (max (6 + 1 + 2) 1) (max (6 + 1 + 2) 1) + 1)) (((p.num + q.num : Int) : Rat) / ((((den1 p.den : Nat) : Int) + ((den1 q.den : Nat) : Int) : Int) : Rat)) → WWq 3 #[true, true, true, true, true, true, true, true, true, true, true, true, true, true, false, false, false] ((((((((aq.put (some 29) (.agg #[.bool m5, .slice o5 n5 c5])).put (some 31) (.agg #[.bool m6, .slice o6 n6 c6])).put (some 33) (.agg #[.bool m7, .slice o7 n7 c7])).put (some 34) (.agg #[.bool m8, .slice o8 n8 c8])).put (some 35) (.tuple #[.agg #[.bool m9, .slice o9 n9 c9, .slice p9 k9 d9], .bool true])).put (some 24) (.tuple #[.agg #[.bool m9, .slice o9 n9 c9, .slice p9 k9 d9], .bool true])).put (some 36) (.agg #[.bool m9, .slice o9 n9 c9, .slice p9 k9 d9])).put (some 37) (.bool true)) w' := by
      intro w14 m5 o5 n5 c5 m6 o6 n6 c6 m7 o7 n7 c7 m8 o8 n8 c8 m9 o9 n9 c9 p9 k9 d9 hB_0 pa_0 pb_0 f2_0 f4_0 hWq_0 f5_0 f6_0 f7_0 f8_0 f9_0
      rw [HWq.out, HAq.out]
      try simp only [Act.put]
      try simp only [List.setIfInBounds_toArray, List.set_cons_zero, List.set_cons_succ]
      refine reg_all1 14 ?_ (by kernel_rfl) ?_ (fun K hK => ?_)
      rotate_left 1
      · simp only [List.getElem?_toArray, List.getElem?_cons_succ, List.getElem?_cons_zero]; exact rfl
      · go_simp
        have hgn : w8.heap.size ≤ w14.heap.size := hWq_0.size
        obtain ⟨w15, hww15, pm_0, hb15, -⟩ := new_box w14 _ rfl [.bool false, .slice none 0 0, .slice none 0 0] 27
        rw [hww15]
        have hB_1 := hB_0.trans (hb15.mono hB_0.size)
        have pa_1 := pa_0.below hb15
        have pb_1 := pb_0.below hb15
        have f2_1 := f2_0.below hb15
        have f4_1 := f4_0.below hb15
        have hWq_1 := hWq_0.trans (hb15.mono hWq_0.size)
        have f5_1 := f5_0.below hb15
        have f6_1 := f6_0.below hb15
        have f7_1 := f7_0.below hb15
        have f8_1 := f8_0.below hb15
        have f9_1 := f9_0.below hb15
        clear hb15 hB_0 pa_0 pb_0 f2_0 f4_0 hWq_0 f5_0 f6_0 f7_0 f8_0 f9_0
        refine hK.out _ _ ⟨pa_1.c0, pa_1.c1, pa_1.c2, pb_1.c0, pb_1.c1, pb_1.c2⟩ (fun hHeld => ?_)
        clear hK K
        try simp only [Act.put]
        try simp only [List.setIfInBounds_toArray, List.set_cons_zero, List.set_cons_succ]
        rw [← HWq.out]
        exact stq_5t _ m5 o5 n5 c5 m6 o6 n6 c6 m7 o7 n7 c7 m8 o8 n8 c8 m9 o9 n9 c9 p9 k9 d9 w14.heap.size hB_1 pa_1 pb_1 f2_1 f4_1 hWq_1 f5_1 f6_1 f7_1 f8_1 f9_1 pm_0 (by omega)
    try simp only [HAq.out, Act.put, List.setIfInBounds_toArray, List.set_cons_zero, List.set_cons_succ] at stq_5f
    have stq_4t : ∀ (w' : World) (m5 : Bool) (o5 : Option Addr) (n5 : Nat) (c5 : Nat) (m6 : Bool) (o6 : Option Addr) (n6 : Nat) (c6 : Nat) (m7 : Bool) (o7 : Option Addr) (n7 : Nat) (c7 : Nat) (m8 : Bool) (o8 : Option Addr) (n8 : Nat) (c8 : Nat) (gpm : Nat), Below w.heap.size w w' → Box w' (w.heap.size) [.bool m2, .slice o2 n2 c2, .slice p2 k2 d2] → Box w' (w.heap.size + 1) [.bool m4, .slice o4 n4 c4, .slice p4 k4 d4] → RF w' (.agg #[.bool m2, .slice o2 n2 c2, .slice p2 k2 d2]) (6 + 1 + 2) p → RF w' (.agg #[.bool m4, .slice o4 n4 c4, .slice p4 k4 d4]) (6 + 1 + 2) q → Below w8.heap.size w8 w' → RNum w' (.agg #[.bool m5, .slice o5 n5 c5]) (max (6 + 1 + 2) (6 + 1 + 2) + 1) (p.num + q.num) → RNum w' (.agg #[.bool m6, .slice o6 n6 c6]) ((max (6 + 1 + 2) 1)) (((den1 p.den : Nat) : Int)) → RNum w' (.agg #[.bool m7, .slice o7 n7 c7]) ((max (6 + 1 + 2) 1)) (((den1 q.den : Nat) : Int)) → RNum w' (.agg #[.bool m8, .slice o8 n8 c8]) (max (max (6 + 1 + 2) 1) (max (6 + 1 + 2) 1) + 1) (((den1 p.den : Nat) : Int) + ((den1 q.den : Nat) : Int)) → Box w' gpm [.bool false, .slice none 0 0, .slice none 0 0] → w8.heap.size ≤ gpm → WWq 6 #[true, true, true, true, true, true, true, true, true, true, false, false, false, false, true, false, false] (((((aq.put (some 29) (.agg #[.bool m5, .slice o5 n5 c5])).put (some 31) (.agg #[.bool m6, .slice o6 n6 c6])).put (some 33) (.agg #[.bool m7, .slice o7 n7 c7])).put (some 34) (.agg #[.bool m8, .slice o8 n8 c8])).put (some 6) (.pointer (some ⟨gpm, 0, none⟩))) w' := by
      intro w16 m5 o5 n5 c5 m6 o6 n6 c6 m7 o7 n7 c7 m8 o8 n8 c8 gpm hB_0 pa_0 pb_0 f2_0 f4_0 hWq_0 f5_0 f6_0 f7_0 f8_0 pm_0 hgpm
      rw [HWq.out, HAq.out]
      try simp only [Act.put]
      try simp only [List.setIfInBounds_toArray, List.set_cons_zero, List.set_cons_succ]
      refine reg_all1 10 ?_ (by kernel_rfl) ?_ (fun K hK => ?_)
      rotate_left 1
      · simp only [List.getElem?_toArray, List.getElem?_cons_succ, List.getElem?_cons_zero]; exact rfl
      · go_simp
        refine (fMake_some _ _ _ _ _ _ _ (by omega) (by omega) f5_0.num f8_0.num (by have := den1_pos p.den; omega)).mono ?_
        rintro e w17 ⟨m9, o9, n9, c9, p9, k9, d9, rfl, f9_0, hb17⟩
        have hB_1 := hB_0.trans (hb17.mono hB_0.size)
        have pa_1 := pa_0.below hb17
        have pb_1 := pb_0.below hb17
        have f2_1 := f2_0.below hb17
        have f4_1 := f4_0.below hb17
        have hWq_1 := hWq_0.trans (hb17.mono hWq_0.size)
        have f5_1 := f5_0.below hb17
        have f6_1 := f6_0.below hb17
        have f7_1 := f7_0.below hb17
        have f8_1 := f8_0.below hb17
        have pm_1 := pm_0.below hb17
        clear hb17 hB_0 pa_0 pb_0 f2_0 f4_0 hWq_0 f5_0 f6_0 f7_0 f8_0 pm_0
        go_wp2_with fail
        refine hK.out _ _ ⟨pa_1.c0, pa_1.c1, pa_1.c2, pb_1.c0, pb_1.c1, pb_1.c2⟩ (fun hHeld => ?_)
        clear hK K
        try simp only [Act.put]
        try simp only [List.setIfInBounds_toArray, List.set_cons_zero, List.set_cons_succ]
        refine reg_take 11 ?_ ?_ ?_ (by kernel_rfl) (by kernel_rfl) (by kernel_rfl) (fun _ _ _ h => h) ?_ ?_ (by assumption) ?_
        rotate_left 2
        · simp only [List.getElem?_toArray, List.getElem?_cons_succ, List.getElem?_cons_zero]; exact rfl
        · rfl
        · intro w hSw; (try dsimp only at hSw); go_simp; try with_reducible rfl
        try simp only [Act.put]
        try simp only [List.setIfInBounds_toArray, List.set_cons_zero, List.set_cons_succ]
        refine reg_take 12 ?_ ?_ ?_ (by kernel_rfl) (by kernel_rfl) (by kernel_rfl) (fun _ _ _ h => h) ?_ ?_ (by assumption) ?_
        rotate_left 2
        · simp only [List.getElem?_toArray, List.getElem?_cons_succ, List.getElem?_cons_zero]; exact rfl
        · rfl
        · intro w hSw; (try dsimp only at hSw); go_simp; try with_reducible rfl
        try simp only [Act.put]
        try simp only [List.setIfInBounds_toArray, List.set_cons_zero, List.set_cons_succ]
        refine reg_take 13 ?_ ?_ ?_ (by kernel_rfl) (by kernel_rfl) (by kernel_rfl) (fun _ _ _ h => h) ?_ ?_ (by assumption) ?_
        rotate_left 2
        · simp only [List.getElem?_toArray, List.getElem?_cons_succ, List.getElem?_cons_zero]; exact rfl
        · rfl
        · intro w hSw; (try dsimp only at hSw); go_simp; try with_reducible rfl
        try simp only [Act.put]
        try simp only [List.setIfInBounds_toArray, List.set_cons_zero, List.set_cons_succ]
        rw [← HWq.out]
        exact stq_5t _ m5 o5 n5 c5 m6 o6 n6 c6 m7 o7 n7 c7 m8 o8 n8 c8 m9 o9 n9 c9 p9 k9 d9 gpm hB_1 pa_1 pb_1 f2_1 f4_1 hWq_1 f5_1 f6_1 f7_1 f8_1 f9_0 pm_1 (by omega)
    try simp only [HAq.out, Act.put, List.setIfInBounds_toArray, List.set_cons_zero, List.set_cons_succ] at stq_4t
    have stq_4f : ∀ (w' : World) (m5 : Bool) (o5 : Option Addr) (n5 : Nat) (c5 : Nat) (m6 : Bool) (o6 : Option Addr) (n6 : Nat) (c6 : Nat) (m7 : Bool) (o7 : Option Addr) (n7 : Nat) (c7 : Nat) (m8 : Bool) (o8 : Option Addr) (n8 : Nat) (c8 : Nat), Below w.heap.size w w' → Box w' (w.heap.size) [.bool m2, .slice o2 n2 c2, .slice p2 k2 d2] → Box w' (w.heap.size + 1) [.bool m4, .slice o4 n4 c4, .slice p4 k4 d4] → RF w' (.agg #[.bool m2, .slice o2 n2 c2, .slice p2 k2 d2]) (6 + 1 + 2) p → RF w' (.agg #[.bool m4, .slice o4 n4 c4, .slice p4 k4 d4]) (6 + 1 + 2) q → Below w8.heap.size w8 w' → RNum w' (.agg #[.bool m5, .slice o5 n5 c5]) (max (6 + 1 + 2) (6 + 1 + 2) + 1) (p.num + q.num) → RNum w' (.agg #[.bool m6, .slice o6 n6 c6]) ((max (6 + 1 + 2) 1)) (((den1 p.den : Nat) : Int)) → RNum w' (.agg #[.bool m7, .slice o7 n7 c7]) ((max (6 + 1 + 2) 1)) (((den1 q.den : Nat) : Int)) → RNum w' (.agg #[.bool m8, .slice o8 n8 c8]) (max (max (6 + 1 + 2) 1) (max (6 + 1 + 2) 1) + 1) (((den1 p.den : Nat) : Int) + ((den1 q.den : Nat) : Int)) → WWq 7 #[true, true, true, true, true, true, true, true, true, true, false, false, false, false, false, false, false] ((((aq.put (some 29) (.agg #[.bool m5, .slice o5 n5 c5])).put (some 31) (.agg #[.bool m6, .slice o6 n6 c6])).put (some 33) (.agg #[.bool m7, .slice o7 n7 c7])).put (some 34) (.agg #[.bool m8, .slice o8 n8 c8])) w' := by
      intro w18 m5 o5 n5 c5 m6 o6 n6 c6 m7 o7 n7 c7 m8 o8 n8 c8 hB_0 pa_0 pb_0 f2_0 f4_0 hWq_0 f5_0 f6_0 f7_0 f8_0
      rw [HWq.out, HAq.out]
      try simp only [Act.put]
      try simp only [List.setIfInBounds_toArray, List.set_cons_zero, List.set_cons_succ]
      refine reg_all2 10 14 ?_ ?_ (by kernel_rfl) ?_ ?_ (fun K hK => ?_) (fun K hK => ?_)
      rotate_left 2
      · simp only [List.getElem?_toArray, List.getElem?_cons_succ, List.getElem?_cons_zero]; exact rfl
      · simp only [List.getElem?_toArray, List.getElem?_cons_succ, List.getElem?_cons_zero]; exact rfl
      · go_simp
        refine (fMake_some _ _ _ _ _ _ _ (by omega) (by omega) f5_0.num f8_0.num (by have := den1_pos p.den; omega)).mono ?_
        rintro e w19 ⟨m9, o9, n9, c9, p9, k9, d9, rfl, f9_0, hb19⟩
        have hB_1 := hB_0.trans (hb19.mono hB_0.size)
        have pa_1 := pa_0.below hb19
        have pb_1 := pb_0.below hb19
        have f2_1 := f2_0.below hb19
        have f4_1 := f4_0.below hb19
        have hWq_1 := hWq_0.trans (hb19.mono hWq_0.size)
        have f5_1 := f5_0.below hb19
        have f6_1 := f6_0.below hb19
        have f7_1 := f7_0.below hb19
        have f8_1 := f8_0.below hb19
        clear hb19 hB_0 pa_0 pb_0 f2_0 f4_0 hWq_0 f5_0 f6_0 f7_0 f8_0
        go_wp2_with fail
        refine hK.out _ _ ⟨pa_1.c0, pa_1.c1, pa_1.c2, pb_1.c0, pb_1.c1, pb_1.c2⟩ (fun hHeld => ?_)
        clear hK K
        try simp only [Act.put]
        try simp only [List.setIfInBounds_toArray, List.set_cons_zero, List.set_cons_succ]
        refine reg_take 11 ?_ ?_ ?_ (by kernel_rfl) (by kernel_rfl) (by kernel_rfl) (fun _ _ _ h => h) ?_ ?_ (by assumption) ?_
        rotate_left 2
        · simp only [List.getElem?_toArray, List.getElem?_cons_succ, List.getElem?_cons_zero]; exact rfl
        · rfl
        · intro w hSw; (try dsimp only at hSw); go_simp; try with_reducible rfl
        try simp only [Act.put]
        try simp only [List.setIfInBounds_toArray, List.set_cons_zero, List.set_cons_succ]
        refine reg_take 12 ?_ ?_ ?_ (by kernel_rfl) (by kernel_rfl) (by kernel_rfl) (fun _ _ _ h => h) ?_ ?_ (by assumption) ?_
        rotate_left 2
        · simp only [List.getElem?_toArray, List.getElem?_cons_succ, List.getElem?_cons_zero]; exact rfl
        · rfl
        · intro w hSw; (try dsimp only at hSw); go_simp; try with_reducible rfl
        try simp only [Act.put]
        try simp only [List.setIfInBounds_toArray, List.set_cons_zero, List.set_cons_succ]
        refine reg_take 13 ?_ ?_ ?_ (by kernel_rfl) (by kernel_rfl) (by kernel_rfl) (fun _ _ _ h => h) ?_ ?_ (by assumption) ?_
        rotate_left 2
        · simp only [List.getElem?_toArray, List.getElem?_cons_succ, List.getElem?_cons_zero]; exact rfl
        · rfl
        · intro w hSw; (try dsimp only at hSw); go_simp; try with_reducible rfl
        try simp only [Act.put]
        try simp only [List.setIfInBounds_toArray, List.set_cons_zero, List.set_cons_succ]
        rw [← HWq.out]
        exact stq_5f _ m5 o5 n5 c5 m6 o6 n6 c6 m7 o7 n7 c7 m8 o8 n8 c8 m9 o9 n9 c9 p9 k9 d9 hB_1 pa_1 pb_1 f2_1 f4_1 hWq_1 f5_1 f6_1 f7_1 f8_1 f9_0
      · go_simp
        have hgn : w8.heap.size ≤ w18.heap.size := hWq_0.size
        obtain ⟨w20, hww20, pm_0, hb20, -⟩ := new_box w18 _ rfl [.bool false, .slice none 0 0, .slice none 0 0] 27
        rw [hww20]
        have hB_1 := hB_0.trans (hb20.mono hB_0.size)
        have pa_1 := pa_0.below hb20
        have pb_1 := pb_0.below hb20
        have f2_1 := f2_0.below hb20
        have f4_1 := f4_0.below hb20
        have hWq_1 := hWq_0.trans (hb20.mono hWq_0.size)
        have f5_1 := f5_0.below hb20
        have f6_1 := f6_0.below hb20
        have f7_1 := f7_0.below hb20
        have f8_1 := f8_0.below hb20
        clear hb20 hB_0 pa_0 pb_0 f2_0 f4_0 hWq_0 f5_0 f6_0 f7_0 f8_0
        refine hK.out _ _ ⟨pa_1.c0, pa_1.c1, pa_1.c2, pb_1.c0, pb_1.c1, pb_1.c2⟩ (fun hHeld => ?_)
        clear hK K
        try simp only [Act.put]
        try simp only [List.setIfInBounds_toArray, List.set_cons_zero, List.set_cons_succ]
        rw [← HWq.out]
        exact stq_4t _ m5 o5 n5 c5 m6 o6 n6 c6 m7 o7 n7 c7 m8 o8 n8 c8 w18.heap.size hB_1 pa_1 pb_1 f2_1 f4_1 hWq_1 f5_1 f6_1 f7_1 f8_1 pm_0 (by omega)
    try simp only [HAq.out, Act.put, List.setIfInBounds_toArray, List.set_cons_zero, List.set_cons_succ] at stq_4f
    have stq_3t : ∀ (w' : World) (m5 : Bool) (o5 : Option Addr) (n5 : Nat) (c5 : Nat) (m6 : Bool) (o6 : Option Addr) (n6 : Nat) (c6 : Nat) (m7 : Bool) (o7 : Option Addr) (n7 : Nat) (c7 : Nat) (gpm : Nat), Below w.heap.size w w' → Box w' (w.heap.size) [.bool m2, .slice o2 n2 c2, .slice p2 k2 d2] → Box w' (w.heap.size + 1) [.bool m4, .slice o4 n4 c4, .slice p4 k4 d4] → RF w' (.agg #[.bool m2, .slice o2 n2 c2, .slice p2 k2 d2]) (6 + 1 + 2) p → RF w' (.agg #[.bool m4, .slice o4 n4 c4, .slice p4 k4 d4]) (6 + 1 + 2) q → Below w8.heap.size w8 w' → RNum w' (.agg #[.bool m5, .slice o5 n5 c5]) (max (6 + 1 + 2) (6 + 1 + 2) + 1) (p.num + q.num) → RNum w' (.agg #[.bool m6, .slice o6 n6 c6]) ((max (6 + 1 + 2) 1)) (((den1 p.den : Nat) : Int)) → RNum w' (.agg #[.bool m7, .slice o7 n7 c7]) ((max (6 + 1 + 2) 1)) (((den1 q.den : Nat) : Int)) → Box w' gpm [.bool false, .slice none 0 0, .slice none 0 0] → w8.heap.size ≤ gpm → WWq 7 #[true, true, true, true, true, true, true, true, true, false, false, false, false, false, true, false, false] ((((aq.put (some 29) (.agg #[.bool m5, .slice o5 n5 c5])).put (some 31) (.agg #[.bool m6, .slice o6 n6 c6])).put (some 33) (.agg #[.bool m7, .slice o7 n7 c7])).put (some 6) (.pointer (some ⟨gpm, 0, none⟩))) w' := by
      intro w21 m5 o5 n5 c5 m6 o6 n6 c6 m7 o7 n7 c7 gpm hB_0 pa_0 pb_0 f2_0 f4_0 hWq_0 f5_0 f6_0 f7_0 pm_0 hgpm
      rw [HWq.out, HAq.out]
      try simp only [Act.put]
      try simp only [List.setIfInBounds_toArray, List.set_cons_zero, List.set_cons_succ]
      refine reg_all1 9 ?_ (by kernel_rfl) ?_ (fun K hK => ?_)
      rotate_left 1
      · simp only [List.getElem?_toArray, List.getElem?_cons_succ, List.getElem?_cons_zero]; exact rfl
      · go_simp
        refine (nAdd_any _ _ (max (6 + 1 + 2) 1) (max (6 + 1 + 2) 1) _ _ _ (by omega) (by omega) f6_0.num f7_0.num).mono ?_
        rintro e w22 ⟨m8, o8, n8, c8, rfl, f8_0, hb22⟩
        have hB_1 := hB_0.trans (hb22.mono hB_0.size)
        have pa_1 := pa_0.below hb22
        have pb_1 := pb_0.below hb22
        have f2_1 := f2_0.below hb22
        have f4_1 := f4_0.below hb22
        have hWq_1 := hWq_0.trans (hb22.mono hWq_0.size)
        have f5_1 := f5_0.below hb22
        have f6_1 := f6_0.below hb22
        have f7_1 := f7_0.below hb22
        have pm_1 := pm_0.below hb22
        clear hb22 hB_0 pa_0 pb_0 f2_0 f4_0 hWq_0 f5_0 f6_0 f7_0 pm_0
        go_wp2_with fail
        refine hK.out _ _ ⟨pa_1.c0, pa_1.c1, pa_1.c2, pb_1.c0, pb_1.c1, pb_1.c2⟩ (fun hHeld => ?_)
        clear hK K
        try simp only [Act.put]
        try simp only [List.setIfInBounds_toArray, List.set_cons_zero, List.set_cons_succ]
        rw [← HWq.out]
        exact stq_4t _ m5 o5 n5 c5 m6 o6 n6 c6 m7 o7 n7 c7 m8 o8 n8 c8 gpm hB_1 pa_1 pb_1 f2_1 f4_1 hWq_1 f5_1 f6_1 f7_1 f8_0 pm_1 (by omega)
    try simp only [HAq.out, Act.put, List.setIfInBounds_toArray, List.set_cons_zero, List.set_cons_succ] at stq_3t
    have stq_3f : ∀ (w' : World) (m5 : Bool) (o5 : Option Addr) (n5 : Nat) (c5 : Nat) (m6 : Bool) (o6 : Option Addr) (n6 : Nat) (c6 : Nat) (m7 : Bool) (o7 : Option Addr) (n7 : Nat) (c7 : Nat), Below w.heap.size w w' → Box w' (w.heap.size) [.bool m2, .slice o2 n2 c2, .slice p2 k2 d2] → Box w' (w.heap.size + 1) [.bool m4, .slice o4 n4 c4, .slice p4 k4 d4] → RF w' (.agg #[.bool m2, .slice o2 n2 c2, .slice p2 k2 d2]) (6 + 1 + 2) p → RF w' (.agg #[.bool m4, .slice o4 n4 c4, .slice p4 k4 d4]) (6 + 1 + 2) q → Below w8.heap.size w8 w' → RNum w' (.agg #[.bool m5, .slice o5 n5 c5]) (max (6 + 1 + 2) (6 + 1 + 2) + 1) (p.num + q.num) → RNum w' (.agg #[.bool m6, .slice o6 n6 c6]) ((max (6 + 1 + 2) 1)) (((den1 p.den : Nat) : Int)) → RNum w' (.agg #[.bool m7, .slice o7 n7 c7]) ((max (6 + 1 + 2) 1)) (((den1 q.den : Nat) : Int)) → WWq 8 #[true, true, true, true, true, true, true, true, true, false, false, false, false, false, false, false, false] (((aq.put (some 29) (.agg #[.bool m5, .slice o5 n5 c5])).put (some 31) (.agg #[.bool m6, .slice o6 n6 c6])).put (some 33) (.agg #[.bool m7, .slice o7 n7 c7])) w' := by
      intro w23 m5 o5 n5 c5 m6 o6 n6 c6 m7 o7 n7 c7 hB_0 pa_0 pb_0 f2_0 f4_0 hWq_0 f5_0 f6_0 f7_0
      rw [HWq.out, HAq.out]
      try simp only [Act.put]
      try simp only [List.setIfInBounds_toArray, List.set_cons_zero, List.set_cons_succ]
      refine reg_all2 9 14 ?_ ?_ (by kernel_rfl) ?_ ?_ (fun K hK => ?_) (fun K hK => ?_)
      rotate_left 2
      · simp only [List.getElem?_toArray, List.getElem?_cons_succ, List.getElem?_cons_zero]; exact rfl
      · simp only [List.getElem?_toArray, List.getElem?_cons_succ, List.getElem?_cons_zero]; exact rfl
      · go_simp
        refine (nAdd_any _ _ (max (6 + 1 + 2) 1) (max (6 + 1 + 2) 1) _ _ _ (by omega) (by omega) f6_0.num f7_0.num).mono ?_
        rintro e w24 ⟨m8, o8, n8, c8, rfl, f8_0, hb24⟩
        have hB_1 := hB_0.trans (hb24.mono hB_0.size)
        have pa_1 := pa_0.below hb24
        have pb_1 := pb_0.below hb24
        have f2_1 := f2_0.below hb24
        have f4_1 := f4_0.below hb24
        have hWq_1 := hWq_0.trans (hb24.mono hWq_0.size)
        have f5_1 := f5_0.below hb24
        have f6_1 := f6_0.below hb24
        have f7_1 := f7_0.below hb24
        clear hb24 hB_0 pa_0 pb_0 f2_0 f4_0 hWq_0 f5_0 f6_0 f7_0
        go_wp2_with fail
        refine hK.out _ _ ⟨pa_1.c0, pa_1.c1, pa_1.c2, pb_1.c0, pb_1.c1, pb_1.c2⟩ (fun hHeld => ?_)
        clear hK K
        try simp only [Act.put]
        try simp only [List.setIfInBounds_toArray, List.set_cons_zero, List.set_cons_succ]
        rw [← HWq.out]
        exact stq_4f _ m5 o5 n5 c5 m6 o6 n6 c6 m7 o7 n7 c7 m8 o8 n8 c8 hB_1 pa_1 pb_1 f2_1 f4_1 hWq_1 f5_1 f6_1 f7_1 f8_0
      · go_simp
        have hgn : w8.heap.size ≤ w23.heap.size := hWq_0.size
        obtain ⟨w25, hww25, pm_0, hb25, -⟩ := new_box w23 _ rfl [.bool false, .slice none 0 0, .slice none 0 0] 27
        rw [hww25]
        have hB_1 := hB_0.trans (hb25.mono hB_0.size)
        have pa_1 := pa_0.below hb25
        have pb_1 := pb_0.below hb25
        have f2_1 := f2_0.below hb25
        have f4_1 := f4_0.below hb25
        have hWq_1 := hWq_0.trans (hb25.mono hWq_0.size)
        have f5_1 := f5_0.below hb25
        have f6_1 := f6_0.below hb25
        have f7_1 := f7_0.below hb25
        clear hb25 hB_0 pa_0 pb_0 f2_0 f4_0 hWq_0 f5_0 f6_0 f7_0
        refine hK.out _ _ ⟨pa_1.c0, pa_1.c1, pa_1.c2, pb_1.c0, pb_1.c1, pb_1.c2⟩ (fun hHeld => ?_)
        clear hK K
        try simp only [Act.put]
        try simp only [List.setIfInBounds_toArray, List.set_cons_zero, List.set_cons_succ]
        rw [← HWq.out]
        exact stq_3t _ m5 o5 n5 c5 m6 o6 n6 c6 m7 o7 n7 c7 w23.heap.size hB_1 pa_1 pb_1 f2_1 f4_1 hWq_1 f5_1 f6_1 f7_1 pm_0 (by omega)
    try simp only [HAq.out, Act.put, List.setIfInBounds_toArray, List.set_cons_zero, List.set_cons_succ] at stq_3f
    have stq_2t : ∀ (w' : World) (m5 : Bool) (o5 : Option Addr) (n5 : Nat) (c5 : Nat) (m6 : Bool) (o6 : Option Addr) (n6 : Nat) (c6 : Nat) (gpm : Nat), Below w.heap.size w w' → Box w' (w.heap.size) [.bool m2, .slice o2 n2 c2, .slice p2 k2 d2] → Box w' (w.heap.size + 1) [.bool m4, .slice o4 n4 c4, .slice p4 k4 d4] → RF w' (.agg #[.bool m2, .slice o2 n2 c2, .slice p2 k2 d2]) (6 + 1 + 2) p → RF w' (.agg #[.bool m4, .slice o4 n4 c4, .slice p4 k4 d4]) (6 + 1 + 2) q → Below w8.heap.size w8 w' → RNum w' (.agg #[.bool m5, .slice o5 n5 c5]) (max (6 + 1 + 2) (6 + 1 + 2) + 1) (p.num + q.num) → RNum w' (.agg #[.bool m6, .slice o6 n6 c6]) ((max (6 + 1 + 2) 1)) (((den1 p.den : Nat) : Int)) → Box w' gpm [.bool false, .slice none 0 0, .slice none 0 0] → w8.heap.size ≤ gpm → WWq 8 #[true, true, true, true, true, true, true, true, false, false, false, false, false, false, true, false, false] (((aq.put (some 29) (.agg #[.bool m5, .slice o5 n5 c5])).put (some 31) (.agg #[.bool m6, .slice o6 n6 c6])).put (some 6) (.pointer (some ⟨gpm, 0, none⟩))) w' := by
      intro w26 m5 o5 n5 c5 m6 o6 n6 c6 gpm hB_0 pa_0 pb_0 f2_0 f4_0 hWq_0 f5_0 f6_0 pm_0 hgpm
      rw [HWq.out, HAq.out]
      try simp only [Act.put]
      try simp only [List.setIfInBounds_toArray, List.set_cons_zero, List.set_cons_succ]
      refine reg_all1 8 ?_ (by kernel_rfl) ?_ (fun K hK => ?_)
      rotate_left 1
      · simp only [List.getElem?_toArray, List.getElem?_cons_succ, List.getElem?_cons_zero]; exact rfl
      · go_simp
        refine (below_any _ (6 + 1 + 2) q.num q.den _ (by omega) f4_0.fd).mono ?_
        rintro e w27 ⟨m7, o7, n7, c7, rfl, f7_0, hb27⟩
        have hB_1 := hB_0.trans (hb27.mono hB_0.size)
        have pa_1 := pa_0.below hb27
        have pb_1 := pb_0.below hb27
        have f2_1 := f2_0.below hb27
        have f4_1 := f4_0.below hb27
        have hWq_1 := hWq_0.trans (hb27.mono hWq_0.size)
        have f5_1 := f5_0.below hb27
        have f6_1 := f6_0.below hb27
        have pm_1 := pm_0.below hb27
        clear hb27 hB_0 pa_0 pb_0 f2_0 f4_0 hWq_0 f5_0 f6_0 pm_0
        go_wp2_with fail
        refine hK.out _ _ ⟨pa_1.c0, pa_1.c1, pa_1.c2, pb_1.c0, pb_1.c1, pb_1.c2⟩ (fun hHeld => ?_)
        clear hK K
        try simp only [Act.put]
        try simp only [List.setIfInBounds_toArray, List.set_cons_zero, List.set_cons_succ]
        rw [← HWq.out]
        exact stq_3t _ m5 o5 n5 c5 m6 o6 n6 c6 m7 o7 n7 c7 gpm hB_1 pa_1 pb_1 f2_1 f4_1 hWq_1 f5_1 f6_1 f7_0 pm_1 (by omega)
    try simp only [HAq.out, Act.put, List.setIfInBounds_toArray, List.set_cons_zero, List.set_cons_succ] at stq_2t
    have stq_2f : ∀ (w' : World) (m5 : Bool) (o5 : Option Addr) (n5 : Nat) (c5 : Nat) (m6 : Bool) (o6 : Option Addr) (n6 : Nat) (c6 : Nat), Below w.heap.size w w' → Box w' (w.heap.size) [.bool m2, .slice o2 n2 c2, .slice p2 k2 d2] → Box w' (w.heap.size + 1) [.bool m4, .slice o4 n4 c4, .slice p4 k4 d4] → RF w' (.agg #[.bool m2, .slice o2 n2 c2, .slice p2 k2 d2]) (6 + 1 + 2) p → RF w' (.agg #[.bool m4, .slice o4 n4 c4, .slice p4 k4 d4]) (6 + 1 + 2) q → Below w8.heap.size w8 w' → RNum w' (.agg #[.bool m5, .slice o5 n5 c5]) (max (6 + 1 + 2) (6 + 1 + 2) + 1) (p.num + q.num) → RNum w' (.agg #[.bool m6, .slice o6 n6 c6]) ((max (6 + 1 + 2) 1)) (((den1 p.den : Nat) : Int)) → WWq 9 #[true, true, true, true, true, true, true, true, false, false, false, false, false, false, false, false, false] ((aq.put (some 29) (.agg #[.bool m5, .slice o5 n5 c5])).put (some 31) (.agg #[.bool m6, .slice o6 n6 c6])) w' := by
      intro w28 m5 o5 n5 c5 m6 o6 n6 c6 hB_0 pa_0 pb_0 f2_0 f4_0 hWq_0 f5_0 f6_0
      rw [HWq.out, HAq.out]
      try simp only [Act.put]
      try simp only [List.setIfInBounds_toArray, List.set_cons_zero, List.set_cons_succ]
      refine reg_all2 8 14 ?_ ?_ (by kernel_rfl) ?_ ?_ (fun K hK => ?_) (fun K hK => ?_)
      rotate_left 2
      · simp only [List.getElem?_toArray, List.getElem?_cons_succ, List.getElem?_cons_zero]; exact rfl
      · simp only [List.getElem?_toArray, List.getElem?_cons_succ, List.getElem?_cons_zero]; exact rfl
      · go_simp
        refine (below_any _ (6 + 1 + 2) q.num q.den _ (by omega) f4_0.fd).mono ?_
        rintro e w29 ⟨m7, o7, n7, c7, rfl, f7_0, hb29⟩
        have hB_1 := hB_0.trans (hb29.mono hB_0.size)
        have pa_1 := pa_0.below hb29
        have pb_1 := pb_0.below hb29
        have f2_1 := f2_0.below hb29
        have f4_1 := f4_0.below hb29
        have hWq_1 := hWq_0.trans (hb29.mono hWq_0.size)
        have f5_1 := f5_0.below hb29
        have f6_1 := f6_0.below hb29
        clear hb29 hB_0 pa_0 pb_0 f2_0 f4_0 hWq_0 f5_0 f6_0
        go_wp2_with fail
        refine hK.out _ _ ⟨pa_1.c0, pa_1.c1, pa_1.c2, pb_1.c0, pb_1.c1, pb_1.c2⟩ (fun hHeld => ?_)
        clear hK K
        try simp only [Act.put]
        try simp only [List.setIfInBounds_toArray, List.set_cons_zero, List.set_cons_succ]
        rw [← HWq.out]
        exact stq_3f _ m5 o5 n5 c5 m6 o6 n6 c6 m7 o7 n7 c7 hB_1 pa_1 pb_1 f2_1 f4_1 hWq_1 f5_1 f6_1 f7_0
      · go_simp
        have hgn : w8.heap.size ≤ w28.heap.size := hWq_0.size
        obtain ⟨w30, hww30, pm_0, hb30, -⟩ := new_box w28 _ rfl [.bool false, .slice none 0 0, .slice none 0 0] 27
        rw [hww30]
        have hB_1 := hB_0.trans (hb30.mono hB_0.size)
        have pa_1 := pa_0.below hb30
        have pb_1 := pb_0.below hb30
        have f2_1 := f2_0.below hb30
        have f4_1 := f4_0.below hb30
        have hWq_1 := hWq_0.trans (hb30.mono hWq_0.size)
        have f5_1 := f5_0.below hb30
        have f6_1 := f6_0.below hb30
        clear hb30 hB_0 pa_0 pb_0 f2_0 f4_0 hWq_0 f5_0 f6_0
        refine hK.out _ _ ⟨pa_1.c0, pa_1.c1, pa_1.c2, pb_1.c0, pb_1.c1, pb_1.c2⟩ (fun hHeld => ?_)
        clear hK K
        try simp only [Act.put]
        try simp only [List.setIfInBounds_toArray, List.set_cons_zero, List.set_cons_succ]
        rw [← HWq.out]
        exact stq_2t _ m5 o5 n5 c5 m6 o6 n6 c6 w28.heap.size hB_1 pa_1 pb_1 f2_1 f4_1 hWq_1 f5_1 f6_1 pm_0 (by omega)
    try simp only [HAq.out, Act.put, List.setIfInBounds_toArray, List.set_cons_zero, List.set_cons_succ] at stq_2f
    have stq_1t : ∀ (w' : World) (m5 : Bool) (o5 : Option Addr) (n5 : Nat) (c5 : Nat) (gpm : Nat), Below w.heap.size w w' → Box w' (w.heap.size) [.bool m2, .slice o2 n2 c2, .slice p2 k2 d2] → Box w' (w.heap.size + 1) [.bool m4, .slice o4 n4 c4, .slice p4 k4 d4] → RF w' (.agg #[.bool m2, .slice o2 n2 c2, .slice p2 k2 d2]) (6 + 1 + 2) p → RF w' (.agg #[.bool m4, .slice o4 n4 c4, .slice p4 k4 d4]) (6 + 1 + 2) q → Below w8.heap.size w8 w' → RNum w' (.agg #[.bool m5, .slice o5 n5 c5]) (max (6 + 1 + 2) (6 + 1 + 2) + 1) (p.num + q.num) → Box w' gpm [.bool false, .slice none 0 0, .slice none 0 0] → w8.heap.size ≤ gpm → WWq 9 #[true, true, true, true, true, true, false, true, false, false, false, false, false, false, true, false, false] ((aq.put (some 29) (.agg #[.bool m5, .slice o5 n5 c5])).put (some 6) (.pointer (some ⟨gpm, 0, none⟩))) w' := by
      intro w31 m5 o5 n5 c5 gpm hB_0 pa_0 pb_0 f2_0 f4_0 hWq_0 f5_0 pm_0 hgpm
      rw [HWq.out, HAq.out]
      try simp only [Act.put]
      try simp only [List.setIfInBounds_toArray, List.set_cons_zero, List.set_cons_succ]
      refine reg_all1 6 ?_ (by kernel_rfl) ?_ (fun K hK => ?_)
      rotate_left 1
      · simp only [List.getElem?_toArray, List.getElem?_cons_succ, List.getElem?_cons_zero]; exact rfl
      · go_simp
        refine (below_any _ (6 + 1 + 2) p.num p.den _ (by omega) f2_0.fd).mono ?_
        rintro e w32 ⟨m6, o6, n6, c6, rfl, f6_0, hb32⟩
        have hB_1 := hB_0.trans (hb32.mono hB_0.size)
        have pa_1 := pa_0.below hb32
        have pb_1 := pb_0.below hb32
        have f2_1 := f2_0.below hb32
        have f4_1 := f4_0.below hb32
        have hWq_1 := hWq_0.trans (hb32.mono hWq_0.size)
        have f5_1 := f5_0.below hb32
        have pm_1 := pm_0.below hb32
        clear hb32 hB_0 pa_0 pb_0 f2_0 f4_0 hWq_0 f5_0 pm_0
        go_wp2_with fail
        refine hK.out _ _ ⟨pa_1.c0, pa_1.c1, pa_1.c2, pb_1.c0, pb_1.c1, pb_1.c2⟩ (fun hHeld => ?_)
        clear hK K
        try simp only [Act.put]
        try simp only [List.setIfInBounds_toArray, List.set_cons_zero, List.set_cons_succ]
        rw [← HWq.out]
        exact stq_2t _ m5 o5 n5 c5 m6 o6 n6 c6 gpm hB_1 pa_1 pb_1 f2_1 f4_1 hWq_1 f5_1 f6_0 pm_1 (by omega)
    try simp only [HAq.out, Act.put, List.setIfInBounds_toArray, List.set_cons_zero, List.set_cons_succ] at stq_1t
    have stq_1f : ∀ (w' : World) (m5 : Bool) (o5 : Option Addr) (n5 : Nat) (c5 : Nat), Below w.heap.size w w' → Box w' (w.heap.size) [.bool m2, .slice o2 n2 c2, .slice p2 k2 d2] → Box w' (w.heap.size + 1) [.bool m4, .slice o4 n4 c4, .slice p4 k4 d4] → RF w' (.agg #[.bool m2, .slice o2 n2 c2, .slice p2 k2 d2]) (6 + 1 + 2) p → RF w' (.agg #[.bool m4, .slice o4 n4 c4, .slice p4 k4 d4]) (6 + 1 + 2) q → Below w8.heap.size w8 w' → RNum w' (.agg #[.bool m5, .slice o5 n5 c5]) (max (6 + 1 + 2) (6 + 1 + 2) + 1) (p.num + q.num) → WWq 10 #[true, true, true, true, true, true, false, true, false, false, false, false, false, false, false, false, false] (aq.put (some 29) (.agg #[.bool m5, .slice o5 n5 c5])) w' := by
      intro w33 m5 o5 n5 c5 hB_0 pa_0 pb_0 f2_0 f4_0 hWq_0 f5_0
      rw [HWq.out, HAq.out]
      try simp only [Act.put]
      try simp only [List.setIfInBounds_toArray, List.set_cons_zero, List.set_cons_succ]
      refine reg_all2 6 14 ?_ ?_ (by kernel_rfl) ?_ ?_ (fun K hK => ?_) (fun K hK => ?_)
      rotate_left 2
      · simp only [List.getElem?_toArray, List.getElem?_cons_succ, List.getElem?_cons_zero]; exact rfl
      · simp only [List.getElem?_toArray, List.getElem?_cons_succ, List.getElem?_cons_zero]; exact rfl
      · go_simp
        refine (below_any _ (6 + 1 + 2) p.num p.den _ (by omega) f2_0.fd).mono ?_
        rintro e w34 ⟨m6, o6, n6, c6, rfl, f6_0, hb34⟩
        have hB_1 := hB_0.trans (hb34.mono hB_0.size)
        have pa_1 := pa_0.below hb34
        have pb_1 := pb_0.below hb34
        have f2_1 := f2_0.below hb34
        have f4_1 := f4_0.below hb34
        have hWq_1 := hWq_0.trans (hb34.mono hWq_0.size)
        have f5_1 := f5_0.below hb34
        clear hb34 hB_0 pa_0 pb_0 f2_0 f4_0 hWq_0 f5_0
        go_wp2_with fail
        refine hK.out _ _ ⟨pa_1.c0, pa_1.c1, pa_1.c2, pb_1.c0, pb_1.c1, pb_1.c2⟩ (fun hHeld => ?_)
        clear hK K
        try simp only [Act.put]
        try simp only [List.setIfInBounds_toArray, List.set_cons_zero, List.set_cons_succ]
        rw [← HWq.out]
        exact stq_2f _ m5 o5 n5 c5 m6 o6 n6 c6 hB_1 pa_1 pb_1 f2_1 f4_1 hWq_1 f5_1 f6_0
      · go_simp
        have hgn : w8.heap.size ≤ w33.heap.size := hWq_0.size
        obtain ⟨w35, hww35, pm_0, hb35, -⟩ := new_box w33 _ rfl [.bool false, .slice none 0 0, .slice none 0 0] 27
        rw [hww35]
        have hB_1 := hB_0.trans (hb35.mono hB_0.size)
        have pa_1 := pa_0.below hb35
        have pb_1 := pb_0.below hb35
        have f2_1 := f2_0.below hb35
        have f4_1 := f4_0.below hb35
        have hWq_1 := hWq_0.trans (hb35.mono hWq_0.size)
        have f5_1 := f5_0.below hb35
        clear hb35 hB_0 pa_0 pb_0 f2_0 f4_0 hWq_0 f5_0
        refine hK.out _ _ ⟨pa_1.c0, pa_1.c1, pa_1.c2, pb_1.c0, pb_1.c1, pb_1.c2⟩ (fun hHeld => ?_)
        clear hK K
        try simp only [Act.put]
        try simp only [List.setIfInBounds_toArray, List.set_cons_zero, List.set_cons_succ]
        rw [← HWq.out]
        exact stq_1t _ m5 o5 n5 c5 w33.heap.size hB_1 pa_1 pb_1 f2_1 f4_1 hWq_1 f5_1 pm_0 (by omega)
    try simp only [HAq.out, Act.put, List.setIfInBounds_toArray, List.set_cons_zero, List.set_cons_succ] at stq_1f
    have stq_0t : ∀ (w' : World) (gpm : Nat), Below w.heap.size w w' → Box w' (w.heap.size) [.bool m2, .slice o2 n2 c2, .slice p2 k2 d2] → Box w' (w.heap.size + 1) [.bool m4, .slice o4 n4 c4, .slice p4 k4 d4] → RF w' (.agg #[.bool m2, .slice o2 n2 c2, .slice p2 k2 d2]) (6 + 1 + 2) p → RF w' (.agg #[.bool m4, .slice o4 n4 c4, .slice p4 k4 d4]) (6 + 1 + 2) q → Below w8.heap.size w8 w' → Box w' gpm [.bool false, .slice none 0 0, .slice none 0 0] → w8.heap.size ≤ gpm → WWq 10 #[true, true, true, true, false, true, false, true, false, false, false, false, false, false, true, false, false] (aq.put (some 6) (.pointer (some ⟨gpm, 0, none⟩))) w' := by
      intro w36 gpm hB_0 pa_0 pb_0 f2_0 f4_0 hWq_0 pm_0 hgpm
      rw [HWq.out, HAq.out]
      try simp only [Act.put]
      try simp only [List.setIfInBounds_toArray, List.set_cons_zero, List.set_cons_succ]
      refine reg_all1 4 ?_ (by kernel_rfl) ?_ (fun K hK => ?_)
      rotate_left 1
      · simp only [List.getElem?_toArray, List.getElem?_cons_succ, List.getElem?_cons_zero]; exact rfl
      · go_simp
        refine (nAdd_any _ _ (6 + 1 + 2) (6 + 1 + 2) p.num q.num _ (by omega) (by omega) f2_0.fd.num f4_0.fd.num).mono ?_
        rintro e w37 ⟨m5, o5, n5, c5, rfl, f5_0, hb37⟩
        have hB_1 := hB_0.trans (hb37.mono hB_0.size)
        have pa_1 := pa_0.below hb37
        have pb_1 := pb_0.below hb37
        have f2_1 := f2_0.below hb37
        have f4_1 := f4_0.below hb37
        have hWq_1 := hWq_0.trans (hb37.mono hWq_0.size)
        have pm_1 := pm_0.below hb37
        clear hb37 hB_0 pa_0 pb_0 f2_0 f4_0 hWq_0 pm_0
        go_wp2_with fail
        refine hK.out _ _ ⟨pa_1.c0, pa_1.c1, pa_1.c2, pb_1.c0, pb_1.c1, pb_1.c2⟩ (fun hHeld => ?_)
        clear hK K
        try simp only [Act.put]
        try simp only [List.setIfInBounds_toArray, List.set_cons_zero, List.set_cons_succ]
        rw [← HWq.out]
        exact stq_1t _ m5 o5 n5 c5 gpm hB_1 pa_1 pb_1 f2_1 f4_1 hWq_1 f5_0 pm_1 (by omega)
    try simp only [HAq.out, Act.put, List.setIfInBounds_toArray, List.set_cons_zero, List.set_cons_succ] at stq_0t
    have stq_0f : ∀ (w' : World), Below w.heap.size w w' → Box w' (w.heap.size) [.bool m2, .slice o2 n2 c2, .slice p2 k2 d2] → Box w' (w.heap.size + 1) [.bool m4, .slice o4 n4 c4, .slice p4 k4 d4] → RF w' (.agg #[.bool m2, .slice o2 n2 c2, .slice p2 k2 d2]) (6 + 1 + 2) p → RF w' (.agg #[.bool m4, .slice o4 n4 c4, .slice p4 k4 d4]) (6 + 1 + 2) q → Below w8.heap.size w8 w' → WWq 11 #[true, true, true, true, false, true, false, true, false, false, false, false, false, false, false, false, false] aq w' := by
      intro w38 hB_0 pa_0 pb_0 f2_0 f4_0 hWq_0
      rw [HWq.out, HAq.out]
      try simp only [Act.put]
      try simp only [List.setIfInBounds_toArray, List.set_cons_zero, List.set_cons_succ]
      refine reg_all2 4 14 ?_ ?_ (by kernel_rfl) ?_ ?_ (fun K hK => ?_) (fun K hK => ?_)
      rotate_left 2
      · simp only [List.getElem?_toArray, List.getElem?_cons_succ, List.getElem?_cons_zero]; exact rfl
      · simp only [List.getElem?_toArray, List.getElem?_cons_succ, List.getElem?_cons_zero]; exact rfl
      · go_simp
        refine (nAdd_any _ _ (6 + 1 + 2) (6 + 1 + 2) p.num q.num _ (by omega) (by omega) f2_0.fd.num f4_0.fd.num).mono ?_
        rintro e w39 ⟨m5, o5, n5, c5, rfl, f5_0, hb39⟩
        have hB_1 := hB_0.trans (hb39.mono hB_0.size)
        have pa_1 := pa_0.below hb39
        have pb_1 := pb_0.below hb39
        have f2_1 := f2_0.below hb39
        have f4_1 := f4_0.below hb39
        have hWq_1 := hWq_0.trans (hb39.mono hWq_0.size)
        clear hb39 hB_0 pa_0 pb_0 f2_0 f4_0 hWq_0
        go_wp2_with fail
        refine hK.out _ _ ⟨pa_1.c0, pa_1.c1, pa_1.c2, pb_1.c0, pb_1.c1, pb_1.c2⟩ (fun hHeld => ?_)
        clear hK K
        try simp only [Act.put]
        try simp only [List.setIfInBounds_toArray, List.set_cons_zero, List.set_cons_succ]
        rw [← HWq.out]
        exact stq_1f _ m5 o5 n5 c5 hB_1 pa_1 pb_1 f2_1 f4_1 hWq_1 f5_0
      · go_simp
        have hgn : w8.heap.size ≤ w38.heap.size := hWq_0.size
        obtain ⟨w40, hww40, pm_0, hb40, -⟩ := new_box w38 _ rfl [.bool false, .slice none 0 0, .slice none 0 0] 27
        rw [hww40]
        have hB_1 := hB_0.trans (hb40.mono hB_0.size)
        have pa_1 := pa_0.below hb40
        have pb_1 := pb_0.below hb40
        have f2_1 := f2_0.below hb40
        have f4_1 := f4_0.below hb40
        have hWq_1 := hWq_0.trans (hb40.mono hWq_0.size)
        clear hb40 hB_0 pa_0 pb_0 f2_0 f4_0 hWq_0
        refine hK.out _ _ ⟨pa_1.c0, pa_1.c1, pa_1.c2, pb_1.c0, pb_1.c1, pb_1.c2⟩ (fun hHeld => ?_)
        clear hK K
        try simp only [Act.put]
        try simp only [List.setIfInBounds_toArray, List.set_cons_zero, List.set_cons_succ]
        rw [← HWq.out]
        exact stq_0t _ w38.heap.size hB_1 pa_1 pb_1 f2_1 f4_1 hWq_1 pm_0 (by omega)
    exact stq_0f _ hB_4 pa_4 pb_4 f2_4 f4_4 hWq_1
  simp only [HAu.out, Act.put, List.setIfInBounds_toArray, List.set_cons_zero, List.set_cons_succ] at stu_4tt
  have stu_3tt : ∀ (w' : World) (m1 : Bool) (o1 : Option Addr) (n1 : Nat) (c1 : Nat) (p1 : Option Addr) (k1 : Nat) (d1 : Nat) (m2 : Bool) (o2 : Option Addr) (n2 : Nat) (c2 : Nat) (p2 : Option Addr) (k2 : Nat) (d2 : Nat) (m3 : Bool) (o3 : Option Addr) (n3 : Nat) (c3 : Nat) (p3 : Option Addr) (k3 : Nat) (d3 : Nat), Below w.heap.size w w' → FD w' (.agg #[.bool am, .slice ao an ac, .slice ap ak ad]) 6 Xa Da → FD w' (.agg #[.bool bm, .slice bo bn bc, .slice bp bk bd]) 6 Xb Db → Box w' (w.heap.size) [.bool am, .slice ao an ac, .slice ap ak ad] → Box w' (w.heap.size + 1) [.bool bm, .slice bo bn bc, .slice bp bk bd] → Below w4.heap.size w4 w' → RF w' (.agg #[.bool m1, .slice o1 n1 c1, .slice p1 k1 d1]) (1) (((0 : Int) : Rat)) → RF w' (.agg #[.bool m2, .slice o2 n2 c2, .slice p2 k2 d2]) (6 + 1 + 2) (qv Xa Da + ((0 : Int) : Rat)) → RF w' (.agg #[.bool m3, .slice o3 n3 c3, .slice p3 k3 d3]) (1) (((0 : Int) : Rat)) → WWu 3 #[true, true, true, true, true, false, false, false] (((((au.put (some 15) (.agg #[.bool am, .slice ao an ac, .slice ap ak ad])).put (some 16) (.agg #[.bool m1, .slice o1 n1 c1, .slice p1 k1 d1])).put (some 17) (.agg #[.bool m2, .slice o2 n2 c2, .slice p2 k2 d2])).put (some 18) (.agg #[.bool bm, .slice bo bn bc, .slice bp bk bd])).put (some 19) (.agg #[.bool m3, .slice o3 n3 c3, .slice p3 k3 d3])) w' := by
    intro w41 m1 o1 n1 c1 p1 k1 d1 m2 o2 n2 c2 p2 k2 d2 m3 o3 n3 c3 p3 k3 d3 hB_0 fa_0 fb_0 pa_0 pb_0 hWu_0 f1_0 f2_0 f3_0
    rw [HWu.out, HAu.out]
    try simp only [Act.put]
    try simp only [List.setIfInBounds_toArray, List.set_cons_zero, List.set_cons_succ]
    refine reg_all1 5 ?_ (by kernel_rfl) ?_ (fun K hK => ?_)
    rotate_left 1
    · simp only [List.getElem?_toArray, List.getElem?_cons_succ, List.getElem?_cons_zero]; exact rfl
    · go_simp
      refine (qAdd _ _ _ _ _ _ _ (by omega) (by omega) fb_0.q f3_0.q).mono ?_
      rintro e w42 ⟨m4, o4, n4, c4, p4, k4, d4, rfl, f4_0, hb42⟩
      have hB_1 := hB_0.trans (hb42.mono hB_0.size)
      have fa_1 := fa_0.below hb42
      have fb_1 := fb_0.below hb42
      have pa_1 := pa_0.below hb42
      have pb_1 := pb_0.below hb42
      have hWu_1 := hWu_0.trans (hb42.mono hWu_0.size)
      have f1_1 := f1_0.below hb42
      have f2_1 := f2_0.below hb42
      have f3_1 := f3_0.below hb42
      clear hb42 hB_0 fa_0 fb_0 pa_0 pb_0 hWu_0 f1_0 f2_0 f3_0
      go_wp2_with fail
      refine hK.out _ _ trivial (fun hHeld => ?_)
      clear hK K
      try simp only [Act.put]
      try simp only [List.setIfInBounds_toArray, List.set_cons_zero, List.set_cons_succ]
      rw [← HWu.out]
      exact stu_4tt _ m1 o1 n1 c1 p1 k1 d1 m2 o2 n2 c2 p2 k2 d2 m3 o3 n3 c3 p3 k3 d3 m4 o4 n4 c4 p4 k4 d4 hB_1 fa_1 fb_1 pa_1 pb_1 hWu_1 f1_1 f2_1 f3_1 f4_0
  try simp only [HAu.out, Act.put, List.setIfInBounds_toArray, List.set_cons_zero, List.set_cons_succ] at stu_3tt
  have stu_3tf : ∀ (w' : World) (m1 : Bool) (o1 : Option Addr) (n1 : Nat) (c1 : Nat) (p1 : Option Addr) (k1 : Nat) (d1 : Nat) (m2 : Bool) (o2 : Option Addr) (n2 : Nat) (c2 : Nat) (p2 : Option Addr) (k2 : Nat) (d2 : Nat) (m3 : Bool) (o3 : Option Addr) (n3 : Nat) (c3 : Nat) (p3 : Option Addr) (k3 : Nat) (d3 : Nat), Below w.heap.size w w' → FD w' (.agg #[.bool am, .slice ao an ac, .slice ap ak ad]) 6 Xa Da → FD w' (.agg #[.bool bm, .slice bo bn bc, .slice bp bk bd]) 6 Xb Db → Box w' (w.heap.size) [.bool am, .slice ao an ac, .slice ap ak ad] → Box w' (w.heap.size + 1) [.bool bm, .slice bo bn bc, .slice bp bk bd] → Below w4.heap.size w4 w' → RF w' (.agg #[.bool m1, .slice o1 n1 c1, .slice p1 k1 d1]) (1) (((0 : Int) : Rat)) → RF w' (.agg #[.bool m2, .slice o2 n2 c2, .slice p2 k2 d2]) (6 + 1 + 2) (qv Xa Da + ((0 : Int) : Rat)) → RF w' (.agg #[.bool m3, .slice o3 n3 c3, .slice p3 k3 d3]) (1) (((0 : Int) : Rat)) → WWu 4 #[true, true, true, false, true, false, false, false] ((((au.put (some 15) (.agg #[.bool am, .slice ao an ac, .slice ap ak ad])).put (some 16) (.agg #[.bool m1, .slice o1 n1 c1, .slice p1 k1 d1])).put (some 17) (.agg #[.bool m2, .slice o2 n2 c2, .slice p2 k2 d2])).put (some 19) (.agg #[.bool m3, .slice o3 n3 c3, .slice p3 k3 d3])) w' := by
    intro w43 m1 o1 n1 c1 p1 k1 d1 m2 o2 n2 c2 p2 k2 d2 m3 o3 n3 c3 p3 k3 d3 hB_0 fa_0 fb_0 pa_0 pb_0 hWu_0 f1_0 f2_0 f3_0
    rw [HWu.out, HAu.out]
    try simp only [Act.put]
    try simp only [List.setIfInBounds_toArray, List.set_cons_zero, List.set_cons_succ]
    refine reg_all1 3 ?_ (by kernel_rfl) ?_ (fun K hK => ?_)
    rotate_left 1
    · simp only [List.getElem?_toArray, List.getElem?_cons_succ, List.getElem?_cons_zero]; exact rfl
    · obtain ⟨pbe0, pbe1, pbe2, pbe3, pbe4, pbe5⟩ := pb_0.open3
      go_simp
      clear pbe0 pbe1 pbe2 pbe3 pbe4 pbe5
      refine hK.out _ _ trivial (fun hHeld => ?_)
      clear hK K
      try simp only [Act.put]
      try simp only [List.setIfInBounds_toArray, List.set_cons_zero, List.set_cons_succ]
      rw [← HWu.out]
      exact stu_3tt _ m1 o1 n1 c1 p1 k1 d1 m2 o2 n2 c2 p2 k2 d2 m3 o3 n3 c3 p3 k3 d3 hB_0 fa_0 fb_0 pa_0 pb_0 hWu_0 f1_0 f2_0 f3_0
  try simp only [HAu.out, Act.put, List.setIfInBounds_toArray, List.set_cons_zero, List.set_cons_succ] at stu_3tf
  have stu_2tt : ∀ (w' : World) (m1 : Bool) (o1 : Option Addr) (n1 : Nat) (c1 : Nat) (p1 : Option Addr) (k1 : Nat) (d1 : Nat) (m2 : Bool) (o2 : Option Addr) (n2 : Nat) (c2 : Nat) (p2 : Option Addr) (k2 : Nat) (d2 : Nat), Below w.heap.size w w' → FD w' (.agg #[.bool am, .slice ao an ac, .slice ap ak ad]) 6 Xa Da → FD w' (.agg #[.bool bm, .slice bo bn bc, .slice bp bk bd]) 6 Xb Db → Box w' (w.heap.size) [.bool am, .slice ao an ac, .slice ap ak ad] → Box w' (w.heap.size + 1) [.bool bm, .slice bo bn bc, .slice bp bk bd] → Below w4.heap.size w4 w' → RF w' (.agg #[.bool m1, .slice o1 n1 c1, .slice p1 k1 d1]) (1) (((0 : Int) : Rat)) → RF w' (.agg #[.bool m2, .slice o2 n2 c2, .slice p2 k2 d2]) (6 + 1 + 2) (qv Xa Da + ((0 : Int) : Rat)) → WWu 4 #[true, true, true, true, false, false, false, false] ((((au.put (some 15) (.agg #[.bool am, .slice ao an ac, .slice ap ak ad])).put (some 16) (.agg #[.bool m1, .slice o1 n1 c1, .slice p1 k1 d1])).put (some 17) (.agg #[.bool m2, .slice o2 n2 c2, .slice p2 k2 d2])).put (some 18) (.agg #[.bool bm, .slice bo bn bc, .slice bp bk bd])) w' := by
    intro w44 m1 o1 n1 c1 p1 k1 d1 m2 o2 n2 c2 p2 k2 d2 hB_0 fa_0 fb_0 pa_0 pb_0 hWu_0 f1_0 f2_0
    rw [HWu.out, HAu.out]
    try simp only [Act.put]
    try simp only [List.setIfInBounds_toArray, List.set_cons_zero, List.set_cons_succ]
    refine reg_all1 4 ?_ (by kernel_rfl) ?_ (fun K hK => ?_)
    rotate_left 1
    · simp only [List.getElem?_toArray, List.getElem?_cons_succ, List.getElem?_cons_zero]; exact rfl
    · go_simp
      refine (fOf_any 0 (by omega) (by omega) _).mono ?_
      rintro e w45 ⟨m3, o3, n3, c3, p3, k3, d3, rfl, f3_0, hb45⟩
      have hB_1 := hB_0.trans (hb45.mono hB_0.size)
      have fa_1 := fa_0.below hb45
      have fb_1 := fb_0.below hb45
      have pa_1 := pa_0.below hb45
      have pb_1 := pb_0.below hb45
      have hWu_1 := hWu_0.trans (hb45.mono hWu_0.size)
      have f1_1 := f1_0.below hb45
      have f2_1 := f2_0.below hb45
      clear hb45 hB_0 fa_0 fb_0 pa_0 pb_0 hWu_0 f1_0 f2_0
      go_wp2_with fail
      refine hK.out _ _ trivial (fun hHeld => ?_)
      clear hK K
      try simp only [Act.put]
      try simp only [List.setIfInBounds_toArray, List.set_cons_zero, List.set_cons_succ]
      rw [← HWu.out]
      exact stu_3tt _ m1 o1 n1 c1 p1 k1 d1 m2 o2 n2 c2 p2 k2 d2 m3 o3 n3 c3 p3 k3 d3 hB_1 fa_1 fb_1 pa_1 pb_1 hWu_1 f1_1 f2_1 f3_0
  try simp only [HAu.out, Act.put, List.setIfInBounds_toArray, List.set_cons_zero, List.set_cons_succ] at stu_2tt
  have stu_2tf : ∀ (w' : World) (m1 : Bool) (o1 : Option Addr) (n1 : Nat) (c1 : Nat) (p1 : Option Addr) (k1 : Nat) (d1 : Nat) (m2 : Bool) (o2 : Option Addr) (n2 : Nat) (c2 : Nat) (p2 : Option Addr) (k2 : Nat) (d2 : Nat), Below w.heap.size w w' → FD w' (.agg #[.bool am, .slice ao an ac, .slice ap ak ad]) 6 Xa Da → FD w' (.agg #[.bool bm, .slice bo bn bc, .slice bp bk bd]) 6 Xb Db → Box w' (w.heap.size) [.bool am, .slice ao an ac, .slice ap ak ad] → Box w' (w.heap.size + 1) [.bool bm, .slice bo bn bc, .slice bp bk bd] → Below w4.heap.size w4 w' → RF w' (.agg #[.bool m1, .slice o1 n1 c1, .slice p1 k1 d1]) (1) (((0 : Int) : Rat)) → RF w' (.agg #[.bool m2, .slice o2 n2 c2, .slice p2 k2 d2]) (6 + 1 + 2) (qv Xa Da + ((0 : Int) : Rat)) → WWu 5 #[true, true, true, false, false, false, false, false] (((au.put (some 15) (.agg #[.bool am, .slice ao an ac, .slice ap ak ad])).put (some 16) (.agg #[.bool m1, .slice o1 n1 c1, .slice p1 k1 d1])).put (some 17) (.agg #[.bool m2, .slice o2 n2 c2, .slice p2 k2 d2])) w' := by
    intro w46 m1 o1 n1 c1 p1 k1 d1 m2 o2 n2 c2 p2 k2 d2 hB_0 fa_0 fb_0 pa_0 pb_0 hWu_0 f1_0 f2_0
    rw [HWu.out, HAu.out]
    try simp only [Act.put]
    try simp only [List.setIfInBounds_toArray, List.set_cons_zero, List.set_cons_succ]
    refine reg_all2 3 4 ?_ ?_ (by kernel_rfl) ?_ ?_ (fun K hK => ?_) (fun K hK => ?_)
    rotate_left 2
    · simp only [List.getElem?_toArray, List.getElem?_cons_succ, List.getElem?_cons_zero]; exact rfl
    · simp only [List.getElem?_toArray, List.getElem?_cons_succ, List.getElem?_cons_zero]; exact rfl
    · obtain ⟨pbe0, pbe1, pbe2, pbe3, pbe4, pbe5⟩ := pb_0.open3
      go_simp
      clear pbe0 pbe1 pbe2 pbe3 pbe4 pbe5
      refine hK.out _ _ trivial (fun hHeld => ?_)
      clear hK K
      try simp only [Act.put]
      try simp only [List.setIfInBounds_toArray, List.set_cons_zero, List.set_cons_succ]
      rw [← HWu.out]
      exact stu_2tt _ m1 o1 n1 c1 p1 k1 d1 m2 o2 n2 c2 p2 k2 d2 hB_0 fa_0 fb_0 pa_0 pb_0 hWu_0 f1_0 f2_0
    · go_simp
      refine (fOf_any 0 (by omega) (by omega) _).mono ?_
      rintro e w47 ⟨m3, o3, n3, c3, p3, k3, d3, rfl, f3_0, hb47⟩
      have hB_1 := hB_0.trans (hb47.mono hB_0.size)
      have fa_1 := fa_0.below hb47
      have fb_1 := fb_0.below hb47
      have pa_1 := pa_0.below hb47
      have pb_1 := pb_0.below hb47
      have hWu_1 := hWu_0.trans (hb47.mono hWu_0.size)
      have f1_1 := f1_0.below hb47
      have f2_1 := f2_0.below hb47
      clear hb47 hB_0 fa_0 fb_0 pa_0 pb_0 hWu_0 f1_0 f2_0
      go_wp2_with fail
      refine hK.out _ _ trivial (fun hHeld => ?_)
      clear hK K
      try simp only [Act.put]
      try simp only [List.setIfInBounds_toArray, List.set_cons_zero, List.set_cons_succ]
      rw [← HWu.out]
      exact stu_3tf _ m1 o1 n1 c1 p1 k1 d1 m2 o2 n2 c2 p2 k2 d2 m3 o3 n3 c3 p3 k3 d3 hB_1 fa_1 fb_1 pa_1 pb_1 hWu_1 f1_1 f2_1 f3_0
  try simp only [HAu.out, Act.put, List.setIfInBounds_toArray, List.set_cons_zero, List.set_cons_succ] at stu_2tf
  have stu_1tt : ∀ (w' : World) (m1 : Bool) (o1 : Option Addr) (n1 : Nat) (c1 : Nat) (p1 : Option Addr) (k1 : Nat) (d1 : Nat), Below w.heap.size w w' → FD w' (.agg #[.bool am, .slice ao an ac, .slice ap ak ad]) 6 Xa Da → FD w' (.agg #[.bool bm, .slice bo bn bc, .slice bp bk bd]) 6 Xb Db → Box w' (w.heap.size) [.bool am, .slice ao an ac, .slice ap ak ad] → Box w' (w.heap.size + 1) [.bool bm, .slice bo bn bc, .slice bp bk bd] → Below w4.heap.size w4 w' → RF w' (.agg #[.bool m1, .slice o1 n1 c1, .slice p1 k1 d1]) (1) (((0 : Int) : Rat)) → WWu 5 #[true, true, false, true, false, false, false, false] (((au.put (some 15) (.agg #[.bool am, .slice ao an ac, .slice ap ak ad])).put (some 16) (.agg #[.bool m1, .slice o1 n1 c1, .slice p1 k1 d1])).put (some 18) (.agg #[.bool bm, .slice bo bn bc, .slice bp bk bd])) w' := by
    intro w48 m1 o1 n1 c1 p1 k1 d1 hB_0 fa_0 fb_0 pa_0 pb_0 hWu_0 f1_0
    rw [HWu.out, HAu.out]
    try simp only [Act.put]
    try simp only [List.setIfInBounds_toArray, List.set_cons_zero, List.set_cons_succ]
    refine reg_all1 2 ?_ (by kernel_rfl) ?_ (fun K hK => ?_)
    rotate_left 1
    · simp only [List.getElem?_toArray, List.getElem?_cons_succ, List.getElem?_cons_zero]; exact rfl
    · go_simp
      refine (qAdd _ _ _ _ _ _ _ (by omega) (by omega) fa_0.q f1_0.q).mono ?_
      rintro e w49 ⟨m2, o2, n2, c2, p2, k2, d2, rfl, f2_0, hb49⟩
      have hB_1 := hB_0.trans (hb49.mono hB_0.size)
      have fa_1 := fa_0.below hb49
      have fb_1 := fb_0.below hb49
      have pa_1 := pa_0.below hb49
      have pb_1 := pb_0.below hb49
      have hWu_1 := hWu_0.trans (hb49.mono hWu_0.size)
      have f1_1 := f1_0.below hb49
      clear hb49 hB_0 fa_0 fb_0 pa_0 pb_0 hWu_0 f1_0
      go_wp2_with fail
      refine hK.out _ _ trivial (fun hHeld => ?_)
      clear hK K
      try simp only [Act.put]
      try simp only [List.setIfInBounds_toArray, List.set_cons_zero, List.set_cons_succ]
      rw [← HWu.out]
      exact stu_2tt _ m1 o1 n1 c1 p1 k1 d1 m2 o2 n2 c2 p2 k2 d2 hB_1 fa_1 fb_1 pa_1 pb_1 hWu_1 f1_1 f2_0
  try simp only [HAu.out, Act.put, List.setIfInBounds_toArray, List.set_cons_zero, List.set_cons_succ] at stu_1tt
  have stu_1tf : ∀ (w' : World) (m1 : Bool) (o1 : Option Addr) (n1 : Nat) (c1 : Nat) (p1 : Option Addr) (k1 : Nat) (d1 : Nat), Below w.heap.size w w' → FD w' (.agg #[.bool am, .slice ao an ac, .slice ap ak ad]) 6 Xa Da → FD w' (.agg #[.bool bm, .slice bo bn bc, .slice bp bk bd]) 6 Xb Db → Box w' (w.heap.size) [.bool am, .slice ao an ac, .slice ap ak ad] → Box w' (w.heap.size + 1) [.bool bm, .slice bo bn bc, .slice bp bk bd] → Below w4.heap.size w4 w' → RF w' (.agg #[.bool m1, .slice o1 n1 c1, .slice p1 k1 d1]) (1) (((0 : Int) : Rat)) → WWu 6 #[true, true, false, false, false, false, false, false] ((au.put (some 15) (.agg #[.bool am, .slice ao an ac, .slice ap ak ad])).put (some 16) (.agg #[.bool m1, .slice o1 n1 c1, .slice p1 k1 d1])) w' := by
    intro w50 m1 o1 n1 c1 p1 k1 d1 hB_0 fa_0 fb_0 pa_0 pb_0 hWu_0 f1_0
    rw [HWu.out, HAu.out]
    try simp only [Act.put]
    try simp only [List.setIfInBounds_toArray, List.set_cons_zero, List.set_cons_succ]
    refine reg_all2 2 3 ?_ ?_ (by kernel_rfl) ?_ ?_ (fun K hK => ?_) (fun K hK => ?_)
    rotate_left 2
    · simp only [List.getElem?_toArray, List.getElem?_cons_succ, List.getElem?_cons_zero]; exact rfl
    · simp only [List.getElem?_toArray, List.getElem?_cons_succ, List.getElem?_cons_zero]; exact rfl
    · go_simp
      refine (qAdd _ _ _ _ _ _ _ (by omega) (by omega) fa_0.q f1_0.q).mono ?_
      rintro e w51 ⟨m2, o2, n2, c2, p2, k2, d2, rfl, f2_0, hb51⟩
      have hB_1 := hB_0.trans (hb51.mono hB_0.size)
      have fa_1 := fa_0.below hb51
      have fb_1 := fb_0.below hb51
      have pa_1 := pa_0.below hb51
      have pb_1 := pb_0.below hb51
      have hWu_1 := hWu_0.trans (hb51.mono hWu_0.size)
      have f1_1 := f1_0.below hb51
      clear hb51 hB_0 fa_0 fb_0 pa_0 pb_0 hWu_0 f1_0
      go_wp2_with fail
      refine hK.out _ _ trivial (fun hHeld => ?_)
      clear hK K
      try simp only [Act.put]
      try simp only [List.setIfInBounds_toArray, List.set_cons_zero, List.set_cons_succ]
      rw [← HWu.out]
      exact stu_2tf _ m1 o1 n1 c1 p1 k1 d1 m2 o2 n2 c2 p2 k2 d2 hB_1 fa_1 fb_1 pa_1 pb_1 hWu_1 f1_1 f2_0
    · obtain ⟨pbe0, pbe1, pbe2, pbe3, pbe4, pbe5⟩ := pb_0.open3
      go_simp
      clear pbe0 pbe1 pbe2 pbe3 pbe4 pbe5
      refine hK.out _ _ trivial (fun hHeld => ?_)
      clear hK K
      try simp only [Act.put]
      try simp only [List.setIfInBounds_toArray, List.set_cons_zero, List.set_cons_succ]
      rw [← HWu.out]
      exact stu_1tt _ m1 o1 n1 c1 p1 k1 d1 hB_0 fa_0 fb_0 pa_0 pb_0 hWu_0 f1_0
  try simp only [HAu.out, Act.put, List.setIfInBounds_toArray, List.set_cons_zero, List.set_cons_succ] at stu_1tf
  have stu_1ft : ∀ (w' : World) (m1 : Bool) (o1 : Option Addr) (n1 : Nat) (c1 : Nat) (p1 : Option Addr) (k1 : Nat) (d1 : Nat), Below w.heap.size w w' → FD w' (.agg #[.bool am, .slice ao an ac, .slice ap ak ad]) 6 Xa Da → FD w' (.agg #[.bool bm, .slice bo bn bc, .slice bp bk bd]) 6 Xb Db → Box w' (w.heap.size) [.bool am, .slice ao an ac, .slice ap ak ad] → Box w' (w.heap.size + 1) [.bool bm, .slice bo bn bc, .slice bp bk bd] → Below w4.heap.size w4 w' → RF w' (.agg #[.bool m1, .slice o1 n1 c1, .slice p1 k1 d1]) (1) (((0 : Int) : Rat)) → WWu 6 #[false, true, false, true, false, false, false, false] ((au.put (some 16) (.agg #[.bool m1, .slice o1 n1 c1, .slice p1 k1 d1])).put (some 18) (.agg #[.bool bm, .slice bo bn bc, .slice bp bk bd])) w' := by
    intro w52 m1 o1 n1 c1 p1 k1 d1 hB_0 fa_0 fb_0 pa_0 pb_0 hWu_0 f1_0
    rw [HWu.out, HAu.out]
    try simp only [Act.put]
    try simp only [List.setIfInBounds_toArray, List.set_cons_zero, List.set_cons_succ]
    refine reg_all1 0 ?_ (by kernel_rfl) ?_ (fun K hK => ?_)
    rotate_left 1
    · simp only [List.getElem?_toArray, List.getElem?_cons_zero]; exact rfl
    · obtain ⟨pae0, pae1, pae2, pae3, pae4, pae5⟩ := pa_0.open3
      go_simp
      clear pae0 pae1 pae2 pae3 pae4 pae5
      refine hK.out _ _ trivial (fun hHeld => ?_)
      clear hK K
      try simp only [Act.put]
      try simp only [List.setIfInBounds_toArray, List.set_cons_zero, List.set_cons_succ]
      rw [← HWu.out]
      exact stu_1tt _ m1 o1 n1 c1 p1 k1 d1 hB_0 fa_0 fb_0 pa_0 pb_0 hWu_0 f1_0
  try simp only [HAu.out, Act.put, List.setIfInBounds_toArray, List.set_cons_zero, List.set_cons_succ] at stu_1ft
  have stu_0tt : ∀ (w' : World), Below w.heap.size w w' → FD w' (.agg #[.bool am, .slice ao an ac, .slice ap ak ad]) 6 Xa Da → FD w' (.agg #[.bool bm, .slice bo bn bc, .slice bp bk bd]) 6 Xb Db → Box w' (w.heap.size) [.bool am, .slice ao an ac, .slice ap ak ad] → Box w' (w.heap.size + 1) [.bool bm, .slice bo bn bc, .slice bp bk bd] → Below w4.heap.size w4 w' → WWu 6 #[true, false, false, true, false, false, false, false] ((au.put (some 15) (.agg #[.bool am, .slice ao an ac, .slice ap ak ad])).put (some 18) (.agg #[.bool bm, .slice bo bn bc, .slice bp bk bd])) w' := by
    intro w53 hB_0 fa_0 fb_0 pa_0 pb_0 hWu_0
    rw [HWu.out, HAu.out]
    try simp only [Act.put]
    try simp only [List.setIfInBounds_toArray, List.set_cons_zero, List.set_cons_succ]
    refine reg_all1 1 ?_ (by kernel_rfl) ?_ (fun K hK => ?_)
    rotate_left 1
    · simp only [List.getElem?_toArray, List.getElem?_cons_succ, List.getElem?_cons_zero]; exact rfl
    · go_simp
      refine (fOf_any 0 (by omega) (by omega) _).mono ?_
      rintro e w54 ⟨m1, o1, n1, c1, p1, k1, d1, rfl, f1_0, hb54⟩
      have hB_1 := hB_0.trans (hb54.mono hB_0.size)
      have fa_1 := fa_0.below hb54
      have fb_1 := fb_0.below hb54
      have pa_1 := pa_0.below hb54
      have pb_1 := pb_0.below hb54
      have hWu_1 := hWu_0.trans (hb54.mono hWu_0.size)
      clear hb54 hB_0 fa_0 fb_0 pa_0 pb_0 hWu_0
      go_wp2_with fail
      refine hK.out _ _ trivial (fun hHeld => ?_)
      clear hK K
      try simp only [Act.put]
      try simp only [List.setIfInBounds_toArray, List.set_cons_zero, List.set_cons_succ]
      rw [← HWu.out]
      exact stu_1tt _ m1 o1 n1 c1 p1 k1 d1 hB_1 fa_1 fb_1 pa_1 pb_1 hWu_1 f1_0
  try simp only [HAu.out, Act.put, List.setIfInBounds_toArray, List.set_cons_zero, List.set_cons_succ] at stu_0tt
  have stu_1ff : ∀ (w' : World) (m1 : Bool) (o1 : Option Addr) (n1 : Nat) (c1 : Nat) (p1 : Option Addr) (k1 : Nat) (d1 : Nat), Below w.heap.size w w' → FD w' (.agg #[.bool am, .slice ao an ac, .slice ap ak ad]) 6 Xa Da → FD w' (.agg #[.bool bm, .slice bo bn bc, .slice bp bk bd]) 6 Xb Db → Box w' (w.heap.size) [.bool am, .slice ao an ac, .slice ap ak ad] → Box w' (w.heap.size + 1) [.bool bm, .slice bo bn bc, .slice bp bk bd] → Below w4.heap.size w4 w' → RF w' (.agg #[.bool m1, .slice o1 n1 c1, .slice p1 k1 d1]) (1) (((0 : Int) : Rat)) → WWu 7 #[false, true, false, false, false, false, false, false] (au.put (some 16) (.agg #[.bool m1, .slice o1 n1 c1, .slice p1 k1 d1])) w' := by
    intro w55 m1 o1 n1 c1 p1 k1 d1 hB_0 fa_0 fb_0 pa_0 pb_0 hWu_0 f1_0
    rw [HWu.out, HAu.out]
    try simp only [Act.put]
    try simp only [List.setIfInBounds_toArray, List.set_cons_zero, List.set_cons_succ]
    refine reg_all2 0 3 ?_ ?_ (by kernel_rfl) ?_ ?_ (fun K hK => ?_) (fun K hK => ?_)
    rotate_left 2
    · simp only [List.getElem?_toArray, List.getElem?_cons_zero]; exact rfl
    · simp only [List.getElem?_toArray, List.getElem?_cons_succ, List.getElem?_cons_zero]; exact rfl
    · obtain ⟨pae0, pae1, pae2, pae3, pae4, pae5⟩ := pa_0.open3
      go_simp
      clear pae0 pae1 pae2 pae3 pae4 pae5
      refine hK.out _ _ trivial (fun hHeld => ?_)
      clear hK K
      try simp only [Act.put]
      try simp only [List.setIfInBounds_toArray, List.set_cons_zero, List.set_cons_succ]
      rw [← HWu.out]
      exact stu_1tf _ m1 o1 n1 c1 p1 k1 d1 hB_0 fa_0 fb_0 pa_0 pb_0 hWu_0 f1_0
    · obtain ⟨pbe0, pbe1, pbe2, pbe3, pbe4, pbe5⟩ := pb_0.open3
      go_simp
      clear pbe0 pbe1 pbe2 pbe3 pbe4 pbe5
      refine hK.out _ _ trivial (fun hHeld => ?_)
      clear hK K
      try simp only [Act.put]
      try simp only [List.setIfInBounds_toArray, List.set_cons_zero, List.set_cons_succ]
      rw [← HWu.out]
      exact stu_1ft _ m1 o1 n1 c1 p1 k1 d1 hB_0 fa_0 fb_0 pa_0 pb_0 hWu_0 f1_0
  try simp only [HAu.out, Act.put, List.setIfInBounds_toArray, List.set_cons_zero, List.set_cons_succ] at stu_1ff
  have stu_0tf : ∀ (w' : World), Below w.heap.size w w' → FD w' (.agg #[.bool am, .slice ao an ac, .slice ap ak ad]) 6 Xa Da → FD w' (.agg #[.bool bm, .slice bo bn bc, .slice bp bk bd]) 6 Xb Db → Box w' (w.heap.size) [.bool am, .slice ao an ac, .slice ap ak ad] → Box w' (w.heap.size + 1) [.bool bm, .slice bo bn bc, .slice bp bk bd] → Below w4.heap.size w4 w' → WWu 7 #[true, false, false, false, false, false, false, false] (au.put (some 15) (.agg #[.bool am, .slice ao an ac, .slice ap ak ad])) w' := by
    intro w56 hB_0 fa_0 fb_0 pa_0 pb_0 hWu_0
    rw [HWu.out, HAu.out]
    try simp only [Act.put]
    try simp only [List.setIfInBounds_toArray, List.set_cons_zero, List.set_cons_succ]
    refine reg_all2 1 3 ?_ ?_ (by kernel_rfl) ?_ ?_ (fun K hK => ?_) (fun K hK => ?_)
    rotate_left 2
    · simp only [List.getElem?_toArray, List.getElem?_cons_succ, List.getElem?_cons_zero]; exact rfl
    · simp only [List.getElem?_toArray, List.getElem?_cons_succ, List.getElem?_cons_zero]; exact rfl
    · go_simp
      refine (fOf_any 0 (by omega) (by omega) _).mono ?_
      rintro e w57 ⟨m1, o1, n1, c1, p1, k1, d1, rfl, f1_0, hb57⟩
      have hB_1 := hB_0.trans (hb57.mono hB_0.size)
      have fa_1 := fa_0.below hb57
      have fb_1 := fb_0.below hb57
      have pa_1 := pa_0.below hb57
      have pb_1 := pb_0.below hb57
      have hWu_1 := hWu_0.trans (hb57.mono hWu_0.size)
      clear hb57 hB_0 fa_0 fb_0 pa_0 pb_0 hWu_0
      go_wp2_with fail
      refine hK.out _ _ trivial (fun hHeld => ?_)
      clear hK K
      try simp only [Act.put]
      try simp only [List.setIfInBounds_toArray, List.set_cons_zero, List.set_cons_succ]
      rw [← HWu.out]
      exact stu_1tf _ m1 o1 n1 c1 p1 k1 d1 hB_1 fa_1 fb_1 pa_1 pb_1 hWu_1 f1_0
    · obtain ⟨pbe0, pbe1, pbe2, pbe3, pbe4, pbe5⟩ := pb_0.open3
      go_simp
      clear pbe0 pbe1 pbe2 pbe3 pbe4 pbe5
      refine hK.out _ _ trivial (fun hHeld => ?_)
      clear hK K
      try simp only [Act.put]
      try simp only [List.setIfInBounds_toArray, List.set_cons_zero, List.set_cons_succ]
      rw [← HWu.out]
      exact stu_0tt _ hB_0 fa_0 fb_0 pa_0 pb_0 hWu_0
  try simp only [HAu.out, Act.put, List.setIfInBounds_toArray, List.set_cons_zero, List.set_cons_succ] at stu_0tf
  have stu_0ft : ∀ (w' : World), Below w.heap.size w w' → FD w' (.agg #[.bool am, .slice ao an ac, .slice ap ak ad]) 6 Xa Da → FD w' (.agg #[.bool bm, .slice bo bn bc, .slice bp bk bd]) 6 Xb Db → Box w' (w.heap.size) [.bool am, .slice ao an ac, .slice ap ak ad] → Box w' (w.heap.size + 1) [.bool bm, .slice bo bn bc, .slice bp bk bd] → Below w4.heap.size w4 w' → WWu 7 #[false, false, false, true, false, false, false, false] (au.put (some 18) (.agg #[.bool bm, .slice bo bn bc, .slice bp bk bd])) w' := by
    intro w58 hB_0 fa_0 fb_0 pa_0 pb_0 hWu_0
    rw [HWu.out, HAu.out]
    try simp only [Act.put]
    try simp only [List.setIfInBounds_toArray, List.set_cons_zero, List.set_cons_succ]
    refine reg_all2 0 1 ?_ ?_ (by kernel_rfl) ?_ ?_ (fun K hK => ?_) (fun K hK => ?_)
    rotate_left 2
    · simp only [List.getElem?_toArray, List.getElem?_cons_zero]; exact rfl
    · simp only [List.getElem?_toArray, List.getElem?_cons_succ, List.getElem?_cons_zero]; exact rfl
    · obtain ⟨pae0, pae1, pae2, pae3, pae4, pae5⟩ := pa_0.open3
      go_simp
      clear pae0 pae1 pae2 pae3 pae4 pae5
      refine hK.out _ _ trivial (fun hHeld => ?_)
      clear hK K
      try simp only [Act.put]
      try simp only [List.setIfInBounds_toArray, List.set_cons_zero, List.set_cons_succ]
      rw [← HWu.out]
      exact stu_0tt _ hB_0 fa_0 fb_0 pa_0 pb_0 hWu_0
    · go_simp
      refine (fOf_any 0 (by omega) (by omega) _).mono ?_
      rintro e w59 ⟨m1, o1, n1, c1, p1, k1, d1, rfl, f1_0, hb59⟩
      have hB_1 := hB_0.trans (hb59.mono hB_0.size)
      have fa_1 := fa_0.below hb59
      have fb_1 := fb_0.below hb59
      have pa_1 := pa_0.below hb59
      have pb_1 := pb_0.below hb59
      have hWu_1 := hWu_0.trans (hb59.mono hWu_0.size)
      clear hb59 hB_0 fa_0 fb_0 pa_0 pb_0 hWu_0
      go_wp2_with fail
      refine hK.out _ _ trivial (fun hHeld => ?_)
      clear hK K
      try simp only [Act.put]
      try simp only [List.setIfInBounds_toArray, List.set_cons_zero, List.set_cons_succ]
      rw [← HWu.out]
      exact stu_1ft _ m1 o1 n1 c1 p1 k1 d1 hB_1 fa_1 fb_1 pa_1 pb_1 hWu_1 f1_0
  try simp only [HAu.out, Act.put, List.setIfInBounds_toArray, List.set_cons_zero, List.set_cons_succ] at stu_0ft
  have stu_0ff : ∀ (w' : World), Below w.heap.size w w' → FD w' (.agg #[.bool am, .slice ao an ac, .slice ap ak ad]) 6 Xa Da → FD w' (.agg #[.bool bm, .slice bo bn bc, .slice bp bk bd]) 6 Xb Db → Box w' (w.heap.size) [.bool am, .slice ao an ac, .slice ap ak ad] → Box w' (w.heap.size + 1) [.bool bm, .slice bo bn bc, .slice bp bk bd] → Below w4.heap.size w4 w' → WWu 8 #[false, false, false, false, false, false, false, false] au w' := by
    intro w60 hB_0 fa_0 fb_0 pa_0 pb_0 hWu_0
    rw [HWu.out, HAu.out]
    try simp only [Act.put]
    try simp only [List.setIfInBounds_toArray, List.set_cons_zero, List.set_cons_succ]
    refine reg_all3 0 1 3 ?_ ?_ ?_ (by kernel_rfl) ?_ ?_ ?_ (fun K hK => ?_) (fun K hK => ?_) (fun K hK => ?_)
    rotate_left 3
    · simp only [List.getElem?_toArray, List.getElem?_cons_zero]; exact rfl
    · simp only [List.getElem?_toArray, List.getElem?_cons_succ, List.getElem?_cons_zero]; exact rfl
    · simp only [List.getElem?_toArray, List.getElem?_cons_succ, List.getElem?_cons_zero]; exact rfl
    · obtain ⟨pae0, pae1, pae2, pae3, pae4, pae5⟩ := pa_0.open3
      go_simp
      clear pae0 pae1 pae2 pae3 pae4 pae5
      refine hK.out _ _ trivial (fun hHeld => ?_)
      clear hK K
      try simp only [Act.put]
      try simp only [List.setIfInBounds_toArray, List.set_cons_zero, List.set_cons_succ]
      rw [← HWu.out]
      exact stu_0tf _ hB_0 fa_0 fb_0 pa_0 pb_0 hWu_0
    · go_simp
      refine (fOf_any 0 (by omega) (by omega) _).mono ?_
      rintro e w61 ⟨m1, o1, n1, c1, p1, k1, d1, rfl, f1_0, hb61⟩
      have hB_1 := hB_0.trans (hb61.mono hB_0.size)
      have fa_1 := fa_0.below hb61
      have fb_1 := fb_0.below hb61
      have pa_1 := pa_0.below hb61
      have pb_1 := pb_0.below hb61
      have hWu_1 := hWu_0.trans (hb61.mono hWu_0.size)
      clear hb61 hB_0 fa_0 fb_0 pa_0 pb_0 hWu_0
      go_wp2_with fail
      refine hK.out _ _ trivial (fun hHeld => ?_)
      clear hK K
      try simp only [Act.put]
      try simp only [List.setIfInBounds_toArray, List.set_cons_zero, List.set_cons_succ]
      rw [← HWu.out]
      exact stu_1ff _ m1 o1 n1 c1 p1 k1 d1 hB_1 fa_1 fb_1 pa_1 pb_1 hWu_1 f1_0
    · obtain ⟨pbe0, pbe1, pbe2, pbe3, pbe4, pbe5⟩ := pb_0.open3
      go_simp
      clear pbe0 pbe1 pbe2 pbe3 pbe4 pbe5
      refine hK.out _ _ trivial (fun hHeld => ?_)
      clear hK K
      try simp only [Act.put]
      try simp only [List.setIfInBounds_toArray, List.set_cons_zero, List.set_cons_succ]
      rw [← HWu.out]
      exact stu_0ft _ hB_0 fa_0 fb_0 pa_0 pb_0 hWu_0
  exact stu_0ff _ hB_5 fa_6 fb_6 pa_4 pb_3 hWu_1
end Go.Proofs.Ytmbmeapodhngaaa
