/- The helpers of layer 3's statements, on: below, Right, is, fit. -/
import Derived.Test.YtmbmeapodhngaaaPartj
namespace Go.Proofs.Ytmbmeapodhngaaa
open Go.RowKit Go.MagM
theorem len_is (va : Value) (L X : Nat) (k : Int) (w : World) (hL : L ≤ 4000000000) (ha : Mag w va L X) (h : ((bl X : Nat) : Int) = k) : Calls Try.prog 37 #[va] w fun e w' => e = .returned (.int .i64 k) ∧ Below w.heap.size w w' :=
  (Len_any va L X w hL ha).mono fun e w' ⟨h1, h2⟩ => ⟨by rw [h1, h], by subst h2; exact Below.refl _ _⟩
set_option maxHeartbeats 4000000 in
theorem below_zero (am : Bool) (ao : Option Addr) (an ac : Nat) (ap : Option Addr) (ak ad : Nat) (L : Nat) (X : Int) (D : Nat) (w : World) (hL : L ≤ 100000000) (fa_0 : FD w (.agg #[.bool am, .slice ao an ac, .slice ap ak ad]) L X D) (h0 : D = 0) :
    Calls Try.prog 11 #[.agg #[.bool am, .slice ao an ac, .slice ap ak ad]] w fun e w' => AnsNum w w' e (max L 1) (den1 D : Nat) := by
  have hB_0 := Below.refl w.heap.size w
  have _ := hL
  subst h0
  obtain ⟨w1, hw1, pa_0, hb1, hs1⟩ := new_box w (w.heap.size) rfl [.bool am, .slice ao an ac, .slice ap ak ad] 27
  have hb1' : Below w.heap.size w w1 := hb1.mono (by omega)
  clear hb1
  have hB_1 := hB_0.trans (hb1'.mono hB_0.size)
  have fa_1 := fa_0.below hb1'
  clear hb1' hB_0 fa_0
  obtain ⟨w2, hw2, pr_0, hb2, hs2⟩ := new_box w1 (w.heap.size + 1) hs1 [.bool false, .slice none 0 0] 25
  have hb2' : Below w1.heap.size w1 w2 := hb2.mono (by omega)
  clear hb2
  have hB_2 := hB_1.trans (hb2'.mono hB_1.size)
  have fa_2 := fa_1.below hb2'
  have pa_1 := pa_0.below hb2'
  clear hb2' hB_1 fa_1 pa_0
  go_enter Try.func11, Try.ntmps11
  obtain ⟨pae0, pae1, pae2, pae3, pae4, pae5⟩ := pa_1.open3
  go_wp2_with fail
  refine (len_is _ L 0 0 _ (by omega) fa_2.mag rfl).mono ?_
  rintro e w3 ⟨rfl, hb3⟩
  clear pae0 pae1 pae2 pae3 pae4 pae5
  have hB_3 := hB_2.trans (hb3.mono hB_2.size)
  have fa_3 := fa_2.below hb3
  have pa_2 := pa_1.below hb3
  have pr_1 := pr_0.below hb3
  clear hb3 hB_2 fa_2 pa_1 pr_0
  obtain ⟨pae0, pae1, pae2, pae3, pae4, pae5⟩ := pa_2.open3
  clear pae0 pae1 pae2 pae3 pae4 pae5
  go_wp2_with fail
  refine (nOf_any 1 (by omega) (by omega) _).mono ?_
  rintro e w4 ⟨m1, o1, n1, c1, rfl, f1_0, hb4⟩
  have hB_4 := hB_3.trans (hb4.mono hB_3.size)
  have fa_4 := fa_3.below hb4
  have pa_3 := pa_2.below hb4
  have pr_2 := pr_1.below hb4
  clear hb4 hB_3 fa_3 pa_2 pr_1
  obtain ⟨sf4a, sf4b, sf4c, sf4d⟩ := pr_2.open2
  obtain ⟨sg4a, sg4b⟩ := Box.put2 pr_2 (.bool m1)
  go_wp2
  clear sf4a sf4b sf4c sf4d sg4a sg4b
  have hB_5 := below_setAll hB_4 (g := w.heap.size + 1) (by omega) [.bool m1, .slice o1 n1 c1]
  have fa_5 := fa_4.setAll pr_2 (noWord2 _ _ _ _) [.bool m1, .slice o1 n1 c1] rfl
  have pa_4 := pa_3.farAll (g' := w.heap.size + 1) (by omega) [.bool m1, .slice o1 n1 c1]
  have f1_1 := f1_0.setAll pr_2 (noWord2 _ _ _ _) [.bool m1, .slice o1 n1 c1] rfl
  have pr_3 := pr_2.setAll [.bool m1, .slice o1 n1 c1] rfl
  simp only [setAll, Nat.zero_add] at hB_5 fa_5 pa_4 pr_3 f1_1
  clear hB_4 fa_4 pa_3 f1_0 pr_2
  generalize (World.setCell (World.setCell w4 ⟨w.heap.size + 1, 0, none⟩ (.bool m1)) ⟨w.heap.size + 1, 1, none⟩ (.slice o1 n1 c1)) = w5 at *
  go_wp2
  obtain ⟨pre0, pre1, pre2, pre3⟩ := pr_3.open2
  exact bodyPost_ret (v := .agg #[.bool m1, .slice o1 n1 c1]) (by simp [results, Try.results11, go_sem, pre0, pre1]) rfl ⟨_, _, _, _, rfl, f1_1.more (by omega), hB_5⟩
set_option maxHeartbeats 4000000 in
theorem below_some (am : Bool) (ao : Option Addr) (an ac : Nat) (ap : Option Addr) (ak ad : Nat) (L : Nat) (X : Int) (D : Nat) (w : World) (hL : L ≤ 100000000) (fa_0 : FD w (.agg #[.bool am, .slice ao an ac, .slice ap ak ad]) L X D) (h0 : D ≠ 0) :
    Calls Try.prog 11 #[.agg #[.bool am, .slice ao an ac, .slice ap ak ad]] w fun e w' => AnsNum w w' e (max L 1) (den1 D : Nat) := by
  have hB_0 := Below.refl w.heap.size w
  have hz : (((bl D : Nat) : Int) == 0) = false := bl_ne h0
  obtain ⟨w1, hw1, pa_0, hb1, hs1⟩ := new_box w (w.heap.size) rfl [.bool am, .slice ao an ac, .slice ap ak ad] 27
  have hb1' : Below w.heap.size w w1 := hb1.mono (by omega)
  clear hb1
  have hB_1 := hB_0.trans (hb1'.mono hB_0.size)
  have fa_1 := fa_0.below hb1'
  clear hb1' hB_0 fa_0
  obtain ⟨w2, hw2, pr_0, hb2, hs2⟩ := new_box w1 (w.heap.size + 1) hs1 [.bool false, .slice none 0 0] 25
  have hb2' : Below w1.heap.size w1 w2 := hb2.mono (by omega)
  clear hb2
  have hB_2 := hB_1.trans (hb2'.mono hB_1.size)
  have fa_2 := fa_1.below hb2'
  have pa_1 := pa_0.below hb2'
  clear hb2' hB_1 fa_1 pa_0
  go_enter Try.func11, Try.ntmps11
  obtain ⟨pae0, pae1, pae2, pae3, pae4, pae5⟩ := pa_1.open3
  go_wp2_with fail
  refine (len_is _ L D _ _ (by omega) fa_2.mag rfl).mono ?_
  rintro e w3 ⟨rfl, hb3⟩
  clear pae0 pae1 pae2 pae3 pae4 pae5
  have hB_3 := hB_2.trans (hb3.mono hB_2.size)
  have fa_3 := fa_2.below hb3
  have pa_2 := pa_1.below hb3
  have pr_1 := pr_0.below hb3
  clear hb3 hB_2 fa_2 pa_1 pr_0
  obtain ⟨pae0, pae1, pae2, pae3, pae4, pae5⟩ := pa_2.open3
  clear pae0 pae1 pae2 pae3 pae4 pae5
  obtain ⟨pae0, pae1, pae2, pae3, pae4, pae5⟩ := pa_2.open3
  go_wp2_with fail
  refine (Make_any false _ L D _ (by omega) fa_3.mag).mono ?_
  rintro e w4 ⟨m1, o1, n1, c1, rfl, f1_0, hb4⟩
  clear pae0 pae1 pae2 pae3 pae4 pae5
  have hB_4 := hB_3.trans (hb4.mono hB_3.size)
  have fa_4 := fa_3.below hb4
  have pa_3 := pa_2.below hb4
  have pr_2 := pr_1.below hb4
  clear hb4 hB_3 fa_3 pa_2 pr_1
  obtain ⟨pae0, pae1, pae2, pae3, pae4, pae5⟩ := pa_3.open3
  obtain ⟨sf4a, sf4b, sf4c, sf4d⟩ := pr_2.open2
  obtain ⟨sg4a, sg4b⟩ := Box.put2 pr_2 (.bool m1)
  go_wp2
  clear pae0 pae1 pae2 pae3 pae4 pae5 sf4a sf4b sf4c sf4d sg4a sg4b
  have hB_5 := below_setAll hB_4 (g := w.heap.size + 1) (by omega) [.bool m1, .slice o1 n1 c1]
  have fa_5 := fa_4.setAll pr_2 (noWord2 _ _ _ _) [.bool m1, .slice o1 n1 c1] rfl
  have pa_4 := pa_3.farAll (g' := w.heap.size + 1) (by omega) [.bool m1, .slice o1 n1 c1]
  have f1_1 := f1_0.setAll pr_2 (noWord2 _ _ _ _) [.bool m1, .slice o1 n1 c1] rfl
  have pr_3 := pr_2.setAll [.bool m1, .slice o1 n1 c1] rfl
  simp only [setAll, Nat.zero_add] at hB_5 fa_5 pa_4 pr_3 f1_1
  clear hB_4 fa_4 pa_3 f1_0 pr_2
  generalize (World.setCell (World.setCell w4 ⟨w.heap.size + 1, 0, none⟩ (.bool m1)) ⟨w.heap.size + 1, 1, none⟩ (.slice o1 n1 c1)) = w5 at *
  go_wp2
  obtain ⟨pre0, pre1, pre2, pre3⟩ := pr_3.open2
  exact bodyPost_ret (v := .agg #[.bool m1, .slice o1 n1 c1]) (by simp [results, Try.results11, go_sem, pre0, pre1]) rfl ⟨_, _, _, _, rfl, (RNum.of f1_1 (by rw [den1_of h0]; rfl)).more (by omega), hB_5⟩
theorem below_any (va : Value) (L : Nat) (X : Int) (D : Nat) (w : World) (hL : L ≤ 100000000) (ha : FD w va L X D) : Calls Try.prog 11 #[va] w fun e w' => AnsNum w w' e (max L 1) (den1 D : Nat) := by
  have ha' := ha
  obtain ⟨_, _, _, _, _, _, _, rfl, _, _⟩ := ha
  by_cases h0 : D = 0
  · exact below_zero _ _ _ _ _ _ _ L X D w hL ha' h0
  · exact below_some _ _ _ _ _ _ _ L X D w hL ha' h0
set_option maxHeartbeats 4000000 in
theorem fRight_core (am : Bool) (ao : Option Addr) (an ac : Nat) (b o k d : Nat) (x : Nat) (L : Nat) (X : Int) (D : Nat) (w : World) (hk : k + 1 ≤ 4000000000) (hL : L ≤ 100000000) (h0 : x ≠ 0) (fa_0 : RNum w (.agg #[.bool am, .slice ao an ac]) L X) (fd_0 : RMag w (.slice (some ⟨b, o, none⟩) (k + 1) d) L D) (wc_0 : WCell w b (o + k) x) (hgcd : Nat.gcd X.natAbs D = 1) :
    Calls Try.prog 28 #[.agg #[.bool am, .slice ao an ac, .slice (some ⟨b, o, none⟩) (k + 1) d]] w fun e w' => e = .returned (.bool true) ∧ Below w.heap.size w w' := by
  have hB_0 := Below.refl w.heap.size w
  have hx1 : ((x : Int) != 0) = true := by simp; omega
  have hk1 : (0 : Int) < (k : Int) + 1 := by omega
  have hk2 : IntKind.i64.wrap ((k : Int) + 1 - 1) = (k : Int) := by rw [IntWalk.i64_in _ (by omega)]; omega
  have hk3 : (0 : Int) ≤ (k : Int) := by omega
  have hk4 : (k : Int) < (k : Int) + 1 := by omega
  obtain ⟨N, fn_0, hX, _⟩ := fa_0.part
  have hg : Nat.gcd N D = 1 := by rw [← hgcd, hX, sgn_natAbs]
  obtain ⟨w1, hw1, pa_0, hb1, hs1⟩ := new_box w (w.heap.size) rfl [.bool am, .slice ao an ac, .slice (some ⟨b, o, none⟩) (k + 1) d] 27
  have hb1' : Below w.heap.size w w1 := hb1.mono (by omega)
  clear hb1
  have hB_1 := hB_0.trans (hb1'.mono hB_0.size)
  have fa_1 := fa_0.below hb1'
  have fd_1 := fd_0.below hb1'
  have wc_1 := wc_0.below hb1'
  have fn_1 := fn_0.below hb1'
  clear hb1' hB_0 fa_0 fd_0 wc_0 fn_0
  go_enter Try.func28, Try.ntmps28
  obtain ⟨pae0, pae1, pae2, pae3, pae4, pae5⟩ := pa_0.open3
  have wce := wc_1.c
  go_wp2_with fail
  refine (Right_any _ L X _ (by omega) fa_1).mono ?_
  rintro e w2 ⟨rfl, hb2⟩
  clear pae0 pae1 pae2 pae3 pae4 pae5 wce
  have hB_2 := hB_1.trans (hb2.mono hB_1.size)
  have fa_2 := fa_1.below hb2
  have fd_2 := fd_1.below hb2
  have wc_2 := wc_1.below hb2
  have fn_2 := fn_1.below hb2
  have pa_1 := pa_0.below hb2
  clear hb2 hB_1 fa_1 fd_1 wc_1 fn_1 pa_0
  obtain ⟨pae0, pae1, pae2, pae3, pae4, pae5⟩ := pa_1.open3
  have wce := wc_2.c
  go_wp2_with fail
  refine (Gcd_any _ _ L L N D _ (by omega) (by omega) fn_2.mag fd_2.mag).mono ?_
  rintro e w3 ⟨v1, rfl, f1_0, hb3⟩
  clear pae0 pae1 pae2 pae3 pae4 pae5 wce
  have hB_3 := hB_2.trans (hb3.mono hB_2.size)
  have fa_3 := fa_2.below hb3
  have fd_3 := fd_2.below hb3
  have wc_3 := wc_2.below hb3
  have fn_3 := fn_2.below hb3
  have pa_2 := pa_1.below hb3
  clear hb3 hB_2 fa_2 fd_2 wc_2 fn_2 pa_1
  obtain ⟨pae0, pae1, pae2, pae3, pae4, pae5⟩ := pa_2.open3
  obtain ⟨o1, n1, c1, rfl⟩ := f1_0.slice
  go_wp2_with fail
  refine (len_is _ (max L L) (Nat.gcd N D) 1 _ (by omega) f1_0.mag (by rw [hg]; unfold bl; decide)).mono ?_
  rintro e w4 ⟨rfl, hb4⟩
  clear pae0 pae1 pae2 pae3 pae4 pae5
  have hB_4 := hB_3.trans (hb4.mono hB_3.size)
  have fa_4 := fa_3.below hb4
  have fd_4 := fd_3.below hb4
  have wc_4 := wc_3.below hb4
  have fn_4 := fn_3.below hb4
  have pa_3 := pa_2.below hb4
  have f1_1 := f1_0.below hb4
  clear hb4 hB_3 fa_3 fd_3 wc_3 fn_3 pa_2 f1_0
  obtain ⟨pae0, pae1, pae2, pae3, pae4, pae5⟩ := pa_3.open3
  go_wp2
  go_ret
  exact ⟨rfl, hB_4⟩
theorem fRight_any (va : Value) (L : Nat) (q : Rat) (w : World) (hL : L ≤ 100000000) (ha : RF w va L q) : Calls Try.prog 28 #[va] w fun e w' => e = .returned (.bool true) ∧ Below w.heap.size w w' := by
  obtain ⟨am, ao, an, ac, bo, bn, bc, rfl, h1, h2⟩ := ha
  obtain ⟨b, o, k, x, rfl, rfl, h3, h4, h5⟩ := h2.top q.den_nz
  exact fRight_core am ao an ac b o k bc x L q.num q.den w (by omega) hL h4 h1 h2 h5 q.reduced
set_option maxHeartbeats 4000000 in
theorem is_core (am : Bool) (ao : Option Addr) (an ac : Nat) (ap : Option Addr) (ak ad : Nat) (nm : Bool) (no : Option Addr) (nn nc : Nat) (zm : Bool) (zo : Option Addr) (zn zc : Nat) (L M H : Nat) (q : Rat) (X Y : Int) (w : World) (hL : L ≤ 100000000) (hM : M ≤ 100000000) (hH : H ≤ 100000000) (fa_0 : RF w (.agg #[.bool am, .slice ao an ac, .slice ap ak ad]) L q) (fn_0 : Num w (.agg #[.bool nm, .slice no nn nc]) M X) (fd_0 : Num w (.agg #[.bool zm, .slice zo zn zc]) H Y) (h : q.num * Y = X * q.den) :
    Calls Try.prog 13 #[.agg #[.bool am, .slice ao an ac, .slice ap ak ad], .agg #[.bool nm, .slice no nn nc], .agg #[.bool zm, .slice zo zn zc]] w fun e w' => e = .returned (.bool true) ∧ Below w.heap.size w w' := by
  have hB_0 := Below.refl w.heap.size w
  obtain ⟨w1, hw1, pa_0, hb1, hs1⟩ := new_box w (w.heap.size) rfl [.bool am, .slice ao an ac, .slice ap ak ad] 27
  have hb1' : Below w.heap.size w w1 := hb1.mono (by omega)
  clear hb1
  have hB_1 := hB_0.trans (hb1'.mono hB_0.size)
  have fa_1 := fa_0.below hb1'
  have fn_1 := fn_0.below hb1'
  have fd_1 := fd_0.below hb1'
  clear hb1' hB_0 fa_0 fn_0 fd_0
  obtain ⟨w2, hw2, pn_0, hb2, hs2⟩ := new_box w1 (w.heap.size + 1) hs1 [.bool nm, .slice no nn nc] 25
  have hb2' : Below w1.heap.size w1 w2 := hb2.mono (by omega)
  clear hb2
  have hB_2 := hB_1.trans (hb2'.mono hB_1.size)
  have fa_2 := fa_1.below hb2'
  have fn_2 := fn_1.below hb2'
  have fd_2 := fd_1.below hb2'
  have pa_1 := pa_0.below hb2'
  clear hb2' hB_1 fa_1 fn_1 fd_1 pa_0
  obtain ⟨w3, hw3, pd_0, hb3, hs3⟩ := new_box w2 (w.heap.size + 1 + 1) hs2 [.bool zm, .slice zo zn zc] 25
  have hb3' : Below w2.heap.size w2 w3 := hb3.mono (by omega)
  clear hb3
  have hB_3 := hB_2.trans (hb3'.mono hB_2.size)
  have fa_3 := fa_2.below hb3'
  have fn_3 := fn_2.below hb3'
  have fd_3 := fd_2.below hb3'
  have pa_2 := pa_1.below hb3'
  have pn_1 := pn_0.below hb3'
  clear hb3' hB_2 fa_2 fn_2 fd_2 pa_1 pn_0
  go_enter Try.func13, Try.ntmps13
  go_wp2
  have hB_4 := hB_3.drew'
  have fa_4 := fa_3.drew
  have fn_4 := fn_3.drew
  have fd_4 := fd_3.drew
  have pa_3 := pa_2.drew
  have pn_2 := pn_1.drew
  have pd_1 := pd_0.drew
  clear hB_3 fa_3 fn_3 fd_3 pa_2 pn_1 pd_0
  go_region_held3 (fun w' => w'.cell? ⟨w.heap.size, 0, none⟩ = some (.bool am) ∧ w'.cell? ⟨w.heap.size, 1, none⟩ = some (.slice ao an ac) ∧ w'.cell? ⟨w.heap.size, 2, none⟩ = some (.slice ap ak ad) ∧ w'.cell? ⟨w.heap.size + 1, 0, none⟩ = some (.bool nm) ∧ w'.cell? ⟨w.heap.size + 1, 1, none⟩ = some (.slice no nn nc) ∧ w'.cell? ⟨w.heap.size + 1 + 1, 0, none⟩ = some (.bool zm) ∧ w'.cell? ⟨w.heap.size + 1 + 1, 1, none⟩ = some (.slice zo zn zc))
    (first | with_reducible exact ⟨pa_3.c0, pa_3.c1, pa_3.c2, pn_2.c0, pn_2.c1, pd_1.c0, pd_1.c1⟩ | with_reducible exact ⟨pa_4.c0, pa_4.c1, pa_4.c2, pn_3.c0, pn_3.c1, pd_2.c0, pd_2.c1⟩ | with_reducible exact ⟨pa_5.c0, pa_5.c1, pa_5.c2, pn_4.c0, pn_4.c1, pd_3.c0, pd_3.c1⟩ | with_reducible exact ⟨pa_6.c0, pa_6.c1, pa_6.c2, pn_5.c0, pn_5.c1, pd_4.c0, pd_4.c1⟩ | with_reducible exact ⟨pa_7.c0, pa_7.c1, pa_7.c2, pn_6.c0, pn_6.c1, pd_5.c0, pd_5.c1⟩ | with_reducible exact ⟨pa_8.c0, pa_8.c1, pa_8.c2, pn_7.c0, pn_7.c1, pd_6.c0, pd_6.c1⟩ | fail)
    (first
      | (go_at_call 28; (with_reducible refine (fRight_any _ L q _ (by omega) fa_4).mono ?_); rintro e w4 ⟨rfl, hb4⟩; have hB_5 := hB_4.trans (hb4.mono hB_4.size); have fa_5 := fa_4.below hb4; have fn_5 := fn_4.below hb4; have fd_5 := fd_4.below hb4; have pa_4 := pa_3.below hb4; have pn_3 := pn_2.below hb4; have pd_2 := pd_1.below hb4; clear hb4 hB_4 fa_4 fn_4 fd_4 pa_3 pn_2 pd_1)
      | (go_at_call 12; (with_reducible refine (nMul_any _ _ L H q.num Y _ (by omega) (by omega) fa_5.fd.num fd_5).mono ?_); rintro e w5 ⟨m1, o1, n1, c1, rfl, f1_0, hb5⟩; have hB_6 := hB_5.trans (hb5.mono hB_5.size); have fa_6 := fa_5.below hb5; have fn_6 := fn_5.below hb5; have fd_6 := fd_5.below hb5; have pa_5 := pa_4.below hb5; have pn_4 := pn_3.below hb5; have pd_3 := pd_2.below hb5; clear hb5 hB_5 fa_5 fn_5 fd_5 pa_4 pn_3 pd_2)
      | (go_at_call 11; (with_reducible refine (below_any _ L q.num q.den _ (by omega) fa_6.fd).mono ?_); rintro e w6 ⟨m2, o2, n2, c2, rfl, f2_0, hb6⟩; have hB_7 := hB_6.trans (hb6.mono hB_6.size); have fa_7 := fa_6.below hb6; have fn_7 := fn_6.below hb6; have fd_7 := fd_6.below hb6; have pa_6 := pa_5.below hb6; have pn_5 := pn_4.below hb6; have pd_4 := pd_3.below hb6; have f1_1 := f1_0.below hb6; clear hb6 hB_6 fa_6 fn_6 fd_6 pa_5 pn_4 pd_3 f1_0)
      | (go_at_call 12; (with_reducible refine (nMul_any _ _ M (max L 1) X (den1 q.den : Nat) _ (by omega) (by omega) fn_7 f2_0.num).mono ?_); rintro e w7 ⟨m3, o3, n3, c3, rfl, f3_0, hb7⟩; have hB_8 := hB_7.trans (hb7.mono hB_7.size); have fa_8 := fa_7.below hb7; have fn_8 := fn_7.below hb7; have fd_8 := fd_7.below hb7; have pa_7 := pa_6.below hb7; have pn_6 := pn_5.below hb7; have pd_5 := pd_4.below hb7; have f1_2 := f1_1.below hb7; have f2_1 := f2_0.below hb7; clear hb7 hB_7 fa_7 fn_7 fd_7 pa_6 pn_5 pd_4 f1_1 f2_0)
      | (go_at_call 22; (with_reducible refine (nCmp_is _ _ (L + H) (M + max L 1) (q.num * Y) (X * (den1 q.den : Nat)) 0 _ (by omega) (by omega) f1_2.num f3_0.num (by rw [den1_of q.den_nz, h]; exact icmp_self _)).mono ?_); rintro e w8 ⟨rfl, hb8⟩; have hB_9 := hB_8.trans (hb8.mono hB_8.size); have fa_9 := fa_8.below hb8; have fn_9 := fn_8.below hb8; have fd_9 := fd_8.below hb8; have pa_8 := pa_7.below hb8; have pn_7 := pn_6.below hb8; have pd_6 := pd_5.below hb8; have f1_3 := f1_2.below hb8; have f2_2 := f2_1.below hb8; have f3_1 := f3_0.below hb8; clear hb8 hB_8 fa_8 fn_8 fd_8 pa_7 pn_6 pd_5 f1_2 f2_1 f3_0))
  go_wp2
  go_ret
  exact ⟨rfl, hB_9⟩
theorem fis_any (va vn vd : Value) (L M H : Nat) (q : Rat) (X Y : Int) (w : World) (hL : L ≤ 100000000) (hM : M ≤ 100000000) (hH : H ≤ 100000000) (ha : RF w va L q) (hn : Num w vn M X) (hd : Num w vd H Y) (h : q.num * Y = X * q.den) :
    Calls Try.prog 13 #[va, vn, vd] w fun e w' => e = .returned (.bool true) ∧ Below w.heap.size w w' := by
  have ha' := ha
  have hn' := hn
  have hd' := hd
  obtain ⟨_, _, _, _, _, _, _, rfl, _, _⟩ := ha
  obtain ⟨_, _, _, rfl, h1, _⟩ := hn
  obtain ⟨_, _, _, rfl⟩ := h1.slice
  obtain ⟨_, _, _, rfl, h2, _⟩ := hd
  obtain ⟨_, _, _, rfl⟩ := h2.slice
  exact is_core _ _ _ _ _ _ _ _ _ _ _ _ _ _ _ L M H q X Y w hL hM hH ha' hn' hd' h
theorem fiveHalves : (((10 : Int) : Rat) / ((4 : Int) : Rat)).num = 5 ∧ (((10 : Int) : Rat) / ((4 : Int) : Rat)).den = 2 := by
  have h := make_eq false false 10 4 (by omega)
  have e1 : sgn false 10 = 10 := rfl
  have e2 : sgn false 4 = 4 := rfl
  rw [e1, e2] at h
  rw [← h]
  have e3 : (false != false) = false := rfl
  rw [e3, e1, Rat.num_mkRat, Rat.den_mkRat]
  decide
theorem fiveHalves_den {w : World} {m : Bool} {ao bo : Option Addr} {n c k d L : Nat} (h : RF w (.agg #[.bool m, .slice ao n c, .slice bo k d]) L (((10 : Int) : Rat) / ((4 : Int) : Rat))) : RMag w (.slice bo k d) L 2 := by
  obtain ⟨_, _, _, _, _, _, _, e, h1, h2⟩ := h
  simp at e
  obtain ⟨rfl, ⟨rfl, rfl, rfl⟩, rfl, rfl, rfl⟩ := e
  rw [fiveHalves.2] at h2
  exact h2
theorem fiveHalves_num : icmp (((10 : Int) : Rat) / ((4 : Int) : Rat)).num 5 = 0 := by rw [fiveHalves.1]; exact icmp_self _
theorem fiveHalves_rnd : icmp (rnd (qv (((10 : Int) : Rat) / ((4 : Int) : Rat)).num (((10 : Int) : Rat) / ((4 : Int) : Rat)).den)) 2 = 0 := by
  rw [fiveHalves.1, fiveHalves.2, ← rnd_down 5 2 (Or.inr (by decide))]
  decide
set_option maxHeartbeats 4000000 in
theorem ffit_any (w : World) : Calls Try.prog 9 #[] w fun e w' => e = .returned (.bool true) ∧ Below w.heap.size w w' := by
  have hB_0 := Below.refl w.heap.size w
  go_enter Try.func9, Try.ntmps9
  go_wp2_with fail
  refine (nOf_any 10 (by omega) (by omega) _).mono ?_
  rintro e w1 ⟨m1, o1, n1, c1, rfl, f1_0, hb1⟩
  have hB_1 := hB_0.trans (hb1.mono hB_0.size)
  clear hb1 hB_0
  go_wp2_with fail
  refine (nOf_any 4 (by omega) (by omega) _).mono ?_
  rintro e w2 ⟨m2, o2, n2, c2, rfl, f2_0, hb2⟩
  have hB_2 := hB_1.trans (hb2.mono hB_1.size)
  have f1_1 := f1_0.below hb2
  clear hb2 hB_1 f1_0
  go_wp2_with fail
  refine (fMake_some _ _ 1 1 10 4 _ (by omega) (by omega) f1_1.num f2_0.num (by omega)).mono ?_
  rintro e w3 ⟨m3, o3, n3, c3, p3, k3, d3, rfl, f3_0, hb3⟩
  have hB_3 := hB_2.trans (hb3.mono hB_2.size)
  have f1_2 := f1_1.below hb3
  have f2_1 := f2_0.below hb3
  clear hb3 hB_2 f1_1 f2_0
  obtain ⟨b3, q3, rfl, rfl, wc_0⟩ := (fiveHalves_den f3_0).lone (by omega) (by unfold B; omega)
  have hl1B := hB_3.size
  obtain ⟨w4, hw4, pq_0, hb4, hs4⟩ := new_box w3 (w3.heap.size) rfl [.bool m3, .slice o3 n3 c3, .slice (some ⟨b3, q3, none⟩) 1 d3] 27
  have hb4' : Below w3.heap.size w3 w4 := hb4.mono (by omega)
  clear hb4
  have hB_4 := hB_3.trans (hb4'.mono hB_3.size)
  have f1_3 := f1_2.below hb4'
  have f2_2 := f2_1.below hb4'
  have f3_1 := f3_0.below hb4'
  have wc_1 := wc_0.below hb4'
  clear hb4' hB_3 f1_2 f2_1 f3_0 wc_0
  go_wp2
  try rw [hw4]
  have hB_5 := hB_4.drew'
  have f1_4 := f1_3.drew
  have f2_3 := f2_2.drew
  have f3_2 := f3_1.drew
  have wc_2 := wc_1.drew
  have pq_1 := pq_0.drew
  clear hB_4 f1_3 f2_2 f3_1 wc_1 pq_0
  go_region_held3 (fun w' => w'.cell? ⟨w3.heap.size, 0, none⟩ = some (.bool m3) ∧ w'.cell? ⟨w3.heap.size, 1, none⟩ = some (.slice o3 n3 c3) ∧ w'.cell? ⟨w3.heap.size, 2, none⟩ = some (.slice (some ⟨b3, q3, none⟩) 1 d3) ∧ w'.cell? ⟨b3, q3, none⟩ = some (.int .u64 ((2 : Nat) : Int)))
    (first | with_reducible exact ⟨pq_1.c0, pq_1.c1, pq_1.c2, wc_2.c⟩ | with_reducible exact ⟨pq_2.c0, pq_2.c1, pq_2.c2, wc_3.c⟩ | with_reducible exact ⟨pq_3.c0, pq_3.c1, pq_3.c2, wc_4.c⟩ | with_reducible exact ⟨pq_4.c0, pq_4.c1, pq_4.c2, wc_5.c⟩ | with_reducible exact ⟨pq_5.c0, pq_5.c1, pq_5.c2, wc_6.c⟩ | with_reducible exact ⟨pq_6.c0, pq_6.c1, pq_6.c2, wc_7.c⟩ | fail)
    (first
      | (go_at_call 32; (with_reducible refine (fRound_any _ (max 1 1) _ _ _ (by omega) f3_2.fd).mono ?_); rintro e w5 ⟨m4, o4, n4, c4, rfl, f4_0, hb5⟩; have hB_6 := hB_5.trans (hb5.mono hB_5.size); have f1_5 := f1_4.below hb5; have f2_4 := f2_3.below hb5; have f3_3 := f3_2.below hb5; have wc_3 := wc_2.below hb5; have pq_2 := pq_1.below hb5; clear hb5 hB_5 f1_4 f2_3 f3_2 wc_2 pq_1)
      | (go_at_call 29; (with_reducible refine (nOf_any 2 (by omega) (by omega) _).mono ?_); rintro e w6 ⟨m5, o5, n5, c5, rfl, f5_0, hb6⟩; have hB_7 := hB_6.trans (hb6.mono hB_6.size); have f1_6 := f1_5.below hb6; have f2_5 := f2_4.below hb6; have f3_4 := f3_3.below hb6; have wc_4 := wc_3.below hb6; have pq_3 := pq_2.below hb6; have f4_1 := f4_0.below hb6; clear hb6 hB_6 f1_5 f2_4 f3_3 wc_3 pq_2 f4_0)
      | (go_at_call 22; (with_reducible refine (nCmp_is _ _ (max (max 1 1) 1 + 2) 1 _ 2 0 _ (by omega) (by omega) f4_1.num f5_0.num fiveHalves_rnd).mono ?_); rintro e w7 ⟨rfl, hb7⟩; have hB_8 := hB_7.trans (hb7.mono hB_7.size); have f1_7 := f1_6.below hb7; have f2_6 := f2_5.below hb7; have f3_5 := f3_4.below hb7; have wc_5 := wc_4.below hb7; have pq_4 := pq_3.below hb7; have f4_2 := f4_1.below hb7; have f5_1 := f5_0.below hb7; clear hb7 hB_7 f1_6 f2_5 f3_4 wc_4 pq_3 f4_1 f5_0)
      | (go_at_call 29; (with_reducible refine (nOf_any 5 (by omega) (by omega) _).mono ?_); rintro e w8 ⟨m6, o6, n6, c6, rfl, f6_0, hb8⟩; have hB_9 := hB_8.trans (hb8.mono hB_8.size); have f1_8 := f1_7.below hb8; have f2_7 := f2_6.below hb8; have f3_6 := f3_5.below hb8; have wc_6 := wc_5.below hb8; have pq_5 := pq_4.below hb8; have f4_3 := f4_2.below hb8; have f5_2 := f5_1.below hb8; clear hb8 hB_8 f1_7 f2_6 f3_5 wc_5 pq_4 f4_2 f5_1)
      | (go_at_call 22; (with_reducible refine (nCmp_is _ _ (max 1 1) 1 _ 5 0 _ (by omega) (by omega) f3_6.fd.num f6_0.num fiveHalves_num).mono ?_); rintro e w9 ⟨rfl, hb9⟩; have hB_10 := hB_9.trans (hb9.mono hB_9.size); have f1_9 := f1_8.below hb9; have f2_8 := f2_7.below hb9; have f3_7 := f3_6.below hb9; have wc_7 := wc_6.below hb9; have pq_6 := pq_5.below hb9; have f4_4 := f4_3.below hb9; have f5_3 := f5_2.below hb9; have f6_1 := f6_0.below hb9; clear hb9 hB_9 f1_8 f2_7 f3_6 wc_6 pq_5 f4_3 f5_2 f6_0))
  go_wp2
  go_ret
  exact ⟨rfl, hB_10⟩
end Go.Proofs.Ytmbmeapodhngaaa
/- The calls of frac, by the numbers that they count. -/
namespace Go.Proofs.Ytmbmeapodhngaaa
open Go.RowKit Go.MagM
theorem cross (q : Rat) (N : Int) (M : Nat) (hM : M ≠ 0) (h : q = mkRat N M) : q.num * (M : Int) = N * (q.den : Int) := by
  have h1 := Rat.mkRat_self q
  rw [h] at h1
  have h2 := (Rat.mkRat_eq_iff (mkRat N M).den_nz hM).1 h1
  rw [h]
  exact h2
theorem qv_sign (X : Int) (D : Nat) : (qv X D).num.sign = X.sign := by
  have h := cross (qv X D) X (den1 D) (den1_ne D) rfl
  have h2 := congrArg Int.sign h
  rw [sign_den, Int.sign_mul, Int.sign_natCast_of_ne_zero (qv X D).den_nz, Int.mul_one] at h2
  exact h2
theorem qAdd (va vb : Value) (L M : Nat) (p q : Rat) (w : World) (hL : L ≤ 50000000) (hM : M ≤ 50000000) (ha : FQ w va L p) (hb : FQ w vb M q) : Calls Try.prog 14 #[va, vb] w fun e w' => AnsF w w' e (L + M + 2) (p + q) := by
  obtain ⟨X, D, h1, rfl⟩ := ha
  obtain ⟨Y, E, h2, rfl⟩ := hb
  exact fAdd_any _ _ L M X Y D E w (by omega) (by omega) h1 h2
theorem qSub (va vb : Value) (L M : Nat) (p q : Rat) (w : World) (hL : L ≤ 50000000) (hM : M ≤ 50000000) (ha : FQ w va L p) (hb : FQ w vb M q) : Calls Try.prog 16 #[va, vb] w fun e w' => AnsF w w' e (L + M + 2) (p - q) := by
  obtain ⟨X, D, h1, rfl⟩ := ha
  obtain ⟨Y, E, h2, rfl⟩ := hb
  exact fSub_any _ _ L M X Y D E w (by omega) (by omega) h1 h2
theorem qMul (va vb : Value) (L M : Nat) (p q : Rat) (w : World) (hL : L ≤ 50000000) (hM : M ≤ 50000000) (ha : FQ w va L p) (hb : FQ w vb M q) : Calls Try.prog 18 #[va, vb] w fun e w' => AnsF w w' e (L + M + 2) (p * q) := by
  obtain ⟨X, D, h1, rfl⟩ := ha
  obtain ⟨Y, E, h2, rfl⟩ := hb
  exact fMul_any _ _ L M X Y D E w (by omega) (by omega) h1 h2
theorem qCmp (va vb : Value) (L M : Nat) (p q : Rat) (w : World) (hL : L ≤ 50000000) (hM : M ≤ 50000000) (ha : FQ w va L p) (hb : FQ w vb M q) (c : Int) (h : qcmp p q = c) : Calls Try.prog 21 #[va, vb] w fun e w' => e = .returned (.int .i64 c) ∧ Below w.heap.size w w' := by
  obtain ⟨X, D, h1, rfl⟩ := ha
  obtain ⟨Y, E, h2, rfl⟩ := hb
  exact fCmp_is _ _ L M X Y D E w (by omega) (by omega) h1 h2 c h
theorem qSame (va vb : Value) (L M : Nat) (p q : Rat) (w : World) (hL : L ≤ 50000000) (hM : M ≤ 50000000) (ha : FQ w va L p) (hb : FQ w vb M q) (b : Bool) (h : p = q ↔ b = true) : Calls Try.prog 25 #[va, vb] w fun e w' => e = .returned (.bool b) ∧ Below w.heap.size w w' := by
  obtain ⟨X, D, h1, rfl⟩ := ha
  obtain ⟨Y, E, h2, rfl⟩ := hb
  by_cases hq : qv X D = qv Y E
  · rw [h.1 hq]; exact fSame_yes _ _ L M X Y D E w (by omega) (by omega) h1 h2 hq
  · have hb : b = false := by cases b with
      | false => rfl
      | true => exact absurd (h.2 rfl) hq
    rw [hb]; exact fSame_no _ _ L M X Y D E w (by omega) (by omega) h1 h2 hq
theorem qSame_yes (va vb : Value) (L M : Nat) (p q : Rat) (w : World) (hL : L ≤ 50000000) (hM : M ≤ 50000000) (ha : FQ w va L p) (hb : FQ w vb M q) (h : p = q) : Calls Try.prog 25 #[va, vb] w fun e w' => e = .returned (.bool true) ∧ Below w.heap.size w w' := by
  obtain ⟨X, D, h1, rfl⟩ := ha
  obtain ⟨Y, E, h2, rfl⟩ := hb
  exact fSame_yes _ _ L M X Y D E w (by omega) (by omega) h1 h2 h
theorem qDiv_zero (va vb : Value) (L M : Nat) (p q : Rat) (w : World) (hL : L ≤ 50000000) (hM : M ≤ 50000000) (ha : FQ w va L p) (hb : FQ w vb M q) (h : q = 0) : Calls Try.prog 26 #[va, vb] w fun e w' => AnsFt w w' e false 1 0 := by
  obtain ⟨X, D, h1, rfl⟩ := ha
  obtain ⟨Y, E, h2, rfl⟩ := hb
  refine fDiv_zero _ _ L M X Y D E w (by omega) (by omega) h1 h2 ?_
  rw [qv] at h
  exact (Rat.mkRat_eq_zero (den1_ne E)).1 h
theorem qDiv (va vb : Value) (L M : Nat) (p q : Rat) (w : World) (hL : L ≤ 50000000) (hM : M ≤ 50000000) (ha : FQ w va L p) (hb : FQ w vb M q) (h : q ≠ 0) : Calls Try.prog 26 #[va, vb] w fun e w' => AnsFt w w' e true (L + M + 3) (p / q) := by
  obtain ⟨X, D, h1, rfl⟩ := ha
  obtain ⟨Y, E, h2, rfl⟩ := hb
  refine fDiv_some _ _ L M X Y D E w (by omega) (by omega) h1 h2 ?_
  intro hy
  subst hy
  exact h (qv_zero E)
theorem qNeg (va : Value) (L : Nat) (p : Rat) (w : World) (hL : L ≤ 50000000) (ha : FQ w va L p) : Calls Try.prog 19 #[va] w fun e w' => AnsF w w' e (max L 1) (-p) := by
  obtain ⟨X, D, h1, rfl⟩ := ha
  exact fNeg_any _ L X D w (by omega) h1
theorem qSign (va : Value) (L : Nat) (p : Rat) (w : World) (hL : L ≤ 50000000) (ha : FQ w va L p) (s : Int) (h : p.num.sign = s) : Calls Try.prog 23 #[va] w fun e w' => e = .returned (.int .i64 s) ∧ Below w.heap.size w w' := by
  obtain ⟨X, D, h1, rfl⟩ := ha
  exact fSign_is _ L X s D w (by omega) h1 (by rw [← qv_sign X D]; exact h)
theorem qFloor (va : Value) (L : Nat) (p : Rat) (w : World) (hL : L ≤ 50000000) (ha : FQ w va L p) : Calls Try.prog 31 #[va] w fun e w' => AnsNum w w' e (max L 1 + 1) p.floor := by
  obtain ⟨X, D, h1, rfl⟩ := ha
  exact fFloor_any _ L X D w (by omega) h1
theorem qRound (va : Value) (L : Nat) (p : Rat) (w : World) (hL : L ≤ 50000000) (ha : FQ w va L p) : Calls Try.prog 32 #[va] w fun e w' => AnsNum w w' e (max L 1 + 2) (rnd p) := by
  obtain ⟨X, D, h1, rfl⟩ := ha
  exact fRound_any _ L X D w (by omega) h1
theorem fracs_three (w : World) (T : TypeId) {xm : Bool} {xo : Option Addr} {xn xc : Nat} {xp : Option Addr} {xk xd : Nat} {ym : Bool} {yo : Option Addr} {yn yc : Nat} {yp : Option Addr} {yk yd : Nat} {zm : Bool} {zo : Option Addr} {zn zc : Nat} {zp : Option Addr} {zk zd : Nat} {L1 L2 L3 : Nat} {X Y Z : Int} {D E F : Nat} (h1 : FD w (.agg #[.bool xm, .slice xo xn xc, .slice xp xk xd]) L1 X D) (h2 : FD w (.agg #[.bool ym, .slice yo yn yc, .slice yp yk yd]) L2 Y E) (h3 : FD w (.agg #[.bool zm, .slice zo zn zc, .slice zp zk zd]) L3 Z F) :
    Fracs (w.alloc (.cells #[.bool xm, .slice xo xn xc, .slice xp xk xd, .bool ym, .slice yo yn yc, .slice yp yk yd, .bool zm, .slice zo zn zc, .slice zp zk zd] T)) (some ⟨w.heap.size, 0, none⟩) [(L1, X, D), (L2, Y, E), (L3, Z, F)] := by
  have hb : Below w.heap.size w (w.alloc (.cells #[.bool xm, .slice xo xn xc, .slice xp xk xd, .bool ym, .slice yo yn yc, .slice yp yk yd, .bool zm, .slice zo zn zc, .slice zp zk zd] T)) := (Below.refl _ _).alloc (Nat.le_refl _) _
  intro i L U G hi
  have hi2 : i < 3 := by have := (List.getElem?_eq_some_iff.1 hi).1; simpa using this
  obtain rfl | rfl | rfl : i = 0 ∨ i = 1 ∨ i = 2 := by omega
  · simp at hi; obtain ⟨rfl, rfl, rfl⟩ := hi
    exact ⟨_, 0, xm, xo, xn, xc, xp, xk, xd, rfl, by simp [go_sem], by simp [go_sem], by simp [go_sem], h1.below hb⟩
  · simp at hi; obtain ⟨rfl, rfl, rfl⟩ := hi
    exact ⟨_, 0, ym, yo, yn, yc, yp, yk, yd, rfl, by simp [go_sem], by simp [go_sem], by simp [go_sem], h2.below hb⟩
  · simp at hi; obtain ⟨rfl, rfl, rfl⟩ := hi
    exact ⟨_, 0, zm, zo, zn, zc, zp, zk, zd, rfl, by simp [go_sem], by simp [go_sem], by simp [go_sem], h3.below hb⟩
theorem fSum_three (w : World) (T : TypeId) {xm : Bool} {xo : Option Addr} {xn xc : Nat} {xp : Option Addr} {xk xd : Nat} {ym : Bool} {yo : Option Addr} {yn yc : Nat} {yp : Option Addr} {yk yd : Nat} {zm : Bool} {zo : Option Addr} {zn zc : Nat} {zp : Option Addr} {zk zd : Nat} {L1 L2 L3 : Nat} {p q r : Rat} (hL1 : L1 ≤ 1000000) (hL2 : L2 ≤ 1000000) (hL3 : L3 ≤ 1000000) (h1 : FQ w (.agg #[.bool xm, .slice xo xn xc, .slice xp xk xd]) L1 p) (h2 : FQ w (.agg #[.bool ym, .slice yo yn yc, .slice yp yk yd]) L2 q) (h3 : FQ w (.agg #[.bool zm, .slice zo zn zc, .slice zp zk zd]) L3 r) :
    Calls Try.prog 30 #[.slice (some ⟨w.heap.size, 0, none⟩) 3 3] (w.alloc (.cells #[.bool xm, .slice xo xn xc, .slice xp xk xd, .bool ym, .slice yo yn yc, .slice yp yk yd, .bool zm, .slice zo zn zc, .slice zp zk zd] T)) fun e w' => AnsF w w' e (L1 + L2 + L3 + 7) (p + q + r) := by
  obtain ⟨X, D, h1, rfl⟩ := h1
  obtain ⟨Y, E, h2, rfl⟩ := h2
  obtain ⟨Z, F, h3, rfl⟩ := h3
  refine (fSum_go _ 3 3 _ _ rfl (by omega) ?_ (fracs_three w T h1 h2 h3)).mono ?_
  · intro L U G hm; simp at hm; omega
  · rintro e w' h
    obtain ⟨m, ao, n, c, bo, k, d, rfl, h4, h5⟩ := h
    refine ⟨m, ao, n, c, bo, k, d, rfl, (h4.more (by simp [fLen]; omega)).of (by simp [fVal, Rat.zero_add]), ((Below.refl _ _).alloc (Nat.le_refl _) _).trans (h5.mono (by simp))⟩
theorem fSum_none (w : World) : Calls Try.prog 30 #[.slice none 0 0] w fun e w' => AnsF w w' e 1 0 := by
  refine (fSum_go none 0 0 [] w rfl (by omega) (fun L X D hm => by cases hm) (fun i L X D hi => by simp at hi)).mono fun e w' g => g.of ?_ ?_
  · simp [fLen]
  · simp [fVal]
end Go.Proofs.Ytmbmeapodhngaaa
/- The statement FracDivs, walked. -/
namespace Go.Proofs.Ytmbmeapodhngaaa
open Go.RowKit Go.MagM
theorem sign_small (Y : Int) : -1 ≤ Y.sign ∧ Y.sign ≤ 1 := by
  rcases Int.lt_trichotomy Y 0 with h | h | h
  · rw [Int.sign_eq_neg_one_of_neg h]; omega
  · subst h; decide
  · rw [Int.sign_eq_one_of_pos h]; omega
theorem make_cross (X Y s : Int) (hY : Y ≠ 0) (hs : Y.sign = s) : ((X : Rat) / (Y : Rat)).num * (Y * s) = (X * s) * (((X : Rat) / (Y : Rat)).den : Int) := by
  have hs0 : s ≠ 0 := by rw [← hs]; intro e; exact hY (Int.sign_eq_zero_iff_zero.1 e)
  have e1 : Y * s = ((Y.natAbs : Nat) : Int) := by rw [← hs]; exact Int.mul_sign_self Y
  have e2 : (X : Rat) / (Y : Rat) = mkRat (X * s) Y.natAbs := by
    rw [← Rat.divInt_eq_div, ← Rat.divInt_mul_right hs0, e1, Rat.divInt_ofNat]
  rw [e1]
  exact cross _ _ _ (by omega) e2
set_option maxRecDepth 100000 in
set_option maxHeartbeats 16000000 in
theorem FracDivs_walk (am : Bool) (ao : Option Addr) (an ac : Nat) (ap : Option Addr) (ak ad : Nat) (Xa : Int) (Da : Nat) (bm : Bool) (bo : Option Addr) (bn bc : Nat) (bp : Option Addr) (bk bd : Nat) (Xb : Int) (Db : Nat) (w : World) (fa_0 : FD w (.agg #[.bool am, .slice ao an ac, .slice ap ak ad]) (max an ak) Xa Da) (fb_0 : FD w (.agg #[.bool bm, .slice bo bn bc, .slice bp bk bd]) (max bn bk) Xb Db) :
    Calls Try.prog 4 #[.agg #[.bool am, .slice ao an ac, .slice ap ak ad], .agg #[.bool bm, .slice bo bn bc, .slice bp bk bd]] w fun e w' => e = .returned (.bool true) ∧ Below w.heap.size w w' := by
  have hB_0 := Below.refl w.heap.size w
  obtain ⟨w1, hw1, pa_0, hb1, hs1⟩ := new_box w (w.heap.size) rfl [.bool am, .slice ao an ac, .slice ap ak ad] 27
  have hb1' : Below w.heap.size w w1 := hb1.mono (by omega)
  clear hb1
  have hB_1 := hB_0.trans (hb1'.mono hB_0.size)
  have fa_1 := fa_0.below hb1'
  have fb_1 := fb_0.below hb1'
  clear hb1' hB_0 fa_0 fb_0
  obtain ⟨w2, hw2, pb_0, hb2, hs2⟩ := new_box w1 (w.heap.size + 1) hs1 [.bool bm, .slice bo bn bc, .slice bp bk bd] 27
  have hb2' : Below w1.heap.size w1 w2 := hb2.mono (by omega)
  clear hb2
  have hB_2 := hB_1.trans (hb2'.mono hB_1.size)
  have fa_2 := fa_1.below hb2'
  have fb_2 := fb_1.below hb2'
  have pa_1 := pa_0.below hb2'
  clear hb2' hB_1 fa_1 fb_1 pa_0
  go_enter Try.func4, Try.ntmps4
  obtain ⟨pae0, pae1, pae2, pae3, pae4, pae5⟩ := pa_1.open3
  obtain ⟨pbe0, pbe1, pbe2, pbe3, pbe4, pbe5⟩ := pb_0.open3
  go_wp2_with fail
  refine (ffit_any _).mono ?_
  rintro e w3 ⟨rfl, hb3⟩
  clear pae0 pae1 pae2 pae3 pae4 pae5 pbe0 pbe1 pbe2 pbe3 pbe4 pbe5
  have hB_3 := hB_2.trans (hb3.mono hB_2.size)
  have fa_3 := fa_2.below hb3
  have fb_3 := fb_2.below hb3
  have pa_2 := pa_1.below hb3
  have pb_1 := pb_0.below hb3
  clear hb3 hB_2 fa_2 fb_2 pa_1 pb_0
  obtain ⟨pae0, pae1, pae2, pae3, pae4, pae5⟩ := pa_2.open3
  obtain ⟨pbe0, pbe1, pbe2, pbe3, pbe4, pbe5⟩ := pb_1.open3
  by_cases hsh : (an ≤ 4 ∧ ak ≤ 4) ∧ (bn ≤ 4 ∧ bk ≤ 4)
  rotate_left
  · skip
    go_wp2_with fail
    refine (fshort2_no 4 _ _ am ao an ac ap ak ad bm bo bn bc bp bk bd (by omega) hsh).mono ?_
    rintro e w4 ⟨rfl, hb4⟩
    clear pae0 pae1 pae2 pae3 pae4 pae5 pbe0 pbe1 pbe2 pbe3 pbe4 pbe5
    have hB_4 := hB_3.trans (hb4.mono hB_3.size)
    have fa_4 := fa_3.below hb4
    have fb_4 := fb_3.below hb4
    have pa_3 := pa_2.below hb4
    have pb_2 := pb_1.below hb4
    clear hb4 hB_3 fa_3 fb_3 pa_2 pb_1
    go_wp2
    go_ret
    exact ⟨rfl, hB_4⟩
  go_wp2_with fail
  refine (fshort2_yes 4 _ _ am ao an ac ap ak ad bm bo bn bc bp bk bd (by omega) hsh).mono ?_
  rintro e w4 ⟨rfl, hb4⟩
  clear pae0 pae1 pae2 pae3 pae4 pae5 pbe0 pbe1 pbe2 pbe3 pbe4 pbe5
  have hB_4 := hB_3.trans (hb4.mono hB_3.size)
  have fa_4 := fa_3.below hb4
  have fb_4 := fb_3.below hb4
  have pa_3 := pa_2.below hb4
  have pb_2 := pb_1.below hb4
  clear hb4 hB_3 fa_3 fb_3 pa_2 pb_1
  obtain ⟨pae0, pae1, pae2, pae3, pae4, pae5⟩ := pa_3.open3
  obtain ⟨pbe0, pbe1, pbe2, pbe3, pbe4, pbe5⟩ := pb_2.open3
  have fa_5 := fa_4.more (L' := 4) (by omega)
  clear fa_4
  have fb_5 := fb_4.more (L' := 4) (by omega)
  clear fb_4
  clear hsh
  clear pae0 pae1 pae2 pae3 pae4 pae5 pbe0 pbe1 pbe2 pbe3 pbe4 pbe5
  by_cases hz : Xb = 0
  · subst hz
    obtain ⟨pae0, pae1, pae2, pae3, pae4, pae5⟩ := pa_3.open3
    obtain ⟨pbe0, pbe1, pbe2, pbe3, pbe4, pbe5⟩ := pb_2.open3
    go_wp2_with fail
    refine (qDiv_zero _ _ _ _ _ _ _ (by omega) (by omega) fa_5.q fb_5.q (qv_zero Db)).mono ?_
    rintro e w5 ⟨m1, o1, n1, c1, p1, k1, d1, rfl, f1_0, hb5⟩
    clear pae0 pae1 pae2 pae3 pae4 pae5 pbe0 pbe1 pbe2 pbe3 pbe4 pbe5
    have hB_5 := hB_4.trans (hb5.mono hB_4.size)
    have fa_6 := fa_5.below hb5
    have fb_6 := fb_5.below hb5
    have pa_4 := pa_3.below hb5
    have pb_3 := pb_2.below hb5
    clear hb5 hB_4 fa_5 fb_5 pa_3 pb_2
    obtain ⟨pae0, pae1, pae2, pae3, pae4, pae5⟩ := pa_4.open3
    obtain ⟨pbe0, pbe1, pbe2, pbe3, pbe4, pbe5⟩ := pb_3.open3
    clear pae0 pae1 pae2 pae3 pae4 pae5 pbe0 pbe1 pbe2 pbe3 pbe4 pbe5
    have hl1pa := pa_4.lt
    have hl1pb := pb_3.lt
    have hl1B := hB_5.size
    obtain ⟨w6, hw6, pq_0, hb6, hs6⟩ := new_box w5 (w5.heap.size) rfl [.bool m1, .slice o1 n1 c1, .slice p1 k1 d1] 27
    have hb6' : Below w5.heap.size w5 w6 := hb6.mono (by omega)
    clear hb6
    have hB_6 := hB_5.trans (hb6'.mono hB_5.size)
    have fa_7 := fa_6.below hb6'
    have fb_7 := fb_6.below hb6'
    have pa_5 := pa_4.below hb6'
    have pb_4 := pb_3.below hb6'
    have f1_1 := f1_0.below hb6'
    clear hb6' hB_5 fa_6 fb_6 pa_4 pb_3 f1_0
    obtain ⟨pae0, pae1, pae2, pae3, pae4, pae5⟩ := pa_5.open3
    obtain ⟨pbe0, pbe1, pbe2, pbe3, pbe4, pbe5⟩ := pb_4.open3
    go_wp2_with fail
    refine (fMake_zero _ _ _ _ _ _ _ (by omega) (by omega) fa_7.num fb_7.num rfl).mono ?_
    rintro e w7 ⟨m2, o2, n2, c2, p2, k2, d2, rfl, f2_0, hb7⟩
    clear pae0 pae1 pae2 pae3 pae4 pae5 pbe0 pbe1 pbe2 pbe3 pbe4 pbe5
    have hB_7 := hB_6.trans (hb7.mono hB_6.size)
    have fa_8 := fa_7.below hb7
    have fb_8 := fb_7.below hb7
    have pa_6 := pa_5.below hb7
    have pb_5 := pb_4.below hb7
    have f1_2 := f1_1.below hb7
    have pq_1 := pq_0.below hb7
    clear hb7 hB_6 fa_7 fb_7 pa_5 pb_4 f1_1 pq_0
    obtain ⟨pae0, pae1, pae2, pae3, pae4, pae5⟩ := pa_6.open3
    obtain ⟨pbe0, pbe1, pbe2, pbe3, pbe4, pbe5⟩ := pb_5.open3
    clear pae0 pae1 pae2 pae3 pae4 pae5 pbe0 pbe1 pbe2 pbe3 pbe4 pbe5
    have hl2pa := pa_6.lt
    have hl2pb := pb_5.lt
    have hl2pq := pq_1.lt
    have hl2B := hB_7.size
    obtain ⟨w8, hw8, pf_0, hb8, hs8⟩ := new_box w7 (w7.heap.size) rfl [.bool m2, .slice o2 n2 c2, .slice p2 k2 d2] 27
    have hb8' : Below w7.heap.size w7 w8 := hb8.mono (by omega)
    clear hb8
    have hB_8 := hB_7.trans (hb8'.mono hB_7.size)
    have fa_9 := fa_8.below hb8'
    have fb_9 := fb_8.below hb8'
    have pa_7 := pa_6.below hb8'
    have pb_6 := pb_5.below hb8'
    have f1_3 := f1_2.below hb8'
    have pq_2 := pq_1.below hb8'
    have f2_1 := f2_0.below hb8'
    clear hb8' hB_7 fa_8 fb_8 pa_6 pb_5 f1_2 pq_1 f2_0
    obtain ⟨pbe0, pbe1, pbe2, pbe3, pbe4, pbe5⟩ := pb_6.open3
    go_wp2_with fail
    refine (fSign_is _ _ _ 0 _ _ (by omega) fb_9 rfl).mono ?_
    rintro e w9 ⟨rfl, hb9⟩
    clear pbe0 pbe1 pbe2 pbe3 pbe4 pbe5
    have hB_9 := hB_8.trans (hb9.mono hB_8.size)
    have fa_10 := fa_9.below hb9
    have fb_10 := fb_9.below hb9
    have pa_8 := pa_7.below hb9
    have pb_7 := pb_6.below hb9
    have f1_4 := f1_3.below hb9
    have pq_3 := pq_2.below hb9
    have f2_2 := f2_1.below hb9
    have pf_1 := pf_0.below hb9
    clear hb9 hB_8 fa_9 fb_9 pa_7 pb_6 f1_3 pq_2 f2_1 pf_0
    obtain ⟨pbe0, pbe1, pbe2, pbe3, pbe4, pbe5⟩ := pb_7.open3
    clear pbe0 pbe1 pbe2 pbe3 pbe4 pbe5
    obtain ⟨pqe0, pqe1, pqe2, pqe3, pqe4, pqe5⟩ := pq_3.open3
    obtain ⟨pfe0, pfe1, pfe2, pfe3, pfe4, pfe5⟩ := pf_1.open3
    go_wp2_with fail
    refine (qSign _ _ _ _ (by omega) f1_4.q 0 rfl).mono ?_
    rintro e w10 ⟨rfl, hb10⟩
    clear pqe0 pqe1 pqe2 pqe3 pqe4 pqe5 pfe0 pfe1 pfe2 pfe3 pfe4 pfe5
    have hB_10 := hB_9.trans (hb10.mono hB_9.size)
    have fa_11 := fa_10.below hb10
    have fb_11 := fb_10.below hb10
    have pa_9 := pa_8.below hb10
    have pb_8 := pb_7.below hb10
    have f1_5 := f1_4.below hb10
    have pq_4 := pq_3.below hb10
    have f2_3 := f2_2.below hb10
    have pf_2 := pf_1.below hb10
    clear hb10 hB_9 fa_10 fb_10 pa_8 pb_7 f1_4 pq_3 f2_2 pf_1
    obtain ⟨pqe0, pqe1, pqe2, pqe3, pqe4, pqe5⟩ := pq_4.open3
    obtain ⟨pfe0, pfe1, pfe2, pfe3, pfe4, pfe5⟩ := pf_2.open3
    go_wp2_with fail
    refine (qSign _ _ _ _ (by omega) f2_3.q 0 rfl).mono ?_
    rintro e w11 ⟨rfl, hb11⟩
    clear pqe0 pqe1 pqe2 pqe3 pqe4 pqe5 pfe0 pfe1 pfe2 pfe3 pfe4 pfe5
    have hB_11 := hB_10.trans (hb11.mono hB_10.size)
    have fa_12 := fa_11.below hb11
    have fb_12 := fb_11.below hb11
    have pa_10 := pa_9.below hb11
    have pb_9 := pb_8.below hb11
    have f1_6 := f1_5.below hb11
    have pq_5 := pq_4.below hb11
    have f2_4 := f2_3.below hb11
    have pf_3 := pf_2.below hb11
    clear hb11 hB_10 fa_11 fb_11 pa_9 pb_8 f1_5 pq_4 f2_3 pf_2
    obtain ⟨pqe0, pqe1, pqe2, pqe3, pqe4, pqe5⟩ := pq_5.open3
    obtain ⟨pfe0, pfe1, pfe2, pfe3, pfe4, pfe5⟩ := pf_3.open3
    go_wp2_with fail
    refine (fRight_any _ _ _ _ (by omega) f1_6).mono ?_
    rintro e w12 ⟨rfl, hb12⟩
    clear pqe0 pqe1 pqe2 pqe3 pqe4 pqe5 pfe0 pfe1 pfe2 pfe3 pfe4 pfe5
    have hB_12 := hB_11.trans (hb12.mono hB_11.size)
    have fa_13 := fa_12.below hb12
    have fb_13 := fb_12.below hb12
    have pa_11 := pa_10.below hb12
    have pb_10 := pb_9.below hb12
    have f1_7 := f1_6.below hb12
    have pq_6 := pq_5.below hb12
    have f2_5 := f2_4.below hb12
    have pf_4 := pf_3.below hb12
    clear hb12 hB_11 fa_12 fb_12 pa_10 pb_9 f1_6 pq_5 f2_4 pf_3
    obtain ⟨pqe0, pqe1, pqe2, pqe3, pqe4, pqe5⟩ := pq_6.open3
    obtain ⟨pfe0, pfe1, pfe2, pfe3, pfe4, pfe5⟩ := pf_4.open3
    go_wp2_with fail
    refine (fRight_any _ _ _ _ (by omega) f2_5).mono ?_
    rintro e w13 ⟨rfl, hb13⟩
    clear pqe0 pqe1 pqe2 pqe3 pqe4 pqe5 pfe0 pfe1 pfe2 pfe3 pfe4 pfe5
    have hB_13 := hB_12.trans (hb13.mono hB_12.size)
    have fa_14 := fa_13.below hb13
    have fb_14 := fb_13.below hb13
    have pa_12 := pa_11.below hb13
    have pb_11 := pb_10.below hb13
    have f1_8 := f1_7.below hb13
    have pq_7 := pq_6.below hb13
    have f2_6 := f2_5.below hb13
    have pf_5 := pf_4.below hb13
    clear hb13 hB_12 fa_13 fb_13 pa_11 pb_10 f1_7 pq_6 f2_5 pf_4
    obtain ⟨pqe0, pqe1, pqe2, pqe3, pqe4, pqe5⟩ := pq_7.open3
    obtain ⟨pfe0, pfe1, pfe2, pfe3, pfe4, pfe5⟩ := pf_5.open3
    go_wp2
    go_ret
    exact ⟨rfl, hB_13⟩
  · have hqb : qv Xb Db ≠ 0 := qv_ne hz
    obtain ⟨s, hs⟩ : ∃ s, Xb.sign = s := ⟨_, rfl⟩
    obtain ⟨hs1, hs2⟩ := sign_small Xb
    rw [hs] at hs1 hs2
    have hsz : (s == 0) = false := by
      simp only [beq_eq_false_iff_ne]
      intro e
      rw [e] at hs
      exact hz (Int.sign_eq_zero_iff_zero.1 hs)
    obtain ⟨pae0, pae1, pae2, pae3, pae4, pae5⟩ := pa_3.open3
    obtain ⟨pbe0, pbe1, pbe2, pbe3, pbe4, pbe5⟩ := pb_2.open3
    go_wp2_with fail
    refine (qDiv _ _ _ _ _ _ _ (by omega) (by omega) fa_5.q fb_5.q hqb).mono ?_
    rintro e w5 ⟨m1, o1, n1, c1, p1, k1, d1, rfl, f1_0, hb5⟩
    clear pae0 pae1 pae2 pae3 pae4 pae5 pbe0 pbe1 pbe2 pbe3 pbe4 pbe5
    have hB_5 := hB_4.trans (hb5.mono hB_4.size)
    have fa_6 := fa_5.below hb5
    have fb_6 := fb_5.below hb5
    have pa_4 := pa_3.below hb5
    have pb_3 := pb_2.below hb5
    clear hb5 hB_4 fa_5 fb_5 pa_3 pb_2
    obtain ⟨pae0, pae1, pae2, pae3, pae4, pae5⟩ := pa_4.open3
    obtain ⟨pbe0, pbe1, pbe2, pbe3, pbe4, pbe5⟩ := pb_3.open3
    clear pae0 pae1 pae2 pae3 pae4 pae5 pbe0 pbe1 pbe2 pbe3 pbe4 pbe5
    have hl1pa := pa_4.lt
    have hl1pb := pb_3.lt
    have hl1B := hB_5.size
    obtain ⟨w6, hw6, pq_0, hb6, hs6⟩ := new_box w5 (w5.heap.size) rfl [.bool m1, .slice o1 n1 c1, .slice p1 k1 d1] 27
    have hb6' : Below w5.heap.size w5 w6 := hb6.mono (by omega)
    clear hb6
    have hB_6 := hB_5.trans (hb6'.mono hB_5.size)
    have fa_7 := fa_6.below hb6'
    have fb_7 := fb_6.below hb6'
    have pa_5 := pa_4.below hb6'
    have pb_4 := pb_3.below hb6'
    have f1_1 := f1_0.below hb6'
    clear hb6' hB_5 fa_6 fb_6 pa_4 pb_3 f1_0
    obtain ⟨pae0, pae1, pae2, pae3, pae4, pae5⟩ := pa_5.open3
    obtain ⟨pbe0, pbe1, pbe2, pbe3, pbe4, pbe5⟩ := pb_4.open3
    go_wp2_with fail
    refine (fMake_some _ _ _ _ _ _ _ (by omega) (by omega) fa_7.num fb_7.num hz).mono ?_
    rintro e w7 ⟨m2, o2, n2, c2, p2, k2, d2, rfl, f2_0, hb7⟩
    clear pae0 pae1 pae2 pae3 pae4 pae5 pbe0 pbe1 pbe2 pbe3 pbe4 pbe5
    have hB_7 := hB_6.trans (hb7.mono hB_6.size)
    have fa_8 := fa_7.below hb7
    have fb_8 := fb_7.below hb7
    have pa_6 := pa_5.below hb7
    have pb_5 := pb_4.below hb7
    have f1_2 := f1_1.below hb7
    have pq_1 := pq_0.below hb7
    clear hb7 hB_6 fa_7 fb_7 pa_5 pb_4 f1_1 pq_0
    obtain ⟨pae0, pae1, pae2, pae3, pae4, pae5⟩ := pa_6.open3
    obtain ⟨pbe0, pbe1, pbe2, pbe3, pbe4, pbe5⟩ := pb_5.open3
    clear pae0 pae1 pae2 pae3 pae4 pae5 pbe0 pbe1 pbe2 pbe3 pbe4 pbe5
    have hl2pa := pa_6.lt
    have hl2pb := pb_5.lt
    have hl2pq := pq_1.lt
    have hl2B := hB_7.size
    obtain ⟨w8, hw8, pf_0, hb8, hs8⟩ := new_box w7 (w7.heap.size) rfl [.bool m2, .slice o2 n2 c2, .slice p2 k2 d2] 27
    have hb8' : Below w7.heap.size w7 w8 := hb8.mono (by omega)
    clear hb8
    have hB_8 := hB_7.trans (hb8'.mono hB_7.size)
    have fa_9 := fa_8.below hb8'
    have fb_9 := fb_8.below hb8'
    have pa_7 := pa_6.below hb8'
    have pb_6 := pb_5.below hb8'
    have f1_3 := f1_2.below hb8'
    have pq_2 := pq_1.below hb8'
    have f2_1 := f2_0.below hb8'
    clear hb8' hB_7 fa_8 fb_8 pa_6 pb_5 f1_2 pq_1 f2_0
    obtain ⟨pbe0, pbe1, pbe2, pbe3, pbe4, pbe5⟩ := pb_6.open3
    go_wp2_with fail
    refine (fSign_is _ _ _ s _ _ (by omega) fb_9 hs).mono ?_
    rintro e w9 ⟨rfl, hb9⟩
    clear pbe0 pbe1 pbe2 pbe3 pbe4 pbe5
    have hB_9 := hB_8.trans (hb9.mono hB_8.size)
    have fa_10 := fa_9.below hb9
    have fb_10 := fb_9.below hb9
    have pa_8 := pa_7.below hb9
    have pb_7 := pb_6.below hb9
    have f1_4 := f1_3.below hb9
    have pq_3 := pq_2.below hb9
    have f2_2 := f2_1.below hb9
    have pf_1 := pf_0.below hb9
    clear hb9 hB_8 fa_9 fb_9 pa_7 pb_6 f1_3 pq_2 f2_1 pf_0
    obtain ⟨pbe0, pbe1, pbe2, pbe3, pbe4, pbe5⟩ := pb_7.open3
    clear pbe0 pbe1 pbe2 pbe3 pbe4 pbe5
    obtain ⟨pbe0, pbe1, pbe2, pbe3, pbe4, pbe5⟩ := pb_7.open3
    go_wp2_with fail
    refine (Sign_is _ _ _ s _ (by omega) fb_10.num hs).mono ?_
    rintro e w10 ⟨rfl, hb10⟩
    clear pbe0 pbe1 pbe2 pbe3 pbe4 pbe5
    have hB_10 := hB_9.trans (hb10.mono hB_9.size)
    have fa_11 := fa_10.below hb10
    have fb_11 := fb_10.below hb10
    have pa_9 := pa_8.below hb10
    have pb_8 := pb_7.below hb10
    have f1_5 := f1_4.below hb10
    have pq_4 := pq_3.below hb10
    have f2_3 := f2_2.below hb10
    have pf_2 := pf_1.below hb10
    clear hb10 hB_9 fa_10 fb_10 pa_8 pb_7 f1_4 pq_3 f2_2 pf_1
    obtain ⟨pbe0, pbe1, pbe2, pbe3, pbe4, pbe5⟩ := pb_8.open3
    go_wp2_with fail
    refine (nOf_any s (by omega) (by omega) _).mono ?_
    rintro e w11 ⟨m3, o3, n3, c3, rfl, f3_0, hb11⟩
    clear pbe0 pbe1 pbe2 pbe3 pbe4 pbe5
    have hB_11 := hB_10.trans (hb11.mono hB_10.size)
    have fa_12 := fa_11.below hb11
    have fb_12 := fb_11.below hb11
    have pa_10 := pa_9.below hb11
    have pb_9 := pb_8.below hb11
    have f1_6 := f1_5.below hb11
    have pq_5 := pq_4.below hb11
    have f2_4 := f2_3.below hb11
    have pf_3 := pf_2.below hb11
    clear hb11 hB_10 fa_11 fb_11 pa_9 pb_8 f1_5 pq_4 f2_3 pf_2
    obtain ⟨pbe0, pbe1, pbe2, pbe3, pbe4, pbe5⟩ := pb_9.open3
    clear pbe0 pbe1 pbe2 pbe3 pbe4 pbe5
    have hl3pa := pa_10.lt
    have hl3pb := pb_9.lt
    have hl3pq := pq_5.lt
    have hl3pf := pf_3.lt
    have hl3B := hB_11.size
    obtain ⟨w12, hw12, ps_0, hb12, hs12⟩ := new_box w11 (w11.heap.size) rfl [.bool m3, .slice o3 n3 c3] 25
    have hb12' : Below w11.heap.size w11 w12 := hb12.mono (by omega)
    clear hb12
    have hB_12 := hB_11.trans (hb12'.mono hB_11.size)
    have fa_13 := fa_12.below hb12'
    have fb_13 := fb_12.below hb12'
    have pa_11 := pa_10.below hb12'
    have pb_10 := pb_9.below hb12'
    have f1_7 := f1_6.below hb12'
    have pq_6 := pq_5.below hb12'
    have f2_5 := f2_4.below hb12'
    have pf_4 := pf_3.below hb12'
    have f3_1 := f3_0.below hb12'
    clear hb12' hB_11 fa_12 fb_12 pa_10 pb_9 f1_6 pq_5 f2_4 pf_3 f3_0
    go_wp2
    try rw [hw12]
    have hB_13 := hB_12.drew'
    have fa_14 := fa_13.drew
    have fb_14 := fb_13.drew
    have pa_12 := pa_11.drew
    have pb_11 := pb_10.drew
    have f1_8 := f1_7.drew
    have pq_7 := pq_6.drew
    have f2_6 := f2_5.drew
    have pf_5 := pf_4.drew
    have f3_2 := f3_1.drew
    have ps_1 := ps_0.drew
    clear hB_12 fa_13 fb_13 pa_11 pb_10 f1_7 pq_6 f2_5 pf_4 f3_1 ps_0
    go_region_held3 (fun w' => w'.cell? ⟨w.heap.size, 0, none⟩ = some (.bool am) ∧ w'.cell? ⟨w.heap.size, 1, none⟩ = some (.slice ao an ac) ∧ w'.cell? ⟨w.heap.size, 2, none⟩ = some (.slice ap ak ad) ∧ w'.cell? ⟨w.heap.size + 1, 0, none⟩ = some (.bool bm) ∧ w'.cell? ⟨w.heap.size + 1, 1, none⟩ = some (.slice bo bn bc) ∧ w'.cell? ⟨w.heap.size + 1, 2, none⟩ = some (.slice bp bk bd) ∧ w'.cell? ⟨w5.heap.size, 0, none⟩ = some (.bool m1) ∧ w'.cell? ⟨w5.heap.size, 1, none⟩ = some (.slice o1 n1 c1) ∧ w'.cell? ⟨w5.heap.size, 2, none⟩ = some (.slice p1 k1 d1) ∧ w'.cell? ⟨w7.heap.size, 0, none⟩ = some (.bool m2) ∧ w'.cell? ⟨w7.heap.size, 1, none⟩ = some (.slice o2 n2 c2) ∧ w'.cell? ⟨w7.heap.size, 2, none⟩ = some (.slice p2 k2 d2) ∧ w'.cell? ⟨w11.heap.size, 0, none⟩ = some (.bool m3) ∧ w'.cell? ⟨w11.heap.size, 1, none⟩ = some (.slice o3 n3 c3))
      (first | with_reducible exact ⟨pa_12.c0, pa_12.c1, pa_12.c2, pb_11.c0, pb_11.c1, pb_11.c2, pq_7.c0, pq_7.c1, pq_7.c2, pf_5.c0, pf_5.c1, pf_5.c2, ps_1.c0, ps_1.c1⟩ | with_reducible exact ⟨pa_13.c0, pa_13.c1, pa_13.c2, pb_12.c0, pb_12.c1, pb_12.c2, pq_8.c0, pq_8.c1, pq_8.c2, pf_6.c0, pf_6.c1, pf_6.c2, ps_2.c0, ps_2.c1⟩ | with_reducible exact ⟨pa_14.c0, pa_14.c1, pa_14.c2, pb_13.c0, pb_13.c1, pb_13.c2, pq_9.c0, pq_9.c1, pq_9.c2, pf_7.c0, pf_7.c1, pf_7.c2, ps_3.c0, ps_3.c1⟩ | with_reducible exact ⟨pa_15.c0, pa_15.c1, pa_15.c2, pb_14.c0, pb_14.c1, pb_14.c2, pq_10.c0, pq_10.c1, pq_10.c2, pf_8.c0, pf_8.c1, pf_8.c2, ps_4.c0, ps_4.c1⟩ | with_reducible exact ⟨pa_16.c0, pa_16.c1, pa_16.c2, pb_15.c0, pb_15.c1, pb_15.c2, pq_11.c0, pq_11.c1, pq_11.c2, pf_9.c0, pf_9.c1, pf_9.c2, ps_5.c0, ps_5.c1⟩ | with_reducible exact ⟨pa_17.c0, pa_17.c1, pa_17.c2, pb_16.c0, pb_16.c1, pb_16.c2, pq_12.c0, pq_12.c1, pq_12.c2, pf_10.c0, pf_10.c1, pf_10.c2, ps_6.c0, ps_6.c1⟩ | with_reducible exact ⟨pa_18.c0, pa_18.c1, pa_18.c2, pb_17.c0, pb_17.c1, pb_17.c2, pq_13.c0, pq_13.c1, pq_13.c2, pf_11.c0, pf_11.c1, pf_11.c2, ps_7.c0, ps_7.c1⟩ | fail)
      (first
        | (go_at_call 28; (with_reducible refine (fRight_any _ _ _ _ (by omega) f1_8).mono ?_); rintro e w13 ⟨rfl, hb13⟩; have hB_14 := hB_13.trans (hb13.mono hB_13.size); have fa_15 := fa_14.below hb13; have fb_15 := fb_14.below hb13; have pa_13 := pa_12.below hb13; have pb_12 := pb_11.below hb13; have f1_9 := f1_8.below hb13; have pq_8 := pq_7.below hb13; have f2_7 := f2_6.below hb13; have pf_6 := pf_5.below hb13; have f3_3 := f3_2.below hb13; have ps_2 := ps_1.below hb13; clear hb13 hB_13 fa_14 fb_14 pa_12 pb_11 f1_8 pq_7 f2_6 pf_5 f3_2 ps_1)
        | (go_at_call 18; (with_reducible refine (qMul _ _ _ _ _ _ _ (by omega) (by omega) f1_9.q fb_15.q).mono ?_); rintro e w14 ⟨m4, o4, n4, c4, p4, k4, d4, rfl, f4_0, hb14⟩; have hB_15 := hB_14.trans (hb14.mono hB_14.size); have fa_16 := fa_15.below hb14; have fb_16 := fb_15.below hb14; have pa_14 := pa_13.below hb14; have pb_13 := pb_12.below hb14; have f1_10 := f1_9.below hb14; have pq_9 := pq_8.below hb14; have f2_8 := f2_7.below hb14; have pf_7 := pf_6.below hb14; have f3_4 := f3_3.below hb14; have ps_3 := ps_2.below hb14; clear hb14 hB_14 fa_15 fb_15 pa_13 pb_12 f1_9 pq_8 f2_7 pf_6 f3_3 ps_2)
        | (go_at_call 25; (with_reducible refine (qSame_yes _ _ _ _ _ _ _ (by omega) (by omega) f4_0.q fa_16.q (Rat.div_mul_cancel hqb)).mono ?_); rintro e w15 ⟨rfl, hb15⟩; have hB_16 := hB_15.trans (hb15.mono hB_15.size); have fa_17 := fa_16.below hb15; have fb_17 := fb_16.below hb15; have pa_15 := pa_14.below hb15; have pb_14 := pb_13.below hb15; have f1_11 := f1_10.below hb15; have pq_10 := pq_9.below hb15; have f2_9 := f2_8.below hb15; have pf_8 := pf_7.below hb15; have f3_5 := f3_4.below hb15; have ps_4 := ps_3.below hb15; have f4_1 := f4_0.below hb15; clear hb15 hB_15 fa_16 fb_16 pa_14 pb_13 f1_10 pq_9 f2_8 pf_7 f3_4 ps_3 f4_0)
        | (go_at_call 12; (with_reducible refine (nMul_any _ _ _ _ _ _ _ (by omega) (by omega) fa_17.num f3_5.num).mono ?_); rintro e w16 ⟨m5, o5, n5, c5, rfl, f5_0, hb16⟩; have hB_17 := hB_16.trans (hb16.mono hB_16.size); have fa_18 := fa_17.below hb16; have fb_18 := fb_17.below hb16; have pa_16 := pa_15.below hb16; have pb_15 := pb_14.below hb16; have f1_12 := f1_11.below hb16; have pq_11 := pq_10.below hb16; have f2_10 := f2_9.below hb16; have pf_9 := pf_8.below hb16; have f3_6 := f3_5.below hb16; have ps_5 := ps_4.below hb16; have f4_2 := f4_1.below hb16; clear hb16 hB_16 fa_17 fb_17 pa_15 pb_14 f1_11 pq_10 f2_9 pf_8 f3_5 ps_4 f4_1)
        | (go_at_call 12; (with_reducible refine (nMul_any _ _ _ _ _ _ _ (by omega) (by omega) fb_18.num f3_6.num).mono ?_); rintro e w17 ⟨m6, o6, n6, c6, rfl, f6_0, hb17⟩; have hB_18 := hB_17.trans (hb17.mono hB_17.size); have fa_19 := fa_18.below hb17; have fb_19 := fb_18.below hb17; have pa_17 := pa_16.below hb17; have pb_16 := pb_15.below hb17; have f1_13 := f1_12.below hb17; have pq_12 := pq_11.below hb17; have f2_11 := f2_10.below hb17; have pf_10 := pf_9.below hb17; have f3_7 := f3_6.below hb17; have ps_6 := ps_5.below hb17; have f4_3 := f4_2.below hb17; have f5_1 := f5_0.below hb17; clear hb17 hB_17 fa_18 fb_18 pa_16 pb_15 f1_12 pq_11 f2_10 pf_9 f3_6 ps_5 f4_2 f5_0)
        | (go_at_call 13; (with_reducible refine (fis_any _ _ _ _ _ _ _ _ _ _ (by omega) (by omega) (by omega) f2_11 f5_1.num f6_0.num (make_cross Xa Xb s hz hs)).mono ?_); rintro e w18 ⟨rfl, hb18⟩; have hB_19 := hB_18.trans (hb18.mono hB_18.size); have fa_20 := fa_19.below hb18; have fb_20 := fb_19.below hb18; have pa_18 := pa_17.below hb18; have pb_17 := pb_16.below hb18; have f1_14 := f1_13.below hb18; have pq_13 := pq_12.below hb18; have f2_12 := f2_11.below hb18; have pf_11 := pf_10.below hb18; have f3_8 := f3_7.below hb18; have ps_7 := ps_6.below hb18; have f4_4 := f4_3.below hb18; have f5_2 := f5_1.below hb18; have f6_1 := f6_0.below hb18; clear hb18 hB_18 fa_19 fb_19 pa_17 pb_16 f1_13 pq_12 f2_11 pf_10 f3_7 ps_6 f4_3 f5_1 f6_0))
    go_wp2
    go_ret
    exact ⟨rfl, hB_19⟩
end Go.Proofs.Ytmbmeapodhngaaa
