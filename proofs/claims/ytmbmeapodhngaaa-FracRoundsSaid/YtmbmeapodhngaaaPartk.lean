/- The helpers of layer 3's statements, on: below, Right, is, fit. -/
import Derived.Test.YtmbmeapodhngaaaPartj
namespace Go.Proofs.Ytmbmeapodhngaaa
open Go.RowKit Go.MagM
theorem len_is (va : Value) (L X : Nat) (k : Int) (w : World) (hL : L ≤ 4000000000) (ha : Mag w va L X) (h : ((bl X : Nat) : Int) = k) : Calls Try.prog 37 #[va] w fun e w' => e = .returned (.int .i64 k) ∧ Below w.heap.size w w' :=
  (Len_any va L X w hL ha).mono fun e w' ⟨h1, h2⟩ => ⟨by rw [h1, h], by subst h2; exact Below.refl _ _⟩
set_option maxHeartbeats 4000000 in
theorem below_zero (am : Bool) (ao : Option Addr) (an ac : Nat) (ap : Option Addr) (ak ad : Nat) (L : Nat) (X : Int) (D : Nat) (w : World) (hL : L ≤ 100000000) (fa_0 : FD w (.agg #[.bool am, .slice ao an ac, .slice ap ak ad]) L X D) (h0 : D = 0) :
    Calls Try.prog 11 #[.agg #[.bool am, .slice ao an ac, .slice ap ak ad]] w fun e w' => AnsNum w w' e (max L 1) (den1 D : Nat) := by
  have hB_0 := Below.refl w.heap.size w
  have _ := hL
  subst h0
  obtain ⟨w1, hw1, pa_0, hb1, hs1⟩ := new_box w (w.heap.size) rfl [.bool am, .slice ao an ac, .slice ap ak ad] 27
  have hb1' : Below w.heap.size w w1 := hb1.mono (by omega)
  clear hb1
  have hB_1 := hB_0.trans (hb1'.mono hB_0.size)
  have fa_1 := fa_0.below hb1'
  clear hb1' hB_0 fa_0
  obtain ⟨w2, hw2, pr_0, hb2, hs2⟩ := new_box w1 (w.heap.size + 1) hs1 [.bool false, .slice none 0 0] 25
  have hb2' : Below w1.heap.size w1 w2 := hb2.mono (by omega)
  clear hb2
  have hB_2 := hB_1.trans (hb2'.mono hB_1.size)
  have fa_2 := fa_1.below hb2'
  have pa_1 := pa_0.below hb2'
  clear hb2' hB_1 fa_1 pa_0
  go_enter Try.func11, Try.ntmps11
  obtain ⟨pae0, pae1, pae2, pae3, pae4, pae5⟩ := pa_1.open3
  go_wp2_with fail
  refine (len_is _ L 0 0 _ (by omega) fa_2.mag rfl).mono ?_
  rintro e w3 ⟨rfl, hb3⟩
  clear pae0 pae1 pae2 pae3 pae4 pae5
  have hB_3 := hB_2.trans (hb3.mono hB_2.size)
  have fa_3 := fa_2.below hb3
  have pa_2 := pa_1.below hb3
  have pr_1 := pr_0.below hb3
  clear hb3 hB_2 fa_2 pa_1 pr_0
  obtain ⟨pae0, pae1, pae2, pae3, pae4, pae5⟩ := pa_2.open3
  clear pae0 pae1 pae2 pae3 pae4 pae5
  go_wp2_with fail
  refine (nOf_any 1 (by omega) (by omega) _).mono ?_
  rintro e w4 ⟨m1, o1, n1, c1, rfl, f1_0, hb4⟩
  have hB_4 := hB_3.trans (hb4.mono hB_3.size)
  have fa_4 := fa_3.below hb4
  have pa_3 := pa_2.below hb4
  have pr_2 := pr_1.below hb4
  clear hb4 hB_3 fa_3 pa_2 pr_1
  obtain ⟨sf4a, sf4b, sf4c, sf4d⟩ := pr_2.open2
  obtain ⟨sg4a, sg4b⟩ := Box.put2 pr_2 (.bool m1)
  go_wp2
  clear sf4a sf4b sf4c sf4d sg4a sg4b
  have hB_5 := below_setAll hB_4 (g := w.heap.size + 1) (by omega) [.bool m1, .slice o1 n1 c1]
  have fa_5 := fa_4.setAll pr_2 (noWord2 _ _ _ _) [.bool m1, .slice o1 n1 c1] rfl
  have pa_4 := pa_3.farAll (g' := w.heap.size + 1) (by omega) [.bool m1, .slice o1 n1 c1]
  have f1_1 := f1_0.setAll pr_2 (noWord2 _ _ _ _) [.bool m1, .slice o1 n1 c1] rfl
  have pr_3 := pr_2.setAll [.bool m1, .slice o1 n1 c1] rfl
  simp only [setAll, Nat.zero_add] at hB_5 fa_5 pa_4 pr_3 f1_1
  clear hB_4 fa_4 pa_3 f1_0 pr_2
  generalize (World.setCell (World.setCell w4 ⟨w.heap.size + 1, 0, none⟩ (.bool m1)) ⟨w.heap.size + 1, 1, none⟩ (.slice o1 n1 c1)) = w5 at *
  go_wp2
  obtain ⟨pre0, pre1, pre2, pre3⟩ := pr_3.open2
  exact bodyPost_ret (v := .agg #[.bool m1, .slice o1 n1 c1]) (by simp [results, Try.results11, go_sem, pre0, pre1]) rfl ⟨_, _, _, _, rfl, f1_1.more (by omega), hB_5⟩
set_option maxHeartbeats 4000000 in
theorem below_some (am : Bool) (ao : Option Addr) (an ac : Nat) (ap : Option Addr) (ak ad : Nat) (L : Nat) (X : Int) (D : Nat) (w : World) (hL : L ≤ 100000000) (fa_0 : FD w (.agg #[.bool am, .slice ao an ac, .slice ap ak ad]) L X D) (h0 : D ≠ 0) :
    Calls Try.prog 11 #[.agg #[.bool am, .slice ao an ac, .slice ap ak ad]] w fun e w' => AnsNum w w' e (max L 1) (den1 D : Nat) := by
  have hB_0 := Below.refl w.heap.size w
  have hz : (((bl D : Nat) : Int) == 0) = false := bl_ne h0
  obtain ⟨w1, hw1, pa_0, hb1, hs1⟩ := new_box w (w.heap.size) rfl [.bool am, .slice ao an ac, .slice ap ak ad] 27
  have hb1' : Below w.heap.size w w1 := hb1.mono (by omega)
  clear hb1
  have hB_1 := hB_0.trans (hb1'.mono hB_0.size)
  have fa_1 := fa_0.below hb1'
  clear hb1' hB_0 fa_0
  obtain ⟨w2, hw2, pr_0, hb2, hs2⟩ := new_box w1 (w.heap.size + 1) hs1 [.bool false, .slice none 0 0] 25
  have hb2' : Below w1.heap.size w1 w2 := hb2.mono (by omega)
  clear hb2
  have hB_2 := hB_1.trans (hb2'.mono hB_1.size)
  have fa_2 := fa_1.below hb2'
  have pa_1 := pa_0.below hb2'
  clear hb2' hB_1 fa_1 pa_0
  go_enter Try.func11, Try.ntmps11
  obtain ⟨pae0, pae1, pae2, pae3, pae4, pae5⟩ := pa_1.open3
  go_wp2_with fail
  refine (len_is _ L D _ _ (by omega) fa_2.mag rfl).mono ?_
  rintro e w3 ⟨rfl, hb3⟩
  clear pae0 pae1 pae2 pae3 pae4 pae5
  have hB_3 := hB_2.trans (hb3.mono hB_2.size)
  have fa_3 := fa_2.below hb3
  have pa_2 := pa_1.below hb3
  have pr_1 := pr_0.below hb3
  clear hb3 hB_2 fa_2 pa_1 pr_0
  obtain ⟨pae0, pae1, pae2, pae3, pae4, pae5⟩ := pa_2.open3
  clear pae0 pae1 pae2 pae3 pae4 pae5
  obtain ⟨pae0, pae1, pae2, pae3, pae4, pae5⟩ := pa_2.open3
  go_wp2_with fail
  refine (Make_any false _ L D _ (by omega) fa_3.mag).mono ?_
  rintro e w4 ⟨m1, o1, n1, c1, rfl, f1_0, hb4⟩
  clear pae0 pae1 pae2 pae3 pae4 pae5
  have hB_4 := hB_3.trans (hb4.mono hB_3.size)
  have fa_4 := fa_3.below hb4
  have pa_3 := pa_2.below hb4
  have pr_2 := pr_1.below hb4
  clear hb4 hB_3 fa_3 pa_2 pr_1
  obtain ⟨pae0, pae1, pae2, pae3, pae4, pae5⟩ := pa_3.open3
  obtain ⟨sf4a, sf4b, sf4c, sf4d⟩ := pr_2.open2
  obtain ⟨sg4a, sg4b⟩ := Box.put2 pr_2 (.bool m1)
  go_wp2
  clear pae0 pae1 pae2 pae3 pae4 pae5 sf4a sf4b sf4c sf4d sg4a sg4b
  have hB_5 := below_setAll hB_4 (g := w.heap.size + 1) (by omega) [.bool m1, .slice o1 n1 c1]
  have fa_5 := fa_4.setAll pr_2 (noWord2 _ _ _ _) [.bool m1, .slice o1 n1 c1] rfl
  have pa_4 := pa_3.farAll (g' := w.heap.size + 1) (by omega) [.bool m1, .slice o1 n1 c1]
  have f1_1 := f1_0.setAll pr_2 (noWord2 _ _ _ _) [.bool m1, .slice o1 n1 c1] rfl
  have pr_3 := pr_2.setAll [.bool m1, .slice o1 n1 c1] rfl
  simp only [setAll, Nat.zero_add] at hB_5 fa_5 pa_4 pr_3 f1_1
  clear hB_4 fa_4 pa_3 f1_0 pr_2
  generalize (World.setCell (World.setCell w4 ⟨w.heap.size + 1, 0, none⟩ (.bool m1)) ⟨w.heap.size + 1, 1, none⟩ (.slice o1 n1 c1)) = w5 at *
  go_wp2
  obtain ⟨pre0, pre1, pre2, pre3⟩ := pr_3.open2
  exact bodyPost_ret (v := .agg #[.bool m1, .slice o1 n1 c1]) (by simp [results, Try.results11, go_sem, pre0, pre1]) rfl ⟨_, _, _, _, rfl, (RNum.of f1_1 (by rw [den1_of h0]; rfl)).more (by omega), hB_5⟩
theorem below_any (va : Value) (L : Nat) (X : Int) (D : Nat) (w : World) (hL : L ≤ 100000000) (ha : FD w va L X D) : Calls Try.prog 11 #[va] w fun e w' => AnsNum w w' e (max L 1) (den1 D : Nat) := by
  have ha' := ha
  obtain ⟨_, _, _, _, _, _, _, rfl, _, _⟩ := ha
  by_cases h0 : D = 0
  · exact below_zero _ _ _ _ _ _ _ L X D w hL ha' h0
  · exact below_some _ _ _ _ _ _ _ L X D w hL ha' h0
set_option maxHeartbeats 4000000 in
theorem fRight_core (am : Bool) (ao : Option Addr) (an ac : Nat) (b o k d : Nat) (x : Nat) (L : Nat) (X : Int) (D : Nat) (w : World) (hk : k + 1 ≤ 4000000000) (hL : L ≤ 100000000) (h0 : x ≠ 0) (fa_0 : RNum w (.agg #[.bool am, .slice ao an ac]) L X) (fd_0 : RMag w (.slice (some ⟨b, o, none⟩) (k + 1) d) L D) (wc_0 : WCell w b (o + k) x) (hgcd : Nat.gcd X.natAbs D = 1) :
    Calls Try.prog 28 #[.agg #[.bool am, .slice ao an ac, .slice (some ⟨b, o, none⟩) (k + 1) d]] w fun e w' => e = .returned (.bool true) ∧ Below w.heap.size w w' := by
  have hB_0 := Below.refl w.heap.size w
  have hx1 : ((x : Int) != 0) = true := by simp; omega
  have hk1 : (0 : Int) < (k : Int) + 1 := by omega
  have hk2 : IntKind.i64.wrap ((k : Int) + 1 - 1) = (k : Int) := by rw [IntWalk.i64_in _ (by omega)]; omega
  have hk3 : (0 : Int) ≤ (k : Int) := by omega
  have hk4 : (k : Int) < (k : Int) + 1 := by omega
  obtain ⟨N, fn_0, hX, _⟩ := fa_0.part
  have hg : Nat.gcd N D = 1 := by rw [← hgcd, hX, sgn_natAbs]
  obtain ⟨w1, hw1, pa_0, hb1, hs1⟩ := new_box w (w.heap.size) rfl [.bool am, .slice ao an ac, .slice (some ⟨b, o, none⟩) (k + 1) d] 27
  have hb1' : Below w.heap.size w w1 := hb1.mono (by omega)
  clear hb1
  have hB_1 := hB_0.trans (hb1'.mono hB_0.size)
  have fa_1 := fa_0.below hb1'
  have fd_1 := fd_0.below hb1'
  have wc_1 := wc_0.below hb1'
  have fn_1 := fn_0.below hb1'
  clear hb1' hB_0 fa_0 fd_0 wc_0 fn_0
  go_enter Try.func28, Try.ntmps28
  obtain ⟨pae0, pae1, pae2, pae3, pae4, pae5⟩ := pa_0.open3
  have wce := wc_1.c
  go_wp2_with fail
  refine (Right_any _ L X _ (by omega) fa_1).mono ?_
  rintro e w2 ⟨rfl, hb2⟩
  clear pae0 pae1 pae2 pae3 pae4 pae5 wce
  have hB_2 := hB_1.trans (hb2.mono hB_1.size)
  have fa_2 := fa_1.below hb2
  have fd_2 := fd_1.below hb2
  have wc_2 := wc_1.below hb2
  have fn_2 := fn_1.below hb2
  have pa_1 := pa_0.below hb2
  clear hb2 hB_1 fa_1 fd_1 wc_1 fn_1 pa_0
  obtain ⟨pae0, pae1, pae2, pae3, pae4, pae5⟩ := pa_1.open3
  have wce := wc_2.c
  go_wp2_with fail
  refine (Gcd_any _ _ L L N D _ (by omega) (by omega) fn_2.mag fd_2.mag).mono ?_
  rintro e w3 ⟨v1, rfl, f1_0, hb3⟩
  clear pae0 pae1 pae2 pae3 pae4 pae5 wce
  have hB_3 := hB_2.trans (hb3.mono hB_2.size)
  have fa_3 := fa_2.below hb3
  have fd_3 := fd_2.below hb3
  have wc_3 := wc_2.below hb3
  have fn_3 := fn_2.below hb3
  have pa_2 := pa_1.below hb3
  clear hb3 hB_2 fa_2 fd_2 wc_2 fn_2 pa_1
  obtain ⟨pae0, pae1, pae2, pae3, pae4, pae5⟩ := pa_2.open3
  obtain ⟨o1, n1, c1, rfl⟩ := f1_0.slice
  go_wp2_with fail
  refine (len_is _ (max L L) (Nat.gcd N D) 1 _ (by omega) f1_0.mag (by rw [hg]; unfold bl; decide)).mono ?_
  rintro e w4 ⟨rfl, hb4⟩
  clear pae0 pae1 pae2 pae3 pae4 pae5
  have hB_4 := hB_3.trans (hb4.mono hB_3.size)
  have fa_4 := fa_3.below hb4
  have fd_4 := fd_3.below hb4
  have wc_4 := wc_3.below hb4
  have fn_4 := fn_3.below hb4
  have pa_3 := pa_2.below hb4
  have f1_1 := f1_0.below hb4
  clear hb4 hB_3 fa_3 fd_3 wc_3 fn_3 pa_2 f1_0
  obtain ⟨pae0, pae1, pae2, pae3, pae4, pae5⟩ := pa_3.open3
  go_wp2
  go_ret
  exact ⟨rfl, hB_4⟩
theorem fRight_any (va : Value) (L : Nat) (q : Rat) (w : World) (hL : L ≤ 100000000) (ha : RF w va L q) : Calls Try.prog 28 #[va] w fun e w' => e = .returned (.bool true) ∧ Below w.heap.size w w' := by
  obtain ⟨am, ao, an, ac, bo, bn, bc, rfl, h1, h2⟩ := ha
  obtain ⟨b, o, k, x, rfl, rfl, h3, h4, h5⟩ := h2.top q.den_nz
  exact fRight_core am ao an ac b o k bc x L q.num q.den w (by omega) hL h4 h1 h2 h5 q.reduced
set_option maxHeartbeats 4000000 in
theorem is_core (am : Bool) (ao : Option Addr) (an ac : Nat) (ap : Option Addr) (ak ad : Nat) (nm : Bool) (no : Option Addr) (nn nc : Nat) (zm : Bool) (zo : Option Addr) (zn zc : Nat) (L M H : Nat) (q : Rat) (X Y : Int) (w : World) (hL : L ≤ 100000000) (hM : M ≤ 100000000) (hH : H ≤ 100000000) (fa_0 : RF w (.agg #[.bool am, .slice ao an ac, .slice ap ak ad]) L q) (fn_0 : Num w (.agg #[.bool nm, .slice no nn nc]) M X) (fd_0 : Num w (.agg #[.bool zm, .slice zo zn zc]) H Y) (h : q.num * Y = X * q.den) :
    Calls Try.prog 13 #[.agg #[.bool am, .slice ao an ac, .slice ap ak ad], .agg #[.bool nm, .slice no nn nc], .agg #[.bool zm, .slice zo zn zc]] w fun e w' => e = .returned (.bool true) ∧ Below w.heap.size w w' := by
  have hB_0 := Below.refl w.heap.size w
  obtain ⟨w1, hw1, pa_0, hb1, hs1⟩ := new_box w (w.heap.size) rfl [.bool am, .slice ao an ac, .slice ap ak ad] 27
  have hb1' : Below w.heap.size w w1 := hb1.mono (by omega)
  clear hb1
  have hB_1 := hB_0.trans (hb1'.mono hB_0.size)
  have fa_1 := fa_0.below hb1'
  have fn_1 := fn_0.below hb1'
  have fd_1 := fd_0.below hb1'
  clear hb1' hB_0 fa_0 fn_0 fd_0
  obtain ⟨w2, hw2, pn_0, hb2, hs2⟩ := new_box w1 (w.heap.size + 1) hs1 [.bool nm, .slice no nn nc] 25
  have hb2' : Below w1.heap.size w1 w2 := hb2.mono (by omega)
  clear hb2
  have hB_2 := hB_1.trans (hb2'.mono hB_1.size)
  have fa_2 := fa_1.below hb2'
  have fn_2 := fn_1.below hb2'
  have fd_2 := fd_1.below hb2'
  have pa_1 := pa_0.below hb2'
  clear hb2' hB_1 fa_1 fn_1 fd_1 pa_0
  obtain ⟨w3, hw3, pd_0, hb3, hs3⟩ := new_box w2 (w.heap.size + 1 + 1) hs2 [.bool zm, .slice zo zn zc] 25
  have hb3' : Below w2.heap.size w2 w3 := hb3.mono (by omega)
  clear hb3
  have hB_3 := hB_2.trans (hb3'.mono hB_2.size)
  have fa_3 := fa_2.below hb3'
  have fn_3 := fn_2.below hb3'
  have fd_3 := fd_2.below hb3'
  have pa_2 := pa_1.below hb3'
  have pn_1 := pn_0.below hb3'
  clear hb3' hB_2 fa_2 fn_2 fd_2 pa_1 pn_0
  go_enter Try.func13, Try.ntmps13
  go_wp2
  have hB_4 := hB_3.drew'
  have fa_4 := fa_3.drew
  have fn_4 := fn_3.drew
  have fd_4 := fd_3.drew
  have pa_3 := pa_2.drew
  have pn_2 := pn_1.drew
  have pd_1 := pd_0.drew
  clear hB_3 fa_3 fn_3 fd_3 pa_2 pn_1 pd_0
  go_region_held3 (fun w' => w'.cell? ⟨w.heap.size, 0, none⟩ = some (.bool am) ∧ w'.cell? ⟨w.heap.size, 1, none⟩ = some (.slice ao an ac) ∧ w'.cell? ⟨w.heap.size, 2, none⟩ = some (.slice ap ak ad) ∧ w'.cell? ⟨w.heap.size + 1, 0, none⟩ = some (.bool nm) ∧ w'.cell? ⟨w.heap.size + 1, 1, none⟩ = some (.slice no nn nc) ∧ w'.cell? ⟨w.heap.size + 1 + 1, 0, none⟩ = some (.bool zm) ∧ w'.cell? ⟨w.heap.size + 1 + 1, 1, none⟩ = some (.slice zo zn zc))
    (first | with_reducible exact ⟨pa_3.c0, pa_3.c1, pa_3.c2, pn_2.c0, pn_2.c1, pd_1.c0, pd_1.c1⟩ | with_reducible exact ⟨pa_4.c0, pa_4.c1, pa_4.c2, pn_3.c0, pn_3.c1, pd_2.c0, pd_2.c1⟩ | with_reducible exact ⟨pa_5.c0, pa_5.c1, pa_5.c2, pn_4.c0, pn_4.c1, pd_3.c0, pd_3.c1⟩ | with_reducible exact ⟨pa_6.c0, pa_6.c1, pa_6.c2, pn_5.c0, pn_5.c1, pd_4.c0, pd_4.c1⟩ | with_reducible exact ⟨pa_7.c0, pa_7.c1, pa_7.c2, pn_6.c0, pn_6.c1, pd_5.c0, pd_5.c1⟩ | with_reducible exact ⟨pa_8.c0, pa_8.c1, pa_8.c2, pn_7.c0, pn_7.c1, pd_6.c0, pd_6.c1⟩ | fail)
    (first
      | (go_at_call 28; (with_reducible refine (fRight_any _ L q _ (by omega) fa_4).mono ?_); rintro e w4 ⟨rfl, hb4⟩; have hB_5 := hB_4.trans (hb4.mono hB_4.size); have fa_5 := fa_4.below hb4; have fn_5 := fn_4.below hb4; have fd_5 := fd_4.below hb4; have pa_4 := pa_3.below hb4; have pn_3 := pn_2.below hb4; have pd_2 := pd_1.below hb4; clear hb4 hB_4 fa_4 fn_4 fd_4 pa_3 pn_2 pd_1)
      | (go_at_call 12; (with_reducible refine (nMul_any _ _ L H q.num Y _ (by omega) (by omega) fa_5.fd.num fd_5).mono ?_); rintro e w5 ⟨m1, o1, n1, c1, rfl, f1_0, hb5⟩; have hB_6 := hB_5.trans (hb5.mono hB_5.size); have fa_6 := fa_5.below hb5; have fn_6 := fn_5.below hb5; have fd_6 := fd_5.below hb5; have pa_5 := pa_4.below hb5; have pn_4 := pn_3.below hb5; have pd_3 := pd_2.below hb5; clear hb5 hB_5 fa_5 fn_5 fd_5 pa_4 pn_3 pd_2)
      | (go_at_call 11; (with_reducible refine (below_any _ L q.num q.den _ (by omega) fa_6.fd).mono ?_); rintro e w6 ⟨m2, o2, n2, c2, rfl, f2_0, hb6⟩; have hB_7 := hB_6.trans (hb6.mono hB_6.size); have fa_7 := fa_6.below hb6; have fn_7 := fn_6.below hb6; have fd_7 := fd_6.below hb6; have pa_6 := pa_5.below hb6; have pn_5 := pn_4.below hb6; have pd_4 := pd_3.below hb6; have f1_1 := f1_0.below hb6; clear hb6 hB_6 fa_6 fn_6 fd_6 pa_5 pn_4 pd_3 f1_0)
      | (go_at_call 12; (with_reducible refine (nMul_any _ _ M (max L 1) X (den1 q.den : Nat) _ (by omega) (by omega) fn_7 f2_0.num).mono ?_); rintro e w7 ⟨m3, o3, n3, c3, rfl, f3_0, hb7⟩; have hB_8 := hB_7.trans (hb7.mono hB_7.size); have fa_8 := fa_7.below hb7; have fn_8 := fn_7.below hb7; have fd_8 := fd_7.below hb7; have pa_7 := pa_6.below hb7; have pn_6 := pn_5.below hb7; have pd_5 := pd_4.below hb7; have f1_2 := f1_1.below hb7; have f2_1 := f2_0.below hb7; clear hb7 hB_7 fa_7 fn_7 fd_7 pa_6 pn_5 pd_4 f1_1 f2_0)
      | (go_at_call 22; (with_reducible refine (nCmp_is _ _ (L + H) (M + max L 1) (q.num * Y) (X * (den1 q.den : Nat)) 0 _ (by omega) (by omega) f1_2.num f3_0.num (by rw [den1_of q.den_nz, h]; exact icmp_self _)).mono ?_); rintro e w8 ⟨rfl, hb8⟩; have hB_9 := hB_8.trans (hb8.mono hB_8.size); have fa_9 := fa_8.below hb8; have fn_9 := fn_8.below hb8; have fd_9 := fd_8.below hb8; have pa_8 := pa_7.below hb8; have pn_7 := pn_6.below hb8; have pd_6 := pd_5.below hb8; have f1_3 := f1_2.below hb8; have f2_2 := f2_1.below hb8; have f3_1 := f3_0.below hb8; clear hb8 hB_8 fa_8 fn_8 fd_8 pa_7 pn_6 pd_5 f1_2 f2_1 f3_0))
  go_wp2
  go_ret
  exact ⟨rfl, hB_9⟩
theorem fis_any (va vn vd : Value) (L M H : Nat) (q : Rat) (X Y : Int) (w : World) (hL : L ≤ 100000000) (hM : M ≤ 100000000) (hH : H ≤ 100000000) (ha : RF w va L q) (hn : Num w vn M X) (hd : Num w vd H Y) (h : q.num * Y = X * q.den) :
    Calls Try.prog 13 #[va, vn, vd] w fun e w' => e = .returned (.bool true) ∧ Below w.heap.size w w' := by
  have ha' := ha
  have hn' := hn
  have hd' := hd
  obtain ⟨_, _, _, _, _, _, _, rfl, _, _⟩ := ha
  obtain ⟨_, _, _, rfl, h1, _⟩ := hn
  obtain ⟨_, _, _, rfl⟩ := h1.slice
  obtain ⟨_, _, _, rfl, h2, _⟩ := hd
  obtain ⟨_, _, _, rfl⟩ := h2.slice
  exact is_core _ _ _ _ _ _ _ _ _ _ _ _ _ _ _ L M H q X Y w hL hM hH ha' hn' hd' h
theorem fiveHalves : (((10 : Int) : Rat) / ((4 : Int) : Rat)).num = 5 ∧ (((10 : Int) : Rat) / ((4 : Int) : Rat)).den = 2 := by
  have h := make_eq false false 10 4 (by omega)
  have e1 : sgn false 10 = 10 := rfl
  have e2 : sgn false 4 = 4 := rfl
  rw [e1, e2] at h
  rw [← h]
  have e3 : (false != false) = false := rfl
  rw [e3, e1, Rat.num_mkRat, Rat.den_mkRat]
  decide
theorem fiveHalves_den {w : World} {m : Bool} {ao bo : Option Addr} {n c k d L : Nat} (h : RF w (.agg #[.bool m, .slice ao n c, .slice bo k d]) L (((10 : Int) : Rat) / ((4 : Int) : Rat))) : RMag w (.slice bo k d) L 2 := by
  obtain ⟨_, _, _, _, _, _, _, e, h1, h2⟩ := h
  simp at e
  obtain ⟨rfl, ⟨rfl, rfl, rfl⟩, rfl, rfl, rfl⟩ := e
  rw [fiveHalves.2] at h2
  exact h2
theorem fiveHalves_num : icmp (((10 : Int) : Rat) / ((4 : Int) : Rat)).num 5 = 0 := by rw [fiveHalves.1]; exact icmp_self _
theorem fiveHalves_rnd : icmp (rnd (qv (((10 : Int) : Rat) / ((4 : Int) : Rat)).num (((10 : Int) : Rat) / ((4 : Int) : Rat)).den)) 2 = 0 := by
  rw [fiveHalves.1, fiveHalves.2, ← rnd_down 5 2 (Or.inr (by decide))]
  decide
set_option maxHeartbeats 4000000 in
theorem ffit_any (w : World) : Calls Try.prog 9 #[] w fun e w' => e = .returned (.bool true) ∧ Below w.heap.size w w' := by
  have hB_0 := Below.refl w.heap.size w
  go_enter Try.func9, Try.ntmps9
  go_wp2_with fail
  refine (nOf_any 10 (by omega) (by omega) _).mono ?_
  rintro e w1 ⟨m1, o1, n1, c1, rfl, f1_0, hb1⟩
  have hB_1 := hB_0.trans (hb1.mono hB_0.size)
  clear hb1 hB_0
  go_wp2_with fail
  refine (nOf_any 4 (by omega) (by omega) _).mono ?_
  rintro e w2 ⟨m2, o2, n2, c2, rfl, f2_0, hb2⟩
  have hB_2 := hB_1.trans (hb2.mono hB_1.size)
  have f1_1 := f1_0.below hb2
  clear hb2 hB_1 f1_0
  go_wp2_with fail
  refine (fMake_some _ _ 1 1 10 4 _ (by omega) (by omega) f1_1.num f2_0.num (by omega)).mono ?_
  rintro e w3 ⟨m3, o3, n3, c3, p3, k3, d3, rfl, f3_0, hb3⟩
  have hB_3 := hB_2.trans (hb3.mono hB_2.size)
  have f1_2 := f1_1.below hb3
  have f2_1 := f2_0.below hb3
  clear hb3 hB_2 f1_1 f2_0
  obtain ⟨b3, q3, rfl, rfl, wc_0⟩ := (fiveHalves_den f3_0).lone (by omega) (by unfold B; omega)
  have hl1B := hB_3.size
  obtain ⟨w4, hw4, pq_0, hb4, hs4⟩ := new_box w3 (w3.heap.size) rfl [.bool m3, .slice o3 n3 c3, .slice (some ⟨b3, q3, none⟩) 1 d3] 27
  have hb4' : Below w3.heap.size w3 w4 := hb4.mono (by omega)
  clear hb4
  have hB_4 := hB_3.trans (hb4'.mono hB_3.size)
  have f1_3 := f1_2.below hb4'
  have f2_2 := f2_1.below hb4'
  have f3_1 := f3_0.below hb4'
  have wc_1 := wc_0.below hb4'
  clear hb4' hB_3 f1_2 f2_1 f3_0 wc_0
  go_wp2
  try rw [hw4]
  have hB_5 := hB_4.drew'
  have f1_4 := f1_3.drew
  have f2_3 := f2_2.drew
  have f3_2 := f3_1.drew
  have wc_2 := wc_1.drew
  have pq_1 := pq_0.drew
  clear hB_4 f1_3 f2_2 f3_1 wc_1 pq_0
  go_region_held3 (fun w' => w'.cell? ⟨w3.heap.size, 0, none⟩ = some (.bool m3) ∧ w'.cell? ⟨w3.heap.size, 1, none⟩ = some (.slice o3 n3 c3) ∧ w'.cell? ⟨w3.heap.size, 2, none⟩ = some (.slice (some ⟨b3, q3, none⟩) 1 d3) ∧ w'.cell? ⟨b3, q3, none⟩ = some (.int .u64 ((2 : Nat) : Int)))
    (first | with_reducible exact ⟨pq_1.c0, pq_1.c1, pq_1.c2, wc_2.c⟩ | with_reducible exact ⟨pq_2.c0, pq_2.c1, pq_2.c2, wc_3.c⟩ | with_reducible exact ⟨pq_3.c0, pq_3.c1, pq_3.c2, wc_4.c⟩ | with_reducible exact ⟨pq_4.c0, pq_4.c1, pq_4.c2, wc_5.c⟩ | with_reducible exact ⟨pq_5.c0, pq_5.c1, pq_5.c2, wc_6.c⟩ | with_reducible exact ⟨pq_6.c0, pq_6.c1, pq_6.c2, wc_7.c⟩ | fail)
    (first
      | (go_at_call 32; (with_reducible refine (fRound_any _ (max 1 1) _ _ _ (by omega) f3_2.fd).mono ?_); rintro e w5 ⟨m4, o4, n4, c4, rfl, f4_0, hb5⟩; have hB_6 := hB_5.trans (hb5.mono hB_5.size); have f1_5 := f1_4.below hb5; have f2_4 := f2_3.below hb5; have f3_3 := f3_2.below hb5; have wc_3 := wc_2.below hb5; have pq_2 := pq_1.below hb5; clear hb5 hB_5 f1_4 f2_3 f3_2 wc_2 pq_1)
      | (go_at_call 29; (with_reducible refine (nOf_any 2 (by omega) (by omega) _).mono ?_); rintro e w6 ⟨m5, o5, n5, c5, rfl, f5_0, hb6⟩; have hB_7 := hB_6.trans (hb6.mono hB_6.size); have f1_6 := f1_5.below hb6; have f2_5 := f2_4.below hb6; have f3_4 := f3_3.below hb6; have wc_4 := wc_3.below hb6; have pq_3 := pq_2.below hb6; have f4_1 := f4_0.below hb6; clear hb6 hB_6 f1_5 f2_4 f3_3 wc_3 pq_2 f4_0)
      | (go_at_call 22; (with_reducible refine (nCmp_is _ _ (max (max 1 1) 1 + 2) 1 _ 2 0 _ (by omega) (by omega) f4_1.num f5_0.num fiveHalves_rnd).mono ?_); rintro e w7 ⟨rfl, hb7⟩; have hB_8 := hB_7.trans (hb7.mono hB_7.size); have f1_7 := f1_6.below hb7; have f2_6 := f2_5.below hb7; have f3_5 := f3_4.below hb7; have wc_5 := wc_4.below hb7; have pq_4 := pq_3.below hb7; have f4_2 := f4_1.below hb7; have f5_1 := f5_0.below hb7; clear hb7 hB_7 f1_6 f2_5 f3_4 wc_4 pq_3 f4_1 f5_0)
      | (go_at_call 29; (with_reducible refine (nOf_any 5 (by omega) (by omega) _).mono ?_); rintro e w8 ⟨m6, o6, n6, c6, rfl, f6_0, hb8⟩; have hB_9 := hB_8.trans (hb8.mono hB_8.size); have f1_8 := f1_7.below hb8; have f2_7 := f2_6.below hb8; have f3_6 := f3_5.below hb8; have wc_6 := wc_5.below hb8; have pq_5 := pq_4.below hb8; have f4_3 := f4_2.below hb8; have f5_2 := f5_1.below hb8; clear hb8 hB_8 f1_7 f2_6 f3_5 wc_5 pq_4 f4_2 f5_1)
      | (go_at_call 22; (with_reducible refine (nCmp_is _ _ (max 1 1) 1 _ 5 0 _ (by omega) (by omega) f3_6.fd.num f6_0.num fiveHalves_num).mono ?_); rintro e w9 ⟨rfl, hb9⟩; have hB_10 := hB_9.trans (hb9.mono hB_9.size); have f1_9 := f1_8.below hb9; have f2_8 := f2_7.below hb9; have f3_7 := f3_6.below hb9; have wc_7 := wc_6.below hb9; have pq_6 := pq_5.below hb9; have f4_4 := f4_3.below hb9; have f5_3 := f5_2.below hb9; have f6_1 := f6_0.below hb9; clear hb9 hB_9 f1_8 f2_7 f3_6 wc_6 pq_5 f4_3 f5_2 f6_0))
  go_wp2
  go_ret
  exact ⟨rfl, hB_10⟩
end Go.Proofs.Ytmbmeapodhngaaa
/- The calls of frac, by the numbers that they count. -/
namespace Go.Proofs.Ytmbmeapodhngaaa
open Go.RowKit Go.MagM
theorem cross (q : Rat) (N : Int) (M : Nat) (hM : M ≠ 0) (h : q = mkRat N M) : q.num * (M : Int) = N * (q.den : Int) := by
  have h1 := Rat.mkRat_self q
  rw [h] at h1
  have h2 := (Rat.mkRat_eq_iff (mkRat N M).den_nz hM).1 h1
  rw [h]
  exact h2
theorem qv_sign (X : Int) (D : Nat) : (qv X D).num.sign = X.sign := by
  have h := cross (qv X D) X (den1 D) (den1_ne D) rfl
  have h2 := congrArg Int.sign h
  rw [sign_den, Int.sign_mul, Int.sign_natCast_of_ne_zero (qv X D).den_nz, Int.mul_one] at h2
  exact h2
theorem qAdd (va vb : Value) (L M : Nat) (p q : Rat) (w : World) (hL : L ≤ 50000000) (hM : M ≤ 50000000) (ha : FQ w va L p) (hb : FQ w vb M q) : Calls Try.prog 14 #[va, vb] w fun e w' => AnsF w w' e (L + M + 2) (p + q) := by
  obtain ⟨X, D, h1, rfl⟩ := ha
  obtain ⟨Y, E, h2, rfl⟩ := hb
  exact fAdd_any _ _ L M X Y D E w (by omega) (by omega) h1 h2
theorem qSub (va vb : Value) (L M : Nat) (p q : Rat) (w : World) (hL : L ≤ 50000000) (hM : M ≤ 50000000) (ha : FQ w va L p) (hb : FQ w vb M q) : Calls Try.prog 16 #[va, vb] w fun e w' => AnsF w w' e (L + M + 2) (p - q) := by
  obtain ⟨X, D, h1, rfl⟩ := ha
  obtain ⟨Y, E, h2, rfl⟩ := hb
  exact fSub_any _ _ L M X Y D E w (by omega) (by omega) h1 h2
theorem qMul (va vb : Value) (L M : Nat) (p q : Rat) (w : World) (hL : L ≤ 50000000) (hM : M ≤ 50000000) (ha : FQ w va L p) (hb : FQ w vb M q) : Calls Try.prog 18 #[va, vb] w fun e w' => AnsF w w' e (L + M + 2) (p * q) := by
  obtain ⟨X, D, h1, rfl⟩ := ha
  obtain ⟨Y, E, h2, rfl⟩ := hb
  exact fMul_any _ _ L M X Y D E w (by omega) (by omega) h1 h2
theorem qCmp (va vb : Value) (L M : Nat) (p q : Rat) (w : World) (hL : L ≤ 50000000) (hM : M ≤ 50000000) (ha : FQ w va L p) (hb : FQ w vb M q) (c : Int) (h : qcmp p q = c) : Calls Try.prog 21 #[va, vb] w fun e w' => e = .returned (.int .i64 c) ∧ Below w.heap.size w w' := by
  obtain ⟨X, D, h1, rfl⟩ := ha
  obtain ⟨Y, E, h2, rfl⟩ := hb
  exact fCmp_is _ _ L M X Y D E w (by omega) (by omega) h1 h2 c h
theorem qSame (va vb : Value) (L M : Nat) (p q : Rat) (w : World) (hL : L ≤ 50000000) (hM : M ≤ 50000000) (ha : FQ w va L p) (hb : FQ w vb M q) (b : Bool) (h : p = q ↔ b = true) : Calls Try.prog 25 #[va, vb] w fun e w' => e = .returned (.bool b) ∧ Below w.heap.size w w' := by
  obtain ⟨X, D, h1, rfl⟩ := ha
  obtain ⟨Y, E, h2, rfl⟩ := hb
  by_cases hq : qv X D = qv Y E
  · rw [h.1 hq]; exact fSame_yes _ _ L M X Y D E w (by omega) (by omega) h1 h2 hq
  · have hb : b = false := by cases b with
      | false => rfl
      | true => exact absurd (h.2 rfl) hq
    rw [hb]; exact fSame_no _ _ L M X Y D E w (by omega) (by omega) h1 h2 hq
theorem qSame_yes (va vb : Value) (L M : Nat) (p q : Rat) (w : World) (hL : L ≤ 50000000) (hM : M ≤ 50000000) (ha : FQ w va L p) (hb : FQ w vb M q) (h : p = q) : Calls Try.prog 25 #[va, vb] w fun e w' => e = .returned (.bool true) ∧ Below w.heap.size w w' := by
  obtain ⟨X, D, h1, rfl⟩ := ha
  obtain ⟨Y, E, h2, rfl⟩ := hb
  exact fSame_yes _ _ L M X Y D E w (by omega) (by omega) h1 h2 h
theorem qDiv_zero (va vb : Value) (L M : Nat) (p q : Rat) (w : World) (hL : L ≤ 50000000) (hM : M ≤ 50000000) (ha : FQ w va L p) (hb : FQ w vb M q) (h : q = 0) : Calls Try.prog 26 #[va, vb] w fun e w' => AnsFt w w' e false 1 0 := by
  obtain ⟨X, D, h1, rfl⟩ := ha
  obtain ⟨Y, E, h2, rfl⟩ := hb
  refine fDiv_zero _ _ L M X Y D E w (by omega) (by omega) h1 h2 ?_
  rw [qv] at h
  exact (Rat.mkRat_eq_zero (den1_ne E)).1 h
theorem qDiv (va vb : Value) (L M : Nat) (p q : Rat) (w : World) (hL : L ≤ 50000000) (hM : M ≤ 50000000) (ha : FQ w va L p) (hb : FQ w vb M q) (h : q ≠ 0) : Calls Try.prog 26 #[va, vb] w fun e w' => AnsFt w w' e true (L + M + 3) (p / q) := by
  obtain ⟨X, D, h1, rfl⟩ := ha
  obtain ⟨Y, E, h2, rfl⟩ := hb
  refine fDiv_some _ _ L M X Y D E w (by omega) (by omega) h1 h2 ?_
  intro hy
  subst hy
  exact h (qv_zero E)
theorem qNeg (va : Value) (L : Nat) (p : Rat) (w : World) (hL : L ≤ 50000000) (ha : FQ w va L p) : Calls Try.prog 19 #[va] w fun e w' => AnsF w w' e (max L 1) (-p) := by
  obtain ⟨X, D, h1, rfl⟩ := ha
  exact fNeg_any _ L X D w (by omega) h1
theorem qSign (va : Value) (L : Nat) (p : Rat) (w : World) (hL : L ≤ 50000000) (ha : FQ w va L p) (s : Int) (h : p.num.sign = s) : Calls Try.prog 23 #[va] w fun e w' => e = .returned (.int .i64 s) ∧ Below w.heap.size w w' := by
  obtain ⟨X, D, h1, rfl⟩ := ha
  exact fSign_is _ L X s D w (by omega) h1 (by rw [← qv_sign X D]; exact h)
theorem qFloor (va : Value) (L : Nat) (p : Rat) (w : World) (hL : L ≤ 50000000) (ha : FQ w va L p) : Calls Try.prog 31 #[va] w fun e w' => AnsNum w w' e (max L 1 + 1) p.floor := by
  obtain ⟨X, D, h1, rfl⟩ := ha
  exact fFloor_any _ L X D w (by omega) h1
theorem qRound (va : Value) (L : Nat) (p : Rat) (w : World) (hL : L ≤ 50000000) (ha : FQ w va L p) : Calls Try.prog 32 #[va] w fun e w' => AnsNum w w' e (max L 1 + 2) (rnd p) := by
  obtain ⟨X, D, h1, rfl⟩ := ha
  exact fRound_any _ L X D w (by omega) h1
theorem fracs_three (w : World) (T : TypeId) {xm : Bool} {xo : Option Addr} {xn xc : Nat} {xp : Option Addr} {xk xd : Nat} {ym : Bool} {yo : Option Addr} {yn yc : Nat} {yp : Option Addr} {yk yd : Nat} {zm : Bool} {zo : Option Addr} {zn zc : Nat} {zp : Option Addr} {zk zd : Nat} {L1 L2 L3 : Nat} {X Y Z : Int} {D E F : Nat} (h1 : FD w (.agg #[.bool xm, .slice xo xn xc, .slice xp xk xd]) L1 X D) (h2 : FD w (.agg #[.bool ym, .slice yo yn yc, .slice yp yk yd]) L2 Y E) (h3 : FD w (.agg #[.bool zm, .slice zo zn zc, .slice zp zk zd]) L3 Z F) :
    Fracs (w.alloc (.cells #[.bool xm, .slice xo xn xc, .slice xp xk xd, .bool ym, .slice yo yn yc, .slice yp yk yd, .bool zm, .slice zo zn zc, .slice zp zk zd] T)) (some ⟨w.heap.size, 0, none⟩) [(L1, X, D), (L2, Y, E), (L3, Z, F)] := by
  have hb : Below w.heap.size w (w.alloc (.cells #[.bool xm, .slice xo xn xc, .slice xp xk xd, .bool ym, .slice yo yn yc, .slice yp yk yd, .bool zm, .slice zo zn zc, .slice zp zk zd] T)) := (Below.refl _ _).alloc (Nat.le_refl _) _
  intro i L U G hi
  have hi2 : i < 3 := by have := (List.getElem?_eq_some_iff.1 hi).1; simpa using this
  obtain rfl | rfl | rfl : i = 0 ∨ i = 1 ∨ i = 2 := by omega
  · simp at hi; obtain ⟨rfl, rfl, rfl⟩ := hi
    exact ⟨_, 0, xm, xo, xn, xc, xp, xk, xd, rfl, by simp [go_sem], by simp [go_sem], by simp [go_sem], h1.below hb⟩
  · simp at hi; obtain ⟨rfl, rfl, rfl⟩ := hi
    exact ⟨_, 0, ym, yo, yn, yc, yp, yk, yd, rfl, by simp [go_sem], by simp [go_sem], by simp [go_sem], h2.below hb⟩
  · simp at hi; obtain ⟨rfl, rfl, rfl⟩ := hi
    exact ⟨_, 0, zm, zo, zn, zc, zp, zk, zd, rfl, by simp [go_sem], by simp [go_sem], by simp [go_sem], h3.below hb⟩
theorem fSum_three (w : World) (T : TypeId) {xm : Bool} {xo : Option Addr} {xn xc : Nat} {xp : Option Addr} {xk xd : Nat} {ym : Bool} {yo : Option Addr} {yn yc : Nat} {yp : Option Addr} {yk yd : Nat} {zm : Bool} {zo : Option Addr} {zn zc : Nat} {zp : Option Addr} {zk zd : Nat} {L1 L2 L3 : Nat} {p q r : Rat} (hL1 : L1 ≤ 1000000) (hL2 : L2 ≤ 1000000) (hL3 : L3 ≤ 1000000) (h1 : FQ w (.agg #[.bool xm, .slice xo xn xc, .slice xp xk xd]) L1 p) (h2 : FQ w (.agg #[.bool ym, .slice yo yn yc, .slice yp yk yd]) L2 q) (h3 : FQ w (.agg #[.bool zm, .slice zo zn zc, .slice zp zk zd]) L3 r) :
    Calls Try.prog 30 #[.slice (some ⟨w.heap.size, 0, none⟩) 3 3] (w.alloc (.cells #[.bool xm, .slice xo xn xc, .slice xp xk xd, .bool ym, .slice yo yn yc, .slice yp yk yd, .bool zm, .slice zo zn zc, .slice zp zk zd] T)) fun e w' => AnsF w w' e (L1 + L2 + L3 + 7) (p + q + r) := by
  obtain ⟨X, D, h1, rfl⟩ := h1
  obtain ⟨Y, E, h2, rfl⟩ := h2
  obtain ⟨Z, F, h3, rfl⟩ := h3
  refine (fSum_go _ 3 3 _ _ rfl (by omega) ?_ (fracs_three w T h1 h2 h3)).mono ?_
  · intro L U G hm; simp at hm; omega
  · rintro e w' h
    obtain ⟨m, ao, n, c, bo, k, d, rfl, h4, h5⟩ := h
    refine ⟨m, ao, n, c, bo, k, d, rfl, (h4.more (by simp [fLen]; omega)).of (by simp [fVal, Rat.zero_add]), ((Below.refl _ _).alloc (Nat.le_refl _) _).trans (h5.mono (by simp))⟩
theorem fSum_none (w : World) : Calls Try.prog 30 #[.slice none 0 0] w fun e w' => AnsF w w' e 1 0 := by
  refine (fSum_go none 0 0 [] w rfl (by omega) (fun L X D hm => by cases hm) (fun i L X D hi => by simp at hi)).mono fun e w' g => g.of ?_ ?_
  · simp [fLen]
  · simp [fVal]
end Go.Proofs.Ytmbmeapodhngaaa
/- What is said of the nearest whole number. -/
namespace Go.Proofs.Ytmbmeapodhngaaa
open Go.RowKit Go.MagM
theorem rnd_near (q : Rat) : -(1 / 2 : Rat) ≤ q - (rnd q : Rat) ∧ q - (rnd q : Rat) ≤ 1 / 2 ∧ ((q - (rnd q : Rat) = 1 / 2 ∨ q - (rnd q : Rat) = -(1 / 2)) → rnd q % 2 = 0) := by
  have h1 := Rat.floor_le q
  have h2 := Rat.lt_floor_add_one q
  rw [Rat.intCast_add] at h2
  have e1 : ((1 : Int) : Rat) = 1 := rfl
  rw [e1] at h2
  unfold rnd
  generalize q.floor = f at *
  split
  · next h =>
    rcases h with h | ⟨h, h3⟩
    · refine ⟨by grind, by grind, fun h4 => ?_⟩
      exfalso
      rcases h4 with h4 | h4
      · have h5 : 2 * (q - (f : Rat)) = 1 := by rw [h4, Rat.mul_comm]; exact Rat.div_mul_cancel (by decide)
        rw [h5] at h
        exact Rat.lt_irrefl h
      · grind
    · exact ⟨by grind, by grind, fun _ => h3⟩
  · next h =>
    have h4 : ¬ 2 * (q - (f : Rat)) < 1 := fun a => h (Or.inl a)
    rw [Rat.intCast_add, e1]
    refine ⟨by grind, by grind, fun h5 => ?_⟩
    have h6 : 2 * (q - (f : Rat)) = 1 := by rcases h5 with h5 | h5 <;> grind
    have h7 : ¬ f % 2 = 0 := fun a => h (Or.inr ⟨h6, a⟩)
    omega
theorem near_unique {q : Rat} {y z : Int} (_h1 : -(1 / 2 : Rat) ≤ q - (y : Rat)) (h2 : q - (y : Rat) ≤ 1 / 2) (h3 : (q - (y : Rat) = 1 / 2 ∨ q - (y : Rat) = -(1 / 2)) → y % 2 = 0)
    (k1 : -(1 / 2 : Rat) ≤ q - (z : Rat)) (_k2 : q - (z : Rat) ≤ 1 / 2) (k3 : (q - (z : Rat) = 1 / 2 ∨ q - (z : Rat) = -(1 / 2)) → z % 2 = 0) : ¬ y < z := by
  intro h
  have h4 : y + 1 ≤ z := h
  have h5 := Rat.intCast_le_intCast.2 h4
  rw [Rat.intCast_add, show ((1 : Int) : Rat) = 1 from rfl] at h5
  have h6 : q - (y : Rat) = 1 / 2 := by grind
  have h7 : q - (z : Rat) = -(1 / 2) := by grind
  have h8 : (z : Rat) = ((y + 1 : Int) : Rat) := by
    rw [Rat.intCast_add, show ((1 : Int) : Rat) = 1 from rfl]; grind
  have h9 := Rat.intCast_inj.1 h8
  have a := h3 (Or.inl h6)
  have b := k3 (Or.inr h7)
  omega
theorem rnd_neg (q : Rat) : rnd (-q) = -rnd q := by
  obtain ⟨h1, h2, h3⟩ := rnd_near q
  obtain ⟨k1, k2, k3⟩ := rnd_near (-q)
  have e : ((-rnd (-q) : Int) : Rat) = -(rnd (-q) : Rat) := Rat.intCast_neg _
  have m1 : -(1 / 2 : Rat) ≤ q - ((-rnd (-q) : Int) : Rat) := by rw [e]; grind
  have m2 : q - ((-rnd (-q) : Int) : Rat) ≤ 1 / 2 := by rw [e]; grind
  have m3 : (q - ((-rnd (-q) : Int) : Rat) = 1 / 2 ∨ q - ((-rnd (-q) : Int) : Rat) = -(1 / 2)) → (-rnd (-q)) % 2 = 0 := by
    rw [e]
    intro h
    have := k3 (by rcases h with h | h <;> grind)
    omega
  have a := near_unique h1 h2 h3 m1 m2 m3
  have b := near_unique m1 m2 m3 h1 h2 h3
  omega
theorem rnd_int (n : Int) : rnd (n : Rat) = n := by
  have h1 : ((n : Rat).floor : Int) = n := Rat.floor_intCast n
  unfold rnd
  rw [h1, Rat.sub_self, if_pos]
  exact Or.inl (by rw [Rat.mul_zero]; rfl)
theorem rest_sign (q : Rat) : ¬ (q - (q.floor : Rat)).num.sign < 0 := by
  have h1 := Rat.floor_le q
  have h2 : 0 ≤ q - (q.floor : Rat) := by grind
  have h3 := Rat.num_nonneg.2 h2
  intro h
  have := Int.neg_of_sign_eq_neg_one (a := (q - (q.floor : Rat)).num) (by
    rcases Int.lt_trichotomy (q - (q.floor : Rat)).num 0 with h4 | h4 | h4
    · omega
    · rw [h4] at h; exact absurd h (by decide)
    · rw [Int.sign_eq_one_of_pos h4] at h; omega)
  omega
theorem rest_small (q : Rat) : qcmp (q - (q.floor : Rat)) ((1 : Int) : Rat) = -1 := by
  have h2 := Rat.lt_floor_add_one q
  rw [Rat.intCast_add] at h2
  apply qcmp_lt
  grind
theorem half_eq : ((1 : Int) : Rat) / ((2 : Int) : Rat) = 1 / 2 := rfl
theorem sign_neg_iff (q : Rat) : q.num.sign < 0 ↔ q < 0 := by
  have h1 := @Rat.num_nonneg q
  rcases Int.lt_trichotomy q.num 0 with h4 | h4 | h4
  · rw [Int.sign_eq_neg_one_of_neg h4]
    exact ⟨fun _ => by have : ¬ 0 ≤ q := fun a => by have := h1.2 a; omega
                       grind, fun _ => by decide⟩
  · rw [h4]
    exact ⟨fun h => absurd h (by decide), fun h => by
      have : 0 ≤ q := h1.1 (by omega)
      grind⟩
  · rw [Int.sign_eq_one_of_pos h4]
    exact ⟨fun h => absurd h (by decide), fun h => by
      have : 0 ≤ q := h1.1 (by omega)
      grind⟩
theorem away_le {q d : Rat} (h : d = q - (rnd q : Rat) ∨ d = -(q - (rnd q : Rat))) : ¬ 0 < qcmp d (((1 : Int) : Rat) / ((2 : Int) : Rat)) := by
  rw [half_eq]
  obtain ⟨h1, h2, _⟩ := rnd_near q
  have h3 : ¬ (1 / 2 : Rat) < d := by rcases h with h | h <;> grind
  by_cases h4 : d < 1 / 2
  · rw [qcmp_lt h4]; decide
  · have h5 : d = 1 / 2 := by grind
    rw [h5, qcmp_self]; decide
theorem away_even {q d : Rat} (h : d = q - (rnd q : Rat) ∨ d = -(q - (rnd q : Rat))) (h0 : qcmp d (((1 : Int) : Rat) / ((2 : Int) : Rat)) = 0) : rnd q % 2 = 0 := by
  rw [half_eq] at h0
  obtain ⟨h1, h2, h3⟩ := rnd_near q
  have h4 := qcmp_zero.1 h0
  apply h3
  rcases h with h | h <;> grind
end Go.Proofs.Ytmbmeapodhngaaa
/- The statement FracRounds, walked. -/
namespace Go.Proofs.Ytmbmeapodhngaaa
open Go.RowKit Go.MagM
set_option maxRecDepth 100000 in
set_option maxHeartbeats 40000000 in
theorem FracRounds_walk (am : Bool) (ao : Option Addr) (an ac : Nat) (ap : Option Addr) (ak ad : Nat) (Xa : Int) (Da : Nat) (w : World) (fa_0 : FD w (.agg #[.bool am, .slice ao an ac, .slice ap ak ad]) (max an ak) Xa Da) :
    Calls Try.prog 6 #[.agg #[.bool am, .slice ao an ac, .slice ap ak ad]] w fun e w' => e = .returned (.bool true) ∧ Below w.heap.size w w' := by
  have hB_0 := Below.refl w.heap.size w
  have _ := hB_0
  obtain ⟨s, hs⟩ : ∃ s, ((qv Xa Da) - ((qv Xa Da).floor : Rat)).num.sign = s := ⟨_, rfl⟩
  have hs0 : ¬ s < 0 := by rw [← hs]; exact rest_sign _
  have hsd : decide (s < 0) = false := decide_eq_false hs0
  obtain ⟨s2, hs2⟩ : ∃ s2, ((qv Xa Da) - (rnd (qv Xa Da) : Rat)).num.sign = s2 := ⟨_, rfl⟩
  obtain ⟨w1, hw1, pa_0, hb1, hs1⟩ := new_box w (w.heap.size) rfl [.bool am, .slice ao an ac, .slice ap ak ad] 27
  have hb1' : Below w.heap.size w w1 := hb1.mono (by omega)
  clear hb1
  have hB_1 := hB_0.trans (hb1'.mono hB_0.size)
  have fa_1 := fa_0.below hb1'
  clear hb1' hB_0 fa_0
  go_enter Try.func6, Try.ntmps6
  obtain ⟨pae0, pae1, pae2, pae3, pae4, pae5⟩ := pa_0.open3
  go_wp2_with fail
  refine (ffit_any _).mono ?_
  rintro e w2 ⟨rfl, hb2⟩
  clear pae0 pae1 pae2 pae3 pae4 pae5
  have hB_2 := hB_1.trans (hb2.mono hB_1.size)
  have fa_2 := fa_1.below hb2
  have pa_1 := pa_0.below hb2
  clear hb2 hB_1 fa_1 pa_0
  obtain ⟨pae0, pae1, pae2, pae3, pae4, pae5⟩ := pa_1.open3
  by_cases hsh : (an ≤ 8 ∧ ak ≤ 8)
  rotate_left
  · skip
    go_wp2_with fail
    refine (fshort1_no 8 _ _ am ao an ac ap ak ad (by omega) hsh).mono ?_
    rintro e w3 ⟨rfl, hb3⟩
    clear pae0 pae1 pae2 pae3 pae4 pae5
    have hB_3 := hB_2.trans (hb3.mono hB_2.size)
    have fa_3 := fa_2.below hb3
    have pa_2 := pa_1.below hb3
    clear hb3 hB_2 fa_2 pa_1
    go_wp2
    go_ret
    exact ⟨rfl, hB_3⟩
  go_wp2_with fail
  refine (fshort1_yes 8 _ _ am ao an ac ap ak ad (by omega) hsh).mono ?_
  rintro e w3 ⟨rfl, hb3⟩
  clear pae0 pae1 pae2 pae3 pae4 pae5
  have hB_3 := hB_2.trans (hb3.mono hB_2.size)
  have fa_3 := fa_2.below hb3
  have pa_2 := pa_1.below hb3
  clear hb3 hB_2 fa_2 pa_1
  obtain ⟨pae0, pae1, pae2, pae3, pae4, pae5⟩ := pa_2.open3
  have fa_4 := fa_3.more (L' := 8) (by omega)
  clear fa_3
  clear hsh
  clear pae0 pae1 pae2 pae3 pae4 pae5
  go_wp2
  have hWq_0 := Below.refl w3.heap.size w3
  have hsq : w.heap.size ≤ w3.heap.size := hB_3.size
  have hlqpa := pa_2.lt
  have hB_4 := hB_3.drew'
  have fa_5 := fa_4.drew
  have pa_3 := pa_2.drew
  have hWq_1 := hWq_0.drew'
  clear hB_3 fa_4 pa_2 hWq_0
  refine wp_region_noPanic ?_
  refine wp_region_held_drew (S := fun w' => w'.cell? ⟨w.heap.size, 0, none⟩ = some (.bool am) ∧ w'.cell? ⟨w.heap.size, 1, none⟩ = some (.slice ao an ac) ∧ w'.cell? ⟨w.heap.size, 2, none⟩ = some (.slice ap ak ad)) (by kernel_rfl) (⟨pa_3.c0, pa_3.c1, pa_3.c2⟩) (fun hHeld => ?_)
  refine reg_take 0 ?_ ?_ ?_ (by kernel_rfl) (by kernel_rfl) (by kernel_rfl) (fun _ _ _ h => h) ?_ ?_ (by assumption) ?_
  rotate_left 2
  · simp only [List.getElem?_toArray, List.getElem?_cons_zero]; exact rfl
  · rfl
  · intro w hSw; (try dsimp only at hSw); go_simp; try with_reducible rfl
  try simp only [Act.put]
  try simp only [List.setIfInBounds_toArray, List.set_cons_zero, List.set_cons_succ]
  refine reg_take 2 ?_ ?_ ?_ (by kernel_rfl) (by kernel_rfl) (by kernel_rfl) (fun _ _ _ h => h) ?_ ?_ (by assumption) ?_
  rotate_left 2
  · simp only [List.getElem?_toArray, List.getElem?_cons_succ, List.getElem?_cons_zero]; exact rfl
  · rfl
  · intro w hSw; (try dsimp only at hSw); go_simp; try with_reducible rfl
  try simp only [Act.put]
  try simp only [List.setIfInBounds_toArray, List.set_cons_zero, List.set_cons_succ]
  refine reg_grab (fun WWq aq hWW hAA => ?_)
  have HWq := Lib.hid hWW; have HAq := Lib.hid hAA; clear hWW hAA hHeld
  have stq_2tt : ∀ (w' : World) (m1 : Bool) (o1 : Option Addr) (n1 : Nat) (c1 : Nat) (m2 : Bool) (o2 : Option Addr) (n2 : Nat) (c2 : Nat) (gpf : Nat) (gpr : Nat), Below w.heap.size w w' → FD w' (.agg #[.bool am, .slice ao an ac, .slice ap ak ad]) 8 Xa Da → Box w' (w.heap.size) [.bool am, .slice ao an ac, .slice ap ak ad] → Below w3.heap.size w3 w' → RNum w' (.agg #[.bool m1, .slice o1 n1 c1]) ((max 8 1 + 1)) ((qv Xa Da).floor) → RNum w' (.agg #[.bool m2, .slice o2 n2 c2]) ((max 8 1 + 2)) (rnd (qv Xa Da)) → Box w' gpf [.bool false, .slice none 0 0] → Box w' gpr [.bool false, .slice none 0 0] → w3.heap.size ≤ gpf → w3.heap.size ≤ gpr → gpf ≠ gpr → WWq 2 #[true, true, true, true, true, true, false, false] ((((aq.put (some 17) (.agg #[.bool m1, .slice o1 n1 c1])).put (some 19) (.agg #[.bool m2, .slice o2 n2 c2])).put (some 3) (.pointer (some ⟨gpf, 0, none⟩))).put (some 4) (.pointer (some ⟨gpr, 0, none⟩))) w' := by
    intro w4 m1 o1 n1 c1 m2 o2 n2 c2 gpf gpr hB_0 fa_0 pa_0 hWq_0 f1_0 f2_0 pf_0 pr_0 hgpf hgpr hnpfpr
    rw [HWq.out, HAq.out]
    try simp only [Act.put]
    try simp only [List.setIfInBounds_toArray, List.set_cons_zero, List.set_cons_succ]
    clear hWq_0
    obtain ⟨sf1a, sf1b, sf1c, sf1d⟩ := pf_0.open2
    obtain ⟨sg1a, sg1b⟩ := Box.put2 pf_0 (.bool m1)
    refine reg_call 6 ?_ (by kernel_rfl) ?_ (fun K hK => ?_)
    rotate_left 1
    · simp only [List.getElem?_toArray, List.getElem?_cons_succ, List.getElem?_cons_zero]; exact rfl
    go_simp
    have hB_1 := below_setAll hB_0 (g := gpf) (by omega) [.bool m1, .slice o1 n1 c1]
    have fa_1 := fa_0.setAll pf_0 (noWord2 _ _ _ _) [.bool m1, .slice o1 n1 c1] rfl
    have pa_1 := pa_0.farAll (g' := gpf) (by omega) [.bool m1, .slice o1 n1 c1]
    have f1_1 := f1_0.setAll pf_0 (noWord2 _ _ _ _) [.bool m1, .slice o1 n1 c1] rfl
    have f2_1 := f2_0.setAll pf_0 (noWord2 _ _ _ _) [.bool m1, .slice o1 n1 c1] rfl
    have pr_1 := pr_0.farAll (g' := gpf) (by omega) [.bool m1, .slice o1 n1 c1]
    have pf_1 := pf_0.setAll [.bool m1, .slice o1 n1 c1] rfl
    simp only [setAll, Nat.zero_add] at hB_1 fa_1 pa_1 f1_1 f2_1 pf_1 pr_1
    clear sf1a sf1b sf1c sf1d sg1a sg1b
    clear hB_0 fa_0 pa_0 f1_0 f2_0 pr_0 pf_0
    refine hK.out _ _ ⟨pa_1.c0, pa_1.c1, pa_1.c2⟩ (fun hHeld => ?_)
    clear hK K
    try simp only [Act.put]
    try simp only [List.setIfInBounds_toArray, List.set_cons_zero, List.set_cons_succ]
    generalize (World.setCell (World.setCell w4 ⟨gpf, 0, none⟩ (.bool m1)) ⟨gpf, 1, none⟩ (.slice o1 n1 c1)) = w5 at *
    obtain ⟨sf2a, sf2b, sf2c, sf2d⟩ := pr_1.open2
    obtain ⟨sg2a, sg2b⟩ := Box.put2 pr_1 (.bool m2)
    refine reg_call 7 ?_ (by kernel_rfl) ?_ (fun K hK => ?_)
    rotate_left 1
    · simp only [List.getElem?_toArray, List.getElem?_cons_succ, List.getElem?_cons_zero]; exact rfl
    go_simp
    have hB_2 := below_setAll hB_1 (g := gpr) (by omega) [.bool m2, .slice o2 n2 c2]
    have fa_2 := fa_1.setAll pr_1 (noWord2 _ _ _ _) [.bool m2, .slice o2 n2 c2] rfl
    have pa_2 := pa_1.farAll (g' := gpr) (by omega) [.bool m2, .slice o2 n2 c2]
    have f1_2 := f1_1.setAll pr_1 (noWord2 _ _ _ _) [.bool m2, .slice o2 n2 c2] rfl
    have f2_2 := f2_1.setAll pr_1 (noWord2 _ _ _ _) [.bool m2, .slice o2 n2 c2] rfl
    have pf_2 := pf_1.farAll (g' := gpr) (by omega) [.bool m2, .slice o2 n2 c2]
    have pr_2 := pr_1.setAll [.bool m2, .slice o2 n2 c2] rfl
    simp only [setAll, Nat.zero_add] at hB_2 fa_2 pa_2 f1_2 f2_2 pf_2 pr_2
    clear sf2a sf2b sf2c sf2d sg2a sg2b
    clear hB_1 fa_1 pa_1 f1_1 f2_1 pf_1 pr_1
    refine hK.out _ _ ⟨pa_2.c0, pa_2.c1, pa_2.c2⟩ (fun hHeld => ?_)
    clear hK K
    try simp only [Act.put]
    try simp only [List.setIfInBounds_toArray, List.set_cons_zero, List.set_cons_succ]
    generalize (World.setCell (World.setCell w5 ⟨gpr, 0, none⟩ (.bool m2)) ⟨gpr, 1, none⟩ (.slice o2 n2 c2)) = w6 at *
    refine wpAnyH_done (by kernel_rfl) ?_ _
    refine NoPanic.normal ?_
    go_wp2
    have hWu_0 := Below.refl w6.heap.size w6
    have hsu : w.heap.size ≤ w6.heap.size := hB_2.size
    have hlupa := pa_2.lt
    have hlupf := pf_2.lt
    have hlupr := pr_2.lt
    have hB_3 := hB_2.drew'
    have fa_3 := fa_2.drew
    have pa_3 := pa_2.drew
    have f1_3 := f1_2.drew
    have f2_3 := f2_2.drew
    have pf_3 := pf_2.drew
    have pr_3 := pr_2.drew
    have hWu_1 := hWu_0.drew'
    clear hB_2 fa_2 pa_2 f1_2 f2_2 pf_2 pr_2 hWu_0
    refine wp_region_noPanic ?_
    refine wp_region_held_drew (S := fun w' => w'.cell? ⟨w.heap.size, 0, none⟩ = some (.bool am) ∧ w'.cell? ⟨w.heap.size, 1, none⟩ = some (.slice ao an ac) ∧ w'.cell? ⟨w.heap.size, 2, none⟩ = some (.slice ap ak ad) ∧ w'.cell? ⟨gpf, 0, none⟩ = some (.bool m1) ∧ w'.cell? ⟨gpf, 1, none⟩ = some (.slice o1 n1 c1)) (by kernel_rfl) (⟨pa_3.c0, pa_3.c1, pa_3.c2, pf_3.c0, pf_3.c1⟩) (fun hHeld => ?_)
    refine reg_take 0 ?_ ?_ ?_ (by kernel_rfl) (by kernel_rfl) (by kernel_rfl) (fun _ _ _ h => h) ?_ ?_ (by assumption) ?_
    rotate_left 2
    · simp only [List.getElem?_toArray, List.getElem?_cons_zero]; exact rfl
    · rfl
    · intro w hSw; (try dsimp only at hSw); go_simp; try with_reducible rfl
    try simp only [Act.put]
    try simp only [List.setIfInBounds_toArray, List.set_cons_zero, List.set_cons_succ]
    refine reg_take 1 ?_ ?_ ?_ (by kernel_rfl) (by kernel_rfl) (by kernel_rfl) (fun _ _ _ h => h) ?_ ?_ (by assumption) ?_
    rotate_left 2
    · simp only [List.getElem?_toArray, List.getElem?_cons_succ, List.getElem?_cons_zero]; exact rfl
    · rfl
    · intro w hSw; (try dsimp only at hSw); go_simp; try with_reducible rfl
    try simp only [Act.put]
    try simp only [List.setIfInBounds_toArray, List.set_cons_zero, List.set_cons_succ]
    refine reg_grab (fun WWu au hWW hAA => ?_)
    have HWu := Lib.hid hWW; have HAu := Lib.hid hAA; clear hWW hAA hHeld
    have stu_2t : ∀ (w' : World) (m3 : Bool) (o3 : Option Addr) (n3 : Nat) (c3 : Nat) (p3 : Option Addr) (k3 : Nat) (d3 : Nat) (m4 : Bool) (o4 : Option Addr) (n4 : Nat) (c4 : Nat) (p4 : Option Addr) (k4 : Nat) (d4 : Nat) (gpu : Nat), Below w.heap.size w w' → FD w' (.agg #[.bool am, .slice ao an ac, .slice ap ak ad]) 8 Xa Da → Box w' (w.heap.size) [.bool am, .slice ao an ac, .slice ap ak ad] → RNum w' (.agg #[.bool m1, .slice o1 n1 c1]) ((max 8 1 + 1)) ((qv Xa Da).floor) → RNum w' (.agg #[.bool m2, .slice o2 n2 c2]) ((max 8 1 + 2)) (rnd (qv Xa Da)) → Box w' (gpf) [.bool m1, .slice o1 n1 c1] → Box w' (gpr) [.bool m2, .slice o2 n2 c2] → Below w6.heap.size w6 w' → RF w' (.agg #[.bool m3, .slice o3 n3 c3, .slice p3 k3 d3]) (max (max 8 1 + 1) 1) (((qv Xa Da).floor : Rat)) → RF w' (.agg #[.bool m4, .slice o4 n4 c4, .slice p4 k4 d4]) (8 + max (max 8 1 + 1) 1 + 2) ((qv Xa Da) - ((qv Xa Da).floor : Rat)) → Box w' gpu [.bool false, .slice none 0 0, .slice none 0 0] → w6.heap.size ≤ gpu → WWu 1 #[true, true, true, true, true, false] (((au.put (some 22) (.agg #[.bool m3, .slice o3 n3 c3, .slice p3 k3 d3])).put (some 23) (.agg #[.bool m4, .slice o4 n4 c4, .slice p4 k4 d4])).put (some 5) (.pointer (some ⟨gpu, 0, none⟩))) w' := by
      intro w7 m3 o3 n3 c3 p3 k3 d3 m4 o4 n4 c4 p4 k4 d4 gpu hB_0 fa_0 pa_0 f1_0 f2_0 pf_0 pr_0 hWu_0 f3_0 f4_0 pu_0 hgpu
      rw [HWu.out, HAu.out]
      try simp only [Act.put]
      try simp only [List.setIfInBounds_toArray, List.set_cons_zero, List.set_cons_succ]
      clear hWu_0
      obtain ⟨sf3a, sf3b, sf3c, sf3d, sf3e, sf3f⟩ := pu_0.open3
      obtain ⟨sg3a, sg3b, sg3c, sg3d⟩ := Box.put3 pu_0 (.bool m4) (.slice o4 n4 c4)
      refine reg_call 5 ?_ (by kernel_rfl) ?_ (fun K hK => ?_)
      rotate_left 1
      · simp only [List.getElem?_toArray, List.getElem?_cons_succ, List.getElem?_cons_zero]; exact rfl
      go_simp
      have hB_1 := below_setAll hB_0 (g := gpu) (by omega) [.bool m4, .slice o4 n4 c4, .slice p4 k4 d4]
      have fa_1 := fa_0.setAll pu_0 (noWord3 _ _ _ _ _ _ _) [.bool m4, .slice o4 n4 c4, .slice p4 k4 d4] rfl
      have pa_1 := pa_0.farAll (g' := gpu) (by omega) [.bool m4, .slice o4 n4 c4, .slice p4 k4 d4]
      have f1_1 := f1_0.setAll pu_0 (noWord3 _ _ _ _ _ _ _) [.bool m4, .slice o4 n4 c4, .slice p4 k4 d4] rfl
      have f2_1 := f2_0.setAll pu_0 (noWord3 _ _ _ _ _ _ _) [.bool m4, .slice o4 n4 c4, .slice p4 k4 d4] rfl
      have pf_1 := pf_0.farAll (g' := gpu) (by omega) [.bool m4, .slice o4 n4 c4, .slice p4 k4 d4]
      have pr_1 := pr_0.farAll (g' := gpu) (by omega) [.bool m4, .slice o4 n4 c4, .slice p4 k4 d4]
      have f3_1 := f3_0.setAll pu_0 (noWord3 _ _ _ _ _ _ _) [.bool m4, .slice o4 n4 c4, .slice p4 k4 d4] rfl
      have f4_1 := f4_0.setAll pu_0 (noWord3 _ _ _ _ _ _ _) [.bool m4, .slice o4 n4 c4, .slice p4 k4 d4] rfl
      have pu_1 := pu_0.setAll [.bool m4, .slice o4 n4 c4, .slice p4 k4 d4] rfl
      simp only [setAll, Nat.zero_add, Nat.reduceAdd] at hB_1 fa_1 pa_1 f1_1 f2_1 pf_1 pr_1 f3_1 f4_1 pu_1
      clear sf3a sf3b sf3c sf3d sf3e sf3f sg3a sg3b sg3c sg3d
      clear hB_0 fa_0 pa_0 f1_0 f2_0 pf_0 pr_0 f3_0 f4_0 pu_0
      refine hK.out _ _ ⟨pa_1.c0, pa_1.c1, pa_1.c2, pf_1.c0, pf_1.c1⟩ (fun hHeld => ?_)
      clear hK K
      try simp only [Act.put]
      try simp only [List.setIfInBounds_toArray, List.set_cons_zero, List.set_cons_succ]
      generalize (World.setCell (World.setCell (World.setCell w7 ⟨gpu, 0, none⟩ (.bool m4)) ⟨gpu, 1, none⟩ (.slice o4 n4 c4)) ⟨gpu, 2, none⟩ (.slice p4 k4 d4)) = w8 at *
      refine wpAnyH_done (by kernel_rfl) ?_ _
      refine NoPanic.normal ?_
      clear f3_1
      go_wp2
      have hB_2 := hB_1.drew'
      have fa_2 := fa_1.drew
      have pa_2 := pa_1.drew
      have f1_2 := f1_1.drew
      have f2_2 := f2_1.drew
      have pf_2 := pf_1.drew
      have pr_2 := pr_1.drew
      have f4_2 := f4_1.drew
      have pu_2 := pu_1.drew
      clear hB_1 fa_1 pa_1 f1_1 f2_1 pf_1 pr_1 f4_1 pu_1
      go_region_held3 (fun w' => w'.cell? ⟨gpu, 0, none⟩ = some (.bool m4) ∧ w'.cell? ⟨gpu, 1, none⟩ = some (.slice o4 n4 c4) ∧ w'.cell? ⟨gpu, 2, none⟩ = some (.slice p4 k4 d4))
        (first | with_reducible exact ⟨pu_2.c0, pu_2.c1, pu_2.c2⟩ | with_reducible exact ⟨pu_3.c0, pu_3.c1, pu_3.c2⟩ | with_reducible exact ⟨pu_4.c0, pu_4.c1, pu_4.c2⟩ | with_reducible exact ⟨pu_5.c0, pu_5.c1, pu_5.c2⟩ | fail)
        (first
          | (go_at_call 23; (with_reducible refine (qSign _ _ _ _ (by omega) f4_2.q s hs).mono ?_); rintro e w9 ⟨rfl, hb9⟩; have hB_3 := hB_2.trans (hb9.mono hB_2.size); have fa_3 := fa_2.below hb9; have pa_3 := pa_2.below hb9; have f1_3 := f1_2.below hb9; have f2_3 := f2_2.below hb9; have pf_3 := pf_2.below hb9; have pr_3 := pr_2.below hb9; have f4_3 := f4_2.below hb9; have pu_3 := pu_2.below hb9; clear hb9 hB_2 fa_2 pa_2 f1_2 f2_2 pf_2 pr_2 f4_2 pu_2)
          | (go_at_call 34; (with_reducible refine (fOf_any 1 (by omega) (by omega) _).mono ?_); rintro e w10 ⟨m5, o5, n5, c5, p5, k5, d5, rfl, f5_0, hb10⟩; have hB_4 := hB_3.trans (hb10.mono hB_3.size); have fa_4 := fa_3.below hb10; have pa_4 := pa_3.below hb10; have f1_4 := f1_3.below hb10; have f2_4 := f2_3.below hb10; have pf_4 := pf_3.below hb10; have pr_4 := pr_3.below hb10; have f4_4 := f4_3.below hb10; have pu_4 := pu_3.below hb10; clear hb10 hB_3 fa_3 pa_3 f1_3 f2_3 pf_3 pr_3 f4_3 pu_3)
          | (go_at_call 21; (with_reducible refine (qCmp _ _ _ _ _ _ _ (by omega) (by omega) f4_4.q f5_0.q (-1) (rest_small _)).mono ?_); rintro e w11 ⟨rfl, hb11⟩; have hB_5 := hB_4.trans (hb11.mono hB_4.size); have fa_5 := fa_4.below hb11; have pa_5 := pa_4.below hb11; have f1_5 := f1_4.below hb11; have f2_5 := f2_4.below hb11; have pf_5 := pf_4.below hb11; have pr_5 := pr_4.below hb11; have f4_5 := f4_4.below hb11; have pu_5 := pu_4.below hb11; have f5_1 := f5_0.below hb11; clear hb11 hB_4 fa_4 pa_4 f1_4 f2_4 pf_4 pr_4 f4_4 pu_4 f5_0))
      clear f4_5 f5_1
      go_wp2_with fail
      refine (nOf_any 1 (by omega) (by omega) _).mono ?_
      rintro e w12 ⟨m6, o6, n6, c6, rfl, f6_0, hb12⟩
      have hB_6 := hB_5.trans (hb12.mono hB_5.size)
      have fa_6 := fa_5.below hb12
      have pa_6 := pa_5.below hb12
      have f1_6 := f1_5.below hb12
      have f2_6 := f2_5.below hb12
      have pf_6 := pf_5.below hb12
      have pr_6 := pr_5.below hb12
      have pu_6 := pu_5.below hb12
      clear hb12 hB_5 fa_5 pa_5 f1_5 f2_5 pf_5 pr_5 pu_5
      go_wp2_with fail
      refine (nOf_any 2 (by omega) (by omega) _).mono ?_
      rintro e w13 ⟨m7, o7, n7, c7, rfl, f7_0, hb13⟩
      have hB_7 := hB_6.trans (hb13.mono hB_6.size)
      have fa_7 := fa_6.below hb13
      have pa_7 := pa_6.below hb13
      have f1_7 := f1_6.below hb13
      have f2_7 := f2_6.below hb13
      have pf_7 := pf_6.below hb13
      have pr_7 := pr_6.below hb13
      have pu_7 := pu_6.below hb13
      have f6_1 := f6_0.below hb13
      clear hb13 hB_6 fa_6 pa_6 f1_6 f2_6 pf_6 pr_6 pu_6 f6_0
      go_wp2_with fail
      refine (fMake_some _ _ _ _ _ _ _ (by omega) (by omega) f6_1.num f7_0.num (by omega)).mono ?_
      rintro e w14 ⟨m8, o8, n8, c8, p8, k8, d8, rfl, f8_0, hb14⟩
      have hB_8 := hB_7.trans (hb14.mono hB_7.size)
      have fa_8 := fa_7.below hb14
      have pa_8 := pa_7.below hb14
      have f1_8 := f1_7.below hb14
      have f2_8 := f2_7.below hb14
      have pf_8 := pf_7.below hb14
      have pr_8 := pr_7.below hb14
      have pu_8 := pu_7.below hb14
      have f6_2 := f6_1.below hb14
      have f7_1 := f7_0.below hb14
      clear hb14 hB_7 fa_7 pa_7 f1_7 f2_7 pf_7 pr_7 pu_7 f6_1 f7_0
      clear f6_2 f7_1
      have hl1pa := pa_8.lt
      have hl1pf := pf_8.lt
      have hl1pr := pr_8.lt
      have hl1pu := pu_8.lt
      have hl1B := hB_8.size
      obtain ⟨w15, hw15, ph_0, hb15, hs15⟩ := new_box w14 (w14.heap.size) rfl [.bool m8, .slice o8 n8 c8, .slice p8 k8 d8] 27
      have hb15' : Below w14.heap.size w14 w15 := hb15.mono (by omega)
      clear hb15
      have hB_9 := hB_8.trans (hb15'.mono hB_8.size)
      have fa_9 := fa_8.below hb15'
      have pa_9 := pa_8.below hb15'
      have f1_9 := f1_8.below hb15'
      have f2_9 := f2_8.below hb15'
      have pf_9 := pf_8.below hb15'
      have pr_9 := pr_8.below hb15'
      have pu_9 := pu_8.below hb15'
      have f8_1 := f8_0.below hb15'
      clear hb15' hB_8 fa_8 pa_8 f1_8 f2_8 pf_8 pr_8 pu_8 f8_0
      go_wp2
      try rw [hw15]
      have hWv_0 := Below.refl w15.heap.size w15
      have hsv : w.heap.size ≤ w15.heap.size := hB_9.size
      have hlvpa := pa_9.lt
      have hlvpf := pf_9.lt
      have hlvpr := pr_9.lt
      have hlvpu := pu_9.lt
      have hlvph := ph_0.lt
      have hB_10 := hB_9.drew'
      have fa_10 := fa_9.drew
      have pa_10 := pa_9.drew
      have f1_10 := f1_9.drew
      have f2_10 := f2_9.drew
      have pf_10 := pf_9.drew
      have pr_10 := pr_9.drew
      have pu_10 := pu_9.drew
      have f8_2 := f8_1.drew
      have ph_1 := ph_0.drew
      have hWv_1 := hWv_0.drew'
      clear hB_9 fa_9 pa_9 f1_9 f2_9 pf_9 pr_9 pu_9 f8_1 ph_0 hWv_0
      refine wp_region_noPanic ?_
      refine wp_region_held_drew (S := fun w' => w'.cell? ⟨w.heap.size, 0, none⟩ = some (.bool am) ∧ w'.cell? ⟨w.heap.size, 1, none⟩ = some (.slice ao an ac) ∧ w'.cell? ⟨w.heap.size, 2, none⟩ = some (.slice ap ak ad) ∧ w'.cell? ⟨gpr, 0, none⟩ = some (.bool m2) ∧ w'.cell? ⟨gpr, 1, none⟩ = some (.slice o2 n2 c2)) (by kernel_rfl) (⟨pa_10.c0, pa_10.c1, pa_10.c2, pr_10.c0, pr_10.c1⟩) (fun hHeld => ?_)
      refine reg_take 0 ?_ ?_ ?_ (by kernel_rfl) (by kernel_rfl) (by kernel_rfl) (fun _ _ _ h => h) ?_ ?_ (by assumption) ?_
      rotate_left 2
      · simp only [List.getElem?_toArray, List.getElem?_cons_zero]; exact rfl
      · rfl
      · intro w hSw; (try dsimp only at hSw); go_simp; try with_reducible rfl
      try simp only [Act.put]
      try simp only [List.setIfInBounds_toArray, List.set_cons_zero, List.set_cons_succ]
      refine reg_take 1 ?_ ?_ ?_ (by kernel_rfl) (by kernel_rfl) (by kernel_rfl) (fun _ _ _ h => h) ?_ ?_ (by assumption) ?_
      rotate_left 2
      · simp only [List.getElem?_toArray, List.getElem?_cons_succ, List.getElem?_cons_zero]; exact rfl
      · rfl
      · intro w hSw; (try dsimp only at hSw); go_simp; try with_reducible rfl
      try simp only [Act.put]
      try simp only [List.setIfInBounds_toArray, List.set_cons_zero, List.set_cons_succ]
      refine reg_grab (fun WWv av hWW hAA => ?_)
      have HWv := Lib.hid hWW; have HAv := Lib.hid hAA; clear hWW hAA hHeld
      have stv_2t : ∀ (w' : World) (m9 : Bool) (o9 : Option Addr) (n9 : Nat) (c9 : Nat) (p9 : Option Addr) (k9 : Nat) (d9 : Nat) (m10 : Bool) (o10 : Option Addr) (n10 : Nat) (c10 : Nat) (p10 : Option Addr) (k10 : Nat) (d10 : Nat) (gpw : Nat), Below w.heap.size w w' → FD w' (.agg #[.bool am, .slice ao an ac, .slice ap ak ad]) 8 Xa Da → Box w' (w.heap.size) [.bool am, .slice ao an ac, .slice ap ak ad] → RNum w' (.agg #[.bool m1, .slice o1 n1 c1]) ((max 8 1 + 1)) ((qv Xa Da).floor) → RNum w' (.agg #[.bool m2, .slice o2 n2 c2]) ((max 8 1 + 2)) (rnd (qv Xa Da)) → Box w' (gpf) [.bool m1, .slice o1 n1 c1] → Box w' (gpr) [.bool m2, .slice o2 n2 c2] → Box w' (gpu) [.bool m4, .slice o4 n4 c4, .slice p4 k4 d4] → RF w' (.agg #[.bool m8, .slice o8 n8 c8, .slice p8 k8 d8]) (max 1 1) (((1 : Int) : Rat) / ((2 : Int) : Rat)) → Box w' (w14.heap.size) [.bool m8, .slice o8 n8 c8, .slice p8 k8 d8] → Below w15.heap.size w15 w' → RF w' (.agg #[.bool m9, .slice o9 n9 c9, .slice p9 k9 d9]) (max (max 8 1 + 2) 1) ((rnd (qv Xa Da) : Rat)) → RF w' (.agg #[.bool m10, .slice o10 n10 c10, .slice p10 k10 d10]) (8 + max (max 8 1 + 2) 1 + 2) ((qv Xa Da) - (rnd (qv Xa Da) : Rat)) → Box w' gpw [.bool false, .slice none 0 0, .slice none 0 0] → w15.heap.size ≤ gpw → WWv 1 #[true, true, true, true, true, false] (((av.put (some 41) (.agg #[.bool m9, .slice o9 n9 c9, .slice p9 k9 d9])).put (some 42) (.agg #[.bool m10, .slice o10 n10 c10, .slice p10 k10 d10])).put (some 8) (.pointer (some ⟨gpw, 0, none⟩))) w' := by
        intro w16 m9 o9 n9 c9 p9 k9 d9 m10 o10 n10 c10 p10 k10 d10 gpw hB_0 fa_0 pa_0 f1_0 f2_0 pf_0 pr_0 pu_0 f8_0 ph_0 hWv_0 f9_0 f10_0 pw_0 hgpw
        rw [HWv.out, HAv.out]
        try simp only [Act.put]
        try simp only [List.setIfInBounds_toArray, List.set_cons_zero, List.set_cons_succ]
        clear hWv_0
        obtain ⟨sf4a, sf4b, sf4c, sf4d, sf4e, sf4f⟩ := pw_0.open3
        obtain ⟨sg4a, sg4b, sg4c, sg4d⟩ := Box.put3 pw_0 (.bool m10) (.slice o10 n10 c10)
        refine reg_call 5 ?_ (by kernel_rfl) ?_ (fun K hK => ?_)
        rotate_left 1
        · simp only [List.getElem?_toArray, List.getElem?_cons_succ, List.getElem?_cons_zero]; exact rfl
        go_simp
        have hB_1 := below_setAll hB_0 (g := gpw) (by omega) [.bool m10, .slice o10 n10 c10, .slice p10 k10 d10]
        have fa_1 := fa_0.setAll pw_0 (noWord3 _ _ _ _ _ _ _) [.bool m10, .slice o10 n10 c10, .slice p10 k10 d10] rfl
        have pa_1 := pa_0.farAll (g' := gpw) (by omega) [.bool m10, .slice o10 n10 c10, .slice p10 k10 d10]
        have f1_1 := f1_0.setAll pw_0 (noWord3 _ _ _ _ _ _ _) [.bool m10, .slice o10 n10 c10, .slice p10 k10 d10] rfl
        have f2_1 := f2_0.setAll pw_0 (noWord3 _ _ _ _ _ _ _) [.bool m10, .slice o10 n10 c10, .slice p10 k10 d10] rfl
        have pf_1 := pf_0.farAll (g' := gpw) (by omega) [.bool m10, .slice o10 n10 c10, .slice p10 k10 d10]
        have pr_1 := pr_0.farAll (g' := gpw) (by omega) [.bool m10, .slice o10 n10 c10, .slice p10 k10 d10]
        have pu_1 := pu_0.farAll (g' := gpw) (by omega) [.bool m10, .slice o10 n10 c10, .slice p10 k10 d10]
        have f8_1 := f8_0.setAll pw_0 (noWord3 _ _ _ _ _ _ _) [.bool m10, .slice o10 n10 c10, .slice p10 k10 d10] rfl
        have ph_1 := ph_0.farAll (g' := gpw) (by omega) [.bool m10, .slice o10 n10 c10, .slice p10 k10 d10]
        have f9_1 := f9_0.setAll pw_0 (noWord3 _ _ _ _ _ _ _) [.bool m10, .slice o10 n10 c10, .slice p10 k10 d10] rfl
        have f10_1 := f10_0.setAll pw_0 (noWord3 _ _ _ _ _ _ _) [.bool m10, .slice o10 n10 c10, .slice p10 k10 d10] rfl
        have pw_1 := pw_0.setAll [.bool m10, .slice o10 n10 c10, .slice p10 k10 d10] rfl
        simp only [setAll, Nat.zero_add, Nat.reduceAdd] at hB_1 fa_1 pa_1 f1_1 f2_1 pf_1 pr_1 pu_1 f8_1 ph_1 f9_1 f10_1 pw_1
        clear sf4a sf4b sf4c sf4d sf4e sf4f sg4a sg4b sg4c sg4d
        clear hB_0 fa_0 pa_0 f1_0 f2_0 pf_0 pr_0 pu_0 f8_0 ph_0 f9_0 f10_0 pw_0
        refine hK.out _ _ ⟨pa_1.c0, pa_1.c1, pa_1.c2, pr_1.c0, pr_1.c1⟩ (fun hHeld => ?_)
        clear hK K
        try simp only [Act.put]
        try simp only [List.setIfInBounds_toArray, List.set_cons_zero, List.set_cons_succ]
        generalize (World.setCell (World.setCell (World.setCell w16 ⟨gpw, 0, none⟩ (.bool m10)) ⟨gpw, 1, none⟩ (.slice o10 n10 c10)) ⟨gpw, 2, none⟩ (.slice p10 k10 d10)) = w17 at *
        refine wpAnyH_done (by kernel_rfl) ?_ _
        refine NoPanic.normal ?_
        clear f9_1
        obtain ⟨pwe0, pwe1, pwe2, pwe3, pwe4, pwe5⟩ := pw_1.open3
        go_wp2_with fail
        refine (qSign _ _ _ _ (by omega) f10_1.q s2 hs2).mono ?_
        rintro e w18 ⟨rfl, hb18⟩
        clear pwe0 pwe1 pwe2 pwe3 pwe4 pwe5
        have hB_2 := hB_1.trans (hb18.mono hB_1.size)
        have fa_2 := fa_1.below hb18
        have pa_2 := pa_1.below hb18
        have f1_2 := f1_1.below hb18
        have f2_2 := f2_1.below hb18
        have pf_2 := pf_1.below hb18
        have pr_2 := pr_1.below hb18
        have pu_2 := pu_1.below hb18
        have f8_2 := f8_1.below hb18
        have ph_2 := ph_1.below hb18
        have f10_2 := f10_1.below hb18
        have pw_2 := pw_1.below hb18
        clear hb18 hB_1 fa_1 pa_1 f1_1 f2_1 pf_1 pr_1 pu_1 f8_1 ph_1 f10_1 pw_1
        obtain ⟨pwe0, pwe1, pwe2, pwe3, pwe4, pwe5⟩ := pw_2.open3
        clear pwe0 pwe1 pwe2 pwe3 pwe4 pwe5
        by_cases h2 : s2 < 0
        · skip
          obtain ⟨pwe0, pwe1, pwe2, pwe3, pwe4, pwe5⟩ := pw_2.open3
          go_wp2_with fail
          refine (qNeg _ _ _ _ (by omega) f10_2.q).mono ?_
          rintro e w19 ⟨m11, o11, n11, c11, p11, k11, d11, rfl, f11_0, hb19⟩
          clear pwe0 pwe1 pwe2 pwe3 pwe4 pwe5
          have hB_3 := hB_2.trans (hb19.mono hB_2.size)
          have fa_3 := fa_2.below hb19
          have pa_3 := pa_2.below hb19
          have f1_3 := f1_2.below hb19
          have f2_3 := f2_2.below hb19
          have pf_3 := pf_2.below hb19
          have pr_3 := pr_2.below hb19
          have pu_3 := pu_2.below hb19
          have f8_3 := f8_2.below hb19
          have ph_3 := ph_2.below hb19
          have f10_3 := f10_2.below hb19
          have pw_3 := pw_2.below hb19
          clear hb19 hB_2 fa_2 pa_2 f1_2 f2_2 pf_2 pr_2 pu_2 f8_2 ph_2 f10_2 pw_2
          obtain ⟨pwe0, pwe1, pwe2, pwe3, pwe4, pwe5⟩ := pw_3.open3
          clear pwe0 pwe1 pwe2 pwe3 pwe4 pwe5
          obtain ⟨sf5a, sf5b, sf5c, sf5d, sf5e, sf5f⟩ := pw_3.open3
          obtain ⟨sg5a, sg5b, sg5c, sg5d⟩ := Box.put3 pw_3 (.bool m11) (.slice o11 n11 c11)
          have hB_4 := below_setAll hB_3 (g := gpw) (by omega) [.bool m11, .slice o11 n11 c11, .slice p11 k11 d11]
          have fa_4 := fa_3.setAll pw_3 (noWord3 _ _ _ _ _ _ _) [.bool m11, .slice o11 n11 c11, .slice p11 k11 d11] rfl
          have pa_4 := pa_3.farAll (g' := gpw) (by omega) [.bool m11, .slice o11 n11 c11, .slice p11 k11 d11]
          have f1_4 := f1_3.setAll pw_3 (noWord3 _ _ _ _ _ _ _) [.bool m11, .slice o11 n11 c11, .slice p11 k11 d11] rfl
          have f2_4 := f2_3.setAll pw_3 (noWord3 _ _ _ _ _ _ _) [.bool m11, .slice o11 n11 c11, .slice p11 k11 d11] rfl
          have pf_4 := pf_3.farAll (g' := gpw) (by omega) [.bool m11, .slice o11 n11 c11, .slice p11 k11 d11]
          have pr_4 := pr_3.farAll (g' := gpw) (by omega) [.bool m11, .slice o11 n11 c11, .slice p11 k11 d11]
          have pu_4 := pu_3.farAll (g' := gpw) (by omega) [.bool m11, .slice o11 n11 c11, .slice p11 k11 d11]
          have f8_4 := f8_3.setAll pw_3 (noWord3 _ _ _ _ _ _ _) [.bool m11, .slice o11 n11 c11, .slice p11 k11 d11] rfl
          have ph_4 := ph_3.farAll (g' := gpw) (by omega) [.bool m11, .slice o11 n11 c11, .slice p11 k11 d11]
          have f10_4 := f10_3.setAll pw_3 (noWord3 _ _ _ _ _ _ _) [.bool m11, .slice o11 n11 c11, .slice p11 k11 d11] rfl
          have f11_1 := f11_0.setAll pw_3 (noWord3 _ _ _ _ _ _ _) [.bool m11, .slice o11 n11 c11, .slice p11 k11 d11] rfl
          have pw_4 := pw_3.setAll [.bool m11, .slice o11 n11 c11, .slice p11 k11 d11] rfl
          simp only [setAll, Nat.zero_add, Nat.reduceAdd] at hB_4 fa_4 pa_4 f1_4 f2_4 pf_4 pr_4 pu_4 f8_4 ph_4 f10_4 pw_4 f11_1
          obtain ⟨pwe0, pwe1, pwe2, pwe3, pwe4, pwe5⟩ := pw_4.open3
          obtain ⟨phe0, phe1, phe2, phe3, phe4, phe5⟩ := ph_4.open3
          go_wp2_with fail
          clear sf5a sf5b sf5c sf5d sf5e sf5f sg5a sg5b sg5c sg5d hB_3 fa_3 pa_3 f1_3 f2_3 pf_3 pr_3 pu_3 f8_3 ph_3 f10_3 f11_0 pw_3
          generalize (World.setCell (World.setCell (World.setCell w19 ⟨gpw, 0, none⟩ (.bool m11)) ⟨gpw, 1, none⟩ (.slice o11 n11 c11)) ⟨gpw, 2, none⟩ (.slice p11 k11 d11)) = w20 at *
          obtain ⟨c, hc⟩ : ∃ c, qcmp (-((qv Xa Da) - (rnd (qv Xa Da) : Rat))) (((1 : Int) : Rat) / ((2 : Int) : Rat)) = c := ⟨_, rfl⟩
          have hc0 : ¬ 0 < c := by rw [← hc]; exact away_le (q := (qv Xa Da)) (Or.inr rfl)
          clear pwe0 pwe1 pwe2 pwe3 pwe4 pwe5 phe0 phe1 phe2 phe3 phe4 phe5
          obtain ⟨pwe0, pwe1, pwe2, pwe3, pwe4, pwe5⟩ := pw_4.open3
          obtain ⟨phe0, phe1, phe2, phe3, phe4, phe5⟩ := ph_4.open3
          go_wp2_with fail
          refine (qCmp _ _ _ _ _ _ _ (by omega) (by omega) f11_1.q f8_4.q c hc).mono ?_
          rintro e w21 ⟨rfl, hb21⟩
          clear pwe0 pwe1 pwe2 pwe3 pwe4 pwe5 phe0 phe1 phe2 phe3 phe4 phe5
          have hB_5 := hB_4.trans (hb21.mono hB_4.size)
          have fa_5 := fa_4.below hb21
          have pa_5 := pa_4.below hb21
          have f1_5 := f1_4.below hb21
          have f2_5 := f2_4.below hb21
          have pf_5 := pf_4.below hb21
          have pr_5 := pr_4.below hb21
          have pu_5 := pu_4.below hb21
          have f8_5 := f8_4.below hb21
          have ph_5 := ph_4.below hb21
          have f10_5 := f10_4.below hb21
          have pw_5 := pw_4.below hb21
          have f11_2 := f11_1.below hb21
          clear hb21 hB_4 fa_4 pa_4 f1_4 f2_4 pf_4 pr_4 pu_4 f8_4 ph_4 f10_4 pw_4 f11_1
          obtain ⟨pwe0, pwe1, pwe2, pwe3, pwe4, pwe5⟩ := pw_5.open3
          obtain ⟨phe0, phe1, phe2, phe3, phe4, phe5⟩ := ph_5.open3
          clear pwe0 pwe1 pwe2 pwe3 pwe4 pwe5 phe0 phe1 phe2 phe3 phe4 phe5
          by_cases hlt : c < 0
          · skip
            obtain ⟨pre0, pre1, pre2, pre3⟩ := pr_5.open2
            go_wp2
            clear pre0 pre1 pre2 pre3
            have hB_6 := hB_5.drew'
            have fa_6 := fa_5.drew
            have pa_6 := pa_5.drew
            have f1_6 := f1_5.drew
            have f2_6 := f2_5.drew
            have pf_6 := pf_5.drew
            have pr_6 := pr_5.drew
            have pu_6 := pu_5.drew
            have f8_6 := f8_5.drew
            have ph_6 := ph_5.drew
            have f10_6 := f10_5.drew
            have pw_6 := pw_5.drew
            have f11_3 := f11_2.drew
            clear hB_5 fa_5 pa_5 f1_5 f2_5 pf_5 pr_5 pu_5 f8_5 ph_5 f10_5 pw_5 f11_2
            go_region_held3 (fun w' => w'.cell? ⟨w.heap.size, 0, none⟩ = some (.bool am) ∧ w'.cell? ⟨w.heap.size, 1, none⟩ = some (.slice ao an ac) ∧ w'.cell? ⟨w.heap.size, 2, none⟩ = some (.slice ap ak ad) ∧ w'.cell? ⟨gpr, 0, none⟩ = some (.bool m2) ∧ w'.cell? ⟨gpr, 1, none⟩ = some (.slice o2 n2 c2) ∧ w'.cell? ⟨gpf, 0, none⟩ = some (.bool m1) ∧ w'.cell? ⟨gpf, 1, none⟩ = some (.slice o1 n1 c1))
              (first | with_reducible exact ⟨pa_6.c0, pa_6.c1, pa_6.c2, pr_6.c0, pr_6.c1, pf_6.c0, pf_6.c1⟩ | with_reducible exact ⟨pa_7.c0, pa_7.c1, pa_7.c2, pr_7.c0, pr_7.c1, pf_7.c0, pf_7.c1⟩ | with_reducible exact ⟨pa_8.c0, pa_8.c1, pa_8.c2, pr_8.c0, pr_8.c1, pf_8.c0, pf_8.c1⟩ | with_reducible exact ⟨pa_9.c0, pa_9.c1, pa_9.c2, pr_9.c0, pr_9.c1, pf_9.c0, pf_9.c1⟩ | with_reducible exact ⟨pa_10.c0, pa_10.c1, pa_10.c2, pr_10.c0, pr_10.c1, pf_10.c0, pf_10.c1⟩ | with_reducible exact ⟨pa_11.c0, pa_11.c1, pa_11.c2, pr_11.c0, pr_11.c1, pf_11.c0, pf_11.c1⟩ | with_reducible exact ⟨pa_12.c0, pa_12.c1, pa_12.c2, pr_12.c0, pr_12.c1, pf_12.c0, pf_12.c1⟩ | fail)
              (first
                | (go_at_call 19; (with_reducible refine (qNeg _ _ _ _ (by omega) fa_6.q).mono ?_); rintro e w22 ⟨m12, o12, n12, c12, p12, k12, d12, rfl, f12_0, hb22⟩; have hB_7 := hB_6.trans (hb22.mono hB_6.size); have fa_7 := fa_6.below hb22; have pa_7 := pa_6.below hb22; have f1_7 := f1_6.below hb22; have f2_7 := f2_6.below hb22; have pf_7 := pf_6.below hb22; have pr_7 := pr_6.below hb22; have pu_7 := pu_6.below hb22; have f8_7 := f8_6.below hb22; have ph_7 := ph_6.below hb22; have f10_7 := f10_6.below hb22; have pw_7 := pw_6.below hb22; have f11_4 := f11_3.below hb22; clear hb22 hB_6 fa_6 pa_6 f1_6 f2_6 pf_6 pr_6 pu_6 f8_6 ph_6 f10_6 pw_6 f11_3)
                | (go_at_call 32; (with_reducible refine (qRound _ _ _ _ (by omega) f12_0.q).mono ?_); rintro e w23 ⟨m13, o13, n13, c13, rfl, f13_0, hb23⟩; have hB_8 := hB_7.trans (hb23.mono hB_7.size); have fa_8 := fa_7.below hb23; have pa_8 := pa_7.below hb23; have f1_8 := f1_7.below hb23; have f2_8 := f2_7.below hb23; have pf_8 := pf_7.below hb23; have pr_8 := pr_7.below hb23; have pu_8 := pu_7.below hb23; have f8_8 := f8_7.below hb23; have ph_8 := ph_7.below hb23; have f10_8 := f10_7.below hb23; have pw_8 := pw_7.below hb23; have f11_5 := f11_4.below hb23; have f12_1 := f12_0.below hb23; clear hb23 hB_7 fa_7 pa_7 f1_7 f2_7 pf_7 pr_7 pu_7 f8_7 ph_7 f10_7 pw_7 f11_4 f12_0)
                | (go_at_call 20; (with_reducible refine (Neg_any _ (max 8 1 + 2) (rnd (qv Xa Da)) _ (by omega) f2_8.num).mono ?_); rintro e w24 ⟨m14, o14, n14, c14, rfl, f14_0, hb24⟩; have hB_9 := hB_8.trans (hb24.mono hB_8.size); have fa_9 := fa_8.below hb24; have pa_9 := pa_8.below hb24; have f1_9 := f1_8.below hb24; have f2_9 := f2_8.below hb24; have pf_9 := pf_8.below hb24; have pr_9 := pr_8.below hb24; have pu_9 := pu_8.below hb24; have f8_9 := f8_8.below hb24; have ph_9 := ph_8.below hb24; have f10_9 := f10_8.below hb24; have pw_9 := pw_8.below hb24; have f11_6 := f11_5.below hb24; have f12_2 := f12_1.below hb24; have f13_1 := f13_0.below hb24; clear hb24 hB_8 fa_8 pa_8 f1_8 f2_8 pf_8 pr_8 pu_8 f8_8 ph_8 f10_8 pw_8 f11_5 f12_1 f13_0)
                | (go_at_call 22; (with_reducible refine (nCmp_is _ _ _ _ _ _ 0 _ (by omega) (by omega) f13_1.num f14_0.num (by rw [rnd_neg]; exact icmp_self _)).mono ?_); rintro e w25 ⟨rfl, hb25⟩; have hB_10 := hB_9.trans (hb25.mono hB_9.size); have fa_10 := fa_9.below hb25; have pa_10 := pa_9.below hb25; have f1_10 := f1_9.below hb25; have f2_10 := f2_9.below hb25; have pf_10 := pf_9.below hb25; have pr_10 := pr_9.below hb25; have pu_10 := pu_9.below hb25; have f8_10 := f8_9.below hb25; have ph_10 := ph_9.below hb25; have f10_10 := f10_9.below hb25; have pw_10 := pw_9.below hb25; have f11_7 := f11_6.below hb25; have f12_3 := f12_2.below hb25; have f13_2 := f13_1.below hb25; have f14_1 := f14_0.below hb25; clear hb25 hB_9 fa_9 pa_9 f1_9 f2_9 pf_9 pr_9 pu_9 f8_9 ph_9 f10_9 pw_9 f11_6 f12_2 f13_1 f14_0)
                | (go_at_call 35; (with_reducible refine (Right_any _ _ _ _ (by omega) f2_10).mono ?_); rintro e w26 ⟨rfl, hb26⟩; have hB_11 := hB_10.trans (hb26.mono hB_10.size); have fa_11 := fa_10.below hb26; have pa_11 := pa_10.below hb26; have f1_11 := f1_10.below hb26; have f2_11 := f2_10.below hb26; have pf_11 := pf_10.below hb26; have pr_11 := pr_10.below hb26; have pu_11 := pu_10.below hb26; have f8_11 := f8_10.below hb26; have ph_11 := ph_10.below hb26; have f10_11 := f10_10.below hb26; have pw_11 := pw_10.below hb26; have f11_8 := f11_7.below hb26; have f12_4 := f12_3.below hb26; have f13_3 := f13_2.below hb26; have f14_2 := f14_1.below hb26; clear hb26 hB_10 fa_10 pa_10 f1_10 f2_10 pf_10 pr_10 pu_10 f8_10 ph_10 f10_10 pw_10 f11_7 f12_3 f13_2 f14_1)
                | (go_at_call 35; (with_reducible refine (Right_any _ _ _ _ (by omega) f1_11).mono ?_); rintro e w27 ⟨rfl, hb27⟩; have hB_12 := hB_11.trans (hb27.mono hB_11.size); have fa_12 := fa_11.below hb27; have pa_12 := pa_11.below hb27; have f1_12 := f1_11.below hb27; have f2_12 := f2_11.below hb27; have pf_12 := pf_11.below hb27; have pr_12 := pr_11.below hb27; have pu_12 := pu_11.below hb27; have f8_12 := f8_11.below hb27; have ph_12 := ph_11.below hb27; have f10_12 := f10_11.below hb27; have pw_12 := pw_11.below hb27; have f11_9 := f11_8.below hb27; have f12_5 := f12_4.below hb27; have f13_4 := f13_3.below hb27; have f14_3 := f14_2.below hb27; clear hb27 hB_11 fa_11 pa_11 f1_11 f2_11 pf_11 pr_11 pu_11 f8_11 ph_11 f10_11 pw_11 f11_8 f12_4 f13_3 f14_2))
            go_wp2
            go_ret
            exact ⟨rfl, hB_12⟩
          · obtain rfl : c = 0 := by omega
            have hev : rnd (qv Xa Da) % 2 = 0 := away_even (q := (qv Xa Da)) (Or.inr rfl) hc
            clear hc hc0 hlt
            cases n2 with
            | zero =>
              obtain ⟨pre0, pre1, pre2, pre3⟩ := pr_5.open2
              go_wp2
              clear pre0 pre1 pre2 pre3
              have hB_6 := hB_5.drew'
              have fa_6 := fa_5.drew
              have pa_6 := pa_5.drew
              have f1_6 := f1_5.drew
              have f2_6 := f2_5.drew
              have pf_6 := pf_5.drew
              have pr_6 := pr_5.drew
              have pu_6 := pu_5.drew
              have f8_6 := f8_5.drew
              have ph_6 := ph_5.drew
              have f10_6 := f10_5.drew
              have pw_6 := pw_5.drew
              have f11_3 := f11_2.drew
              clear hB_5 fa_5 pa_5 f1_5 f2_5 pf_5 pr_5 pu_5 f8_5 ph_5 f10_5 pw_5 f11_2
              go_region_held3 (fun w' => w'.cell? ⟨w.heap.size, 0, none⟩ = some (.bool am) ∧ w'.cell? ⟨w.heap.size, 1, none⟩ = some (.slice ao an ac) ∧ w'.cell? ⟨w.heap.size, 2, none⟩ = some (.slice ap ak ad) ∧ w'.cell? ⟨gpr, 0, none⟩ = some (.bool m2) ∧ w'.cell? ⟨gpr, 1, none⟩ = some (.slice o2 0 c2) ∧ w'.cell? ⟨gpf, 0, none⟩ = some (.bool m1) ∧ w'.cell? ⟨gpf, 1, none⟩ = some (.slice o1 n1 c1))
                (first | with_reducible exact ⟨pa_6.c0, pa_6.c1, pa_6.c2, pr_6.c0, pr_6.c1, pf_6.c0, pf_6.c1⟩ | with_reducible exact ⟨pa_7.c0, pa_7.c1, pa_7.c2, pr_7.c0, pr_7.c1, pf_7.c0, pf_7.c1⟩ | with_reducible exact ⟨pa_8.c0, pa_8.c1, pa_8.c2, pr_8.c0, pr_8.c1, pf_8.c0, pf_8.c1⟩ | with_reducible exact ⟨pa_9.c0, pa_9.c1, pa_9.c2, pr_9.c0, pr_9.c1, pf_9.c0, pf_9.c1⟩ | with_reducible exact ⟨pa_10.c0, pa_10.c1, pa_10.c2, pr_10.c0, pr_10.c1, pf_10.c0, pf_10.c1⟩ | with_reducible exact ⟨pa_11.c0, pa_11.c1, pa_11.c2, pr_11.c0, pr_11.c1, pf_11.c0, pf_11.c1⟩ | with_reducible exact ⟨pa_12.c0, pa_12.c1, pa_12.c2, pr_12.c0, pr_12.c1, pf_12.c0, pf_12.c1⟩ | fail)
                (first
                  | (go_at_call 19; (with_reducible refine (qNeg _ _ _ _ (by omega) fa_6.q).mono ?_); rintro e w22 ⟨m12, o12, n12, c12, p12, k12, d12, rfl, f12_0, hb22⟩; have hB_7 := hB_6.trans (hb22.mono hB_6.size); have fa_7 := fa_6.below hb22; have pa_7 := pa_6.below hb22; have f1_7 := f1_6.below hb22; have f2_7 := f2_6.below hb22; have pf_7 := pf_6.below hb22; have pr_7 := pr_6.below hb22; have pu_7 := pu_6.below hb22; have f8_7 := f8_6.below hb22; have ph_7 := ph_6.below hb22; have f10_7 := f10_6.below hb22; have pw_7 := pw_6.below hb22; have f11_4 := f11_3.below hb22; clear hb22 hB_6 fa_6 pa_6 f1_6 f2_6 pf_6 pr_6 pu_6 f8_6 ph_6 f10_6 pw_6 f11_3)
                  | (go_at_call 32; (with_reducible refine (qRound _ _ _ _ (by omega) f12_0.q).mono ?_); rintro e w23 ⟨m13, o13, n13, c13, rfl, f13_0, hb23⟩; have hB_8 := hB_7.trans (hb23.mono hB_7.size); have fa_8 := fa_7.below hb23; have pa_8 := pa_7.below hb23; have f1_8 := f1_7.below hb23; have f2_8 := f2_7.below hb23; have pf_8 := pf_7.below hb23; have pr_8 := pr_7.below hb23; have pu_8 := pu_7.below hb23; have f8_8 := f8_7.below hb23; have ph_8 := ph_7.below hb23; have f10_8 := f10_7.below hb23; have pw_8 := pw_7.below hb23; have f11_5 := f11_4.below hb23; have f12_1 := f12_0.below hb23; clear hb23 hB_7 fa_7 pa_7 f1_7 f2_7 pf_7 pr_7 pu_7 f8_7 ph_7 f10_7 pw_7 f11_4 f12_0)
                  | (go_at_call 20; (with_reducible refine (Neg_any _ (max 8 1 + 2) (rnd (qv Xa Da)) _ (by omega) f2_8.num).mono ?_); rintro e w24 ⟨m14, o14, n14, c14, rfl, f14_0, hb24⟩; have hB_9 := hB_8.trans (hb24.mono hB_8.size); have fa_9 := fa_8.below hb24; have pa_9 := pa_8.below hb24; have f1_9 := f1_8.below hb24; have f2_9 := f2_8.below hb24; have pf_9 := pf_8.below hb24; have pr_9 := pr_8.below hb24; have pu_9 := pu_8.below hb24; have f8_9 := f8_8.below hb24; have ph_9 := ph_8.below hb24; have f10_9 := f10_8.below hb24; have pw_9 := pw_8.below hb24; have f11_6 := f11_5.below hb24; have f12_2 := f12_1.below hb24; have f13_1 := f13_0.below hb24; clear hb24 hB_8 fa_8 pa_8 f1_8 f2_8 pf_8 pr_8 pu_8 f8_8 ph_8 f10_8 pw_8 f11_5 f12_1 f13_0)
                  | (go_at_call 22; (with_reducible refine (nCmp_is _ _ _ _ _ _ 0 _ (by omega) (by omega) f13_1.num f14_0.num (by rw [rnd_neg]; exact icmp_self _)).mono ?_); rintro e w25 ⟨rfl, hb25⟩; have hB_10 := hB_9.trans (hb25.mono hB_9.size); have fa_10 := fa_9.below hb25; have pa_10 := pa_9.below hb25; have f1_10 := f1_9.below hb25; have f2_10 := f2_9.below hb25; have pf_10 := pf_9.below hb25; have pr_10 := pr_9.below hb25; have pu_10 := pu_9.below hb25; have f8_10 := f8_9.below hb25; have ph_10 := ph_9.below hb25; have f10_10 := f10_9.below hb25; have pw_10 := pw_9.below hb25; have f11_7 := f11_6.below hb25; have f12_3 := f12_2.below hb25; have f13_2 := f13_1.below hb25; have f14_1 := f14_0.below hb25; clear hb25 hB_9 fa_9 pa_9 f1_9 f2_9 pf_9 pr_9 pu_9 f8_9 ph_9 f10_9 pw_9 f11_6 f12_2 f13_1 f14_0)
                  | (go_at_call 35; (with_reducible refine (Right_any _ _ _ _ (by omega) f2_10).mono ?_); rintro e w26 ⟨rfl, hb26⟩; have hB_11 := hB_10.trans (hb26.mono hB_10.size); have fa_11 := fa_10.below hb26; have pa_11 := pa_10.below hb26; have f1_11 := f1_10.below hb26; have f2_11 := f2_10.below hb26; have pf_11 := pf_10.below hb26; have pr_11 := pr_10.below hb26; have pu_11 := pu_10.below hb26; have f8_11 := f8_10.below hb26; have ph_11 := ph_10.below hb26; have f10_11 := f10_10.below hb26; have pw_11 := pw_10.below hb26; have f11_8 := f11_7.below hb26; have f12_4 := f12_3.below hb26; have f13_3 := f13_2.below hb26; have f14_2 := f14_1.below hb26; clear hb26 hB_10 fa_10 pa_10 f1_10 f2_10 pf_10 pr_10 pu_10 f8_10 ph_10 f10_10 pw_10 f11_7 f12_3 f13_2 f14_1)
                  | (go_at_call 35; (with_reducible refine (Right_any _ _ _ _ (by omega) f1_11).mono ?_); rintro e w27 ⟨rfl, hb27⟩; have hB_12 := hB_11.trans (hb27.mono hB_11.size); have fa_12 := fa_11.below hb27; have pa_12 := pa_11.below hb27; have f1_12 := f1_11.below hb27; have f2_12 := f2_11.below hb27; have pf_12 := pf_11.below hb27; have pr_12 := pr_11.below hb27; have pu_12 := pu_11.below hb27; have f8_12 := f8_11.below hb27; have ph_12 := ph_11.below hb27; have f10_12 := f10_11.below hb27; have pw_12 := pw_11.below hb27; have f11_9 := f11_8.below hb27; have f12_5 := f12_4.below hb27; have f13_4 := f13_3.below hb27; have f14_3 := f14_2.below hb27; clear hb27 hB_11 fa_11 pa_11 f1_11 f2_11 pf_11 pr_11 pu_11 f8_11 ph_11 f10_11 pw_11 f11_8 f12_4 f13_3 f14_2))
              go_wp2
              go_ret
              exact ⟨rfl, hB_12⟩
            | succ n2 =>
              obtain ⟨bb, oo, xx, rfl, hxx, hbit⟩ := f2_5.low
              rw [hev] at hbit
              have hn1 : (0 : Int) < (n2 : Int) + 1 := by omega
              obtain ⟨pre0, pre1, pre2, pre3⟩ := pr_5.open2
              go_wp2
              clear pre0 pre1 pre2 pre3
              have hB_6 := hB_5.drew'
              have fa_6 := fa_5.drew
              have pa_6 := pa_5.drew
              have f1_6 := f1_5.drew
              have f2_6 := f2_5.drew
              have pf_6 := pf_5.drew
              have pr_6 := pr_5.drew
              have pu_6 := pu_5.drew
              have f8_6 := f8_5.drew
              have ph_6 := ph_5.drew
              have f10_6 := f10_5.drew
              have pw_6 := pw_5.drew
              have f11_3 := f11_2.drew
              clear hB_5 fa_5 pa_5 f1_5 f2_5 pf_5 pr_5 pu_5 f8_5 ph_5 f10_5 pw_5 f11_2
              go_region_held3 (fun w' => w'.cell? ⟨w.heap.size, 0, none⟩ = some (.bool am) ∧ w'.cell? ⟨w.heap.size, 1, none⟩ = some (.slice ao an ac) ∧ w'.cell? ⟨w.heap.size, 2, none⟩ = some (.slice ap ak ad) ∧ w'.cell? ⟨gpr, 0, none⟩ = some (.bool m2) ∧ w'.cell? ⟨gpr, 1, none⟩ = some (.slice (some ⟨bb, oo, none⟩) (n2 + 1) c2) ∧ w'.cell? ⟨gpf, 0, none⟩ = some (.bool m1) ∧ w'.cell? ⟨gpf, 1, none⟩ = some (.slice o1 n1 c1))
                (first | with_reducible exact ⟨pa_6.c0, pa_6.c1, pa_6.c2, pr_6.c0, pr_6.c1, pf_6.c0, pf_6.c1⟩ | with_reducible exact ⟨pa_7.c0, pa_7.c1, pa_7.c2, pr_7.c0, pr_7.c1, pf_7.c0, pf_7.c1⟩ | with_reducible exact ⟨pa_8.c0, pa_8.c1, pa_8.c2, pr_8.c0, pr_8.c1, pf_8.c0, pf_8.c1⟩ | with_reducible exact ⟨pa_9.c0, pa_9.c1, pa_9.c2, pr_9.c0, pr_9.c1, pf_9.c0, pf_9.c1⟩ | with_reducible exact ⟨pa_10.c0, pa_10.c1, pa_10.c2, pr_10.c0, pr_10.c1, pf_10.c0, pf_10.c1⟩ | with_reducible exact ⟨pa_11.c0, pa_11.c1, pa_11.c2, pr_11.c0, pr_11.c1, pf_11.c0, pf_11.c1⟩ | with_reducible exact ⟨pa_12.c0, pa_12.c1, pa_12.c2, pr_12.c0, pr_12.c1, pf_12.c0, pf_12.c1⟩ | fail)
                (first
                  | (go_at_call 19; (with_reducible refine (qNeg _ _ _ _ (by omega) fa_6.q).mono ?_); rintro e w22 ⟨m12, o12, n12, c12, p12, k12, d12, rfl, f12_0, hb22⟩; have hB_7 := hB_6.trans (hb22.mono hB_6.size); have fa_7 := fa_6.below hb22; have pa_7 := pa_6.below hb22; have f1_7 := f1_6.below hb22; have f2_7 := f2_6.below hb22; have pf_7 := pf_6.below hb22; have pr_7 := pr_6.below hb22; have pu_7 := pu_6.below hb22; have f8_7 := f8_6.below hb22; have ph_7 := ph_6.below hb22; have f10_7 := f10_6.below hb22; have pw_7 := pw_6.below hb22; have f11_4 := f11_3.below hb22; clear hb22 hB_6 fa_6 pa_6 f1_6 f2_6 pf_6 pr_6 pu_6 f8_6 ph_6 f10_6 pw_6 f11_3)
                  | (go_at_call 32; (with_reducible refine (qRound _ _ _ _ (by omega) f12_0.q).mono ?_); rintro e w23 ⟨m13, o13, n13, c13, rfl, f13_0, hb23⟩; have hB_8 := hB_7.trans (hb23.mono hB_7.size); have fa_8 := fa_7.below hb23; have pa_8 := pa_7.below hb23; have f1_8 := f1_7.below hb23; have f2_8 := f2_7.below hb23; have pf_8 := pf_7.below hb23; have pr_8 := pr_7.below hb23; have pu_8 := pu_7.below hb23; have f8_8 := f8_7.below hb23; have ph_8 := ph_7.below hb23; have f10_8 := f10_7.below hb23; have pw_8 := pw_7.below hb23; have f11_5 := f11_4.below hb23; have f12_1 := f12_0.below hb23; clear hb23 hB_7 fa_7 pa_7 f1_7 f2_7 pf_7 pr_7 pu_7 f8_7 ph_7 f10_7 pw_7 f11_4 f12_0)
                  | (go_at_call 20; (with_reducible refine (Neg_any _ (max 8 1 + 2) (rnd (qv Xa Da)) _ (by omega) f2_8.num).mono ?_); rintro e w24 ⟨m14, o14, n14, c14, rfl, f14_0, hb24⟩; have hB_9 := hB_8.trans (hb24.mono hB_8.size); have fa_9 := fa_8.below hb24; have pa_9 := pa_8.below hb24; have f1_9 := f1_8.below hb24; have f2_9 := f2_8.below hb24; have pf_9 := pf_8.below hb24; have pr_9 := pr_8.below hb24; have pu_9 := pu_8.below hb24; have f8_9 := f8_8.below hb24; have ph_9 := ph_8.below hb24; have f10_9 := f10_8.below hb24; have pw_9 := pw_8.below hb24; have f11_6 := f11_5.below hb24; have f12_2 := f12_1.below hb24; have f13_1 := f13_0.below hb24; clear hb24 hB_8 fa_8 pa_8 f1_8 f2_8 pf_8 pr_8 pu_8 f8_8 ph_8 f10_8 pw_8 f11_5 f12_1 f13_0)
                  | (go_at_call 22; (with_reducible refine (nCmp_is _ _ _ _ _ _ 0 _ (by omega) (by omega) f13_1.num f14_0.num (by rw [rnd_neg]; exact icmp_self _)).mono ?_); rintro e w25 ⟨rfl, hb25⟩; have hB_10 := hB_9.trans (hb25.mono hB_9.size); have fa_10 := fa_9.below hb25; have pa_10 := pa_9.below hb25; have f1_10 := f1_9.below hb25; have f2_10 := f2_9.below hb25; have pf_10 := pf_9.below hb25; have pr_10 := pr_9.below hb25; have pu_10 := pu_9.below hb25; have f8_10 := f8_9.below hb25; have ph_10 := ph_9.below hb25; have f10_10 := f10_9.below hb25; have pw_10 := pw_9.below hb25; have f11_7 := f11_6.below hb25; have f12_3 := f12_2.below hb25; have f13_2 := f13_1.below hb25; have f14_1 := f14_0.below hb25; clear hb25 hB_9 fa_9 pa_9 f1_9 f2_9 pf_9 pr_9 pu_9 f8_9 ph_9 f10_9 pw_9 f11_6 f12_2 f13_1 f14_0)
                  | (go_at_call 35; (with_reducible refine (Right_any _ _ _ _ (by omega) f2_10).mono ?_); rintro e w26 ⟨rfl, hb26⟩; have hB_11 := hB_10.trans (hb26.mono hB_10.size); have fa_11 := fa_10.below hb26; have pa_11 := pa_10.below hb26; have f1_11 := f1_10.below hb26; have f2_11 := f2_10.below hb26; have pf_11 := pf_10.below hb26; have pr_11 := pr_10.below hb26; have pu_11 := pu_10.below hb26; have f8_11 := f8_10.below hb26; have ph_11 := ph_10.below hb26; have f10_11 := f10_10.below hb26; have pw_11 := pw_10.below hb26; have f11_8 := f11_7.below hb26; have f12_4 := f12_3.below hb26; have f13_3 := f13_2.below hb26; have f14_2 := f14_1.below hb26; clear hb26 hB_10 fa_10 pa_10 f1_10 f2_10 pf_10 pr_10 pu_10 f8_10 ph_10 f10_10 pw_10 f11_7 f12_3 f13_2 f14_1)
                  | (go_at_call 35; (with_reducible refine (Right_any _ _ _ _ (by omega) f1_11).mono ?_); rintro e w27 ⟨rfl, hb27⟩; have hB_12 := hB_11.trans (hb27.mono hB_11.size); have fa_12 := fa_11.below hb27; have pa_12 := pa_11.below hb27; have f1_12 := f1_11.below hb27; have f2_12 := f2_11.below hb27; have pf_12 := pf_11.below hb27; have pr_12 := pr_11.below hb27; have pu_12 := pu_11.below hb27; have f8_12 := f8_11.below hb27; have ph_12 := ph_11.below hb27; have f10_12 := f10_11.below hb27; have pw_12 := pw_11.below hb27; have f11_9 := f11_8.below hb27; have f12_5 := f12_4.below hb27; have f13_4 := f13_3.below hb27; have f14_3 := f14_2.below hb27; clear hb27 hB_11 fa_11 pa_11 f1_11 f2_11 pf_11 pr_11 pu_11 f8_11 ph_11 f10_11 pw_11 f11_8 f12_4 f13_3 f14_2))
              go_wp2
              go_ret
              exact ⟨rfl, hB_12⟩
        · skip
          obtain ⟨c, hc⟩ : ∃ c, qcmp ((qv Xa Da) - (rnd (qv Xa Da) : Rat)) (((1 : Int) : Rat) / ((2 : Int) : Rat)) = c := ⟨_, rfl⟩
          have hc0 : ¬ 0 < c := by rw [← hc]; exact away_le (q := (qv Xa Da)) (Or.inl rfl)
          obtain ⟨pwe0, pwe1, pwe2, pwe3, pwe4, pwe5⟩ := pw_2.open3
          obtain ⟨phe0, phe1, phe2, phe3, phe4, phe5⟩ := ph_2.open3
          go_wp2_with fail
          refine (qCmp _ _ _ _ _ _ _ (by omega) (by omega) f10_2.q f8_2.q c hc).mono ?_
          rintro e w19 ⟨rfl, hb19⟩
          clear pwe0 pwe1 pwe2 pwe3 pwe4 pwe5 phe0 phe1 phe2 phe3 phe4 phe5
          have hB_3 := hB_2.trans (hb19.mono hB_2.size)
          have fa_3 := fa_2.below hb19
          have pa_3 := pa_2.below hb19
          have f1_3 := f1_2.below hb19
          have f2_3 := f2_2.below hb19
          have pf_3 := pf_2.below hb19
          have pr_3 := pr_2.below hb19
          have pu_3 := pu_2.below hb19
          have f8_3 := f8_2.below hb19
          have ph_3 := ph_2.below hb19
          have f10_3 := f10_2.below hb19
          have pw_3 := pw_2.below hb19
          clear hb19 hB_2 fa_2 pa_2 f1_2 f2_2 pf_2 pr_2 pu_2 f8_2 ph_2 f10_2 pw_2
          obtain ⟨pwe0, pwe1, pwe2, pwe3, pwe4, pwe5⟩ := pw_3.open3
          obtain ⟨phe0, phe1, phe2, phe3, phe4, phe5⟩ := ph_3.open3
          clear pwe0 pwe1 pwe2 pwe3 pwe4 pwe5 phe0 phe1 phe2 phe3 phe4 phe5
          by_cases hlt : c < 0
          · skip
            obtain ⟨pre0, pre1, pre2, pre3⟩ := pr_3.open2
            go_wp2
            clear pre0 pre1 pre2 pre3
            have hB_4 := hB_3.drew'
            have fa_4 := fa_3.drew
            have pa_4 := pa_3.drew
            have f1_4 := f1_3.drew
            have f2_4 := f2_3.drew
            have pf_4 := pf_3.drew
            have pr_4 := pr_3.drew
            have pu_4 := pu_3.drew
            have f8_4 := f8_3.drew
            have ph_4 := ph_3.drew
            have f10_4 := f10_3.drew
            have pw_4 := pw_3.drew
            clear hB_3 fa_3 pa_3 f1_3 f2_3 pf_3 pr_3 pu_3 f8_3 ph_3 f10_3 pw_3
            go_region_held3 (fun w' => w'.cell? ⟨w.heap.size, 0, none⟩ = some (.bool am) ∧ w'.cell? ⟨w.heap.size, 1, none⟩ = some (.slice ao an ac) ∧ w'.cell? ⟨w.heap.size, 2, none⟩ = some (.slice ap ak ad) ∧ w'.cell? ⟨gpr, 0, none⟩ = some (.bool m2) ∧ w'.cell? ⟨gpr, 1, none⟩ = some (.slice o2 n2 c2) ∧ w'.cell? ⟨gpf, 0, none⟩ = some (.bool m1) ∧ w'.cell? ⟨gpf, 1, none⟩ = some (.slice o1 n1 c1))
              (first | with_reducible exact ⟨pa_4.c0, pa_4.c1, pa_4.c2, pr_4.c0, pr_4.c1, pf_4.c0, pf_4.c1⟩ | with_reducible exact ⟨pa_5.c0, pa_5.c1, pa_5.c2, pr_5.c0, pr_5.c1, pf_5.c0, pf_5.c1⟩ | with_reducible exact ⟨pa_6.c0, pa_6.c1, pa_6.c2, pr_6.c0, pr_6.c1, pf_6.c0, pf_6.c1⟩ | with_reducible exact ⟨pa_7.c0, pa_7.c1, pa_7.c2, pr_7.c0, pr_7.c1, pf_7.c0, pf_7.c1⟩ | with_reducible exact ⟨pa_8.c0, pa_8.c1, pa_8.c2, pr_8.c0, pr_8.c1, pf_8.c0, pf_8.c1⟩ | with_reducible exact ⟨pa_9.c0, pa_9.c1, pa_9.c2, pr_9.c0, pr_9.c1, pf_9.c0, pf_9.c1⟩ | with_reducible exact ⟨pa_10.c0, pa_10.c1, pa_10.c2, pr_10.c0, pr_10.c1, pf_10.c0, pf_10.c1⟩ | fail)
              (first
                | (go_at_call 19; (with_reducible refine (qNeg _ _ _ _ (by omega) fa_4.q).mono ?_); rintro e w20 ⟨m12, o12, n12, c12, p12, k12, d12, rfl, f12_0, hb20⟩; have hB_5 := hB_4.trans (hb20.mono hB_4.size); have fa_5 := fa_4.below hb20; have pa_5 := pa_4.below hb20; have f1_5 := f1_4.below hb20; have f2_5 := f2_4.below hb20; have pf_5 := pf_4.below hb20; have pr_5 := pr_4.below hb20; have pu_5 := pu_4.below hb20; have f8_5 := f8_4.below hb20; have ph_5 := ph_4.below hb20; have f10_5 := f10_4.below hb20; have pw_5 := pw_4.below hb20; clear hb20 hB_4 fa_4 pa_4 f1_4 f2_4 pf_4 pr_4 pu_4 f8_4 ph_4 f10_4 pw_4)
                | (go_at_call 32; (with_reducible refine (qRound _ _ _ _ (by omega) f12_0.q).mono ?_); rintro e w21 ⟨m13, o13, n13, c13, rfl, f13_0, hb21⟩; have hB_6 := hB_5.trans (hb21.mono hB_5.size); have fa_6 := fa_5.below hb21; have pa_6 := pa_5.below hb21; have f1_6 := f1_5.below hb21; have f2_6 := f2_5.below hb21; have pf_6 := pf_5.below hb21; have pr_6 := pr_5.below hb21; have pu_6 := pu_5.below hb21; have f8_6 := f8_5.below hb21; have ph_6 := ph_5.below hb21; have f10_6 := f10_5.below hb21; have pw_6 := pw_5.below hb21; have f12_1 := f12_0.below hb21; clear hb21 hB_5 fa_5 pa_5 f1_5 f2_5 pf_5 pr_5 pu_5 f8_5 ph_5 f10_5 pw_5 f12_0)
                | (go_at_call 20; (with_reducible refine (Neg_any _ (max 8 1 + 2) (rnd (qv Xa Da)) _ (by omega) f2_6.num).mono ?_); rintro e w22 ⟨m14, o14, n14, c14, rfl, f14_0, hb22⟩; have hB_7 := hB_6.trans (hb22.mono hB_6.size); have fa_7 := fa_6.below hb22; have pa_7 := pa_6.below hb22; have f1_7 := f1_6.below hb22; have f2_7 := f2_6.below hb22; have pf_7 := pf_6.below hb22; have pr_7 := pr_6.below hb22; have pu_7 := pu_6.below hb22; have f8_7 := f8_6.below hb22; have ph_7 := ph_6.below hb22; have f10_7 := f10_6.below hb22; have pw_7 := pw_6.below hb22; have f12_2 := f12_1.below hb22; have f13_1 := f13_0.below hb22; clear hb22 hB_6 fa_6 pa_6 f1_6 f2_6 pf_6 pr_6 pu_6 f8_6 ph_6 f10_6 pw_6 f12_1 f13_0)
                | (go_at_call 22; (with_reducible refine (nCmp_is _ _ _ _ _ _ 0 _ (by omega) (by omega) f13_1.num f14_0.num (by rw [rnd_neg]; exact icmp_self _)).mono ?_); rintro e w23 ⟨rfl, hb23⟩; have hB_8 := hB_7.trans (hb23.mono hB_7.size); have fa_8 := fa_7.below hb23; have pa_8 := pa_7.below hb23; have f1_8 := f1_7.below hb23; have f2_8 := f2_7.below hb23; have pf_8 := pf_7.below hb23; have pr_8 := pr_7.below hb23; have pu_8 := pu_7.below hb23; have f8_8 := f8_7.below hb23; have ph_8 := ph_7.below hb23; have f10_8 := f10_7.below hb23; have pw_8 := pw_7.below hb23; have f12_3 := f12_2.below hb23; have f13_2 := f13_1.below hb23; have f14_1 := f14_0.below hb23; clear hb23 hB_7 fa_7 pa_7 f1_7 f2_7 pf_7 pr_7 pu_7 f8_7 ph_7 f10_7 pw_7 f12_2 f13_1 f14_0)
                | (go_at_call 35; (with_reducible refine (Right_any _ _ _ _ (by omega) f2_8).mono ?_); rintro e w24 ⟨rfl, hb24⟩; have hB_9 := hB_8.trans (hb24.mono hB_8.size); have fa_9 := fa_8.below hb24; have pa_9 := pa_8.below hb24; have f1_9 := f1_8.below hb24; have f2_9 := f2_8.below hb24; have pf_9 := pf_8.below hb24; have pr_9 := pr_8.below hb24; have pu_9 := pu_8.below hb24; have f8_9 := f8_8.below hb24; have ph_9 := ph_8.below hb24; have f10_9 := f10_8.below hb24; have pw_9 := pw_8.below hb24; have f12_4 := f12_3.below hb24; have f13_3 := f13_2.below hb24; have f14_2 := f14_1.below hb24; clear hb24 hB_8 fa_8 pa_8 f1_8 f2_8 pf_8 pr_8 pu_8 f8_8 ph_8 f10_8 pw_8 f12_3 f13_2 f14_1)
                | (go_at_call 35; (with_reducible refine (Right_any _ _ _ _ (by omega) f1_9).mono ?_); rintro e w25 ⟨rfl, hb25⟩; have hB_10 := hB_9.trans (hb25.mono hB_9.size); have fa_10 := fa_9.below hb25; have pa_10 := pa_9.below hb25; have f1_10 := f1_9.below hb25; have f2_10 := f2_9.below hb25; have pf_10 := pf_9.below hb25; have pr_10 := pr_9.below hb25; have pu_10 := pu_9.below hb25; have f8_10 := f8_9.below hb25; have ph_10 := ph_9.below hb25; have f10_10 := f10_9.below hb25; have pw_10 := pw_9.below hb25; have f12_5 := f12_4.below hb25; have f13_4 := f13_3.below hb25; have f14_3 := f14_2.below hb25; clear hb25 hB_9 fa_9 pa_9 f1_9 f2_9 pf_9 pr_9 pu_9 f8_9 ph_9 f10_9 pw_9 f12_4 f13_3 f14_2))
            go_wp2
            go_ret
            exact ⟨rfl, hB_10⟩
          · obtain rfl : c = 0 := by omega
            have hev : rnd (qv Xa Da) % 2 = 0 := away_even (q := (qv Xa Da)) (Or.inl rfl) hc
            clear hc hc0 hlt
            cases n2 with
            | zero =>
              obtain ⟨pre0, pre1, pre2, pre3⟩ := pr_3.open2
              go_wp2
              clear pre0 pre1 pre2 pre3
              have hB_4 := hB_3.drew'
              have fa_4 := fa_3.drew
              have pa_4 := pa_3.drew
              have f1_4 := f1_3.drew
              have f2_4 := f2_3.drew
              have pf_4 := pf_3.drew
              have pr_4 := pr_3.drew
              have pu_4 := pu_3.drew
              have f8_4 := f8_3.drew
              have ph_4 := ph_3.drew
              have f10_4 := f10_3.drew
              have pw_4 := pw_3.drew
              clear hB_3 fa_3 pa_3 f1_3 f2_3 pf_3 pr_3 pu_3 f8_3 ph_3 f10_3 pw_3
              go_region_held3 (fun w' => w'.cell? ⟨w.heap.size, 0, none⟩ = some (.bool am) ∧ w'.cell? ⟨w.heap.size, 1, none⟩ = some (.slice ao an ac) ∧ w'.cell? ⟨w.heap.size, 2, none⟩ = some (.slice ap ak ad) ∧ w'.cell? ⟨gpr, 0, none⟩ = some (.bool m2) ∧ w'.cell? ⟨gpr, 1, none⟩ = some (.slice o2 0 c2) ∧ w'.cell? ⟨gpf, 0, none⟩ = some (.bool m1) ∧ w'.cell? ⟨gpf, 1, none⟩ = some (.slice o1 n1 c1))
                (first | with_reducible exact ⟨pa_4.c0, pa_4.c1, pa_4.c2, pr_4.c0, pr_4.c1, pf_4.c0, pf_4.c1⟩ | with_reducible exact ⟨pa_5.c0, pa_5.c1, pa_5.c2, pr_5.c0, pr_5.c1, pf_5.c0, pf_5.c1⟩ | with_reducible exact ⟨pa_6.c0, pa_6.c1, pa_6.c2, pr_6.c0, pr_6.c1, pf_6.c0, pf_6.c1⟩ | with_reducible exact ⟨pa_7.c0, pa_7.c1, pa_7.c2, pr_7.c0, pr_7.c1, pf_7.c0, pf_7.c1⟩ | with_reducible exact ⟨pa_8.c0, pa_8.c1, pa_8.c2, pr_8.c0, pr_8.c1, pf_8.c0, pf_8.c1⟩ | with_reducible exact ⟨pa_9.c0, pa_9.c1, pa_9.c2, pr_9.c0, pr_9.c1, pf_9.c0, pf_9.c1⟩ | with_reducible exact ⟨pa_10.c0, pa_10.c1, pa_10.c2, pr_10.c0, pr_10.c1, pf_10.c0, pf_10.c1⟩ | fail)
                (first
                  | (go_at_call 19; (with_reducible refine (qNeg _ _ _ _ (by omega) fa_4.q).mono ?_); rintro e w20 ⟨m12, o12, n12, c12, p12, k12, d12, rfl, f12_0, hb20⟩; have hB_5 := hB_4.trans (hb20.mono hB_4.size); have fa_5 := fa_4.below hb20; have pa_5 := pa_4.below hb20; have f1_5 := f1_4.below hb20; have f2_5 := f2_4.below hb20; have pf_5 := pf_4.below hb20; have pr_5 := pr_4.below hb20; have pu_5 := pu_4.below hb20; have f8_5 := f8_4.below hb20; have ph_5 := ph_4.below hb20; have f10_5 := f10_4.below hb20; have pw_5 := pw_4.below hb20; clear hb20 hB_4 fa_4 pa_4 f1_4 f2_4 pf_4 pr_4 pu_4 f8_4 ph_4 f10_4 pw_4)
                  | (go_at_call 32; (with_reducible refine (qRound _ _ _ _ (by omega) f12_0.q).mono ?_); rintro e w21 ⟨m13, o13, n13, c13, rfl, f13_0, hb21⟩; have hB_6 := hB_5.trans (hb21.mono hB_5.size); have fa_6 := fa_5.below hb21; have pa_6 := pa_5.below hb21; have f1_6 := f1_5.below hb21; have f2_6 := f2_5.below hb21; have pf_6 := pf_5.below hb21; have pr_6 := pr_5.below hb21; have pu_6 := pu_5.below hb21; have f8_6 := f8_5.below hb21; have ph_6 := ph_5.below hb21; have f10_6 := f10_5.below hb21; have pw_6 := pw_5.below hb21; have f12_1 := f12_0.below hb21; clear hb21 hB_5 fa_5 pa_5 f1_5 f2_5 pf_5 pr_5 pu_5 f8_5 ph_5 f10_5 pw_5 f12_0)
                  | (go_at_call 20; (with_reducible refine (Neg_any _ (max 8 1 + 2) (rnd (qv Xa Da)) _ (by omega) f2_6.num).mono ?_); rintro e w22 ⟨m14, o14, n14, c14, rfl, f14_0, hb22⟩; have hB_7 := hB_6.trans (hb22.mono hB_6.size); have fa_7 := fa_6.below hb22; have pa_7 := pa_6.below hb22; have f1_7 := f1_6.below hb22; have f2_7 := f2_6.below hb22; have pf_7 := pf_6.below hb22; have pr_7 := pr_6.below hb22; have pu_7 := pu_6.below hb22; have f8_7 := f8_6.below hb22; have ph_7 := ph_6.below hb22; have f10_7 := f10_6.below hb22; have pw_7 := pw_6.below hb22; have f12_2 := f12_1.below hb22; have f13_1 := f13_0.below hb22; clear hb22 hB_6 fa_6 pa_6 f1_6 f2_6 pf_6 pr_6 pu_6 f8_6 ph_6 f10_6 pw_6 f12_1 f13_0)
                  | (go_at_call 22; (with_reducible refine (nCmp_is _ _ _ _ _ _ 0 _ (by omega) (by omega) f13_1.num f14_0.num (by rw [rnd_neg]; exact icmp_self _)).mono ?_); rintro e w23 ⟨rfl, hb23⟩; have hB_8 := hB_7.trans (hb23.mono hB_7.size); have fa_8 := fa_7.below hb23; have pa_8 := pa_7.below hb23; have f1_8 := f1_7.below hb23; have f2_8 := f2_7.below hb23; have pf_8 := pf_7.below hb23; have pr_8 := pr_7.below hb23; have pu_8 := pu_7.below hb23; have f8_8 := f8_7.below hb23; have ph_8 := ph_7.below hb23; have f10_8 := f10_7.below hb23; have pw_8 := pw_7.below hb23; have f12_3 := f12_2.below hb23; have f13_2 := f13_1.below hb23; have f14_1 := f14_0.below hb23; clear hb23 hB_7 fa_7 pa_7 f1_7 f2_7 pf_7 pr_7 pu_7 f8_7 ph_7 f10_7 pw_7 f12_2 f13_1 f14_0)
                  | (go_at_call 35; (with_reducible refine (Right_any _ _ _ _ (by omega) f2_8).mono ?_); rintro e w24 ⟨rfl, hb24⟩; have hB_9 := hB_8.trans (hb24.mono hB_8.size); have fa_9 := fa_8.below hb24; have pa_9 := pa_8.below hb24; have f1_9 := f1_8.below hb24; have f2_9 := f2_8.below hb24; have pf_9 := pf_8.below hb24; have pr_9 := pr_8.below hb24; have pu_9 := pu_8.below hb24; have f8_9 := f8_8.below hb24; have ph_9 := ph_8.below hb24; have f10_9 := f10_8.below hb24; have pw_9 := pw_8.below hb24; have f12_4 := f12_3.below hb24; have f13_3 := f13_2.below hb24; have f14_2 := f14_1.below hb24; clear hb24 hB_8 fa_8 pa_8 f1_8 f2_8 pf_8 pr_8 pu_8 f8_8 ph_8 f10_8 pw_8 f12_3 f13_2 f14_1)
                  | (go_at_call 35; (with_reducible refine (Right_any _ _ _ _ (by omega) f1_9).mono ?_); rintro e w25 ⟨rfl, hb25⟩; have hB_10 := hB_9.trans (hb25.mono hB_9.size); have fa_10 := fa_9.below hb25; have pa_10 := pa_9.below hb25; have f1_10 := f1_9.below hb25; have f2_10 := f2_9.below hb25; have pf_10 := pf_9.below hb25; have pr_10 := pr_9.below hb25; have pu_10 := pu_9.below hb25; have f8_10 := f8_9.below hb25; have ph_10 := ph_9.below hb25; have f10_10 := f10_9.below hb25; have pw_10 := pw_9.below hb25; have f12_5 := f12_4.below hb25; have f13_4 := f13_3.below hb25; have f14_3 := f14_2.below hb25; clear hb25 hB_9 fa_9 pa_9 f1_9 f2_9 pf_9 pr_9 pu_9 f8_9 ph_9 f10_9 pw_9 f12_4 f13_3 f14_2))
              go_wp2
              go_ret
              exact ⟨rfl, hB_10⟩
            | succ n2 =>
              obtain ⟨bb, oo, xx, rfl, hxx, hbit⟩ := f2_3.low
              rw [hev] at hbit
              have hn1 : (0 : Int) < (n2 : Int) + 1 := by omega
              obtain ⟨pre0, pre1, pre2, pre3⟩ := pr_3.open2
              go_wp2
              clear pre0 pre1 pre2 pre3
              have hB_4 := hB_3.drew'
              have fa_4 := fa_3.drew
              have pa_4 := pa_3.drew
              have f1_4 := f1_3.drew
              have f2_4 := f2_3.drew
              have pf_4 := pf_3.drew
              have pr_4 := pr_3.drew
              have pu_4 := pu_3.drew
              have f8_4 := f8_3.drew
              have ph_4 := ph_3.drew
              have f10_4 := f10_3.drew
              have pw_4 := pw_3.drew
              clear hB_3 fa_3 pa_3 f1_3 f2_3 pf_3 pr_3 pu_3 f8_3 ph_3 f10_3 pw_3
              go_region_held3 (fun w' => w'.cell? ⟨w.heap.size, 0, none⟩ = some (.bool am) ∧ w'.cell? ⟨w.heap.size, 1, none⟩ = some (.slice ao an ac) ∧ w'.cell? ⟨w.heap.size, 2, none⟩ = some (.slice ap ak ad) ∧ w'.cell? ⟨gpr, 0, none⟩ = some (.bool m2) ∧ w'.cell? ⟨gpr, 1, none⟩ = some (.slice (some ⟨bb, oo, none⟩) (n2 + 1) c2) ∧ w'.cell? ⟨gpf, 0, none⟩ = some (.bool m1) ∧ w'.cell? ⟨gpf, 1, none⟩ = some (.slice o1 n1 c1))
                (first | with_reducible exact ⟨pa_4.c0, pa_4.c1, pa_4.c2, pr_4.c0, pr_4.c1, pf_4.c0, pf_4.c1⟩ | with_reducible exact ⟨pa_5.c0, pa_5.c1, pa_5.c2, pr_5.c0, pr_5.c1, pf_5.c0, pf_5.c1⟩ | with_reducible exact ⟨pa_6.c0, pa_6.c1, pa_6.c2, pr_6.c0, pr_6.c1, pf_6.c0, pf_6.c1⟩ | with_reducible exact ⟨pa_7.c0, pa_7.c1, pa_7.c2, pr_7.c0, pr_7.c1, pf_7.c0, pf_7.c1⟩ | with_reducible exact ⟨pa_8.c0, pa_8.c1, pa_8.c2, pr_8.c0, pr_8.c1, pf_8.c0, pf_8.c1⟩ | with_reducible exact ⟨pa_9.c0, pa_9.c1, pa_9.c2, pr_9.c0, pr_9.c1, pf_9.c0, pf_9.c1⟩ | with_reducible exact ⟨pa_10.c0, pa_10.c1, pa_10.c2, pr_10.c0, pr_10.c1, pf_10.c0, pf_10.c1⟩ | fail)
                (first
                  | (go_at_call 19; (with_reducible refine (qNeg _ _ _ _ (by omega) fa_4.q).mono ?_); rintro e w20 ⟨m12, o12, n12, c12, p12, k12, d12, rfl, f12_0, hb20⟩; have hB_5 := hB_4.trans (hb20.mono hB_4.size); have fa_5 := fa_4.below hb20; have pa_5 := pa_4.below hb20; have f1_5 := f1_4.below hb20; have f2_5 := f2_4.below hb20; have pf_5 := pf_4.below hb20; have pr_5 := pr_4.below hb20; have pu_5 := pu_4.below hb20; have f8_5 := f8_4.below hb20; have ph_5 := ph_4.below hb20; have f10_5 := f10_4.below hb20; have pw_5 := pw_4.below hb20; clear hb20 hB_4 fa_4 pa_4 f1_4 f2_4 pf_4 pr_4 pu_4 f8_4 ph_4 f10_4 pw_4)
                  | (go_at_call 32; (with_reducible refine (qRound _ _ _ _ (by omega) f12_0.q).mono ?_); rintro e w21 ⟨m13, o13, n13, c13, rfl, f13_0, hb21⟩; have hB_6 := hB_5.trans (hb21.mono hB_5.size); have fa_6 := fa_5.below hb21; have pa_6 := pa_5.below hb21; have f1_6 := f1_5.below hb21; have f2_6 := f2_5.below hb21; have pf_6 := pf_5.below hb21; have pr_6 := pr_5.below hb21; have pu_6 := pu_5.below hb21; have f8_6 := f8_5.below hb21; have ph_6 := ph_5.below hb21; have f10_6 := f10_5.below hb21; have pw_6 := pw_5.below hb21; have f12_1 := f12_0.below hb21; clear hb21 hB_5 fa_5 pa_5 f1_5 f2_5 pf_5 pr_5 pu_5 f8_5 ph_5 f10_5 pw_5 f12_0)
                  | (go_at_call 20; (with_reducible refine (Neg_any _ (max 8 1 + 2) (rnd (qv Xa Da)) _ (by omega) f2_6.num).mono ?_); rintro e w22 ⟨m14, o14, n14, c14, rfl, f14_0, hb22⟩; have hB_7 := hB_6.trans (hb22.mono hB_6.size); have fa_7 := fa_6.below hb22; have pa_7 := pa_6.below hb22; have f1_7 := f1_6.below hb22; have f2_7 := f2_6.below hb22; have pf_7 := pf_6.below hb22; have pr_7 := pr_6.below hb22; have pu_7 := pu_6.below hb22; have f8_7 := f8_6.below hb22; have ph_7 := ph_6.below hb22; have f10_7 := f10_6.below hb22; have pw_7 := pw_6.below hb22; have f12_2 := f12_1.below hb22; have f13_1 := f13_0.below hb22; clear hb22 hB_6 fa_6 pa_6 f1_6 f2_6 pf_6 pr_6 pu_6 f8_6 ph_6 f10_6 pw_6 f12_1 f13_0)
                  | (go_at_call 22; (with_reducible refine (nCmp_is _ _ _ _ _ _ 0 _ (by omega) (by omega) f13_1.num f14_0.num (by rw [rnd_neg]; exact icmp_self _)).mono ?_); rintro e w23 ⟨rfl, hb23⟩; have hB_8 := hB_7.trans (hb23.mono hB_7.size); have fa_8 := fa_7.below hb23; have pa_8 := pa_7.below hb23; have f1_8 := f1_7.below hb23; have f2_8 := f2_7.below hb23; have pf_8 := pf_7.below hb23; have pr_8 := pr_7.below hb23; have pu_8 := pu_7.below hb23; have f8_8 := f8_7.below hb23; have ph_8 := ph_7.below hb23; have f10_8 := f10_7.below hb23; have pw_8 := pw_7.below hb23; have f12_3 := f12_2.below hb23; have f13_2 := f13_1.below hb23; have f14_1 := f14_0.below hb23; clear hb23 hB_7 fa_7 pa_7 f1_7 f2_7 pf_7 pr_7 pu_7 f8_7 ph_7 f10_7 pw_7 f12_2 f13_1 f14_0)
                  | (go_at_call 35; (with_reducible refine (Right_any _ _ _ _ (by omega) f2_8).mono ?_); rintro e w24 ⟨rfl, hb24⟩; have hB_9 := hB_8.trans (hb24.mono hB_8.size); have fa_9 := fa_8.below hb24; have pa_9 := pa_8.below hb24; have f1_9 := f1_8.below hb24; have f2_9 := f2_8.below hb24; have pf_9 := pf_8.below hb24; have pr_9 := pr_8.below hb24; have pu_9 := pu_8.below hb24; have f8_9 := f8_8.below hb24; have ph_9 := ph_8.below hb24; have f10_9 := f10_8.below hb24; have pw_9 := pw_8.below hb24; have f12_4 := f12_3.below hb24; have f13_3 := f13_2.below hb24; have f14_2 := f14_1.below hb24; clear hb24 hB_8 fa_8 pa_8 f1_8 f2_8 pf_8 pr_8 pu_8 f8_8 ph_8 f10_8 pw_8 f12_3 f13_2 f14_1)
                  | (go_at_call 35; (with_reducible refine (Right_any _ _ _ _ (by omega) f1_9).mono ?_); rintro e w25 ⟨rfl, hb25⟩; have hB_10 := hB_9.trans (hb25.mono hB_9.size); have fa_10 := fa_9.below hb25; have pa_10 := pa_9.below hb25; have f1_10 := f1_9.below hb25; have f2_10 := f2_9.below hb25; have pf_10 := pf_9.below hb25; have pr_10 := pr_9.below hb25; have pu_10 := pu_9.below hb25; have f8_10 := f8_9.below hb25; have ph_10 := ph_9.below hb25; have f10_10 := f10_9.below hb25; have pw_10 := pw_9.below hb25; have f12_5 := f12_4.below hb25; have f13_4 := f13_3.below hb25; have f14_3 := f14_2.below hb25; clear hb25 hB_9 fa_9 pa_9 f1_9 f2_9 pf_9 pr_9 pu_9 f8_9 ph_9 f10_9 pw_9 f12_4 f13_3 f14_2))
              go_wp2
              go_ret
              exact ⟨rfl, hB_10⟩
      simp only [HAv.out, Act.put, List.setIfInBounds_toArray, List.set_cons_zero, List.set_cons_succ] at stv_2t
      have stv_2f : ∀ (w' : World) (m9 : Bool) (o9 : Option Addr) (n9 : Nat) (c9 : Nat) (p9 : Option Addr) (k9 : Nat) (d9 : Nat) (m10 : Bool) (o10 : Option Addr) (n10 : Nat) (c10 : Nat) (p10 : Option Addr) (k10 : Nat) (d10 : Nat), Below w.heap.size w w' → FD w' (.agg #[.bool am, .slice ao an ac, .slice ap ak ad]) 8 Xa Da → Box w' (w.heap.size) [.bool am, .slice ao an ac, .slice ap ak ad] → RNum w' (.agg #[.bool m1, .slice o1 n1 c1]) ((max 8 1 + 1)) ((qv Xa Da).floor) → RNum w' (.agg #[.bool m2, .slice o2 n2 c2]) ((max 8 1 + 2)) (rnd (qv Xa Da)) → Box w' (gpf) [.bool m1, .slice o1 n1 c1] → Box w' (gpr) [.bool m2, .slice o2 n2 c2] → Box w' (gpu) [.bool m4, .slice o4 n4 c4, .slice p4 k4 d4] → RF w' (.agg #[.bool m8, .slice o8 n8 c8, .slice p8 k8 d8]) (max 1 1) (((1 : Int) : Rat) / ((2 : Int) : Rat)) → Box w' (w14.heap.size) [.bool m8, .slice o8 n8 c8, .slice p8 k8 d8] → Below w15.heap.size w15 w' → RF w' (.agg #[.bool m9, .slice o9 n9 c9, .slice p9 k9 d9]) (max (max 8 1 + 2) 1) ((rnd (qv Xa Da) : Rat)) → RF w' (.agg #[.bool m10, .slice o10 n10 c10, .slice p10 k10 d10]) (8 + max (max 8 1 + 2) 1 + 2) ((qv Xa Da) - (rnd (qv Xa Da) : Rat)) → WWv 2 #[true, true, true, true, false, false] ((av.put (some 41) (.agg #[.bool m9, .slice o9 n9 c9, .slice p9 k9 d9])).put (some 42) (.agg #[.bool m10, .slice o10 n10 c10, .slice p10 k10 d10])) w' := by
        intro w19 m9 o9 n9 c9 p9 k9 d9 m10 o10 n10 c10 p10 k10 d10 hB_0 fa_0 pa_0 f1_0 f2_0 pf_0 pr_0 pu_0 f8_0 ph_0 hWv_0 f9_0 f10_0
        rw [HWv.out, HAv.out]
        try simp only [Act.put]
        try simp only [List.setIfInBounds_toArray, List.set_cons_zero, List.set_cons_succ]
        refine reg_all1 4 ?_ (by kernel_rfl) ?_ (fun K hK => ?_)
        rotate_left 1
        · simp only [List.getElem?_toArray, List.getElem?_cons_succ, List.getElem?_cons_zero]; exact rfl
        · go_simp
          have hgn : w15.heap.size ≤ w19.heap.size := hWv_0.size
          obtain ⟨w20, hww20, pw_0, hb20, -⟩ := new_box w19 _ rfl [.bool false, .slice none 0 0, .slice none 0 0] 27
          rw [hww20]
          have hB_1 := hB_0.trans (hb20.mono hB_0.size)
          have fa_1 := fa_0.below hb20
          have pa_1 := pa_0.below hb20
          have f1_1 := f1_0.below hb20
          have f2_1 := f2_0.below hb20
          have pf_1 := pf_0.below hb20
          have pr_1 := pr_0.below hb20
          have pu_1 := pu_0.below hb20
          have f8_1 := f8_0.below hb20
          have ph_1 := ph_0.below hb20
          have hWv_1 := hWv_0.trans (hb20.mono hWv_0.size)
          have f9_1 := f9_0.below hb20
          have f10_1 := f10_0.below hb20
          clear hb20 hB_0 fa_0 pa_0 f1_0 f2_0 pf_0 pr_0 pu_0 f8_0 ph_0 hWv_0 f9_0 f10_0
          refine hK.out _ _ ⟨pa_1.c0, pa_1.c1, pa_1.c2, pr_1.c0, pr_1.c1⟩ (fun hHeld => ?_)
          clear hK K
          try simp only [Act.put]
          try simp only [List.setIfInBounds_toArray, List.set_cons_zero, List.set_cons_succ]
          rw [← HWv.out]
          exact stv_2t _ m9 o9 n9 c9 p9 k9 d9 m10 o10 n10 c10 p10 k10 d10 w19.heap.size hB_1 fa_1 pa_1 f1_1 f2_1 pf_1 pr_1 pu_1 f8_1 ph_1 hWv_1 f9_1 f10_1 pw_0 (by omega)
      try simp only [HAv.out, Act.put, List.setIfInBounds_toArray, List.set_cons_zero, List.set_cons_succ] at stv_2f
      have stv_1t : ∀ (w' : World) (m9 : Bool) (o9 : Option Addr) (n9 : Nat) (c9 : Nat) (p9 : Option Addr) (k9 : Nat) (d9 : Nat) (gpw : Nat), Below w.heap.size w w' → FD w' (.agg #[.bool am, .slice ao an ac, .slice ap ak ad]) 8 Xa Da → Box w' (w.heap.size) [.bool am, .slice ao an ac, .slice ap ak ad] → RNum w' (.agg #[.bool m1, .slice o1 n1 c1]) ((max 8 1 + 1)) ((qv Xa Da).floor) → RNum w' (.agg #[.bool m2, .slice o2 n2 c2]) ((max 8 1 + 2)) (rnd (qv Xa Da)) → Box w' (gpf) [.bool m1, .slice o1 n1 c1] → Box w' (gpr) [.bool m2, .slice o2 n2 c2] → Box w' (gpu) [.bool m4, .slice o4 n4 c4, .slice p4 k4 d4] → RF w' (.agg #[.bool m8, .slice o8 n8 c8, .slice p8 k8 d8]) (max 1 1) (((1 : Int) : Rat) / ((2 : Int) : Rat)) → Box w' (w14.heap.size) [.bool m8, .slice o8 n8 c8, .slice p8 k8 d8] → Below w15.heap.size w15 w' → RF w' (.agg #[.bool m9, .slice o9 n9 c9, .slice p9 k9 d9]) (max (max 8 1 + 2) 1) ((rnd (qv Xa Da) : Rat)) → Box w' gpw [.bool false, .slice none 0 0, .slice none 0 0] → w15.heap.size ≤ gpw → WWv 2 #[true, true, true, false, true, false] ((av.put (some 41) (.agg #[.bool m9, .slice o9 n9 c9, .slice p9 k9 d9])).put (some 8) (.pointer (some ⟨gpw, 0, none⟩))) w' := by
        intro w21 m9 o9 n9 c9 p9 k9 d9 gpw hB_0 fa_0 pa_0 f1_0 f2_0 pf_0 pr_0 pu_0 f8_0 ph_0 hWv_0 f9_0 pw_0 hgpw
        rw [HWv.out, HAv.out]
        try simp only [Act.put]
        try simp only [List.setIfInBounds_toArray, List.set_cons_zero, List.set_cons_succ]
        refine reg_all1 3 ?_ (by kernel_rfl) ?_ (fun K hK => ?_)
        rotate_left 1
        · simp only [List.getElem?_toArray, List.getElem?_cons_succ, List.getElem?_cons_zero]; exact rfl
        · go_simp
          refine (qSub _ _ _ _ _ _ _ (by omega) (by omega) fa_0.q f9_0.q).mono ?_
          rintro e w22 ⟨m10, o10, n10, c10, p10, k10, d10, rfl, f10_0, hb22⟩
          have hB_1 := hB_0.trans (hb22.mono hB_0.size)
          have fa_1 := fa_0.below hb22
          have pa_1 := pa_0.below hb22
          have f1_1 := f1_0.below hb22
          have f2_1 := f2_0.below hb22
          have pf_1 := pf_0.below hb22
          have pr_1 := pr_0.below hb22
          have pu_1 := pu_0.below hb22
          have f8_1 := f8_0.below hb22
          have ph_1 := ph_0.below hb22
          have hWv_1 := hWv_0.trans (hb22.mono hWv_0.size)
          have f9_1 := f9_0.below hb22
          have pw_1 := pw_0.below hb22
          clear hb22 hB_0 fa_0 pa_0 f1_0 f2_0 pf_0 pr_0 pu_0 f8_0 ph_0 hWv_0 f9_0 pw_0
          go_wp2_with fail
          refine hK.out _ _ ⟨pa_1.c0, pa_1.c1, pa_1.c2, pr_1.c0, pr_1.c1⟩ (fun hHeld => ?_)
          clear hK K
          try simp only [Act.put]
          try simp only [List.setIfInBounds_toArray, List.set_cons_zero, List.set_cons_succ]
          rw [← HWv.out]
          exact stv_2t _ m9 o9 n9 c9 p9 k9 d9 m10 o10 n10 c10 p10 k10 d10 gpw hB_1 fa_1 pa_1 f1_1 f2_1 pf_1 pr_1 pu_1 f8_1 ph_1 hWv_1 f9_1 f10_0 pw_1 (by omega)
      try simp only [HAv.out, Act.put, List.setIfInBounds_toArray, List.set_cons_zero, List.set_cons_succ] at stv_1t
      have stv_1f : ∀ (w' : World) (m9 : Bool) (o9 : Option Addr) (n9 : Nat) (c9 : Nat) (p9 : Option Addr) (k9 : Nat) (d9 : Nat), Below w.heap.size w w' → FD w' (.agg #[.bool am, .slice ao an ac, .slice ap ak ad]) 8 Xa Da → Box w' (w.heap.size) [.bool am, .slice ao an ac, .slice ap ak ad] → RNum w' (.agg #[.bool m1, .slice o1 n1 c1]) ((max 8 1 + 1)) ((qv Xa Da).floor) → RNum w' (.agg #[.bool m2, .slice o2 n2 c2]) ((max 8 1 + 2)) (rnd (qv Xa Da)) → Box w' (gpf) [.bool m1, .slice o1 n1 c1] → Box w' (gpr) [.bool m2, .slice o2 n2 c2] → Box w' (gpu) [.bool m4, .slice o4 n4 c4, .slice p4 k4 d4] → RF w' (.agg #[.bool m8, .slice o8 n8 c8, .slice p8 k8 d8]) (max 1 1) (((1 : Int) : Rat) / ((2 : Int) : Rat)) → Box w' (w14.heap.size) [.bool m8, .slice o8 n8 c8, .slice p8 k8 d8] → Below w15.heap.size w15 w' → RF w' (.agg #[.bool m9, .slice o9 n9 c9, .slice p9 k9 d9]) (max (max 8 1 + 2) 1) ((rnd (qv Xa Da) : Rat)) → WWv 3 #[true, true, true, false, false, false] (av.put (some 41) (.agg #[.bool m9, .slice o9 n9 c9, .slice p9 k9 d9])) w' := by
        intro w23 m9 o9 n9 c9 p9 k9 d9 hB_0 fa_0 pa_0 f1_0 f2_0 pf_0 pr_0 pu_0 f8_0 ph_0 hWv_0 f9_0
        rw [HWv.out, HAv.out]
        try simp only [Act.put]
        try simp only [List.setIfInBounds_toArray, List.set_cons_zero, List.set_cons_succ]
        refine reg_all2 3 4 ?_ ?_ (by kernel_rfl) ?_ ?_ (fun K hK => ?_) (fun K hK => ?_)
        rotate_left 2
        · simp only [List.getElem?_toArray, List.getElem?_cons_succ, List.getElem?_cons_zero]; exact rfl
        · simp only [List.getElem?_toArray, List.getElem?_cons_succ, List.getElem?_cons_zero]; exact rfl
        · go_simp
          refine (qSub _ _ _ _ _ _ _ (by omega) (by omega) fa_0.q f9_0.q).mono ?_
          rintro e w24 ⟨m10, o10, n10, c10, p10, k10, d10, rfl, f10_0, hb24⟩
          have hB_1 := hB_0.trans (hb24.mono hB_0.size)
          have fa_1 := fa_0.below hb24
          have pa_1 := pa_0.below hb24
          have f1_1 := f1_0.below hb24
          have f2_1 := f2_0.below hb24
          have pf_1 := pf_0.below hb24
          have pr_1 := pr_0.below hb24
          have pu_1 := pu_0.below hb24
          have f8_1 := f8_0.below hb24
          have ph_1 := ph_0.below hb24
          have hWv_1 := hWv_0.trans (hb24.mono hWv_0.size)
          have f9_1 := f9_0.below hb24
          clear hb24 hB_0 fa_0 pa_0 f1_0 f2_0 pf_0 pr_0 pu_0 f8_0 ph_0 hWv_0 f9_0
          go_wp2_with fail
          refine hK.out _ _ ⟨pa_1.c0, pa_1.c1, pa_1.c2, pr_1.c0, pr_1.c1⟩ (fun hHeld => ?_)
          clear hK K
          try simp only [Act.put]
          try simp only [List.setIfInBounds_toArray, List.set_cons_zero, List.set_cons_succ]
          rw [← HWv.out]
          exact stv_2f _ m9 o9 n9 c9 p9 k9 d9 m10 o10 n10 c10 p10 k10 d10 hB_1 fa_1 pa_1 f1_1 f2_1 pf_1 pr_1 pu_1 f8_1 ph_1 hWv_1 f9_1 f10_0
        · go_simp
          have hgn : w15.heap.size ≤ w23.heap.size := hWv_0.size
          obtain ⟨w25, hww25, pw_0, hb25, -⟩ := new_box w23 _ rfl [.bool false, .slice none 0 0, .slice none 0 0] 27
          rw [hww25]
          have hB_1 := hB_0.trans (hb25.mono hB_0.size)
          have fa_1 := fa_0.below hb25
          have pa_1 := pa_0.below hb25
          have f1_1 := f1_0.below hb25
          have f2_1 := f2_0.below hb25
          have pf_1 := pf_0.below hb25
          have pr_1 := pr_0.below hb25
          have pu_1 := pu_0.below hb25
          have f8_1 := f8_0.below hb25
          have ph_1 := ph_0.below hb25
          have hWv_1 := hWv_0.trans (hb25.mono hWv_0.size)
          have f9_1 := f9_0.below hb25
          clear hb25 hB_0 fa_0 pa_0 f1_0 f2_0 pf_0 pr_0 pu_0 f8_0 ph_0 hWv_0 f9_0
          refine hK.out _ _ ⟨pa_1.c0, pa_1.c1, pa_1.c2, pr_1.c0, pr_1.c1⟩ (fun hHeld => ?_)
          clear hK K
          try simp only [Act.put]
          try simp only [List.setIfInBounds_toArray, List.set_cons_zero, List.set_cons_succ]
          rw [← HWv.out]
          exact stv_1t _ m9 o9 n9 c9 p9 k9 d9 w23.heap.size hB_1 fa_1 pa_1 f1_1 f2_1 pf_1 pr_1 pu_1 f8_1 ph_1 hWv_1 f9_1 pw_0 (by omega)
      try simp only [HAv.out, Act.put, List.setIfInBounds_toArray, List.set_cons_zero, List.set_cons_succ] at stv_1f
      have stv_0t : ∀ (w' : World) (gpw : Nat), Below w.heap.size w w' → FD w' (.agg #[.bool am, .slice ao an ac, .slice ap ak ad]) 8 Xa Da → Box w' (w.heap.size) [.bool am, .slice ao an ac, .slice ap ak ad] → RNum w' (.agg #[.bool m1, .slice o1 n1 c1]) ((max 8 1 + 1)) ((qv Xa Da).floor) → RNum w' (.agg #[.bool m2, .slice o2 n2 c2]) ((max 8 1 + 2)) (rnd (qv Xa Da)) → Box w' (gpf) [.bool m1, .slice o1 n1 c1] → Box w' (gpr) [.bool m2, .slice o2 n2 c2] → Box w' (gpu) [.bool m4, .slice o4 n4 c4, .slice p4 k4 d4] → RF w' (.agg #[.bool m8, .slice o8 n8 c8, .slice p8 k8 d8]) (max 1 1) (((1 : Int) : Rat) / ((2 : Int) : Rat)) → Box w' (w14.heap.size) [.bool m8, .slice o8 n8 c8, .slice p8 k8 d8] → Below w15.heap.size w15 w' → Box w' gpw [.bool false, .slice none 0 0, .slice none 0 0] → w15.heap.size ≤ gpw → WWv 3 #[true, true, false, false, true, false] (av.put (some 8) (.pointer (some ⟨gpw, 0, none⟩))) w' := by
        intro w26 gpw hB_0 fa_0 pa_0 f1_0 f2_0 pf_0 pr_0 pu_0 f8_0 ph_0 hWv_0 pw_0 hgpw
        rw [HWv.out, HAv.out]
        try simp only [Act.put]
        try simp only [List.setIfInBounds_toArray, List.set_cons_zero, List.set_cons_succ]
        refine reg_all1 2 ?_ (by kernel_rfl) ?_ (fun K hK => ?_)
        rotate_left 1
        · simp only [List.getElem?_toArray, List.getElem?_cons_succ, List.getElem?_cons_zero]; exact rfl
        · go_simp
          refine (Whole_any _ (max 8 1 + 2) _ _ (by omega) f2_0.num).mono ?_
          rintro e w27 ⟨m9, o9, n9, c9, p9, k9, d9, rfl, f9_0, hb27⟩
          have hB_1 := hB_0.trans (hb27.mono hB_0.size)
          have fa_1 := fa_0.below hb27
          have pa_1 := pa_0.below hb27
          have f1_1 := f1_0.below hb27
          have f2_1 := f2_0.below hb27
          have pf_1 := pf_0.below hb27
          have pr_1 := pr_0.below hb27
          have pu_1 := pu_0.below hb27
          have f8_1 := f8_0.below hb27
          have ph_1 := ph_0.below hb27
          have hWv_1 := hWv_0.trans (hb27.mono hWv_0.size)
          have pw_1 := pw_0.below hb27
          clear hb27 hB_0 fa_0 pa_0 f1_0 f2_0 pf_0 pr_0 pu_0 f8_0 ph_0 hWv_0 pw_0
          go_wp2_with fail
          refine hK.out _ _ ⟨pa_1.c0, pa_1.c1, pa_1.c2, pr_1.c0, pr_1.c1⟩ (fun hHeld => ?_)
          clear hK K
          try simp only [Act.put]
          try simp only [List.setIfInBounds_toArray, List.set_cons_zero, List.set_cons_succ]
          rw [← HWv.out]
          exact stv_1t _ m9 o9 n9 c9 p9 k9 d9 gpw hB_1 fa_1 pa_1 f1_1 f2_1 pf_1 pr_1 pu_1 f8_1 ph_1 hWv_1 f9_0 pw_1 (by omega)
      try simp only [HAv.out, Act.put, List.setIfInBounds_toArray, List.set_cons_zero, List.set_cons_succ] at stv_0t
      have stv_0f : ∀ (w' : World), Below w.heap.size w w' → FD w' (.agg #[.bool am, .slice ao an ac, .slice ap ak ad]) 8 Xa Da → Box w' (w.heap.size) [.bool am, .slice ao an ac, .slice ap ak ad] → RNum w' (.agg #[.bool m1, .slice o1 n1 c1]) ((max 8 1 + 1)) ((qv Xa Da).floor) → RNum w' (.agg #[.bool m2, .slice o2 n2 c2]) ((max 8 1 + 2)) (rnd (qv Xa Da)) → Box w' (gpf) [.bool m1, .slice o1 n1 c1] → Box w' (gpr) [.bool m2, .slice o2 n2 c2] → Box w' (gpu) [.bool m4, .slice o4 n4 c4, .slice p4 k4 d4] → RF w' (.agg #[.bool m8, .slice o8 n8 c8, .slice p8 k8 d8]) (max 1 1) (((1 : Int) : Rat) / ((2 : Int) : Rat)) → Box w' (w14.heap.size) [.bool m8, .slice o8 n8 c8, .slice p8 k8 d8] → Below w15.heap.size w15 w' → WWv 4 #[true, true, false, false, false, false] av w' := by
        intro w28 hB_0 fa_0 pa_0 f1_0 f2_0 pf_0 pr_0 pu_0 f8_0 ph_0 hWv_0
        rw [HWv.out, HAv.out]
        try simp only [Act.put]
        try simp only [List.setIfInBounds_toArray, List.set_cons_zero, List.set_cons_succ]
        refine reg_all2 2 4 ?_ ?_ (by kernel_rfl) ?_ ?_ (fun K hK => ?_) (fun K hK => ?_)
        rotate_left 2
        · simp only [List.getElem?_toArray, List.getElem?_cons_succ, List.getElem?_cons_zero]; exact rfl
        · simp only [List.getElem?_toArray, List.getElem?_cons_succ, List.getElem?_cons_zero]; exact rfl
        · go_simp
          refine (Whole_any _ (max 8 1 + 2) _ _ (by omega) f2_0.num).mono ?_
          rintro e w29 ⟨m9, o9, n9, c9, p9, k9, d9, rfl, f9_0, hb29⟩
          have hB_1 := hB_0.trans (hb29.mono hB_0.size)
          have fa_1 := fa_0.below hb29
          have pa_1 := pa_0.below hb29
          have f1_1 := f1_0.below hb29
          have f2_1 := f2_0.below hb29
          have pf_1 := pf_0.below hb29
          have pr_1 := pr_0.below hb29
          have pu_1 := pu_0.below hb29
          have f8_1 := f8_0.below hb29
          have ph_1 := ph_0.below hb29
          have hWv_1 := hWv_0.trans (hb29.mono hWv_0.size)
          clear hb29 hB_0 fa_0 pa_0 f1_0 f2_0 pf_0 pr_0 pu_0 f8_0 ph_0 hWv_0
          go_wp2_with fail
          refine hK.out _ _ ⟨pa_1.c0, pa_1.c1, pa_1.c2, pr_1.c0, pr_1.c1⟩ (fun hHeld => ?_)
          clear hK K
          try simp only [Act.put]
          try simp only [List.setIfInBounds_toArray, List.set_cons_zero, List.set_cons_succ]
          rw [← HWv.out]
          exact stv_1f _ m9 o9 n9 c9 p9 k9 d9 hB_1 fa_1 pa_1 f1_1 f2_1 pf_1 pr_1 pu_1 f8_1 ph_1 hWv_1 f9_0
        · go_simp
          have hgn : w15.heap.size ≤ w28.heap.size := hWv_0.size
          obtain ⟨w30, hww30, pw_0, hb30, -⟩ := new_box w28 _ rfl [.bool false, .slice none 0 0, .slice none 0 0] 27
          rw [hww30]
          have hB_1 := hB_0.trans (hb30.mono hB_0.size)
          have fa_1 := fa_0.below hb30
          have pa_1 := pa_0.below hb30
          have f1_1 := f1_0.below hb30
          have f2_1 := f2_0.below hb30
          have pf_1 := pf_0.below hb30
          have pr_1 := pr_0.below hb30
          have pu_1 := pu_0.below hb30
          have f8_1 := f8_0.below hb30
          have ph_1 := ph_0.below hb30
          have hWv_1 := hWv_0.trans (hb30.mono hWv_0.size)
          clear hb30 hB_0 fa_0 pa_0 f1_0 f2_0 pf_0 pr_0 pu_0 f8_0 ph_0 hWv_0
          refine hK.out _ _ ⟨pa_1.c0, pa_1.c1, pa_1.c2, pr_1.c0, pr_1.c1⟩ (fun hHeld => ?_)
          clear hK K
          try simp only [Act.put]
          try simp only [List.setIfInBounds_toArray, List.set_cons_zero, List.set_cons_succ]
          rw [← HWv.out]
          exact stv_0t _ w28.heap.size hB_1 fa_1 pa_1 f1_1 f2_1 pf_1 pr_1 pu_1 f8_1 ph_1 hWv_1 pw_0 (by omega)
      exact stv_0f _ hB_10 fa_10 pa_10 f1_10 f2_10 pf_10 pr_10 pu_10 f8_2 ph_1 hWv_1
    simp only [HAu.out, Act.put, List.setIfInBounds_toArray, List.set_cons_zero, List.set_cons_succ] at stu_2t
    have stu_2f : ∀ (w' : World) (m3 : Bool) (o3 : Option Addr) (n3 : Nat) (c3 : Nat) (p3 : Option Addr) (k3 : Nat) (d3 : Nat) (m4 : Bool) (o4 : Option Addr) (n4 : Nat) (c4 : Nat) (p4 : Option Addr) (k4 : Nat) (d4 : Nat), Below w.heap.size w w' → FD w' (.agg #[.bool am, .slice ao an ac, .slice ap ak ad]) 8 Xa Da → Box w' (w.heap.size) [.bool am, .slice ao an ac, .slice ap ak ad] → RNum w' (.agg #[.bool m1, .slice o1 n1 c1]) ((max 8 1 + 1)) ((qv Xa Da).floor) → RNum w' (.agg #[.bool m2, .slice o2 n2 c2]) ((max 8 1 + 2)) (rnd (qv Xa Da)) → Box w' (gpf) [.bool m1, .slice o1 n1 c1] → Box w' (gpr) [.bool m2, .slice o2 n2 c2] → Below w6.heap.size w6 w' → RF w' (.agg #[.bool m3, .slice o3 n3 c3, .slice p3 k3 d3]) (max (max 8 1 + 1) 1) (((qv Xa Da).floor : Rat)) → RF w' (.agg #[.bool m4, .slice o4 n4 c4, .slice p4 k4 d4]) (8 + max (max 8 1 + 1) 1 + 2) ((qv Xa Da) - ((qv Xa Da).floor : Rat)) → WWu 2 #[true, true, true, true, false, false] ((au.put (some 22) (.agg #[.bool m3, .slice o3 n3 c3, .slice p3 k3 d3])).put (some 23) (.agg #[.bool m4, .slice o4 n4 c4, .slice p4 k4 d4])) w' := by
      intro w31 m3 o3 n3 c3 p3 k3 d3 m4 o4 n4 c4 p4 k4 d4 hB_0 fa_0 pa_0 f1_0 f2_0 pf_0 pr_0 hWu_0 f3_0 f4_0
      rw [HWu.out, HAu.out]
      try simp only [Act.put]
      try simp only [List.setIfInBounds_toArray, List.set_cons_zero, List.set_cons_succ]
      refine reg_all1 4 ?_ (by kernel_rfl) ?_ (fun K hK => ?_)
      rotate_left 1
      · simp only [List.getElem?_toArray, List.getElem?_cons_succ, List.getElem?_cons_zero]; exact rfl
      · go_simp
        have hgn : w6.heap.size ≤ w31.heap.size := hWu_0.size
        obtain ⟨w32, hww32, pu_0, hb32, -⟩ := new_box w31 _ rfl [.bool false, .slice none 0 0, .slice none 0 0] 27
        rw [hww32]
        have hB_1 := hB_0.trans (hb32.mono hB_0.size)
        have fa_1 := fa_0.below hb32
        have pa_1 := pa_0.below hb32
        have f1_1 := f1_0.below hb32
        have f2_1 := f2_0.below hb32
        have pf_1 := pf_0.below hb32
        have pr_1 := pr_0.below hb32
        have hWu_1 := hWu_0.trans (hb32.mono hWu_0.size)
        have f3_1 := f3_0.below hb32
        have f4_1 := f4_0.below hb32
        clear hb32 hB_0 fa_0 pa_0 f1_0 f2_0 pf_0 pr_0 hWu_0 f3_0 f4_0
        refine hK.out _ _ ⟨pa_1.c0, pa_1.c1, pa_1.c2, pf_1.c0, pf_1.c1⟩ (fun hHeld => ?_)
        clear hK K
        try simp only [Act.put]
        try simp only [List.setIfInBounds_toArray, List.set_cons_zero, List.set_cons_succ]
        rw [← HWu.out]
        exact stu_2t _ m3 o3 n3 c3 p3 k3 d3 m4 o4 n4 c4 p4 k4 d4 w31.heap.size hB_1 fa_1 pa_1 f1_1 f2_1 pf_1 pr_1 hWu_1 f3_1 f4_1 pu_0 (by omega)
    try simp only [HAu.out, Act.put, List.setIfInBounds_toArray, List.set_cons_zero, List.set_cons_succ] at stu_2f
    have stu_1t : ∀ (w' : World) (m3 : Bool) (o3 : Option Addr) (n3 : Nat) (c3 : Nat) (p3 : Option Addr) (k3 : Nat) (d3 : Nat) (gpu : Nat), Below w.heap.size w w' → FD w' (.agg #[.bool am, .slice ao an ac, .slice ap ak ad]) 8 Xa Da → Box w' (w.heap.size) [.bool am, .slice ao an ac, .slice ap ak ad] → RNum w' (.agg #[.bool m1, .slice o1 n1 c1]) ((max 8 1 + 1)) ((qv Xa Da).floor) → RNum w' (.agg #[.bool m2, .slice o2 n2 c2]) ((max 8 1 + 2)) (rnd (qv Xa Da)) → Box w' (gpf) [.bool m1, .slice o1 n1 c1] → Box w' (gpr) [.bool m2, .slice o2 n2 c2] → Below w6.heap.size w6 w' → RF w' (.agg #[.bool m3, .slice o3 n3 c3, .slice p3 k3 d3]) (max (max 8 1 + 1) 1) (((qv Xa Da).floor : Rat)) → Box w' gpu [.bool false, .slice none 0 0, .slice none 0 0] → w6.heap.size ≤ gpu → WWu 2 #[true, true, true, false, true, false] ((au.put (some 22) (.agg #[.bool m3, .slice o3 n3 c3, .slice p3 k3 d3])).put (some 5) (.pointer (some ⟨gpu, 0, none⟩))) w' := by
      intro w33 m3 o3 n3 c3 p3 k3 d3 gpu hB_0 fa_0 pa_0 f1_0 f2_0 pf_0 pr_0 hWu_0 f3_0 pu_0 hgpu
      rw [HWu.out, HAu.out]
      try simp only [Act.put]
      try simp only [List.setIfInBounds_toArray, List.set_cons_zero, List.set_cons_succ]
      refine reg_all1 3 ?_ (by kernel_rfl) ?_ (fun K hK => ?_)
      rotate_left 1
      · simp only [List.getElem?_toArray, List.getElem?_cons_succ, List.getElem?_cons_zero]; exact rfl
      · go_simp
        refine (qSub _ _ _ _ _ _ _ (by omega) (by omega) fa_0.q f3_0.q).mono ?_
        rintro e w34 ⟨m4, o4, n4, c4, p4, k4, d4, rfl, f4_0, hb34⟩
        have hB_1 := hB_0.trans (hb34.mono hB_0.size)
        have fa_1 := fa_0.below hb34
        have pa_1 := pa_0.below hb34
        have f1_1 := f1_0.below hb34
        have f2_1 := f2_0.below hb34
        have pf_1 := pf_0.below hb34
        have pr_1 := pr_0.below hb34
        have hWu_1 := hWu_0.trans (hb34.mono hWu_0.size)
        have f3_1 := f3_0.below hb34
        have pu_1 := pu_0.below hb34
        clear hb34 hB_0 fa_0 pa_0 f1_0 f2_0 pf_0 pr_0 hWu_0 f3_0 pu_0
        go_wp2_with fail
        refine hK.out _ _ ⟨pa_1.c0, pa_1.c1, pa_1.c2, pf_1.c0, pf_1.c1⟩ (fun hHeld => ?_)
        clear hK K
        try simp only [Act.put]
        try simp only [List.setIfInBounds_toArray, List.set_cons_zero, List.set_cons_succ]
        rw [← HWu.out]
        exact stu_2t _ m3 o3 n3 c3 p3 k3 d3 m4 o4 n4 c4 p4 k4 d4 gpu hB_1 fa_1 pa_1 f1_1 f2_1 pf_1 pr_1 hWu_1 f3_1 f4_0 pu_1 (by omega)
    try simp only [HAu.out, Act.put, List.setIfInBounds_toArray, List.set_cons_zero, List.set_cons_succ] at stu_1t
    have stu_1f : ∀ (w' : World) (m3 : Bool) (o3 : Option Addr) (n3 : Nat) (c3 : Nat) (p3 : Option Addr) (k3 : Nat) (d3 : Nat), Below w.heap.size w w' → FD w' (.agg #[.bool am, .slice ao an ac, .slice ap ak ad]) 8 Xa Da → Box w' (w.heap.size) [.bool am, .slice ao an ac, .slice ap ak ad] → RNum w' (.agg #[.bool m1, .slice o1 n1 c1]) ((max 8 1 + 1)) ((qv Xa Da).floor) → RNum w' (.agg #[.bool m2, .slice o2 n2 c2]) ((max 8 1 + 2)) (rnd (qv Xa Da)) → Box w' (gpf) [.bool m1, .slice o1 n1 c1] → Box w' (gpr) [.bool m2, .slice o2 n2 c2] → Below w6.heap.size w6 w' → RF w' (.agg #[.bool m3, .slice o3 n3 c3, .slice p3 k3 d3]) (max (max 8 1 + 1) 1) (((qv Xa Da).floor : Rat)) → WWu 3 #[true, true, true, false, false, false] (au.put (some 22) (.agg #[.bool m3, .slice o3 n3 c3, .slice p3 k3 d3])) w' := by
      intro w35 m3 o3 n3 c3 p3 k3 d3 hB_0 fa_0 pa_0 f1_0 f2_0 pf_0 pr_0 hWu_0 f3_0
      rw [HWu.out, HAu.out]
      try simp only [Act.put]
      try simp only [List.setIfInBounds_toArray, List.set_cons_zero, List.set_cons_succ]
      refine reg_all2 3 4 ?_ ?_ (by kernel_rfl) ?_ ?_ (fun K hK => ?_) (fun K hK => ?_)
      rotate_left 2
      · simp only [List.getElem?_toArray, List.getElem?_cons_succ, List.getElem?_cons_zero]; exact rfl
      · simp only [List.getElem?_toArray, List.getElem?_cons_succ, List.getElem?_cons_zero]; exact rfl
      · go_simp
        refine (qSub _ _ _ _ _ _ _ (by omega) (by omega) fa_0.q f3_0.q).mono ?_
        rintro e w36 ⟨m4, o4, n4, c4, p4, k4, d4, rfl, f4_0, hb36⟩
        have hB_1 := hB_0.trans (hb36.mono hB_0.size)
        have fa_1 := fa_0.below hb36
        have pa_1 := pa_0.below hb36
        have f1_1 := f1_0.below hb36
        have f2_1 := f2_0.below hb36
        have pf_1 := pf_0.below hb36
        have pr_1 := pr_0.below hb36
        have hWu_1 := hWu_0.trans (hb36.mono hWu_0.size)
        have f3_1 := f3_0.below hb36
        clear hb36 hB_0 fa_0 pa_0 f1_0 f2_0 pf_0 pr_0 hWu_0 f3_0
        go_wp2_with fail
        refine hK.out _ _ ⟨pa_1.c0, pa_1.c1, pa_1.c2, pf_1.c0, pf_1.c1⟩ (fun hHeld => ?_)
        clear hK K
        try simp only [Act.put]
        try simp only [List.setIfInBounds_toArray, List.set_cons_zero, List.set_cons_succ]
        rw [← HWu.out]
        exact stu_2f _ m3 o3 n3 c3 p3 k3 d3 m4 o4 n4 c4 p4 k4 d4 hB_1 fa_1 pa_1 f1_1 f2_1 pf_1 pr_1 hWu_1 f3_1 f4_0
      · go_simp
        have hgn : w6.heap.size ≤ w35.heap.size := hWu_0.size
        obtain ⟨w37, hww37, pu_0, hb37, -⟩ := new_box w35 _ rfl [.bool false, .slice none 0 0, .slice none 0 0] 27
        rw [hww37]
        have hB_1 := hB_0.trans (hb37.mono hB_0.size)
        have fa_1 := fa_0.below hb37
        have pa_1 := pa_0.below hb37
        have f1_1 := f1_0.below hb37
        have f2_1 := f2_0.below hb37
        have pf_1 := pf_0.below hb37
        have pr_1 := pr_0.below hb37
        have hWu_1 := hWu_0.trans (hb37.mono hWu_0.size)
        have f3_1 := f3_0.below hb37
        clear hb37 hB_0 fa_0 pa_0 f1_0 f2_0 pf_0 pr_0 hWu_0 f3_0
        refine hK.out _ _ ⟨pa_1.c0, pa_1.c1, pa_1.c2, pf_1.c0, pf_1.c1⟩ (fun hHeld => ?_)
        clear hK K
        try simp only [Act.put]
        try simp only [List.setIfInBounds_toArray, List.set_cons_zero, List.set_cons_succ]
        rw [← HWu.out]
        exact stu_1t _ m3 o3 n3 c3 p3 k3 d3 w35.heap.size hB_1 fa_1 pa_1 f1_1 f2_1 pf_1 pr_1 hWu_1 f3_1 pu_0 (by omega)
    try simp only [HAu.out, Act.put, List.setIfInBounds_toArray, List.set_cons_zero, List.set_cons_succ] at stu_1f
    have stu_0t : ∀ (w' : World) (gpu : Nat), Below w.heap.size w w' → FD w' (.agg #[.bool am, .slice ao an ac, .slice ap ak ad]) 8 Xa Da → Box w' (w.heap.size) [.bool am, .slice ao an ac, .slice ap ak ad] → RNum w' (.agg #[.bool m1, .slice o1 n1 c1]) ((max 8 1 + 1)) ((qv Xa Da).floor) → RNum w' (.agg #[.bool m2, .slice o2 n2 c2]) ((max 8 1 + 2)) (rnd (qv Xa Da)) → Box w' (gpf) [.bool m1, .slice o1 n1 c1] → Box w' (gpr) [.bool m2, .slice o2 n2 c2] → Below w6.heap.size w6 w' → Box w' gpu [.bool false, .slice none 0 0, .slice none 0 0] → w6.heap.size ≤ gpu → WWu 3 #[true, true, false, false, true, false] (au.put (some 5) (.pointer (some ⟨gpu, 0, none⟩))) w' := by
      intro w38 gpu hB_0 fa_0 pa_0 f1_0 f2_0 pf_0 pr_0 hWu_0 pu_0 hgpu
      rw [HWu.out, HAu.out]
      try simp only [Act.put]
      try simp only [List.setIfInBounds_toArray, List.set_cons_zero, List.set_cons_succ]
      refine reg_all1 2 ?_ (by kernel_rfl) ?_ (fun K hK => ?_)
      rotate_left 1
      · simp only [List.getElem?_toArray, List.getElem?_cons_succ, List.getElem?_cons_zero]; exact rfl
      · go_simp
        refine (Whole_any _ (max 8 1 + 1) _ _ (by omega) f1_0.num).mono ?_
        rintro e w39 ⟨m3, o3, n3, c3, p3, k3, d3, rfl, f3_0, hb39⟩
        have hB_1 := hB_0.trans (hb39.mono hB_0.size)
        have fa_1 := fa_0.below hb39
        have pa_1 := pa_0.below hb39
        have f1_1 := f1_0.below hb39
        have f2_1 := f2_0.below hb39
        have pf_1 := pf_0.below hb39
        have pr_1 := pr_0.below hb39
        have hWu_1 := hWu_0.trans (hb39.mono hWu_0.size)
        have pu_1 := pu_0.below hb39
        clear hb39 hB_0 fa_0 pa_0 f1_0 f2_0 pf_0 pr_0 hWu_0 pu_0
        go_wp2_with fail
        refine hK.out _ _ ⟨pa_1.c0, pa_1.c1, pa_1.c2, pf_1.c0, pf_1.c1⟩ (fun hHeld => ?_)
        clear hK K
        try simp only [Act.put]
        try simp only [List.setIfInBounds_toArray, List.set_cons_zero, List.set_cons_succ]
        rw [← HWu.out]
        exact stu_1t _ m3 o3 n3 c3 p3 k3 d3 gpu hB_1 fa_1 pa_1 f1_1 f2_1 pf_1 pr_1 hWu_1 f3_0 pu_1 (by omega)
    try simp only [HAu.out, Act.put, List.setIfInBounds_toArray, List.set_cons_zero, List.set_cons_succ] at stu_0t
    have stu_0f : ∀ (w' : World), Below w.heap.size w w' → FD w' (.agg #[.bool am, .slice ao an ac, .slice ap ak ad]) 8 Xa Da → Box w' (w.heap.size) [.bool am, .slice ao an ac, .slice ap ak ad] → RNum w' (.agg #[.bool m1, .slice o1 n1 c1]) ((max 8 1 + 1)) ((qv Xa Da).floor) → RNum w' (.agg #[.bool m2, .slice o2 n2 c2]) ((max 8 1 + 2)) (rnd (qv Xa Da)) → Box w' (gpf) [.bool m1, .slice o1 n1 c1] → Box w' (gpr) [.bool m2, .slice o2 n2 c2] → Below w6.heap.size w6 w' → WWu 4 #[true, true, false, false, false, false] au w' := by
      intro w40 hB_0 fa_0 pa_0 f1_0 f2_0 pf_0 pr_0 hWu_0
      rw [HWu.out, HAu.out]
      try simp only [Act.put]
      try simp only [List.setIfInBounds_toArray, List.set_cons_zero, List.set_cons_succ]
      refine reg_all2 2 4 ?_ ?_ (by kernel_rfl) ?_ ?_ (fun K hK => ?_) (fun K hK => ?_)
      rotate_left 2
      · simp only [List.getElem?_toArray, List.getElem?_cons_succ, List.getElem?_cons_zero]; exact rfl
      · simp only [List.getElem?_toArray, List.getElem?_cons_succ, List.getElem?_cons_zero]; exact rfl
      · go_simp
        refine (Whole_any _ (max 8 1 + 1) _ _ (by omega) f1_0.num).mono ?_
        rintro e w41 ⟨m3, o3, n3, c3, p3, k3, d3, rfl, f3_0, hb41⟩
        have hB_1 := hB_0.trans (hb41.mono hB_0.size)
        have fa_1 := fa_0.below hb41
        have pa_1 := pa_0.below hb41
        have f1_1 := f1_0.below hb41
        have f2_1 := f2_0.below hb41
        have pf_1 := pf_0.below hb41
        have pr_1 := pr_0.below hb41
        have hWu_1 := hWu_0.trans (hb41.mono hWu_0.size)
        clear hb41 hB_0 fa_0 pa_0 f1_0 f2_0 pf_0 pr_0 hWu_0
        go_wp2_with fail
        refine hK.out _ _ ⟨pa_1.c0, pa_1.c1, pa_1.c2, pf_1.c0, pf_1.c1⟩ (fun hHeld => ?_)
        clear hK K
        try simp only [Act.put]
        try simp only [List.setIfInBounds_toArray, List.set_cons_zero, List.set_cons_succ]
        rw [← HWu.out]
        exact stu_1f _ m3 o3 n3 c3 p3 k3 d3 hB_1 fa_1 pa_1 f1_1 f2_1 pf_1 pr_1 hWu_1 f3_0
      · go_simp
        have hgn : w6.heap.size ≤ w40.heap.size := hWu_0.size
        obtain ⟨w42, hww42, pu_0, hb42, -⟩ := new_box w40 _ rfl [.bool false, .slice none 0 0, .slice none 0 0] 27
        rw [hww42]
        have hB_1 := hB_0.trans (hb42.mono hB_0.size)
        have fa_1 := fa_0.below hb42
        have pa_1 := pa_0.below hb42
        have f1_1 := f1_0.below hb42
        have f2_1 := f2_0.below hb42
        have pf_1 := pf_0.below hb42
        have pr_1 := pr_0.below hb42
        have hWu_1 := hWu_0.trans (hb42.mono hWu_0.size)
        clear hb42 hB_0 fa_0 pa_0 f1_0 f2_0 pf_0 pr_0 hWu_0
        refine hK.out _ _ ⟨pa_1.c0, pa_1.c1, pa_1.c2, pf_1.c0, pf_1.c1⟩ (fun hHeld => ?_)
        clear hK K
        try simp only [Act.put]
        try simp only [List.setIfInBounds_toArray, List.set_cons_zero, List.set_cons_succ]
        rw [← HWu.out]
        exact stu_0t _ w40.heap.size hB_1 fa_1 pa_1 f1_1 f2_1 pf_1 pr_1 hWu_1 pu_0 (by omega)
    exact stu_0f _ hB_3 fa_3 pa_3 f1_3 f2_3 pf_3 pr_3 hWu_1
  simp only [HAq.out, Act.put, List.setIfInBounds_toArray, List.set_cons_zero, List.set_cons_succ] at stq_2tt
  have stq_2tf : ∀ (w' : World) (m1 : Bool) (o1 : Option Addr) (n1 : Nat) (c1 : Nat) (m2 : Bool) (o2 : Option Addr) (n2 : Nat) (c2 : Nat) (gpf : Nat), Below w.heap.size w w' → FD w' (.agg #[.bool am, .slice ao an ac, .slice ap ak ad]) 8 Xa Da → Box w' (w.heap.size) [.bool am, .slice ao an ac, .slice ap ak ad] → Below w3.heap.size w3 w' → RNum w' (.agg #[.bool m1, .slice o1 n1 c1]) ((max 8 1 + 1)) ((qv Xa Da).floor) → RNum w' (.agg #[.bool m2, .slice o2 n2 c2]) ((max 8 1 + 2)) (rnd (qv Xa Da)) → Box w' gpf [.bool false, .slice none 0 0] → w3.heap.size ≤ gpf → WWq 3 #[true, true, true, true, true, false, false, false] (((aq.put (some 17) (.agg #[.bool m1, .slice o1 n1 c1])).put (some 19) (.agg #[.bool m2, .slice o2 n2 c2])).put (some 3) (.pointer (some ⟨gpf, 0, none⟩))) w' := by
    intro w43 m1 o1 n1 c1 m2 o2 n2 c2 gpf hB_0 fa_0 pa_0 hWq_0 f1_0 f2_0 pf_0 hgpf
    rw [HWq.out, HAq.out]
    try simp only [Act.put]
    try simp only [List.setIfInBounds_toArray, List.set_cons_zero, List.set_cons_succ]
    refine reg_all1 5 ?_ (by kernel_rfl) ?_ (fun K hK => ?_)
    rotate_left 1
    · simp only [List.getElem?_toArray, List.getElem?_cons_succ, List.getElem?_cons_zero]; exact rfl
    · go_simp
      have hgn : w3.heap.size ≤ w43.heap.size := hWq_0.size
      have hlpf := pf_0.lt
      obtain ⟨w44, hww44, pr_0, hb44, -⟩ := new_box w43 _ rfl [.bool false, .slice none 0 0] 25
      rw [hww44]
      have hB_1 := hB_0.trans (hb44.mono hB_0.size)
      have fa_1 := fa_0.below hb44
      have pa_1 := pa_0.below hb44
      have hWq_1 := hWq_0.trans (hb44.mono hWq_0.size)
      have f1_1 := f1_0.below hb44
      have f2_1 := f2_0.below hb44
      have pf_1 := pf_0.below hb44
      clear hb44 hB_0 fa_0 pa_0 hWq_0 f1_0 f2_0 pf_0
      refine hK.out _ _ ⟨pa_1.c0, pa_1.c1, pa_1.c2⟩ (fun hHeld => ?_)
      clear hK K
      try simp only [Act.put]
      try simp only [List.setIfInBounds_toArray, List.set_cons_zero, List.set_cons_succ]
      rw [← HWq.out]
      exact stq_2tt _ m1 o1 n1 c1 m2 o2 n2 c2 gpf w43.heap.size hB_1 fa_1 pa_1 hWq_1 f1_1 f2_1 pf_1 pr_0 (by omega) (by omega) (by omega)
  try simp only [HAq.out, Act.put, List.setIfInBounds_toArray, List.set_cons_zero, List.set_cons_succ] at stq_2tf
  have stq_2ft : ∀ (w' : World) (m1 : Bool) (o1 : Option Addr) (n1 : Nat) (c1 : Nat) (m2 : Bool) (o2 : Option Addr) (n2 : Nat) (c2 : Nat) (gpr : Nat), Below w.heap.size w w' → FD w' (.agg #[.bool am, .slice ao an ac, .slice ap ak ad]) 8 Xa Da → Box w' (w.heap.size) [.bool am, .slice ao an ac, .slice ap ak ad] → Below w3.heap.size w3 w' → RNum w' (.agg #[.bool m1, .slice o1 n1 c1]) ((max 8 1 + 1)) ((qv Xa Da).floor) → RNum w' (.agg #[.bool m2, .slice o2 n2 c2]) ((max 8 1 + 2)) (rnd (qv Xa Da)) → Box w' gpr [.bool false, .slice none 0 0] → w3.heap.size ≤ gpr → WWq 3 #[true, true, true, true, false, true, false, false] (((aq.put (some 17) (.agg #[.bool m1, .slice o1 n1 c1])).put (some 19) (.agg #[.bool m2, .slice o2 n2 c2])).put (some 4) (.pointer (some ⟨gpr, 0, none⟩))) w' := by
    intro w45 m1 o1 n1 c1 m2 o2 n2 c2 gpr hB_0 fa_0 pa_0 hWq_0 f1_0 f2_0 pr_0 hgpr
    rw [HWq.out, HAq.out]
    try simp only [Act.put]
    try simp only [List.setIfInBounds_toArray, List.set_cons_zero, List.set_cons_succ]
    refine reg_all1 4 ?_ (by kernel_rfl) ?_ (fun K hK => ?_)
    rotate_left 1
    · simp only [List.getElem?_toArray, List.getElem?_cons_succ, List.getElem?_cons_zero]; exact rfl
    · go_simp
      have hgn : w3.heap.size ≤ w45.heap.size := hWq_0.size
      have hlpr := pr_0.lt
      obtain ⟨w46, hww46, pf_0, hb46, -⟩ := new_box w45 _ rfl [.bool false, .slice none 0 0] 25
      rw [hww46]
      have hB_1 := hB_0.trans (hb46.mono hB_0.size)
      have fa_1 := fa_0.below hb46
      have pa_1 := pa_0.below hb46
      have hWq_1 := hWq_0.trans (hb46.mono hWq_0.size)
      have f1_1 := f1_0.below hb46
      have f2_1 := f2_0.below hb46
      have pr_1 := pr_0.below hb46
      clear hb46 hB_0 fa_0 pa_0 hWq_0 f1_0 f2_0 pr_0
      refine hK.out _ _ ⟨pa_1.c0, pa_1.c1, pa_1.c2⟩ (fun hHeld => ?_)
      clear hK K
      try simp only [Act.put]
      try simp only [List.setIfInBounds_toArray, List.set_cons_zero, List.set_cons_succ]
      rw [← HWq.out]
      exact stq_2tt _ m1 o1 n1 c1 m2 o2 n2 c2 w45.heap.size gpr hB_1 fa_1 pa_1 hWq_1 f1_1 f2_1 pf_0 pr_1 (by omega) (by omega) (by omega)
  try simp only [HAq.out, Act.put, List.setIfInBounds_toArray, List.set_cons_zero, List.set_cons_succ] at stq_2ft
  have stq_1tt : ∀ (w' : World) (m1 : Bool) (o1 : Option Addr) (n1 : Nat) (c1 : Nat) (gpf : Nat) (gpr : Nat), Below w.heap.size w w' → FD w' (.agg #[.bool am, .slice ao an ac, .slice ap ak ad]) 8 Xa Da → Box w' (w.heap.size) [.bool am, .slice ao an ac, .slice ap ak ad] → Below w3.heap.size w3 w' → RNum w' (.agg #[.bool m1, .slice o1 n1 c1]) ((max 8 1 + 1)) ((qv Xa Da).floor) → Box w' gpf [.bool false, .slice none 0 0] → Box w' gpr [.bool false, .slice none 0 0] → w3.heap.size ≤ gpf → w3.heap.size ≤ gpr → gpf ≠ gpr → WWq 3 #[true, true, true, false, true, true, false, false] (((aq.put (some 17) (.agg #[.bool m1, .slice o1 n1 c1])).put (some 3) (.pointer (some ⟨gpf, 0, none⟩))).put (some 4) (.pointer (some ⟨gpr, 0, none⟩))) w' := by
    intro w47 m1 o1 n1 c1 gpf gpr hB_0 fa_0 pa_0 hWq_0 f1_0 pf_0 pr_0 hgpf hgpr hnpfpr
    rw [HWq.out, HAq.out]
    try simp only [Act.put]
    try simp only [List.setIfInBounds_toArray, List.set_cons_zero, List.set_cons_succ]
    refine reg_all1 3 ?_ (by kernel_rfl) ?_ (fun K hK => ?_)
    rotate_left 1
    · simp only [List.getElem?_toArray, List.getElem?_cons_succ, List.getElem?_cons_zero]; exact rfl
    · go_simp
      refine (qRound _ _ _ _ (by omega) fa_0.q).mono ?_
      rintro e w48 ⟨m2, o2, n2, c2, rfl, f2_0, hb48⟩
      have hB_1 := hB_0.trans (hb48.mono hB_0.size)
      have fa_1 := fa_0.below hb48
      have pa_1 := pa_0.below hb48
      have hWq_1 := hWq_0.trans (hb48.mono hWq_0.size)
      have f1_1 := f1_0.below hb48
      have pf_1 := pf_0.below hb48
      have pr_1 := pr_0.below hb48
      clear hb48 hB_0 fa_0 pa_0 hWq_0 f1_0 pf_0 pr_0
      go_wp2_with fail
      refine hK.out _ _ ⟨pa_1.c0, pa_1.c1, pa_1.c2⟩ (fun hHeld => ?_)
      clear hK K
      try simp only [Act.put]
      try simp only [List.setIfInBounds_toArray, List.set_cons_zero, List.set_cons_succ]
      rw [← HWq.out]
      exact stq_2tt _ m1 o1 n1 c1 m2 o2 n2 c2 gpf gpr hB_1 fa_1 pa_1 hWq_1 f1_1 f2_0 pf_1 pr_1 (by omega) (by omega) (by omega)
  try simp only [HAq.out, Act.put, List.setIfInBounds_toArray, List.set_cons_zero, List.set_cons_succ] at stq_1tt
  have stq_2ff : ∀ (w' : World) (m1 : Bool) (o1 : Option Addr) (n1 : Nat) (c1 : Nat) (m2 : Bool) (o2 : Option Addr) (n2 : Nat) (c2 : Nat), Below w.heap.size w w' → FD w' (.agg #[.bool am, .slice ao an ac, .slice ap ak ad]) 8 Xa Da → Box w' (w.heap.size) [.bool am, .slice ao an ac, .slice ap ak ad] → Below w3.heap.size w3 w' → RNum w' (.agg #[.bool m1, .slice o1 n1 c1]) ((max 8 1 + 1)) ((qv Xa Da).floor) → RNum w' (.agg #[.bool m2, .slice o2 n2 c2]) ((max 8 1 + 2)) (rnd (qv Xa Da)) → WWq 4 #[true, true, true, true, false, false, false, false] ((aq.put (some 17) (.agg #[.bool m1, .slice o1 n1 c1])).put (some 19) (.agg #[.bool m2, .slice o2 n2 c2])) w' := by
    intro w49 m1 o1 n1 c1 m2 o2 n2 c2 hB_0 fa_0 pa_0 hWq_0 f1_0 f2_0
    rw [HWq.out, HAq.out]
    try simp only [Act.put]
    try simp only [List.setIfInBounds_toArray, List.set_cons_zero, List.set_cons_succ]
    refine reg_all2 4 5 ?_ ?_ (by kernel_rfl) ?_ ?_ (fun K hK => ?_) (fun K hK => ?_)
    rotate_left 2
    · simp only [List.getElem?_toArray, List.getElem?_cons_succ, List.getElem?_cons_zero]; exact rfl
    · simp only [List.getElem?_toArray, List.getElem?_cons_succ, List.getElem?_cons_zero]; exact rfl
    · go_simp
      have hgn : w3.heap.size ≤ w49.heap.size := hWq_0.size
      obtain ⟨w50, hww50, pf_0, hb50, -⟩ := new_box w49 _ rfl [.bool false, .slice none 0 0] 25
      rw [hww50]
      have hB_1 := hB_0.trans (hb50.mono hB_0.size)
      have fa_1 := fa_0.below hb50
      have pa_1 := pa_0.below hb50
      have hWq_1 := hWq_0.trans (hb50.mono hWq_0.size)
      have f1_1 := f1_0.below hb50
      have f2_1 := f2_0.below hb50
      clear hb50 hB_0 fa_0 pa_0 hWq_0 f1_0 f2_0
      refine hK.out _ _ ⟨pa_1.c0, pa_1.c1, pa_1.c2⟩ (fun hHeld => ?_)
      clear hK K
      try simp only [Act.put]
      try simp only [List.setIfInBounds_toArray, List.set_cons_zero, List.set_cons_succ]
      rw [← HWq.out]
      exact stq_2tf _ m1 o1 n1 c1 m2 o2 n2 c2 w49.heap.size hB_1 fa_1 pa_1 hWq_1 f1_1 f2_1 pf_0 (by omega)
    · go_simp
      have hgn : w3.heap.size ≤ w49.heap.size := hWq_0.size
      obtain ⟨w51, hww51, pr_0, hb51, -⟩ := new_box w49 _ rfl [.bool false, .slice none 0 0] 25
      rw [hww51]
      have hB_1 := hB_0.trans (hb51.mono hB_0.size)
      have fa_1 := fa_0.below hb51
      have pa_1 := pa_0.below hb51
      have hWq_1 := hWq_0.trans (hb51.mono hWq_0.size)
      have f1_1 := f1_0.below hb51
      have f2_1 := f2_0.below hb51
      clear hb51 hB_0 fa_0 pa_0 hWq_0 f1_0 f2_0
      refine hK.out _ _ ⟨pa_1.c0, pa_1.c1, pa_1.c2⟩ (fun hHeld => ?_)
      clear hK K
      try simp only [Act.put]
      try simp only [List.setIfInBounds_toArray, List.set_cons_zero, List.set_cons_succ]
      rw [← HWq.out]
      exact stq_2ft _ m1 o1 n1 c1 m2 o2 n2 c2 w49.heap.size hB_1 fa_1 pa_1 hWq_1 f1_1 f2_1 pr_0 (by omega)
  try simp only [HAq.out, Act.put, List.setIfInBounds_toArray, List.set_cons_zero, List.set_cons_succ] at stq_2ff
  have stq_1tf : ∀ (w' : World) (m1 : Bool) (o1 : Option Addr) (n1 : Nat) (c1 : Nat) (gpf : Nat), Below w.heap.size w w' → FD w' (.agg #[.bool am, .slice ao an ac, .slice ap ak ad]) 8 Xa Da → Box w' (w.heap.size) [.bool am, .slice ao an ac, .slice ap ak ad] → Below w3.heap.size w3 w' → RNum w' (.agg #[.bool m1, .slice o1 n1 c1]) ((max 8 1 + 1)) ((qv Xa Da).floor) → Box w' gpf [.bool false, .slice none 0 0] → w3.heap.size ≤ gpf → WWq 4 #[true, true, true, false, true, false, false, false] ((aq.put (some 17) (.agg #[.bool m1, .slice o1 n1 c1])).put (some 3) (.pointer (some ⟨gpf, 0, none⟩))) w' := by
    intro w52 m1 o1 n1 c1 gpf hB_0 fa_0 pa_0 hWq_0 f1_0 pf_0 hgpf
    rw [HWq.out, HAq.out]
    try simp only [Act.put]
    try simp only [List.setIfInBounds_toArray, List.set_cons_zero, List.set_cons_succ]
    refine reg_all2 3 5 ?_ ?_ (by kernel_rfl) ?_ ?_ (fun K hK => ?_) (fun K hK => ?_)
    rotate_left 2
    · simp only [List.getElem?_toArray, List.getElem?_cons_succ, List.getElem?_cons_zero]; exact rfl
    · simp only [List.getElem?_toArray, List.getElem?_cons_succ, List.getElem?_cons_zero]; exact rfl
    · go_simp
      refine (qRound _ _ _ _ (by omega) fa_0.q).mono ?_
      rintro e w53 ⟨m2, o2, n2, c2, rfl, f2_0, hb53⟩
      have hB_1 := hB_0.trans (hb53.mono hB_0.size)
      have fa_1 := fa_0.below hb53
      have pa_1 := pa_0.below hb53
      have hWq_1 := hWq_0.trans (hb53.mono hWq_0.size)
      have f1_1 := f1_0.below hb53
      have pf_1 := pf_0.below hb53
      clear hb53 hB_0 fa_0 pa_0 hWq_0 f1_0 pf_0
      go_wp2_with fail
      refine hK.out _ _ ⟨pa_1.c0, pa_1.c1, pa_1.c2⟩ (fun hHeld => ?_)
      clear hK K
      try simp only [Act.put]
      try simp only [List.setIfInBounds_toArray, List.set_cons_zero, List.set_cons_succ]
      rw [← HWq.out]
      exact stq_2tf _ m1 o1 n1 c1 m2 o2 n2 c2 gpf hB_1 fa_1 pa_1 hWq_1 f1_1 f2_0 pf_1 (by omega)
    · go_simp
      have hgn : w3.heap.size ≤ w52.heap.size := hWq_0.size
      have hlpf := pf_0.lt
      obtain ⟨w54, hww54, pr_0, hb54, -⟩ := new_box w52 _ rfl [.bool false, .slice none 0 0] 25
      rw [hww54]
      have hB_1 := hB_0.trans (hb54.mono hB_0.size)
      have fa_1 := fa_0.below hb54
      have pa_1 := pa_0.below hb54
      have hWq_1 := hWq_0.trans (hb54.mono hWq_0.size)
      have f1_1 := f1_0.below hb54
      have pf_1 := pf_0.below hb54
      clear hb54 hB_0 fa_0 pa_0 hWq_0 f1_0 pf_0
      refine hK.out _ _ ⟨pa_1.c0, pa_1.c1, pa_1.c2⟩ (fun hHeld => ?_)
      clear hK K
      try simp only [Act.put]
      try simp only [List.setIfInBounds_toArray, List.set_cons_zero, List.set_cons_succ]
      rw [← HWq.out]
      exact stq_1tt _ m1 o1 n1 c1 gpf w52.heap.size hB_1 fa_1 pa_1 hWq_1 f1_1 pf_1 pr_0 (by omega) (by omega) (by omega)
  try simp only [HAq.out, Act.put, List.setIfInBounds_toArray, List.set_cons_zero, List.set_cons_succ] at stq_1tf
  have stq_1ft : ∀ (w' : World) (m1 : Bool) (o1 : Option Addr) (n1 : Nat) (c1 : Nat) (gpr : Nat), Below w.heap.size w w' → FD w' (.agg #[.bool am, .slice ao an ac, .slice ap ak ad]) 8 Xa Da → Box w' (w.heap.size) [.bool am, .slice ao an ac, .slice ap ak ad] → Below w3.heap.size w3 w' → RNum w' (.agg #[.bool m1, .slice o1 n1 c1]) ((max 8 1 + 1)) ((qv Xa Da).floor) → Box w' gpr [.bool false, .slice none 0 0] → w3.heap.size ≤ gpr → WWq 4 #[true, true, true, false, false, true, false, false] ((aq.put (some 17) (.agg #[.bool m1, .slice o1 n1 c1])).put (some 4) (.pointer (some ⟨gpr, 0, none⟩))) w' := by
    intro w55 m1 o1 n1 c1 gpr hB_0 fa_0 pa_0 hWq_0 f1_0 pr_0 hgpr
    rw [HWq.out, HAq.out]
    try simp only [Act.put]
    try simp only [List.setIfInBounds_toArray, List.set_cons_zero, List.set_cons_succ]
    refine reg_all2 3 4 ?_ ?_ (by kernel_rfl) ?_ ?_ (fun K hK => ?_) (fun K hK => ?_)
    rotate_left 2
    · simp only [List.getElem?_toArray, List.getElem?_cons_succ, List.getElem?_cons_zero]; exact rfl
    · simp only [List.getElem?_toArray, List.getElem?_cons_succ, List.getElem?_cons_zero]; exact rfl
    · go_simp
      refine (qRound _ _ _ _ (by omega) fa_0.q).mono ?_
      rintro e w56 ⟨m2, o2, n2, c2, rfl, f2_0, hb56⟩
      have hB_1 := hB_0.trans (hb56.mono hB_0.size)
      have fa_1 := fa_0.below hb56
      have pa_1 := pa_0.below hb56
      have hWq_1 := hWq_0.trans (hb56.mono hWq_0.size)
      have f1_1 := f1_0.below hb56
      have pr_1 := pr_0.below hb56
      clear hb56 hB_0 fa_0 pa_0 hWq_0 f1_0 pr_0
      go_wp2_with fail
      refine hK.out _ _ ⟨pa_1.c0, pa_1.c1, pa_1.c2⟩ (fun hHeld => ?_)
      clear hK K
      try simp only [Act.put]
      try simp only [List.setIfInBounds_toArray, List.set_cons_zero, List.set_cons_succ]
      rw [← HWq.out]
      exact stq_2ft _ m1 o1 n1 c1 m2 o2 n2 c2 gpr hB_1 fa_1 pa_1 hWq_1 f1_1 f2_0 pr_1 (by omega)
    · go_simp
      have hgn : w3.heap.size ≤ w55.heap.size := hWq_0.size
      have hlpr := pr_0.lt
      obtain ⟨w57, hww57, pf_0, hb57, -⟩ := new_box w55 _ rfl [.bool false, .slice none 0 0] 25
      rw [hww57]
      have hB_1 := hB_0.trans (hb57.mono hB_0.size)
      have fa_1 := fa_0.below hb57
      have pa_1 := pa_0.below hb57
      have hWq_1 := hWq_0.trans (hb57.mono hWq_0.size)
      have f1_1 := f1_0.below hb57
      have pr_1 := pr_0.below hb57
      clear hb57 hB_0 fa_0 pa_0 hWq_0 f1_0 pr_0
      refine hK.out _ _ ⟨pa_1.c0, pa_1.c1, pa_1.c2⟩ (fun hHeld => ?_)
      clear hK K
      try simp only [Act.put]
      try simp only [List.setIfInBounds_toArray, List.set_cons_zero, List.set_cons_succ]
      rw [← HWq.out]
      exact stq_1tt _ m1 o1 n1 c1 w55.heap.size gpr hB_1 fa_1 pa_1 hWq_1 f1_1 pf_0 pr_1 (by omega) (by omega) (by omega)
  try simp only [HAq.out, Act.put, List.setIfInBounds_toArray, List.set_cons_zero, List.set_cons_succ] at stq_1ft
  have stq_0tt : ∀ (w' : World) (gpf : Nat) (gpr : Nat), Below w.heap.size w w' → FD w' (.agg #[.bool am, .slice ao an ac, .slice ap ak ad]) 8 Xa Da → Box w' (w.heap.size) [.bool am, .slice ao an ac, .slice ap ak ad] → Below w3.heap.size w3 w' → Box w' gpf [.bool false, .slice none 0 0] → Box w' gpr [.bool false, .slice none 0 0] → w3.heap.size ≤ gpf → w3.heap.size ≤ gpr → gpf ≠ gpr → WWq 4 #[true, false, true, false, true, true, false, false] ((aq.put (some 3) (.pointer (some ⟨gpf, 0, none⟩))).put (some 4) (.pointer (some ⟨gpr, 0, none⟩))) w' := by
    intro w58 gpf gpr hB_0 fa_0 pa_0 hWq_0 pf_0 pr_0 hgpf hgpr hnpfpr
    rw [HWq.out, HAq.out]
    try simp only [Act.put]
    try simp only [List.setIfInBounds_toArray, List.set_cons_zero, List.set_cons_succ]
    refine reg_all1 1 ?_ (by kernel_rfl) ?_ (fun K hK => ?_)
    rotate_left 1
    · simp only [List.getElem?_toArray, List.getElem?_cons_succ, List.getElem?_cons_zero]; exact rfl
    · go_simp
      refine (qFloor _ _ _ _ (by omega) fa_0.q).mono ?_
      rintro e w59 ⟨m1, o1, n1, c1, rfl, f1_0, hb59⟩
      have hB_1 := hB_0.trans (hb59.mono hB_0.size)
      have fa_1 := fa_0.below hb59
      have pa_1 := pa_0.below hb59
      have hWq_1 := hWq_0.trans (hb59.mono hWq_0.size)
      have pf_1 := pf_0.below hb59
      have pr_1 := pr_0.below hb59
      clear hb59 hB_0 fa_0 pa_0 hWq_0 pf_0 pr_0
      go_wp2_with fail
      refine hK.out _ _ ⟨pa_1.c0, pa_1.c1, pa_1.c2⟩ (fun hHeld => ?_)
      clear hK K
      try simp only [Act.put]
      try simp only [List.setIfInBounds_toArray, List.set_cons_zero, List.set_cons_succ]
      rw [← HWq.out]
      exact stq_1tt _ m1 o1 n1 c1 gpf gpr hB_1 fa_1 pa_1 hWq_1 f1_0 pf_1 pr_1 (by omega) (by omega) (by omega)
  try simp only [HAq.out, Act.put, List.setIfInBounds_toArray, List.set_cons_zero, List.set_cons_succ] at stq_0tt
  have stq_1ff : ∀ (w' : World) (m1 : Bool) (o1 : Option Addr) (n1 : Nat) (c1 : Nat), Below w.heap.size w w' → FD w' (.agg #[.bool am, .slice ao an ac, .slice ap ak ad]) 8 Xa Da → Box w' (w.heap.size) [.bool am, .slice ao an ac, .slice ap ak ad] → Below w3.heap.size w3 w' → RNum w' (.agg #[.bool m1, .slice o1 n1 c1]) ((max 8 1 + 1)) ((qv Xa Da).floor) → WWq 5 #[true, true, true, false, false, false, false, false] (aq.put (some 17) (.agg #[.bool m1, .slice o1 n1 c1])) w' := by
    intro w60 m1 o1 n1 c1 hB_0 fa_0 pa_0 hWq_0 f1_0
    rw [HWq.out, HAq.out]
    try simp only [Act.put]
    try simp only [List.setIfInBounds_toArray, List.set_cons_zero, List.set_cons_succ]
    refine reg_all3 3 4 5 ?_ ?_ ?_ (by kernel_rfl) ?_ ?_ ?_ (fun K hK => ?_) (fun K hK => ?_) (fun K hK => ?_)
    rotate_left 3
    · simp only [List.getElem?_toArray, List.getElem?_cons_succ, List.getElem?_cons_zero]; exact rfl
    · simp only [List.getElem?_toArray, List.getElem?_cons_succ, List.getElem?_cons_zero]; exact rfl
    · simp only [List.getElem?_toArray, List.getElem?_cons_succ, List.getElem?_cons_zero]; exact rfl
    · go_simp
      refine (qRound _ _ _ _ (by omega) fa_0.q).mono ?_
      rintro e w61 ⟨m2, o2, n2, c2, rfl, f2_0, hb61⟩
      have hB_1 := hB_0.trans (hb61.mono hB_0.size)
      have fa_1 := fa_0.below hb61
      have pa_1 := pa_0.below hb61
      have hWq_1 := hWq_0.trans (hb61.mono hWq_0.size)
      have f1_1 := f1_0.below hb61
      clear hb61 hB_0 fa_0 pa_0 hWq_0 f1_0
      go_wp2_with fail
      refine hK.out _ _ ⟨pa_1.c0, pa_1.c1, pa_1.c2⟩ (fun hHeld => ?_)
      clear hK K
      try simp only [Act.put]
      try simp only [List.setIfInBounds_toArray, List.set_cons_zero, List.set_cons_succ]
      rw [← HWq.out]
      exact stq_2ff _ m1 o1 n1 c1 m2 o2 n2 c2 hB_1 fa_1 pa_1 hWq_1 f1_1 f2_0
    · go_simp
      have hgn : w3.heap.size ≤ w60.heap.size := hWq_0.size
      obtain ⟨w62, hww62, pf_0, hb62, -⟩ := new_box w60 _ rfl [.bool false, .slice none 0 0] 25
      rw [hww62]
      have hB_1 := hB_0.trans (hb62.mono hB_0.size)
      have fa_1 := fa_0.below hb62
      have pa_1 := pa_0.below hb62
      have hWq_1 := hWq_0.trans (hb62.mono hWq_0.size)
      have f1_1 := f1_0.below hb62
      clear hb62 hB_0 fa_0 pa_0 hWq_0 f1_0
      refine hK.out _ _ ⟨pa_1.c0, pa_1.c1, pa_1.c2⟩ (fun hHeld => ?_)
      clear hK K
      try simp only [Act.put]
      try simp only [List.setIfInBounds_toArray, List.set_cons_zero, List.set_cons_succ]
      rw [← HWq.out]
      exact stq_1tf _ m1 o1 n1 c1 w60.heap.size hB_1 fa_1 pa_1 hWq_1 f1_1 pf_0 (by omega)
    · go_simp
      have hgn : w3.heap.size ≤ w60.heap.size := hWq_0.size
      obtain ⟨w63, hww63, pr_0, hb63, -⟩ := new_box w60 _ rfl [.bool false, .slice none 0 0] 25
      rw [hww63]
      have hB_1 := hB_0.trans (hb63.mono hB_0.size)
      have fa_1 := fa_0.below hb63
      have pa_1 := pa_0.below hb63
      have hWq_1 := hWq_0.trans (hb63.mono hWq_0.size)
      have f1_1 := f1_0.below hb63
      clear hb63 hB_0 fa_0 pa_0 hWq_0 f1_0
      refine hK.out _ _ ⟨pa_1.c0, pa_1.c1, pa_1.c2⟩ (fun hHeld => ?_)
      clear hK K
      try simp only [Act.put]
      try simp only [List.setIfInBounds_toArray, List.set_cons_zero, List.set_cons_succ]
      rw [← HWq.out]
      exact stq_1ft _ m1 o1 n1 c1 w60.heap.size hB_1 fa_1 pa_1 hWq_1 f1_1 pr_0 (by omega)
  try simp only [HAq.out, Act.put, List.setIfInBounds_toArray, List.set_cons_zero, List.set_cons_succ] at stq_1ff
  have stq_0tf : ∀ (w' : World) (gpf : Nat), Below w.heap.size w w' → FD w' (.agg #[.bool am, .slice ao an ac, .slice ap ak ad]) 8 Xa Da → Box w' (w.heap.size) [.bool am, .slice ao an ac, .slice ap ak ad] → Below w3.heap.size w3 w' → Box w' gpf [.bool false, .slice none 0 0] → w3.heap.size ≤ gpf → WWq 5 #[true, false, true, false, true, false, false, false] (aq.put (some 3) (.pointer (some ⟨gpf, 0, none⟩))) w' := by
    intro w64 gpf hB_0 fa_0 pa_0 hWq_0 pf_0 hgpf
    rw [HWq.out, HAq.out]
    try simp only [Act.put]
    try simp only [List.setIfInBounds_toArray, List.set_cons_zero, List.set_cons_succ]
    refine reg_all2 1 5 ?_ ?_ (by kernel_rfl) ?_ ?_ (fun K hK => ?_) (fun K hK => ?_)
    rotate_left 2
    · simp only [List.getElem?_toArray, List.getElem?_cons_succ, List.getElem?_cons_zero]; exact rfl
    · simp only [List.getElem?_toArray, List.getElem?_cons_succ, List.getElem?_cons_zero]; exact rfl
    · go_simp
      refine (qFloor _ _ _ _ (by omega) fa_0.q).mono ?_
      rintro e w65 ⟨m1, o1, n1, c1, rfl, f1_0, hb65⟩
      have hB_1 := hB_0.trans (hb65.mono hB_0.size)
      have fa_1 := fa_0.below hb65
      have pa_1 := pa_0.below hb65
      have hWq_1 := hWq_0.trans (hb65.mono hWq_0.size)
      have pf_1 := pf_0.below hb65
      clear hb65 hB_0 fa_0 pa_0 hWq_0 pf_0
      go_wp2_with fail
      refine hK.out _ _ ⟨pa_1.c0, pa_1.c1, pa_1.c2⟩ (fun hHeld => ?_)
      clear hK K
      try simp only [Act.put]
      try simp only [List.setIfInBounds_toArray, List.set_cons_zero, List.set_cons_succ]
      rw [← HWq.out]
      exact stq_1tf _ m1 o1 n1 c1 gpf hB_1 fa_1 pa_1 hWq_1 f1_0 pf_1 (by omega)
    · go_simp
      have hgn : w3.heap.size ≤ w64.heap.size := hWq_0.size
      have hlpf := pf_0.lt
      obtain ⟨w66, hww66, pr_0, hb66, -⟩ := new_box w64 _ rfl [.bool false, .slice none 0 0] 25
      rw [hww66]
      have hB_1 := hB_0.trans (hb66.mono hB_0.size)
      have fa_1 := fa_0.below hb66
      have pa_1 := pa_0.below hb66
      have hWq_1 := hWq_0.trans (hb66.mono hWq_0.size)
      have pf_1 := pf_0.below hb66
      clear hb66 hB_0 fa_0 pa_0 hWq_0 pf_0
      refine hK.out _ _ ⟨pa_1.c0, pa_1.c1, pa_1.c2⟩ (fun hHeld => ?_)
      clear hK K
      try simp only [Act.put]
      try simp only [List.setIfInBounds_toArray, List.set_cons_zero, List.set_cons_succ]
      rw [← HWq.out]
      exact stq_0tt _ gpf w64.heap.size hB_1 fa_1 pa_1 hWq_1 pf_1 pr_0 (by omega) (by omega) (by omega)
  try simp only [HAq.out, Act.put, List.setIfInBounds_toArray, List.set_cons_zero, List.set_cons_succ] at stq_0tf
  have stq_0ft : ∀ (w' : World) (gpr : Nat), Below w.heap.size w w' → FD w' (.agg #[.bool am, .slice ao an ac, .slice ap ak ad]) 8 Xa Da → Box w' (w.heap.size) [.bool am, .slice ao an ac, .slice ap ak ad] → Below w3.heap.size w3 w' → Box w' gpr [.bool false, .slice none 0 0] → w3.heap.size ≤ gpr → WWq 5 #[true, false, true, false, false, true, false, false] (aq.put (some 4) (.pointer (some ⟨gpr, 0, none⟩))) w' := by
    intro w67 gpr hB_0 fa_0 pa_0 hWq_0 pr_0 hgpr
    rw [HWq.out, HAq.out]
    try simp only [Act.put]
    try simp only [List.setIfInBounds_toArray, List.set_cons_zero, List.set_cons_succ]
    refine reg_all2 1 4 ?_ ?_ (by kernel_rfl) ?_ ?_ (fun K hK => ?_) (fun K hK => ?_)
    rotate_left 2
    · simp only [List.getElem?_toArray, List.getElem?_cons_succ, List.getElem?_cons_zero]; exact rfl
    · simp only [List.getElem?_toArray, List.getElem?_cons_succ, List.getElem?_cons_zero]; exact rfl
    · go_simp
      refine (qFloor _ _ _ _ (by omega) fa_0.q).mono ?_
      rintro e w68 ⟨m1, o1, n1, c1, rfl, f1_0, hb68⟩
      have hB_1 := hB_0.trans (hb68.mono hB_0.size)
      have fa_1 := fa_0.below hb68
      have pa_1 := pa_0.below hb68
      have hWq_1 := hWq_0.trans (hb68.mono hWq_0.size)
      have pr_1 := pr_0.below hb68
      clear hb68 hB_0 fa_0 pa_0 hWq_0 pr_0
      go_wp2_with fail
      refine hK.out _ _ ⟨pa_1.c0, pa_1.c1, pa_1.c2⟩ (fun hHeld => ?_)
      clear hK K
      try simp only [Act.put]
      try simp only [List.setIfInBounds_toArray, List.set_cons_zero, List.set_cons_succ]
      rw [← HWq.out]
      exact stq_1ft _ m1 o1 n1 c1 gpr hB_1 fa_1 pa_1 hWq_1 f1_0 pr_1 (by omega)
    · go_simp
      have hgn : w3.heap.size ≤ w67.heap.size := hWq_0.size
      have hlpr := pr_0.lt
      obtain ⟨w69, hww69, pf_0, hb69, -⟩ := new_box w67 _ rfl [.bool false, .slice none 0 0] 25
      rw [hww69]
      have hB_1 := hB_0.trans (hb69.mono hB_0.size)
      have fa_1 := fa_0.below hb69
      have pa_1 := pa_0.below hb69
      have hWq_1 := hWq_0.trans (hb69.mono hWq_0.size)
      have pr_1 := pr_0.below hb69
      clear hb69 hB_0 fa_0 pa_0 hWq_0 pr_0
      refine hK.out _ _ ⟨pa_1.c0, pa_1.c1, pa_1.c2⟩ (fun hHeld => ?_)
      clear hK K
      try simp only [Act.put]
      try simp only [List.setIfInBounds_toArray, List.set_cons_zero, List.set_cons_succ]
      rw [← HWq.out]
      exact stq_0tt _ w67.heap.size gpr hB_1 fa_1 pa_1 hWq_1 pf_0 pr_1 (by omega) (by omega) (by omega)
  try simp only [HAq.out, Act.put, List.setIfInBounds_toArray, List.set_cons_zero, List.set_cons_succ] at stq_0ft
  have stq_0ff : ∀ (w' : World), Below w.heap.size w w' → FD w' (.agg #[.bool am, .slice ao an ac, .slice ap ak ad]) 8 Xa Da → Box w' (w.heap.size) [.bool am, .slice ao an ac, .slice ap ak ad] → Below w3.heap.size w3 w' → WWq 6 #[true, false, true, false, false, false, false, false] aq w' := by
    intro w70 hB_0 fa_0 pa_0 hWq_0
    rw [HWq.out, HAq.out]
    try simp only [Act.put]
    try simp only [List.setIfInBounds_toArray, List.set_cons_zero, List.set_cons_succ]
    refine reg_all3 1 4 5 ?_ ?_ ?_ (by kernel_rfl) ?_ ?_ ?_ (fun K hK => ?_) (fun K hK => ?_) (fun K hK => ?_)
    rotate_left 3
    · simp only [List.getElem?_toArray, List.getElem?_cons_succ, List.getElem?_cons_zero]; exact rfl
    · simp only [List.getElem?_toArray, List.getElem?_cons_succ, List.getElem?_cons_zero]; exact rfl
    · simp only [List.getElem?_toArray, List.getElem?_cons_succ, List.getElem?_cons_zero]; exact rfl
    · go_simp
      refine (qFloor _ _ _ _ (by omega) fa_0.q).mono ?_
      rintro e w71 ⟨m1, o1, n1, c1, rfl, f1_0, hb71⟩
      have hB_1 := hB_0.trans (hb71.mono hB_0.size)
      have fa_1 := fa_0.below hb71
      have pa_1 := pa_0.below hb71
      have hWq_1 := hWq_0.trans (hb71.mono hWq_0.size)
      clear hb71 hB_0 fa_0 pa_0 hWq_0
      go_wp2_with fail
      refine hK.out _ _ ⟨pa_1.c0, pa_1.c1, pa_1.c2⟩ (fun hHeld => ?_)
      clear hK K
      try simp only [Act.put]
      try simp only [List.setIfInBounds_toArray, List.set_cons_zero, List.set_cons_succ]
      rw [← HWq.out]
      exact stq_1ff _ m1 o1 n1 c1 hB_1 fa_1 pa_1 hWq_1 f1_0
    · go_simp
      have hgn : w3.heap.size ≤ w70.heap.size := hWq_0.size
      obtain ⟨w72, hww72, pf_0, hb72, -⟩ := new_box w70 _ rfl [.bool false, .slice none 0 0] 25
      rw [hww72]
      have hB_1 := hB_0.trans (hb72.mono hB_0.size)
      have fa_1 := fa_0.below hb72
      have pa_1 := pa_0.below hb72
      have hWq_1 := hWq_0.trans (hb72.mono hWq_0.size)
      clear hb72 hB_0 fa_0 pa_0 hWq_0
      refine hK.out _ _ ⟨pa_1.c0, pa_1.c1, pa_1.c2⟩ (fun hHeld => ?_)
      clear hK K
      try simp only [Act.put]
      try simp only [List.setIfInBounds_toArray, List.set_cons_zero, List.set_cons_succ]
      rw [← HWq.out]
      exact stq_0tf _ w70.heap.size hB_1 fa_1 pa_1 hWq_1 pf_0 (by omega)
    · go_simp
      have hgn : w3.heap.size ≤ w70.heap.size := hWq_0.size
      obtain ⟨w73, hww73, pr_0, hb73, -⟩ := new_box w70 _ rfl [.bool false, .slice none 0 0] 25
      rw [hww73]
      have hB_1 := hB_0.trans (hb73.mono hB_0.size)
      have fa_1 := fa_0.below hb73
      have pa_1 := pa_0.below hb73
      have hWq_1 := hWq_0.trans (hb73.mono hWq_0.size)
      clear hb73 hB_0 fa_0 pa_0 hWq_0
      refine hK.out _ _ ⟨pa_1.c0, pa_1.c1, pa_1.c2⟩ (fun hHeld => ?_)
      clear hK K
      try simp only [Act.put]
      try simp only [List.setIfInBounds_toArray, List.set_cons_zero, List.set_cons_succ]
      rw [← HWq.out]
      exact stq_0ft _ w70.heap.size hB_1 fa_1 pa_1 hWq_1 pr_0 (by omega)
  exact stq_0ff _ hB_4 fa_5 pa_3 hWq_1
end Go.Proofs.Ytmbmeapodhngaaa
