/- The helpers of layer 3's statements, on: below, Right, is, fit. -/
import Derived.Test.YtmbmeapodhngaaaPartj
namespace Go.Proofs.Ytmbmeapodhngaaa
open Go.RowKit Go.MagM
theorem len_is (va : Value) (L X : Nat) (k : Int) (w : World) (hL : L ≤ 4000000000) (ha : Mag w va L X) (h : ((bl X : Nat) : Int) = k) : Calls Try.prog 37 #[va] w fun e w' => e = .returned (.int .i64 k) ∧ Below w.heap.size w w' :=
  (Len_any va L X w hL ha).mono fun e w' ⟨h1, h2⟩ => ⟨by rw [h1, h], by subst h2; exact Below.refl _ _⟩
set_option maxHeartbeats 4000000 in
theorem below_zero (am : Bool) (ao : Option Addr) (an ac : Nat) (ap : Option Addr) (ak ad : Nat) (L : Nat) (X : Int) (D : Nat) (w : World) (hL : L ≤ 100000000) (fa_0 : FD w (.agg #[.bool am, .slice ao an ac, .slice ap ak ad]) L X D) (h0 : D = 0) :
    Calls Try.prog 11 #[.agg #[.bool am, .slice ao an ac, .slice ap ak ad]] w fun e w' => AnsNum w w' e (max L 1) (den1 D : Nat) := by
  have hB_0 := Below.refl w.heap.size w
  have _ := hL
  subst h0
  obtain ⟨w1, hw1, pa_0, hb1, hs1⟩ := new_box w (w.heap.size) rfl [.bool am, .slice ao an ac, .slice ap ak ad] 27
  have hb1' : Below w.heap.size w w1 := hb1.mono (by omega)
  clear hb1
  have hB_1 := hB_0.trans (hb1'.mono hB_0.size)
  have fa_1 := fa_0.below hb1'
  clear hb1' hB_0 fa_0
  obtain ⟨w2, hw2, pr_0, hb2, hs2⟩ := new_box w1 (w.heap.size + 1) hs1 [.bool false, .slice none 0 0] 25
  have hb2' : Below w1.heap.size w1 w2 := hb2.mono (by omega)
  clear hb2
  have hB_2 := hB_1.trans (hb2'.mono hB_1.size)
  have fa_2 := fa_1.below hb2'
  have pa_1 := pa_0.below hb2'
  clear hb2' hB_1 fa_1 pa_0
  go_enter Try.func11, Try.ntmps11
  obtain ⟨pae0, pae1, pae2, pae3, pae4, pae5⟩ := pa_1.open3
  go_wp2_with fail
  refine (len_is _ L 0 0 _ (by omega) fa_2.mag rfl).mono ?_
  rintro e w3 ⟨rfl, hb3⟩
  clear pae0 pae1 pae2 pae3 pae4 pae5
  have hB_3 := hB_2.trans (hb3.mono hB_2.size)
  have fa_3 := fa_2.below hb3
  have pa_2 := pa_1.below hb3
  have pr_1 := pr_0.below hb3
  clear hb3 hB_2 fa_2 pa_1 pr_0
  obtain ⟨pae0, pae1, pae2, pae3, pae4, pae5⟩ := pa_2.open3
  clear pae0 pae1 pae2 pae3 pae4 pae5
  go_wp2_with fail
  refine (nOf_any 1 (by omega) (by omega) _).mono ?_
  rintro e w4 ⟨m1, o1, n1, c1, rfl, f1_0, hb4⟩
  have hB_4 := hB_3.trans (hb4.mono hB_3.size)
  have fa_4 := fa_3.below hb4
  have pa_3 := pa_2.below hb4
  have pr_2 := pr_1.below hb4
  clear hb4 hB_3 fa_3 pa_2 pr_1
  obtain ⟨sf4a, sf4b, sf4c, sf4d⟩ := pr_2.open2
  obtain ⟨sg4a, sg4b⟩ := Box.put2 pr_2 (.bool m1)
  go_wp2
  clear sf4a sf4b sf4c sf4d sg4a sg4b
  have hB_5 := below_setAll hB_4 (g := w.heap.size + 1) (by omega) [.bool m1, .slice o1 n1 c1]
  have fa_5 := fa_4.setAll pr_2 (noWord2 _ _ _ _) [.bool m1, .slice o1 n1 c1] rfl
  have pa_4 := pa_3.farAll (g' := w.heap.size + 1) (by omega) [.bool m1, .slice o1 n1 c1]
  have f1_1 := f1_0.setAll pr_2 (noWord2 _ _ _ _) [.bool m1, .slice o1 n1 c1] rfl
  have pr_3 := pr_2.setAll [.bool m1, .slice o1 n1 c1] rfl
  simp only [setAll, Nat.zero_add] at hB_5 fa_5 pa_4 pr_3 f1_1
  clear hB_4 fa_4 pa_3 f1_0 pr_2
  generalize (World.setCell (World.setCell w4 ⟨w.heap.size + 1, 0, none⟩ (.bool m1)) ⟨w.heap.size + 1, 1, none⟩ (.slice o1 n1 c1)) = w5 at *
  go_wp2
  obtain ⟨pre0, pre1, pre2, pre3⟩ := pr_3.open2
  exact bodyPost_ret (v := .agg #[.bool m1, .slice o1 n1 c1]) (by simp [results, Try.results11, go_sem, pre0, pre1]) rfl ⟨_, _, _, _, rfl, f1_1.more (by omega), hB_5⟩
set_option maxHeartbeats 4000000 in
theorem below_some (am : Bool) (ao : Option Addr) (an ac : Nat) (ap : Option Addr) (ak ad : Nat) (L : Nat) (X : Int) (D : Nat) (w : World) (hL : L ≤ 100000000) (fa_0 : FD w (.agg #[.bool am, .slice ao an ac, .slice ap ak ad]) L X D) (h0 : D ≠ 0) :
    Calls Try.prog 11 #[.agg #[.bool am, .slice ao an ac, .slice ap ak ad]] w fun e w' => AnsNum w w' e (max L 1) (den1 D : Nat) := by
  have hB_0 := Below.refl w.heap.size w
  have hz : (((bl D : Nat) : Int) == 0) = false := bl_ne h0
  obtain ⟨w1, hw1, pa_0, hb1, hs1⟩ := new_box w (w.heap.size) rfl [.bool am, .slice ao an ac, .slice ap ak ad] 27
  have hb1' : Below w.heap.size w w1 := hb1.mono (by omega)
  clear hb1
  have hB_1 := hB_0.trans (hb1'.mono hB_0.size)
  have fa_1 := fa_0.below hb1'
  clear hb1' hB_0 fa_0
  obtain ⟨w2, hw2, pr_0, hb2, hs2⟩ := new_box w1 (w.heap.size + 1) hs1 [.bool false, .slice none 0 0] 25
  have hb2' : Below w1.heap.size w1 w2 := hb2.mono (by omega)
  clear hb2
  have hB_2 := hB_1.trans (hb2'.mono hB_1.size)
  have fa_2 := fa_1.below hb2'
  have pa_1 := pa_0.below hb2'
  clear hb2' hB_1 fa_1 pa_0
  go_enter Try.func11, Try.ntmps11
  obtain ⟨pae0, pae1, pae2, pae3, pae4, pae5⟩ := pa_1.open3
  go_wp2_with fail
  refine (len_is _ L D _ _ (by omega) fa_2.mag rfl).mono ?_
  rintro e w3 ⟨rfl, hb3⟩
  clear pae0 pae1 pae2 pae3 pae4 pae5
  have hB_3 := hB_2.trans (hb3.mono hB_2.size)
  have fa_3 := fa_2.below hb3
  have pa_2 := pa_1.below hb3
  have pr_1 := pr_0.below hb3
  clear hb3 hB_2 fa_2 pa_1 pr_0
  obtain ⟨pae0, pae1, pae2, pae3, pae4, pae5⟩ := pa_2.open3
  clear pae0 pae1 pae2 pae3 pae4 pae5
  obtain ⟨pae0, pae1, pae2, pae3, pae4, pae5⟩ := pa_2.open3
  go_wp2_with fail
  refine (Make_any false _ L D _ (by omega) fa_3.mag).mono ?_
  rintro e w4 ⟨m1, o1, n1, c1, rfl, f1_0, hb4⟩
  clear pae0 pae1 pae2 pae3 pae4 pae5
  have hB_4 := hB_3.trans (hb4.mono hB_3.size)
  have fa_4 := fa_3.below hb4
  have pa_3 := pa_2.below hb4
  have pr_2 := pr_1.below hb4
  clear hb4 hB_3 fa_3 pa_2 pr_1
  obtain ⟨pae0, pae1, pae2, pae3, pae4, pae5⟩ := pa_3.open3
  obtain ⟨sf4a, sf4b, sf4c, sf4d⟩ := pr_2.open2
  obtain ⟨sg4a, sg4b⟩ := Box.put2 pr_2 (.bool m1)
  go_wp2
  clear pae0 pae1 pae2 pae3 pae4 pae5 sf4a sf4b sf4c sf4d sg4a sg4b
  have hB_5 := below_setAll hB_4 (g := w.heap.size + 1) (by omega) [.bool m1, .slice o1 n1 c1]
  have fa_5 := fa_4.setAll pr_2 (noWord2 _ _ _ _) [.bool m1, .slice o1 n1 c1] rfl
  have pa_4 := pa_3.farAll (g' := w.heap.size + 1) (by omega) [.bool m1, .slice o1 n1 c1]
  have f1_1 := f1_0.setAll pr_2 (noWord2 _ _ _ _) [.bool m1, .slice o1 n1 c1] rfl
  have pr_3 := pr_2.setAll [.bool m1, .slice o1 n1 c1] rfl
  simp only [setAll, Nat.zero_add] at hB_5 fa_5 pa_4 pr_3 f1_1
  clear hB_4 fa_4 pa_3 f1_0 pr_2
  generalize (World.setCell (World.setCell w4 ⟨w.heap.size + 1, 0, none⟩ (.bool m1)) ⟨w.heap.size + 1, 1, none⟩ (.slice o1 n1 c1)) = w5 at *
  go_wp2
  obtain ⟨pre0, pre1, pre2, pre3⟩ := pr_3.open2
  exact bodyPost_ret (v := .agg #[.bool m1, .slice o1 n1 c1]) (by simp [results, Try.results11, go_sem, pre0, pre1]) rfl ⟨_, _, _, _, rfl, (RNum.of f1_1 (by rw [den1_of h0]; rfl)).more (by omega), hB_5⟩
theorem below_any (va : Value) (L : Nat) (X : Int) (D : Nat) (w : World) (hL : L ≤ 100000000) (ha : FD w va L X D) : Calls Try.prog 11 #[va] w fun e w' => AnsNum w w' e (max L 1) (den1 D : Nat) := by
  have ha' := ha
  obtain ⟨_, _, _, _, _, _, _, rfl, _, _⟩ := ha
  by_cases h0 : D = 0
  · exact below_zero _ _ _ _ _ _ _ L X D w hL ha' h0
  · exact below_some _ _ _ _ _ _ _ L X D w hL ha' h0
set_option maxHeartbeats 4000000 in
theorem fRight_core (am : Bool) (ao : Option Addr) (an ac : Nat) (b o k d : Nat) (x : Nat) (L : Nat) (X : Int) (D : Nat) (w : World) (hk : k + 1 ≤ 4000000000) (hL : L ≤ 100000000) (h0 : x ≠ 0) (fa_0 : RNum w (.agg #[.bool am, .slice ao an ac]) L X) (fd_0 : RMag w (.slice (some ⟨b, o, none⟩) (k + 1) d) L D) (wc_0 : WCell w b (o + k) x) (hgcd : Nat.gcd X.natAbs D = 1) :
    Calls Try.prog 28 #[.agg #[.bool am, .slice ao an ac, .slice (some ⟨b, o, none⟩) (k + 1) d]] w fun e w' => e = .returned (.bool true) ∧ Below w.heap.size w w' := by
  have hB_0 := Below.refl w.heap.size w
  have hx1 : ((x : Int) != 0) = true := by simp; omega
  have hk1 : (0 : Int) < (k : Int) + 1 := by omega
  have hk2 : IntKind.i64.wrap ((k : Int) + 1 - 1) = (k : Int) := by rw [IntWalk.i64_in _ (by omega)]; omega
  have hk3 : (0 : Int) ≤ (k : Int) := by omega
  have hk4 : (k : Int) < (k : Int) + 1 := by omega
  obtain ⟨N, fn_0, hX, _⟩ := fa_0.part
  have hg : Nat.gcd N D = 1 := by rw [← hgcd, hX, sgn_natAbs]
  obtain ⟨w1, hw1, pa_0, hb1, hs1⟩ := new_box w (w.heap.size) rfl [.bool am, .slice ao an ac, .slice (some ⟨b, o, none⟩) (k + 1) d] 27
  have hb1' : Below w.heap.size w w1 := hb1.mono (by omega)
  clear hb1
  have hB_1 := hB_0.trans (hb1'.mono hB_0.size)
  have fa_1 := fa_0.below hb1'
  have fd_1 := fd_0.below hb1'
  have wc_1 := wc_0.below hb1'
  have fn_1 := fn_0.below hb1'
  clear hb1' hB_0 fa_0 fd_0 wc_0 fn_0
  go_enter Try.func28, Try.ntmps28
  obtain ⟨pae0, pae1, pae2, pae3, pae4, pae5⟩ := pa_0.open3
  have wce := wc_1.c
  go_wp2_with fail
  refine (Right_any _ L X _ (by omega) fa_1).mono ?_
  rintro e w2 ⟨rfl, hb2⟩
  clear pae0 pae1 pae2 pae3 pae4 pae5 wce
  have hB_2 := hB_1.trans (hb2.mono hB_1.size)
  have fa_2 := fa_1.below hb2
  have fd_2 := fd_1.below hb2
  have wc_2 := wc_1.below hb2
  have fn_2 := fn_1.below hb2
  have pa_1 := pa_0.below hb2
  clear hb2 hB_1 fa_1 fd_1 wc_1 fn_1 pa_0
  obtain ⟨pae0, pae1, pae2, pae3, pae4, pae5⟩ := pa_1.open3
  have wce := wc_2.c
  go_wp2_with fail
  refine (Gcd_any _ _ L L N D _ (by omega) (by omega) fn_2.mag fd_2.mag).mono ?_
  rintro e w3 ⟨v1, rfl, f1_0, hb3⟩
  clear pae0 pae1 pae2 pae3 pae4 pae5 wce
  have hB_3 := hB_2.trans (hb3.mono hB_2.size)
  have fa_3 := fa_2.below hb3
  have fd_3 := fd_2.below hb3
  have wc_3 := wc_2.below hb3
  have fn_3 := fn_2.below hb3
  have pa_2 := pa_1.below hb3
  clear hb3 hB_2 fa_2 fd_2 wc_2 fn_2 pa_1
  obtain ⟨pae0, pae1, pae2, pae3, pae4, pae5⟩ := pa_2.open3
  obtain ⟨o1, n1, c1, rfl⟩ := f1_0.slice
  go_wp2_with fail
  refine (len_is _ (max L L) (Nat.gcd N D) 1 _ (by omega) f1_0.mag (by rw [hg]; unfold bl; decide)).mono ?_
  rintro e w4 ⟨rfl, hb4⟩
  clear pae0 pae1 pae2 pae3 pae4 pae5
  have hB_4 := hB_3.trans (hb4.mono hB_3.size)
  have fa_4 := fa_3.below hb4
  have fd_4 := fd_3.below hb4
  have wc_4 := wc_3.below hb4
  have fn_4 := fn_3.below hb4
  have pa_3 := pa_2.below hb4
  have f1_1 := f1_0.below hb4
  clear hb4 hB_3 fa_3 fd_3 wc_3 fn_3 pa_2 f1_0
  obtain ⟨pae0, pae1, pae2, pae3, pae4, pae5⟩ := pa_3.open3
  go_wp2
  go_ret
  exact ⟨rfl, hB_4⟩
theorem fRight_any (va : Value) (L : Nat) (q : Rat) (w : World) (hL : L ≤ 100000000) (ha : RF w va L q) : Calls Try.prog 28 #[va] w fun e w' => e = .returned (.bool true) ∧ Below w.heap.size w w' := by
  obtain ⟨am, ao, an, ac, bo, bn, bc, rfl, h1, h2⟩ := ha
  obtain ⟨b, o, k, x, rfl, rfl, h3, h4, h5⟩ := h2.top q.den_nz
  exact fRight_core am ao an ac b o k bc x L q.num q.den w (by omega) hL h4 h1 h2 h5 q.reduced
set_option maxHeartbeats 4000000 in
theorem is_core (am : Bool) (ao : Option Addr) (an ac : Nat) (ap : Option Addr) (ak ad : Nat) (nm : Bool) (no : Option Addr) (nn nc : Nat) (zm : Bool) (zo : Option Addr) (zn zc : Nat) (L M H : Nat) (q : Rat) (X Y : Int) (w : World) (hL : L ≤ 100000000) (hM : M ≤ 100000000) (hH : H ≤ 100000000) (fa_0 : RF w (.agg #[.bool am, .slice ao an ac, .slice ap ak ad]) L q) (fn_0 : Num w (.agg #[.bool nm, .slice no nn nc]) M X) (fd_0 : Num w (.agg #[.bool zm, .slice zo zn zc]) H Y) (h : q.num * Y = X * q.den) :
    Calls Try.prog 13 #[.agg #[.bool am, .slice ao an ac, .slice ap ak ad], .agg #[.bool nm, .slice no nn nc], .agg #[.bool zm, .slice zo zn zc]] w fun e w' => e = .returned (.bool true) ∧ Below w.heap.size w w' := by
  have hB_0 := Below.refl w.heap.size w
  obtain ⟨w1, hw1, pa_0, hb1, hs1⟩ := new_box w (w.heap.size) rfl [.bool am, .slice ao an ac, .slice ap ak ad] 27
  have hb1' : Below w.heap.size w w1 := hb1.mono (by omega)
  clear hb1
  have hB_1 := hB_0.trans (hb1'.mono hB_0.size)
  have fa_1 := fa_0.below hb1'
  have fn_1 := fn_0.below hb1'
  have fd_1 := fd_0.below hb1'
  clear hb1' hB_0 fa_0 fn_0 fd_0
  obtain ⟨w2, hw2, pn_0, hb2, hs2⟩ := new_box w1 (w.heap.size + 1) hs1 [.bool nm, .slice no nn nc] 25
  have hb2' : Below w1.heap.size w1 w2 := hb2.mono (by omega)
  clear hb2
  have hB_2 := hB_1.trans (hb2'.mono hB_1.size)
  have fa_2 := fa_1.below hb2'
  have fn_2 := fn_1.below hb2'
  have fd_2 := fd_1.below hb2'
  have pa_1 := pa_0.below hb2'
  clear hb2' hB_1 fa_1 fn_1 fd_1 pa_0
  obtain ⟨w3, hw3, pd_0, hb3, hs3⟩ := new_box w2 (w.heap.size + 1 + 1) hs2 [.bool zm, .slice zo zn zc] 25
  have hb3' : Below w2.heap.size w2 w3 := hb3.mono (by omega)
  clear hb3
  have hB_3 := hB_2.trans (hb3'.mono hB_2.size)
  have fa_3 := fa_2.below hb3'
  have fn_3 := fn_2.below hb3'
  have fd_3 := fd_2.below hb3'
  have pa_2 := pa_1.below hb3'
  have pn_1 := pn_0.below hb3'
  clear hb3' hB_2 fa_2 fn_2 fd_2 pa_1 pn_0
  go_enter Try.func13, Try.ntmps13
  go_wp2
  have hB_4 := hB_3.drew'
  have fa_4 := fa_3.drew
  have fn_4 := fn_3.drew
  have fd_4 := fd_3.drew
  have pa_3 := pa_2.drew
  have pn_2 := pn_1.drew
  have pd_1 := pd_0.drew
  clear hB_3 fa_3 fn_3 fd_3 pa_2 pn_1 pd_0
  go_region_held3 (fun w' => w'.cell? ⟨w.heap.size, 0, none⟩ = some (.bool am) ∧ w'.cell? ⟨w.heap.size, 1, none⟩ = some (.slice ao an ac) ∧ w'.cell? ⟨w.heap.size, 2, none⟩ = some (.slice ap ak ad) ∧ w'.cell? ⟨w.heap.size + 1, 0, none⟩ = some (.bool nm) ∧ w'.cell? ⟨w.heap.size + 1, 1, none⟩ = some (.slice no nn nc) ∧ w'.cell? ⟨w.heap.size + 1 + 1, 0, none⟩ = some (.bool zm) ∧ w'.cell? ⟨w.heap.size + 1 + 1, 1, none⟩ = some (.slice zo zn zc))
    (first | with_reducible exact ⟨pa_3.c0, pa_3.c1, pa_3.c2, pn_2.c0, pn_2.c1, pd_1.c0, pd_1.c1⟩ | with_reducible exact ⟨pa_4.c0, pa_4.c1, pa_4.c2, pn_3.c0, pn_3.c1, pd_2.c0, pd_2.c1⟩ | with_reducible exact ⟨pa_5.c0, pa_5.c1, pa_5.c2, pn_4.c0, pn_4.c1, pd_3.c0, pd_3.c1⟩ | with_reducible exact ⟨pa_6.c0, pa_6.c1, pa_6.c2, pn_5.c0, pn_5.c1, pd_4.c0, pd_4.c1⟩ | with_reducible exact ⟨pa_7.c0, pa_7.c1, pa_7.c2, pn_6.c0, pn_6.c1, pd_5.c0, pd_5.c1⟩ | with_reducible exact ⟨pa_8.c0, pa_8.c1, pa_8.c2, pn_7.c0, pn_7.c1, pd_6.c0, pd_6.c1⟩ | fail)
    (first
      | (go_at_call 28; (with_reducible refine (fRight_any _ L q _ (by omega) fa_4).mono ?_); rintro e w4 ⟨rfl, hb4⟩; have hB_5 := hB_4.trans (hb4.mono hB_4.size); have fa_5 := fa_4.below hb4; have fn_5 := fn_4.below hb4; have fd_5 := fd_4.below hb4; have pa_4 := pa_3.below hb4; have pn_3 := pn_2.below hb4; have pd_2 := pd_1.below hb4; clear hb4 hB_4 fa_4 fn_4 fd_4 pa_3 pn_2 pd_1)
      | (go_at_call 12; (with_reducible refine (nMul_any _ _ L H q.num Y _ (by omega) (by omega) fa_5.fd.num fd_5).mono ?_); rintro e w5 ⟨m1, o1, n1, c1, rfl, f1_0, hb5⟩; have hB_6 := hB_5.trans (hb5.mono hB_5.size); have fa_6 := fa_5.below hb5; have fn_6 := fn_5.below hb5; have fd_6 := fd_5.below hb5; have pa_5 := pa_4.below hb5; have pn_4 := pn_3.below hb5; have pd_3 := pd_2.below hb5; clear hb5 hB_5 fa_5 fn_5 fd_5 pa_4 pn_3 pd_2)
      | (go_at_call 11; (with_reducible refine (below_any _ L q.num q.den _ (by omega) fa_6.fd).mono ?_); rintro e w6 ⟨m2, o2, n2, c2, rfl, f2_0, hb6⟩; have hB_7 := hB_6.trans (hb6.mono hB_6.size); have fa_7 := fa_6.below hb6; have fn_7 := fn_6.below hb6; have fd_7 := fd_6.below hb6; have pa_6 := pa_5.below hb6; have pn_5 := pn_4.below hb6; have pd_4 := pd_3.below hb6; have f1_1 := f1_0.below hb6; clear hb6 hB_6 fa_6 fn_6 fd_6 pa_5 pn_4 pd_3 f1_0)
      | (go_at_call 12; (with_reducible refine (nMul_any _ _ M (max L 1) X (den1 q.den : Nat) _ (by omega) (by omega) fn_7 f2_0.num).mono ?_); rintro e w7 ⟨m3, o3, n3, c3, rfl, f3_0, hb7⟩; have hB_8 := hB_7.trans (hb7.mono hB_7.size); have fa_8 := fa_7.below hb7; have fn_8 := fn_7.below hb7; have fd_8 := fd_7.below hb7; have pa_7 := pa_6.below hb7; have pn_6 := pn_5.below hb7; have pd_5 := pd_4.below hb7; have f1_2 := f1_1.below hb7; have f2_1 := f2_0.below hb7; clear hb7 hB_7 fa_7 fn_7 fd_7 pa_6 pn_5 pd_4 f1_1 f2_0)
      | (go_at_call 22; (with_reducible refine (nCmp_is _ _ (L + H) (M + max L 1) (q.num * Y) (X * (den1 q.den : Nat)) 0 _ (by omega) (by omega) f1_2.num f3_0.num (by rw [den1_of q.den_nz, h]; exact icmp_self _)).mono ?_); rintro e w8 ⟨rfl, hb8⟩; have hB_9 := hB_8.trans (hb8.mono hB_8.size); have fa_9 := fa_8.below hb8; have fn_9 := fn_8.below hb8; have fd_9 := fd_8.below hb8; have pa_8 := pa_7.below hb8; have pn_7 := pn_6.below hb8; have pd_6 := pd_5.below hb8; have f1_3 := f1_2.below hb8; have f2_2 := f2_1.below hb8; have f3_1 := f3_0.below hb8; clear hb8 hB_8 fa_8 fn_8 fd_8 pa_7 pn_6 pd_5 f1_2 f2_1 f3_0))
  go_wp2
  go_ret
  exact ⟨rfl, hB_9⟩
theorem fis_any (va vn vd : Value) (L M H : Nat) (q : Rat) (X Y : Int) (w : World) (hL : L ≤ 100000000) (hM : M ≤ 100000000) (hH : H ≤ 100000000) (ha : RF w va L q) (hn : Num w vn M X) (hd : Num w vd H Y) (h : q.num * Y = X * q.den) :
    Calls Try.prog 13 #[va, vn, vd] w fun e w' => e = .returned (.bool true) ∧ Below w.heap.size w w' := by
  have ha' := ha
  have hn' := hn
  have hd' := hd
  obtain ⟨_, _, _, _, _, _, _, rfl, _, _⟩ := ha
  obtain ⟨_, _, _, rfl, h1, _⟩ := hn
  obtain ⟨_, _, _, rfl⟩ := h1.slice
  obtain ⟨_, _, _, rfl, h2, _⟩ := hd
  obtain ⟨_, _, _, rfl⟩ := h2.slice
  exact is_core _ _ _ _ _ _ _ _ _ _ _ _ _ _ _ L M H q X Y w hL hM hH ha' hn' hd' h
theorem fiveHalves : (((10 : Int) : Rat) / ((4 : Int) : Rat)).num = 5 ∧ (((10 : Int) : Rat) / ((4 : Int) : Rat)).den = 2 := by
  have h := make_eq false false 10 4 (by omega)
  have e1 : sgn false 10 = 10 := rfl
  have e2 : sgn false 4 = 4 := rfl
  rw [e1, e2] at h
  rw [← h]
  have e3 : (false != false) = false := rfl
  rw [e3, e1, Rat.num_mkRat, Rat.den_mkRat]
  decide
theorem fiveHalves_den {w : World} {m : Bool} {ao bo : Option Addr} {n c k d L : Nat} (h : RF w (.agg #[.bool m, .slice ao n c, .slice bo k d]) L (((10 : Int) : Rat) / ((4 : Int) : Rat))) : RMag w (.slice bo k d) L 2 := by
  obtain ⟨_, _, _, _, _, _, _, e, h1, h2⟩ := h
  simp at e
  obtain ⟨rfl, ⟨rfl, rfl, rfl⟩, rfl, rfl, rfl⟩ := e
  rw [fiveHalves.2] at h2
  exact h2
theorem fiveHalves_num : icmp (((10 : Int) : Rat) / ((4 : Int) : Rat)).num 5 = 0 := by rw [fiveHalves.1]; exact icmp_self _
theorem fiveHalves_rnd : icmp (rnd (qv (((10 : Int) : Rat) / ((4 : Int) : Rat)).num (((10 : Int) : Rat) / ((4 : Int) : Rat)).den)) 2 = 0 := by
  rw [fiveHalves.1, fiveHalves.2, ← rnd_down 5 2 (Or.inr (by decide))]
  decide
set_option maxHeartbeats 4000000 in
theorem ffit_any (w : World) : Calls Try.prog 9 #[] w fun e w' => e = .returned (.bool true) ∧ Below w.heap.size w w' := by
  have hB_0 := Below.refl w.heap.size w
  go_enter Try.func9, Try.ntmps9
  go_wp2_with fail
  refine (nOf_any 10 (by omega) (by omega) _).mono ?_
  rintro e w1 ⟨m1, o1, n1, c1, rfl, f1_0, hb1⟩
  have hB_1 := hB_0.trans (hb1.mono hB_0.size)
  clear hb1 hB_0
  go_wp2_with fail
  refine (nOf_any 4 (by omega) (by omega) _).mono ?_
  rintro e w2 ⟨m2, o2, n2, c2, rfl, f2_0, hb2⟩
  have hB_2 := hB_1.trans (hb2.mono hB_1.size)
  have f1_1 := f1_0.below hb2
  clear hb2 hB_1 f1_0
  go_wp2_with fail
  refine (fMake_some _ _ 1 1 10 4 _ (by omega) (by omega) f1_1.num f2_0.num (by omega)).mono ?_
  rintro e w3 ⟨m3, o3, n3, c3, p3, k3, d3, rfl, f3_0, hb3⟩
  have hB_3 := hB_2.trans (hb3.mono hB_2.size)
  have f1_2 := f1_1.below hb3
  have f2_1 := f2_0.below hb3
  clear hb3 hB_2 f1_1 f2_0
  obtain ⟨b3, q3, rfl, rfl, wc_0⟩ := (fiveHalves_den f3_0).lone (by omega) (by unfold B; omega)
  have hl1B := hB_3.size
  obtain ⟨w4, hw4, pq_0, hb4, hs4⟩ := new_box w3 (w3.heap.size) rfl [.bool m3, .slice o3 n3 c3, .slice (some ⟨b3, q3, none⟩) 1 d3] 27
  have hb4' : Below w3.heap.size w3 w4 := hb4.mono (by omega)
  clear hb4
  have hB_4 := hB_3.trans (hb4'.mono hB_3.size)
  have f1_3 := f1_2.below hb4'
  have f2_2 := f2_1.below hb4'
  have f3_1 := f3_0.below hb4'
  have wc_1 := wc_0.below hb4'
  clear hb4' hB_3 f1_2 f2_1 f3_0 wc_0
  go_wp2
  try rw [hw4]
  have hB_5 := hB_4.drew'
  have f1_4 := f1_3.drew
  have f2_3 := f2_2.drew
  have f3_2 := f3_1.drew
  have wc_2 := wc_1.drew
  have pq_1 := pq_0.drew
  clear hB_4 f1_3 f2_2 f3_1 wc_1 pq_0
  go_region_held3 (fun w' => w'.cell? ⟨w3.heap.size, 0, none⟩ = some (.bool m3) ∧ w'.cell? ⟨w3.heap.size, 1, none⟩ = some (.slice o3 n3 c3) ∧ w'.cell? ⟨w3.heap.size, 2, none⟩ = some (.slice (some ⟨b3, q3, none⟩) 1 d3) ∧ w'.cell? ⟨b3, q3, none⟩ = some (.int .u64 ((2 : Nat) : Int)))
    (first | with_reducible exact ⟨pq_1.c0, pq_1.c1, pq_1.c2, wc_2.c⟩ | with_reducible exact ⟨pq_2.c0, pq_2.c1, pq_2.c2, wc_3.c⟩ | with_reducible exact ⟨pq_3.c0, pq_3.c1, pq_3.c2, wc_4.c⟩ | with_reducible exact ⟨pq_4.c0, pq_4.c1, pq_4.c2, wc_5.c⟩ | with_reducible exact ⟨pq_5.c0, pq_5.c1, pq_5.c2, wc_6.c⟩ | with_reducible exact ⟨pq_6.c0, pq_6.c1, pq_6.c2, wc_7.c⟩ | fail)
    (first
      | (go_at_call 32; (with_reducible refine (fRound_any _ (max 1 1) _ _ _ (by omega) f3_2.fd).mono ?_); rintro e w5 ⟨m4, o4, n4, c4, rfl, f4_0, hb5⟩; have hB_6 := hB_5.trans (hb5.mono hB_5.size); have f1_5 := f1_4.below hb5; have f2_4 := f2_3.below hb5; have f3_3 := f3_2.below hb5; have wc_3 := wc_2.below hb5; have pq_2 := pq_1.below hb5; clear hb5 hB_5 f1_4 f2_3 f3_2 wc_2 pq_1)
      | (go_at_call 29; (with_reducible refine (nOf_any 2 (by omega) (by omega) _).mono ?_); rintro e w6 ⟨m5, o5, n5, c5, rfl, f5_0, hb6⟩; have hB_7 := hB_6.trans (hb6.mono hB_6.size); have f1_6 := f1_5.below hb6; have f2_5 := f2_4.below hb6; have f3_4 := f3_3.below hb6; have wc_4 := wc_3.below hb6; have pq_3 := pq_2.below hb6; have f4_1 := f4_0.below hb6; clear hb6 hB_6 f1_5 f2_4 f3_3 wc_3 pq_2 f4_0)
      | (go_at_call 22; (with_reducible refine (nCmp_is _ _ (max (max 1 1) 1 + 2) 1 _ 2 0 _ (by omega) (by omega) f4_1.num f5_0.num fiveHalves_rnd).mono ?_); rintro e w7 ⟨rfl, hb7⟩; have hB_8 := hB_7.trans (hb7.mono hB_7.size); have f1_7 := f1_6.below hb7; have f2_6 := f2_5.below hb7; have f3_5 := f3_4.below hb7; have wc_5 := wc_4.below hb7; have pq_4 := pq_3.below hb7; have f4_2 := f4_1.below hb7; have f5_1 := f5_0.below hb7; clear hb7 hB_7 f1_6 f2_5 f3_4 wc_4 pq_3 f4_1 f5_0)
      | (go_at_call 29; (with_reducible refine (nOf_any 5 (by omega) (by omega) _).mono ?_); rintro e w8 ⟨m6, o6, n6, c6, rfl, f6_0, hb8⟩; have hB_9 := hB_8.trans (hb8.mono hB_8.size); have f1_8 := f1_7.below hb8; have f2_7 := f2_6.below hb8; have f3_6 := f3_5.below hb8; have wc_6 := wc_5.below hb8; have pq_5 := pq_4.below hb8; have f4_3 := f4_2.below hb8; have f5_2 := f5_1.below hb8; clear hb8 hB_8 f1_7 f2_6 f3_5 wc_5 pq_4 f4_2 f5_1)
      | (go_at_call 22; (with_reducible refine (nCmp_is _ _ (max 1 1) 1 _ 5 0 _ (by omega) (by omega) f3_6.fd.num f6_0.num fiveHalves_num).mono ?_); rintro e w9 ⟨rfl, hb9⟩; have hB_10 := hB_9.trans (hb9.mono hB_9.size); have f1_9 := f1_8.below hb9; have f2_8 := f2_7.below hb9; have f3_7 := f3_6.below hb9; have wc_7 := wc_6.below hb9; have pq_6 := pq_5.below hb9; have f4_4 := f4_3.below hb9; have f5_3 := f5_2.below hb9; have f6_1 := f6_0.below hb9; clear hb9 hB_9 f1_8 f2_7 f3_6 wc_6 pq_5 f4_3 f5_2 f6_0))
  go_wp2
  go_ret
  exact ⟨rfl, hB_10⟩
end Go.Proofs.Ytmbmeapodhngaaa
/- The calls of frac, by the numbers that they count. -/
namespace Go.Proofs.Ytmbmeapodhngaaa
open Go.RowKit Go.MagM
theorem cross (q : Rat) (N : Int) (M : Nat) (hM : M ≠ 0) (h : q = mkRat N M) : q.num * (M : Int) = N * (q.den : Int) := by
  have h1 := Rat.mkRat_self q
  rw [h] at h1
  have h2 := (Rat.mkRat_eq_iff (mkRat N M).den_nz hM).1 h1
  rw [h]
  exact h2
theorem qv_sign (X : Int) (D : Nat) : (qv X D).num.sign = X.sign := by
  have h := cross (qv X D) X (den1 D) (den1_ne D) rfl
  have h2 := congrArg Int.sign h
  rw [sign_den, Int.sign_mul, Int.sign_natCast_of_ne_zero (qv X D).den_nz, Int.mul_one] at h2
  exact h2
theorem qAdd (va vb : Value) (L M : Nat) (p q : Rat) (w : World) (hL : L ≤ 50000000) (hM : M ≤ 50000000) (ha : FQ w va L p) (hb : FQ w vb M q) : Calls Try.prog 14 #[va, vb] w fun e w' => AnsF w w' e (L + M + 2) (p + q) := by
  obtain ⟨X, D, h1, rfl⟩ := ha
  obtain ⟨Y, E, h2, rfl⟩ := hb
  exact fAdd_any _ _ L M X Y D E w (by omega) (by omega) h1 h2
theorem qSub (va vb : Value) (L M : Nat) (p q : Rat) (w : World) (hL : L ≤ 50000000) (hM : M ≤ 50000000) (ha : FQ w va L p) (hb : FQ w vb M q) : Calls Try.prog 16 #[va, vb] w fun e w' => AnsF w w' e (L + M + 2) (p - q) := by
  obtain ⟨X, D, h1, rfl⟩ := ha
  obtain ⟨Y, E, h2, rfl⟩ := hb
  exact fSub_any _ _ L M X Y D E w (by omega) (by omega) h1 h2
theorem qMul (va vb : Value) (L M : Nat) (p q : Rat) (w : World) (hL : L ≤ 50000000) (hM : M ≤ 50000000) (ha : FQ w va L p) (hb : FQ w vb M q) : Calls Try.prog 18 #[va, vb] w fun e w' => AnsF w w' e (L + M + 2) (p * q) := by
  obtain ⟨X, D, h1, rfl⟩ := ha
  obtain ⟨Y, E, h2, rfl⟩ := hb
  exact fMul_any _ _ L M X Y D E w (by omega) (by omega) h1 h2
theorem qCmp (va vb : Value) (L M : Nat) (p q : Rat) (w : World) (hL : L ≤ 50000000) (hM : M ≤ 50000000) (ha : FQ w va L p) (hb : FQ w vb M q) (c : Int) (h : qcmp p q = c) : Calls Try.prog 21 #[va, vb] w fun e w' => e = .returned (.int .i64 c) ∧ Below w.heap.size w w' := by
  obtain ⟨X, D, h1, rfl⟩ := ha
  obtain ⟨Y, E, h2, rfl⟩ := hb
  exact fCmp_is _ _ L M X Y D E w (by omega) (by omega) h1 h2 c h
theorem qSame (va vb : Value) (L M : Nat) (p q : Rat) (w : World) (hL : L ≤ 50000000) (hM : M ≤ 50000000) (ha : FQ w va L p) (hb : FQ w vb M q) (b : Bool) (h : p = q ↔ b = true) : Calls Try.prog 25 #[va, vb] w fun e w' => e = .returned (.bool b) ∧ Below w.heap.size w w' := by
  obtain ⟨X, D, h1, rfl⟩ := ha
  obtain ⟨Y, E, h2, rfl⟩ := hb
  by_cases hq : qv X D = qv Y E
  · rw [h.1 hq]; exact fSame_yes _ _ L M X Y D E w (by omega) (by omega) h1 h2 hq
  · have hb : b = false := by cases b with
      | false => rfl
      | true => exact absurd (h.2 rfl) hq
    rw [hb]; exact fSame_no _ _ L M X Y D E w (by omega) (by omega) h1 h2 hq
theorem qSame_yes (va vb : Value) (L M : Nat) (p q : Rat) (w : World) (hL : L ≤ 50000000) (hM : M ≤ 50000000) (ha : FQ w va L p) (hb : FQ w vb M q) (h : p = q) : Calls Try.prog 25 #[va, vb] w fun e w' => e = .returned (.bool true) ∧ Below w.heap.size w w' := by
  obtain ⟨X, D, h1, rfl⟩ := ha
  obtain ⟨Y, E, h2, rfl⟩ := hb
  exact fSame_yes _ _ L M X Y D E w (by omega) (by omega) h1 h2 h
theorem qDiv_zero (va vb : Value) (L M : Nat) (p q : Rat) (w : World) (hL : L ≤ 50000000) (hM : M ≤ 50000000) (ha : FQ w va L p) (hb : FQ w vb M q) (h : q = 0) : Calls Try.prog 26 #[va, vb] w fun e w' => AnsFt w w' e false 1 0 := by
  obtain ⟨X, D, h1, rfl⟩ := ha
  obtain ⟨Y, E, h2, rfl⟩ := hb
  refine fDiv_zero _ _ L M X Y D E w (by omega) (by omega) h1 h2 ?_
  rw [qv] at h
  exact (Rat.mkRat_eq_zero (den1_ne E)).1 h
theorem qDiv (va vb : Value) (L M : Nat) (p q : Rat) (w : World) (hL : L ≤ 50000000) (hM : M ≤ 50000000) (ha : FQ w va L p) (hb : FQ w vb M q) (h : q ≠ 0) : Calls Try.prog 26 #[va, vb] w fun e w' => AnsFt w w' e true (L + M + 3) (p / q) := by
  obtain ⟨X, D, h1, rfl⟩ := ha
  obtain ⟨Y, E, h2, rfl⟩ := hb
  refine fDiv_some _ _ L M X Y D E w (by omega) (by omega) h1 h2 ?_
  intro hy
  subst hy
  exact h (qv_zero E)
theorem qNeg (va : Value) (L : Nat) (p : Rat) (w : World) (hL : L ≤ 50000000) (ha : FQ w va L p) : Calls Try.prog 19 #[va] w fun e w' => AnsF w w' e (max L 1) (-p) := by
  obtain ⟨X, D, h1, rfl⟩ := ha
  exact fNeg_any _ L X D w (by omega) h1
theorem qSign (va : Value) (L : Nat) (p : Rat) (w : World) (hL : L ≤ 50000000) (ha : FQ w va L p) (s : Int) (h : p.num.sign = s) : Calls Try.prog 23 #[va] w fun e w' => e = .returned (.int .i64 s) ∧ Below w.heap.size w w' := by
  obtain ⟨X, D, h1, rfl⟩ := ha
  exact fSign_is _ L X s D w (by omega) h1 (by rw [← qv_sign X D]; exact h)
theorem qFloor (va : Value) (L : Nat) (p : Rat) (w : World) (hL : L ≤ 50000000) (ha : FQ w va L p) : Calls Try.prog 31 #[va] w fun e w' => AnsNum w w' e (max L 1 + 1) p.floor := by
  obtain ⟨X, D, h1, rfl⟩ := ha
  exact fFloor_any _ L X D w (by omega) h1
theorem qRound (va : Value) (L : Nat) (p : Rat) (w : World) (hL : L ≤ 50000000) (ha : FQ w va L p) : Calls Try.prog 32 #[va] w fun e w' => AnsNum w w' e (max L 1 + 2) (rnd p) := by
  obtain ⟨X, D, h1, rfl⟩ := ha
  exact fRound_any _ L X D w (by omega) h1
theorem fracs_three (w : World) (T : TypeId) {xm : Bool} {xo : Option Addr} {xn xc : Nat} {xp : Option Addr} {xk xd : Nat} {ym : Bool} {yo : Option Addr} {yn yc : Nat} {yp : Option Addr} {yk yd : Nat} {zm : Bool} {zo : Option Addr} {zn zc : Nat} {zp : Option Addr} {zk zd : Nat} {L1 L2 L3 : Nat} {X Y Z : Int} {D E F : Nat} (h1 : FD w (.agg #[.bool xm, .slice xo xn xc, .slice xp xk xd]) L1 X D) (h2 : FD w (.agg #[.bool ym, .slice yo yn yc, .slice yp yk yd]) L2 Y E) (h3 : FD w (.agg #[.bool zm, .slice zo zn zc, .slice zp zk zd]) L3 Z F) :
    Fracs (w.alloc (.cells #[.bool xm, .slice xo xn xc, .slice xp xk xd, .bool ym, .slice yo yn yc, .slice yp yk yd, .bool zm, .slice zo zn zc, .slice zp zk zd] T)) (some ⟨w.heap.size, 0, none⟩) [(L1, X, D), (L2, Y, E), (L3, Z, F)] := by
  have hb : Below w.heap.size w (w.alloc (.cells #[.bool xm, .slice xo xn xc, .slice xp xk xd, .bool ym, .slice yo yn yc, .slice yp yk yd, .bool zm, .slice zo zn zc, .slice zp zk zd] T)) := (Below.refl _ _).alloc (Nat.le_refl _) _
  intro i L U G hi
  have hi2 : i < 3 := by have := (List.getElem?_eq_some_iff.1 hi).1; simpa using this
  obtain rfl | rfl | rfl : i = 0 ∨ i = 1 ∨ i = 2 := by omega
  · simp at hi; obtain ⟨rfl, rfl, rfl⟩ := hi
    exact ⟨_, 0, xm, xo, xn, xc, xp, xk, xd, rfl, by simp [go_sem], by simp [go_sem], by simp [go_sem], h1.below hb⟩
  · simp at hi; obtain ⟨rfl, rfl, rfl⟩ := hi
    exact ⟨_, 0, ym, yo, yn, yc, yp, yk, yd, rfl, by simp [go_sem], by simp [go_sem], by simp [go_sem], h2.below hb⟩
  · simp at hi; obtain ⟨rfl, rfl, rfl⟩ := hi
    exact ⟨_, 0, zm, zo, zn, zc, zp, zk, zd, rfl, by simp [go_sem], by simp [go_sem], by simp [go_sem], h3.below hb⟩
theorem fSum_three (w : World) (T : TypeId) {xm : Bool} {xo : Option Addr} {xn xc : Nat} {xp : Option Addr} {xk xd : Nat} {ym : Bool} {yo : Option Addr} {yn yc : Nat} {yp : Option Addr} {yk yd : Nat} {zm : Bool} {zo : Option Addr} {zn zc : Nat} {zp : Option Addr} {zk zd : Nat} {L1 L2 L3 : Nat} {p q r : Rat} (hL1 : L1 ≤ 1000000) (hL2 : L2 ≤ 1000000) (hL3 : L3 ≤ 1000000) (h1 : FQ w (.agg #[.bool xm, .slice xo xn xc, .slice xp xk xd]) L1 p) (h2 : FQ w (.agg #[.bool ym, .slice yo yn yc, .slice yp yk yd]) L2 q) (h3 : FQ w (.agg #[.bool zm, .slice zo zn zc, .slice zp zk zd]) L3 r) :
    Calls Try.prog 30 #[.slice (some ⟨w.heap.size, 0, none⟩) 3 3] (w.alloc (.cells #[.bool xm, .slice xo xn xc, .slice xp xk xd, .bool ym, .slice yo yn yc, .slice yp yk yd, .bool zm, .slice zo zn zc, .slice zp zk zd] T)) fun e w' => AnsF w w' e (L1 + L2 + L3 + 7) (p + q + r) := by
  obtain ⟨X, D, h1, rfl⟩ := h1
  obtain ⟨Y, E, h2, rfl⟩ := h2
  obtain ⟨Z, F, h3, rfl⟩ := h3
  refine (fSum_go _ 3 3 _ _ rfl (by omega) ?_ (fracs_three w T h1 h2 h3)).mono ?_
  · intro L U G hm; simp at hm; omega
  · rintro e w' h
    obtain ⟨m, ao, n, c, bo, k, d, rfl, h4, h5⟩ := h
    refine ⟨m, ao, n, c, bo, k, d, rfl, (h4.more (by simp [fLen]; omega)).of (by simp [fVal, Rat.zero_add]), ((Below.refl _ _).alloc (Nat.le_refl _) _).trans (h5.mono (by simp))⟩
theorem fSum_none (w : World) : Calls Try.prog 30 #[.slice none 0 0] w fun e w' => AnsF w w' e 1 0 := by
  refine (fSum_go none 0 0 [] w rfl (by omega) (fun L X D hm => by cases hm) (fun i L X D hi => by simp at hi)).mono fun e w' g => g.of ?_ ?_
  · simp [fLen]
  · simp [fVal]
end Go.Proofs.Ytmbmeapodhngaaa
/- What is said of the nearest whole number. -/
namespace Go.Proofs.Ytmbmeapodhngaaa
open Go.RowKit Go.MagM
theorem rnd_near (q : Rat) : -(1 / 2 : Rat) ≤ q - (rnd q : Rat) ∧ q - (rnd q : Rat) ≤ 1 / 2 ∧ ((q - (rnd q : Rat) = 1 / 2 ∨ q - (rnd q : Rat) = -(1 / 2)) → rnd q % 2 = 0) := by
  have h1 := Rat.floor_le q
  have h2 := Rat.lt_floor_add_one q
  rw [Rat.intCast_add] at h2
  have e1 : ((1 : Int) : Rat) = 1 := rfl
  rw [e1] at h2
  unfold rnd
  generalize q.floor = f at *
  split
  · next h =>
    rcases h with h | ⟨h, h3⟩
    · refine ⟨by grind, by grind, fun h4 => ?_⟩
      exfalso
      rcases h4 with h4 | h4
      · have h5 : 2 * (q - (f : Rat)) = 1 := by rw [h4, Rat.mul_comm]; exact Rat.div_mul_cancel (by decide)
        rw [h5] at h
        exact Rat.lt_irrefl h
      · grind
    · exact ⟨by grind, by grind, fun _ => h3⟩
  · next h =>
    have h4 : ¬ 2 * (q - (f : Rat)) < 1 := fun a => h (Or.inl a)
    rw [Rat.intCast_add, e1]
    refine ⟨by grind, by grind, fun h5 => ?_⟩
    have h6 : 2 * (q - (f : Rat)) = 1 := by rcases h5 with h5 | h5 <;> grind
    have h7 : ¬ f % 2 = 0 := fun a => h (Or.inr ⟨h6, a⟩)
    omega
theorem near_unique {q : Rat} {y z : Int} (_h1 : -(1 / 2 : Rat) ≤ q - (y : Rat)) (h2 : q - (y : Rat) ≤ 1 / 2) (h3 : (q - (y : Rat) = 1 / 2 ∨ q - (y : Rat) = -(1 / 2)) → y % 2 = 0)
    (k1 : -(1 / 2 : Rat) ≤ q - (z : Rat)) (_k2 : q - (z : Rat) ≤ 1 / 2) (k3 : (q - (z : Rat) = 1 / 2 ∨ q - (z : Rat) = -(1 / 2)) → z % 2 = 0) : ¬ y < z := by
  intro h
  have h4 : y + 1 ≤ z := h
  have h5 := Rat.intCast_le_intCast.2 h4
  rw [Rat.intCast_add, show ((1 : Int) : Rat) = 1 from rfl] at h5
  have h6 : q - (y : Rat) = 1 / 2 := by grind
  have h7 : q - (z : Rat) = -(1 / 2) := by grind
  have h8 : (z : Rat) = ((y + 1 : Int) : Rat) := by
    rw [Rat.intCast_add, show ((1 : Int) : Rat) = 1 from rfl]; grind
  have h9 := Rat.intCast_inj.1 h8
  have a := h3 (Or.inl h6)
  have b := k3 (Or.inr h7)
  omega
theorem rnd_neg (q : Rat) : rnd (-q) = -rnd q := by
  obtain ⟨h1, h2, h3⟩ := rnd_near q
  obtain ⟨k1, k2, k3⟩ := rnd_near (-q)
  have e : ((-rnd (-q) : Int) : Rat) = -(rnd (-q) : Rat) := Rat.intCast_neg _
  have m1 : -(1 / 2 : Rat) ≤ q - ((-rnd (-q) : Int) : Rat) := by rw [e]; grind
  have m2 : q - ((-rnd (-q) : Int) : Rat) ≤ 1 / 2 := by rw [e]; grind
  have m3 : (q - ((-rnd (-q) : Int) : Rat) = 1 / 2 ∨ q - ((-rnd (-q) : Int) : Rat) = -(1 / 2)) → (-rnd (-q)) % 2 = 0 := by
    rw [e]
    intro h
    have := k3 (by rcases h with h | h <;> grind)
    omega
  have a := near_unique h1 h2 h3 m1 m2 m3
  have b := near_unique m1 m2 m3 h1 h2 h3
  omega
theorem rnd_int (n : Int) : rnd (n : Rat) = n := by
  have h1 : ((n : Rat).floor : Int) = n := Rat.floor_intCast n
  unfold rnd
  rw [h1, Rat.sub_self, if_pos]
  exact Or.inl (by rw [Rat.mul_zero]; rfl)
theorem rest_sign (q : Rat) : ¬ (q - (q.floor : Rat)).num.sign < 0 := by
  have h1 := Rat.floor_le q
  have h2 : 0 ≤ q - (q.floor : Rat) := by grind
  have h3 := Rat.num_nonneg.2 h2
  intro h
  have := Int.neg_of_sign_eq_neg_one (a := (q - (q.floor : Rat)).num) (by
    rcases Int.lt_trichotomy (q - (q.floor : Rat)).num 0 with h4 | h4 | h4
    · omega
    · rw [h4] at h; exact absurd h (by decide)
    · rw [Int.sign_eq_one_of_pos h4] at h; omega)
  omega
theorem rest_small (q : Rat) : qcmp (q - (q.floor : Rat)) ((1 : Int) : Rat) = -1 := by
  have h2 := Rat.lt_floor_add_one q
  rw [Rat.intCast_add] at h2
  apply qcmp_lt
  grind
theorem half_eq : ((1 : Int) : Rat) / ((2 : Int) : Rat) = 1 / 2 := rfl
theorem sign_neg_iff (q : Rat) : q.num.sign < 0 ↔ q < 0 := by
  have h1 := @Rat.num_nonneg q
  rcases Int.lt_trichotomy q.num 0 with h4 | h4 | h4
  · rw [Int.sign_eq_neg_one_of_neg h4]
    exact ⟨fun _ => by have : ¬ 0 ≤ q := fun a => by have := h1.2 a; omega
                       grind, fun _ => by decide⟩
  · rw [h4]
    exact ⟨fun h => absurd h (by decide), fun h => by
      have : 0 ≤ q := h1.1 (by omega)
      grind⟩
  · rw [Int.sign_eq_one_of_pos h4]
    exact ⟨fun h => absurd h (by decide), fun h => by
      have : 0 ≤ q := h1.1 (by omega)
      grind⟩
theorem away_le {q d : Rat} (h : d = q - (rnd q : Rat) ∨ d = -(q - (rnd q : Rat))) : ¬ 0 < qcmp d (((1 : Int) : Rat) / ((2 : Int) : Rat)) := by
  rw [half_eq]
  obtain ⟨h1, h2, _⟩ := rnd_near q
  have h3 : ¬ (1 / 2 : Rat) < d := by rcases h with h | h <;> grind
  by_cases h4 : d < 1 / 2
  · rw [qcmp_lt h4]; decide
  · have h5 : d = 1 / 2 := by grind
    rw [h5, qcmp_self]; decide
theorem away_even {q d : Rat} (h : d = q - (rnd q : Rat) ∨ d = -(q - (rnd q : Rat))) (h0 : qcmp d (((1 : Int) : Rat) / ((2 : Int) : Rat)) = 0) : rnd q % 2 = 0 := by
  rw [half_eq] at h0
  obtain ⟨h1, h2, h3⟩ := rnd_near q
  have h4 := qcmp_zero.1 h0
  apply h3
  rcases h with h | h <;> grind
end Go.Proofs.Ytmbmeapodhngaaa
/- The statement FracWholes, walked. -/
namespace Go.Proofs.Ytmbmeapodhngaaa
open Go.RowKit Go.MagM
theorem den_int {w : World} {m : Bool} {ao bo : Option Addr} {n c k d L : Nat} {z : Int} (h : RF w (.agg #[.bool m, .slice ao n c, .slice bo k d]) L (z : Rat)) : RMag w (.slice bo k d) L 1 := by
  obtain ⟨_, _, _, _, _, _, _, e, h1, h2⟩ := h
  simp at e
  obtain ⟨rfl, ⟨rfl, rfl, rfl⟩, rfl, rfl, rfl⟩ := e
  rw [Rat.den_intCast] at h2
  exact h2
set_option maxRecDepth 100000 in
set_option maxHeartbeats 16000000 in
theorem FracWholes_walk (n : Int) (am : Bool) (ao : Option Addr) (an ac : Nat) (Xa : Int) (w : World) (hn1 : -9223372036854775808 ≤ n) (hn2 : n < 9223372036854775808) (fa_0 : Num w (.agg #[.bool am, .slice ao an ac]) an Xa) :
    Calls Try.prog 7 #[.int .i64 n, .agg #[.bool am, .slice ao an ac]] w fun e w' => e = .returned (.bool true) ∧ Below w.heap.size w w' := by
  have hB_0 := Below.refl w.heap.size w
  obtain ⟨w1, hw1, pa_0, hb1, hs1⟩ := new_box w (w.heap.size) rfl [.bool am, .slice ao an ac] 25
  have hb1' : Below w.heap.size w w1 := hb1.mono (by omega)
  clear hb1
  have hB_1 := hB_0.trans (hb1'.mono hB_0.size)
  have fa_1 := fa_0.below hb1'
  clear hb1' hB_0 fa_0
  go_enter Try.func7, Try.ntmps7
  obtain ⟨pae0, pae1, pae2, pae3⟩ := pa_0.open2
  go_wp2_with fail
  refine (ffit_any _).mono ?_
  rintro e w2 ⟨rfl, hb2⟩
  clear pae0 pae1 pae2 pae3
  have hB_2 := hB_1.trans (hb2.mono hB_1.size)
  have fa_2 := fa_1.below hb2
  have pa_1 := pa_0.below hb2
  clear hb2 hB_1 fa_1 pa_0
  obtain ⟨pae0, pae1, pae2, pae3⟩ := pa_1.open2
  by_cases hsh : an ≤ 10
  rotate_left
  · skip
    have hsh1 : (10 : Int) < (an : Int) := by omega
    go_wp2
    go_ret
    exact ⟨rfl, hB_2⟩
  have fa_3 := fa_2.more (L' := 10) (by omega)
  clear fa_2
  go_wp2
  clear pae0 pae1 pae2 pae3
  have hWq_0 := Below.refl w2.heap.size w2
  have hsq : w.heap.size ≤ w2.heap.size := hB_2.size
  have hlqpa := pa_1.lt
  have hB_3 := hB_2.drew'
  have fa_4 := fa_3.drew
  have pa_2 := pa_1.drew
  have hWq_1 := hWq_0.drew'
  clear hB_2 fa_3 pa_1 hWq_0
  refine wp_region_noPanic ?_
  refine wp_region_held_drew (S := fun w' => w'.cell? ⟨w.heap.size, 0, none⟩ = some (.bool am) ∧ w'.cell? ⟨w.heap.size, 1, none⟩ = some (.slice ao an ac)) (by kernel_rfl) (⟨pa_2.c0, pa_2.c1⟩) (fun hHeld => ?_)
  refine reg_take 0 ?_ ?_ ?_ (by kernel_rfl) (by kernel_rfl) (by kernel_rfl) (fun _ _ _ h => h) ?_ ?_ (by assumption) ?_
  rotate_left 2
  · simp only [List.getElem?_toArray, List.getElem?_cons_zero]; exact rfl
  · rfl
  · intro w hSw; (try dsimp only at hSw); go_simp; try with_reducible rfl
  try simp only [Act.put]
  try simp only [List.setIfInBounds_toArray, List.set_cons_zero, List.set_cons_succ]
  refine reg_take 2 ?_ ?_ ?_ (by kernel_rfl) (by kernel_rfl) (by kernel_rfl) (fun _ _ _ h => h) ?_ ?_ (by assumption) ?_
  rotate_left 2
  · simp only [List.getElem?_toArray, List.getElem?_cons_succ, List.getElem?_cons_zero]; exact rfl
  · rfl
  · intro w hSw; (try dsimp only at hSw); go_simp; try with_reducible rfl
  try simp only [Act.put]
  try simp only [List.setIfInBounds_toArray, List.set_cons_zero, List.set_cons_succ]
  refine reg_grab (fun WWq aq hWW hAA => ?_)
  have HWq := Lib.hid hWW; have HAq := Lib.hid hAA; clear hWW hAA hHeld
  have stq_2tt : ∀ (w' : World) (m1 : Bool) (o1 : Option Addr) (n1 : Nat) (c1 : Nat) (p1 : Option Addr) (k1 : Nat) (d1 : Nat) (m2 : Bool) (o2 : Option Addr) (n2 : Nat) (c2 : Nat) (p2 : Option Addr) (k2 : Nat) (d2 : Nat) (gpx : Nat) (gpy : Nat), Below w.heap.size w w' → Num w' (.agg #[.bool am, .slice ao an ac]) 10 Xa → Box w' (w.heap.size) [.bool am, .slice ao an ac] → Below w2.heap.size w2 w' → RF w' (.agg #[.bool m1, .slice o1 n1 c1, .slice p1 k1 d1]) (1) ((n : Rat)) → RF w' (.agg #[.bool m2, .slice o2 n2 c2, .slice p2 k2 d2]) (max 10 1) ((Xa : Rat)) → Box w' gpx [.bool false, .slice none 0 0, .slice none 0 0] → Box w' gpy [.bool false, .slice none 0 0, .slice none 0 0] → w2.heap.size ≤ gpx → w2.heap.size ≤ gpy → gpx ≠ gpy → WWq 2 #[true, true, true, true, true, true, false, false] ((((aq.put (some 16) (.agg #[.bool m1, .slice o1 n1 c1, .slice p1 k1 d1])).put (some 18) (.agg #[.bool m2, .slice o2 n2 c2, .slice p2 k2 d2])).put (some 5) (.pointer (some ⟨gpx, 0, none⟩))).put (some 6) (.pointer (some ⟨gpy, 0, none⟩))) w' := by
    intro w3 m1 o1 n1 c1 p1 k1 d1 m2 o2 n2 c2 p2 k2 d2 gpx gpy hB_0 fa_0 pa_0 hWq_0 f1_0 f2_0 px_0 py_0 hgpx hgpy hnpxpy
    rw [HWq.out, HAq.out]
    try simp only [Act.put]
    try simp only [List.setIfInBounds_toArray, List.set_cons_zero, List.set_cons_succ]
    clear hWq_0
    obtain ⟨sf1a, sf1b, sf1c, sf1d, sf1e, sf1f⟩ := px_0.open3
    obtain ⟨sg1a, sg1b, sg1c, sg1d⟩ := Box.put3 px_0 (.bool m1) (.slice o1 n1 c1)
    refine reg_call 6 ?_ (by kernel_rfl) ?_ (fun K hK => ?_)
    rotate_left 1
    · simp only [List.getElem?_toArray, List.getElem?_cons_succ, List.getElem?_cons_zero]; exact rfl
    go_simp
    have hB_1 := below_setAll hB_0 (g := gpx) (by omega) [.bool m1, .slice o1 n1 c1, .slice p1 k1 d1]
    have fa_1 := fa_0.setAll px_0 (noWord3 _ _ _ _ _ _ _) [.bool m1, .slice o1 n1 c1, .slice p1 k1 d1] rfl
    have pa_1 := pa_0.farAll (g' := gpx) (by omega) [.bool m1, .slice o1 n1 c1, .slice p1 k1 d1]
    have f1_1 := f1_0.setAll px_0 (noWord3 _ _ _ _ _ _ _) [.bool m1, .slice o1 n1 c1, .slice p1 k1 d1] rfl
    have f2_1 := f2_0.setAll px_0 (noWord3 _ _ _ _ _ _ _) [.bool m1, .slice o1 n1 c1, .slice p1 k1 d1] rfl
    have py_1 := py_0.farAll (g' := gpx) (by omega) [.bool m1, .slice o1 n1 c1, .slice p1 k1 d1]
    have px_1 := px_0.setAll [.bool m1, .slice o1 n1 c1, .slice p1 k1 d1] rfl
    simp only [setAll, Nat.zero_add, Nat.reduceAdd] at hB_1 fa_1 pa_1 f1_1 f2_1 px_1 py_1
    clear sf1a sf1b sf1c sf1d sf1e sf1f sg1a sg1b sg1c sg1d
    clear hB_0 fa_0 pa_0 f1_0 f2_0 py_0 px_0
    refine hK.out _ _ ⟨pa_1.c0, pa_1.c1⟩ (fun hHeld => ?_)
    clear hK K
    try simp only [Act.put]
    try simp only [List.setIfInBounds_toArray, List.set_cons_zero, List.set_cons_succ]
    generalize (World.setCell (World.setCell (World.setCell w3 ⟨gpx, 0, none⟩ (.bool m1)) ⟨gpx, 1, none⟩ (.slice o1 n1 c1)) ⟨gpx, 2, none⟩ (.slice p1 k1 d1)) = w4 at *
    obtain ⟨sf2a, sf2b, sf2c, sf2d, sf2e, sf2f⟩ := py_1.open3
    obtain ⟨sg2a, sg2b, sg2c, sg2d⟩ := Box.put3 py_1 (.bool m2) (.slice o2 n2 c2)
    refine reg_call 7 ?_ (by kernel_rfl) ?_ (fun K hK => ?_)
    rotate_left 1
    · simp only [List.getElem?_toArray, List.getElem?_cons_succ, List.getElem?_cons_zero]; exact rfl
    go_simp
    have hB_2 := below_setAll hB_1 (g := gpy) (by omega) [.bool m2, .slice o2 n2 c2, .slice p2 k2 d2]
    have fa_2 := fa_1.setAll py_1 (noWord3 _ _ _ _ _ _ _) [.bool m2, .slice o2 n2 c2, .slice p2 k2 d2] rfl
    have pa_2 := pa_1.farAll (g' := gpy) (by omega) [.bool m2, .slice o2 n2 c2, .slice p2 k2 d2]
    have f1_2 := f1_1.setAll py_1 (noWord3 _ _ _ _ _ _ _) [.bool m2, .slice o2 n2 c2, .slice p2 k2 d2] rfl
    have f2_2 := f2_1.setAll py_1 (noWord3 _ _ _ _ _ _ _) [.bool m2, .slice o2 n2 c2, .slice p2 k2 d2] rfl
    have px_2 := px_1.farAll (g' := gpy) (by omega) [.bool m2, .slice o2 n2 c2, .slice p2 k2 d2]
    have py_2 := py_1.setAll [.bool m2, .slice o2 n2 c2, .slice p2 k2 d2] rfl
    simp only [setAll, Nat.zero_add, Nat.reduceAdd] at hB_2 fa_2 pa_2 f1_2 f2_2 px_2 py_2
    clear sf2a sf2b sf2c sf2d sf2e sf2f sg2a sg2b sg2c sg2d
    clear hB_1 fa_1 pa_1 f1_1 f2_1 px_1 py_1
    refine hK.out _ _ ⟨pa_2.c0, pa_2.c1⟩ (fun hHeld => ?_)
    clear hK K
    try simp only [Act.put]
    try simp only [List.setIfInBounds_toArray, List.set_cons_zero, List.set_cons_succ]
    generalize (World.setCell (World.setCell (World.setCell w4 ⟨gpy, 0, none⟩ (.bool m2)) ⟨gpy, 1, none⟩ (.slice o2 n2 c2)) ⟨gpy, 2, none⟩ (.slice p2 k2 d2)) = w5 at *
    refine wpAnyH_done (by kernel_rfl) ?_ _
    refine NoPanic.normal ?_
    obtain ⟨b1, q1, rfl, rfl, wx_0⟩ := (den_int f1_2).lone (by omega) (by unfold B; omega)
    obtain ⟨b2, q2, rfl, rfl, wy_0⟩ := (den_int f2_2).lone (by omega) (by unfold B; omega)
    obtain ⟨pxe0, pxe1, pxe2, pxe3, pxe4, pxe5⟩ := px_2.open3
    obtain ⟨pye0, pye1, pye2, pye3, pye4, pye5⟩ := py_2.open3
    have wxe := wx_0.c
    have wye := wy_0.c
    go_wp2_with fail
    refine (fRight_any _ _ _ _ (by omega) f1_2).mono ?_
    rintro e w6 ⟨rfl, hb6⟩
    clear pxe0 pxe1 pxe2 pxe3 pxe4 pxe5 pye0 pye1 pye2 pye3 pye4 pye5 wxe wye
    have hB_3 := hB_2.trans (hb6.mono hB_2.size)
    have fa_3 := fa_2.below hb6
    have pa_3 := pa_2.below hb6
    have f1_3 := f1_2.below hb6
    have f2_3 := f2_2.below hb6
    have px_3 := px_2.below hb6
    have py_3 := py_2.below hb6
    have wx_1 := wx_0.below hb6
    have wy_1 := wy_0.below hb6
    clear hb6 hB_2 fa_2 pa_2 f1_2 f2_2 px_2 py_2 wx_0 wy_0
    obtain ⟨pxe0, pxe1, pxe2, pxe3, pxe4, pxe5⟩ := px_3.open3
    obtain ⟨pye0, pye1, pye2, pye3, pye4, pye5⟩ := py_3.open3
    have wxe := wx_1.c
    have wye := wy_1.c
    go_wp2_with fail
    refine (fRight_any _ _ _ _ (by omega) f2_3).mono ?_
    rintro e w7 ⟨rfl, hb7⟩
    clear pxe0 pxe1 pxe2 pxe3 pxe4 pxe5 pye0 pye1 pye2 pye3 pye4 pye5 wxe wye
    have hB_4 := hB_3.trans (hb7.mono hB_3.size)
    have fa_4 := fa_3.below hb7
    have pa_4 := pa_3.below hb7
    have f1_4 := f1_3.below hb7
    have f2_4 := f2_3.below hb7
    have px_4 := px_3.below hb7
    have py_4 := py_3.below hb7
    have wx_2 := wx_1.below hb7
    have wy_2 := wy_1.below hb7
    clear hb7 hB_3 fa_3 pa_3 f1_3 f2_3 px_3 py_3 wx_1 wy_1
    obtain ⟨pxe0, pxe1, pxe2, pxe3, pxe4, pxe5⟩ := px_4.open3
    obtain ⟨pye0, pye1, pye2, pye3, pye4, pye5⟩ := py_4.open3
    have wxe := wx_2.c
    have wye := wy_2.c
    clear pxe0 pxe1 pxe2 pxe3 pxe4 pxe5 pye0 pye1 pye2 pye3 pye4 pye5 wxe wye
    obtain ⟨pxe0, pxe1, pxe2, pxe3, pxe4, pxe5⟩ := px_4.open3
    obtain ⟨pye0, pye1, pye2, pye3, pye4, pye5⟩ := py_4.open3
    have wxe := wx_2.c
    have wye := wy_2.c
    go_wp2_with fail
    refine (qRound _ _ _ _ (by omega) f1_4.q).mono ?_
    rintro e w8 ⟨m3, o3, n3, c3, rfl, f3_0, hb8⟩
    clear pxe0 pxe1 pxe2 pxe3 pxe4 pxe5 pye0 pye1 pye2 pye3 pye4 pye5 wxe wye
    have hB_5 := hB_4.trans (hb8.mono hB_4.size)
    have fa_5 := fa_4.below hb8
    have pa_5 := pa_4.below hb8
    have f1_5 := f1_4.below hb8
    have f2_5 := f2_4.below hb8
    have px_5 := px_4.below hb8
    have py_5 := py_4.below hb8
    have wx_3 := wx_2.below hb8
    have wy_3 := wy_2.below hb8
    clear hb8 hB_4 fa_4 pa_4 f1_4 f2_4 px_4 py_4 wx_2 wy_2
    obtain ⟨pxe0, pxe1, pxe2, pxe3, pxe4, pxe5⟩ := px_5.open3
    obtain ⟨pye0, pye1, pye2, pye3, pye4, pye5⟩ := py_5.open3
    go_wp2_with fail
    refine (nInt_yes _ _ n _ (by omega) (RNum.of f3_0 (rnd_int n)).num (by omega) (by omega)).mono ?_
    rintro e w9 ⟨rfl, hb9⟩
    clear pxe0 pxe1 pxe2 pxe3 pxe4 pxe5 pye0 pye1 pye2 pye3 pye4 pye5
    have hB_6 := hB_5.trans (hb9.mono hB_5.size)
    have fa_6 := fa_5.below hb9
    have pa_6 := pa_5.below hb9
    have f1_6 := f1_5.below hb9
    have f2_6 := f2_5.below hb9
    have px_6 := px_5.below hb9
    have py_6 := py_5.below hb9
    have wx_4 := wx_3.below hb9
    have wy_4 := wy_3.below hb9
    have f3_1 := f3_0.below hb9
    clear hb9 hB_5 fa_5 pa_5 f1_5 f2_5 px_5 py_5 wx_3 wy_3 f3_0
    obtain ⟨pxe0, pxe1, pxe2, pxe3, pxe4, pxe5⟩ := px_6.open3
    obtain ⟨pye0, pye1, pye2, pye3, pye4, pye5⟩ := py_6.open3
    clear pxe0 pxe1 pxe2 pxe3 pxe4 pxe5 pye0 pye1 pye2 pye3 pye4 pye5
    go_wp2
    have hB_7 := hB_6.drew'
    have fa_7 := fa_6.drew
    have pa_7 := pa_6.drew
    have f1_7 := f1_6.drew
    have f2_7 := f2_6.drew
    have px_7 := px_6.drew
    have py_7 := py_6.drew
    have wx_5 := wx_4.drew
    have wy_5 := wy_4.drew
    have f3_2 := f3_1.drew
    clear hB_6 fa_6 pa_6 f1_6 f2_6 px_6 py_6 wx_4 wy_4 f3_1
    go_region_held3 (fun w' => w'.cell? ⟨gpy, 0, none⟩ = some (.bool m2) ∧ w'.cell? ⟨gpy, 1, none⟩ = some (.slice o2 n2 c2) ∧ w'.cell? ⟨gpy, 2, none⟩ = some (.slice (some ⟨b2, q2, none⟩) 1 d2) ∧ w'.cell? ⟨w.heap.size, 0, none⟩ = some (.bool am) ∧ w'.cell? ⟨w.heap.size, 1, none⟩ = some (.slice ao an ac))
      (first | with_reducible exact ⟨py_7.c0, py_7.c1, py_7.c2, pa_7.c0, pa_7.c1⟩ | with_reducible exact ⟨py_8.c0, py_8.c1, py_8.c2, pa_8.c0, pa_8.c1⟩ | with_reducible exact ⟨py_9.c0, py_9.c1, py_9.c2, pa_9.c0, pa_9.c1⟩ | with_reducible exact ⟨py_10.c0, py_10.c1, py_10.c2, pa_10.c0, pa_10.c1⟩ | with_reducible exact ⟨py_11.c0, py_11.c1, py_11.c2, pa_11.c0, pa_11.c1⟩ | fail)
      (first
        | (go_at_call 31; (with_reducible refine (qFloor _ _ _ _ (by omega) f2_7.q).mono ?_); rintro e w10 ⟨m4, o4, n4, c4, rfl, f4_0, hb10⟩; have hB_8 := hB_7.trans (hb10.mono hB_7.size); have fa_8 := fa_7.below hb10; have pa_8 := pa_7.below hb10; have f1_8 := f1_7.below hb10; have f2_8 := f2_7.below hb10; have px_8 := px_7.below hb10; have py_8 := py_7.below hb10; have wx_6 := wx_5.below hb10; have wy_6 := wy_5.below hb10; have f3_3 := f3_2.below hb10; clear hb10 hB_7 fa_7 pa_7 f1_7 f2_7 px_7 py_7 wx_5 wy_5 f3_2)
        | (go_at_call 22; (with_reducible refine (nCmp_is _ _ _ _ _ _ 0 _ (by omega) (by omega) f4_0.num fa_8 (by rw [Rat.floor_intCast]; exact icmp_self _)).mono ?_); rintro e w11 ⟨rfl, hb11⟩; have hB_9 := hB_8.trans (hb11.mono hB_8.size); have fa_9 := fa_8.below hb11; have pa_9 := pa_8.below hb11; have f1_9 := f1_8.below hb11; have f2_9 := f2_8.below hb11; have px_9 := px_8.below hb11; have py_9 := py_8.below hb11; have wx_7 := wx_6.below hb11; have wy_7 := wy_6.below hb11; have f3_4 := f3_3.below hb11; have f4_1 := f4_0.below hb11; clear hb11 hB_8 fa_8 pa_8 f1_8 f2_8 px_8 py_8 wx_6 wy_6 f3_3 f4_0)
        | (go_at_call 32; (with_reducible refine (qRound _ _ _ _ (by omega) f2_9.q).mono ?_); rintro e w12 ⟨m5, o5, n5, c5, rfl, f5_0, hb12⟩; have hB_10 := hB_9.trans (hb12.mono hB_9.size); have fa_10 := fa_9.below hb12; have pa_10 := pa_9.below hb12; have f1_10 := f1_9.below hb12; have f2_10 := f2_9.below hb12; have px_10 := px_9.below hb12; have py_10 := py_9.below hb12; have wx_8 := wx_7.below hb12; have wy_8 := wy_7.below hb12; have f3_5 := f3_4.below hb12; have f4_2 := f4_1.below hb12; clear hb12 hB_9 fa_9 pa_9 f1_9 f2_9 px_9 py_9 wx_7 wy_7 f3_4 f4_1)
        | (go_at_call 22; (with_reducible refine (nCmp_is _ _ _ _ _ _ 0 _ (by omega) (by omega) f5_0.num fa_10 (by rw [rnd_int]; exact icmp_self _)).mono ?_); rintro e w13 ⟨rfl, hb13⟩; have hB_11 := hB_10.trans (hb13.mono hB_10.size); have fa_11 := fa_10.below hb13; have pa_11 := pa_10.below hb13; have f1_11 := f1_10.below hb13; have f2_11 := f2_10.below hb13; have px_11 := px_10.below hb13; have py_11 := py_10.below hb13; have wx_9 := wx_8.below hb13; have wy_9 := wy_8.below hb13; have f3_6 := f3_5.below hb13; have f4_3 := f4_2.below hb13; have f5_1 := f5_0.below hb13; clear hb13 hB_10 fa_10 pa_10 f1_10 f2_10 px_10 py_10 wx_8 wy_8 f3_5 f4_2 f5_0))
    go_wp2
    go_ret
    exact ⟨rfl, hB_11⟩
  simp only [HAq.out, Act.put, List.setIfInBounds_toArray, List.set_cons_zero, List.set_cons_succ] at stq_2tt
  have stq_2tf : ∀ (w' : World) (m1 : Bool) (o1 : Option Addr) (n1 : Nat) (c1 : Nat) (p1 : Option Addr) (k1 : Nat) (d1 : Nat) (m2 : Bool) (o2 : Option Addr) (n2 : Nat) (c2 : Nat) (p2 : Option Addr) (k2 : Nat) (d2 : Nat) (gpx : Nat), Below w.heap.size w w' → Num w' (.agg #[.bool am, .slice ao an ac]) 10 Xa → Box w' (w.heap.size) [.bool am, .slice ao an ac] → Below w2.heap.size w2 w' → RF w' (.agg #[.bool m1, .slice o1 n1 c1, .slice p1 k1 d1]) (1) ((n : Rat)) → RF w' (.agg #[.bool m2, .slice o2 n2 c2, .slice p2 k2 d2]) (max 10 1) ((Xa : Rat)) → Box w' gpx [.bool false, .slice none 0 0, .slice none 0 0] → w2.heap.size ≤ gpx → WWq 3 #[true, true, true, true, true, false, false, false] (((aq.put (some 16) (.agg #[.bool m1, .slice o1 n1 c1, .slice p1 k1 d1])).put (some 18) (.agg #[.bool m2, .slice o2 n2 c2, .slice p2 k2 d2])).put (some 5) (.pointer (some ⟨gpx, 0, none⟩))) w' := by
    intro w14 m1 o1 n1 c1 p1 k1 d1 m2 o2 n2 c2 p2 k2 d2 gpx hB_0 fa_0 pa_0 hWq_0 f1_0 f2_0 px_0 hgpx
    rw [HWq.out, HAq.out]
    try simp only [Act.put]
    try simp only [List.setIfInBounds_toArray, List.set_cons_zero, List.set_cons_succ]
    refine reg_all1 5 ?_ (by kernel_rfl) ?_ (fun K hK => ?_)
    rotate_left 1
    · simp only [List.getElem?_toArray, List.getElem?_cons_succ, List.getElem?_cons_zero]; exact rfl
    · go_simp
      have hgn : w2.heap.size ≤ w14.heap.size := hWq_0.size
      have hlpx := px_0.lt
      obtain ⟨w15, hww15, py_0, hb15, -⟩ := new_box w14 _ rfl [.bool false, .slice none 0 0, .slice none 0 0] 27
      rw [hww15]
      have hB_1 := hB_0.trans (hb15.mono hB_0.size)
      have fa_1 := fa_0.below hb15
      have pa_1 := pa_0.below hb15
      have hWq_1 := hWq_0.trans (hb15.mono hWq_0.size)
      have f1_1 := f1_0.below hb15
      have f2_1 := f2_0.below hb15
      have px_1 := px_0.below hb15
      clear hb15 hB_0 fa_0 pa_0 hWq_0 f1_0 f2_0 px_0
      refine hK.out _ _ ⟨pa_1.c0, pa_1.c1⟩ (fun hHeld => ?_)
      clear hK K
      try simp only [Act.put]
      try simp only [List.setIfInBounds_toArray, List.set_cons_zero, List.set_cons_succ]
      rw [← HWq.out]
      exact stq_2tt _ m1 o1 n1 c1 p1 k1 d1 m2 o2 n2 c2 p2 k2 d2 gpx w14.heap.size hB_1 fa_1 pa_1 hWq_1 f1_1 f2_1 px_1 py_0 (by omega) (by omega) (by omega)
  try simp only [HAq.out, Act.put, List.setIfInBounds_toArray, List.set_cons_zero, List.set_cons_succ] at stq_2tf
  have stq_2ft : ∀ (w' : World) (m1 : Bool) (o1 : Option Addr) (n1 : Nat) (c1 : Nat) (p1 : Option Addr) (k1 : Nat) (d1 : Nat) (m2 : Bool) (o2 : Option Addr) (n2 : Nat) (c2 : Nat) (p2 : Option Addr) (k2 : Nat) (d2 : Nat) (gpy : Nat), Below w.heap.size w w' → Num w' (.agg #[.bool am, .slice ao an ac]) 10 Xa → Box w' (w.heap.size) [.bool am, .slice ao an ac] → Below w2.heap.size w2 w' → RF w' (.agg #[.bool m1, .slice o1 n1 c1, .slice p1 k1 d1]) (1) ((n : Rat)) → RF w' (.agg #[.bool m2, .slice o2 n2 c2, .slice p2 k2 d2]) (max 10 1) ((Xa : Rat)) → Box w' gpy [.bool false, .slice none 0 0, .slice none 0 0] → w2.heap.size ≤ gpy → WWq 3 #[true, true, true, true, false, true, false, false] (((aq.put (some 16) (.agg #[.bool m1, .slice o1 n1 c1, .slice p1 k1 d1])).put (some 18) (.agg #[.bool m2, .slice o2 n2 c2, .slice p2 k2 d2])).put (some 6) (.pointer (some ⟨gpy, 0, none⟩))) w' := by
    intro w16 m1 o1 n1 c1 p1 k1 d1 m2 o2 n2 c2 p2 k2 d2 gpy hB_0 fa_0 pa_0 hWq_0 f1_0 f2_0 py_0 hgpy
    rw [HWq.out, HAq.out]
    try simp only [Act.put]
    try simp only [List.setIfInBounds_toArray, List.set_cons_zero, List.set_cons_succ]
    refine reg_all1 4 ?_ (by kernel_rfl) ?_ (fun K hK => ?_)
    rotate_left 1
    · simp only [List.getElem?_toArray, List.getElem?_cons_succ, List.getElem?_cons_zero]; exact rfl
    · go_simp
      have hgn : w2.heap.size ≤ w16.heap.size := hWq_0.size
      have hlpy := py_0.lt
      obtain ⟨w17, hww17, px_0, hb17, -⟩ := new_box w16 _ rfl [.bool false, .slice none 0 0, .slice none 0 0] 27
      rw [hww17]
      have hB_1 := hB_0.trans (hb17.mono hB_0.size)
      have fa_1 := fa_0.below hb17
      have pa_1 := pa_0.below hb17
      have hWq_1 := hWq_0.trans (hb17.mono hWq_0.size)
      have f1_1 := f1_0.below hb17
      have f2_1 := f2_0.below hb17
      have py_1 := py_0.below hb17
      clear hb17 hB_0 fa_0 pa_0 hWq_0 f1_0 f2_0 py_0
      refine hK.out _ _ ⟨pa_1.c0, pa_1.c1⟩ (fun hHeld => ?_)
      clear hK K
      try simp only [Act.put]
      try simp only [List.setIfInBounds_toArray, List.set_cons_zero, List.set_cons_succ]
      rw [← HWq.out]
      exact stq_2tt _ m1 o1 n1 c1 p1 k1 d1 m2 o2 n2 c2 p2 k2 d2 w16.heap.size gpy hB_1 fa_1 pa_1 hWq_1 f1_1 f2_1 px_0 py_1 (by omega) (by omega) (by omega)
  try simp only [HAq.out, Act.put, List.setIfInBounds_toArray, List.set_cons_zero, List.set_cons_succ] at stq_2ft
  have stq_1tt : ∀ (w' : World) (m1 : Bool) (o1 : Option Addr) (n1 : Nat) (c1 : Nat) (p1 : Option Addr) (k1 : Nat) (d1 : Nat) (gpx : Nat) (gpy : Nat), Below w.heap.size w w' → Num w' (.agg #[.bool am, .slice ao an ac]) 10 Xa → Box w' (w.heap.size) [.bool am, .slice ao an ac] → Below w2.heap.size w2 w' → RF w' (.agg #[.bool m1, .slice o1 n1 c1, .slice p1 k1 d1]) (1) ((n : Rat)) → Box w' gpx [.bool false, .slice none 0 0, .slice none 0 0] → Box w' gpy [.bool false, .slice none 0 0, .slice none 0 0] → w2.heap.size ≤ gpx → w2.heap.size ≤ gpy → gpx ≠ gpy → WWq 3 #[true, true, true, false, true, true, false, false] (((aq.put (some 16) (.agg #[.bool m1, .slice o1 n1 c1, .slice p1 k1 d1])).put (some 5) (.pointer (some ⟨gpx, 0, none⟩))).put (some 6) (.pointer (some ⟨gpy, 0, none⟩))) w' := by
    intro w18 m1 o1 n1 c1 p1 k1 d1 gpx gpy hB_0 fa_0 pa_0 hWq_0 f1_0 px_0 py_0 hgpx hgpy hnpxpy
    rw [HWq.out, HAq.out]
    try simp only [Act.put]
    try simp only [List.setIfInBounds_toArray, List.set_cons_zero, List.set_cons_succ]
    refine reg_all1 3 ?_ (by kernel_rfl) ?_ (fun K hK => ?_)
    rotate_left 1
    · simp only [List.getElem?_toArray, List.getElem?_cons_succ, List.getElem?_cons_zero]; exact rfl
    · go_simp
      refine (Whole_any _ 10 Xa _ (by omega) fa_0).mono ?_
      rintro e w19 ⟨m2, o2, n2, c2, p2, k2, d2, rfl, f2_0, hb19⟩
      have hB_1 := hB_0.trans (hb19.mono hB_0.size)
      have fa_1 := fa_0.below hb19
      have pa_1 := pa_0.below hb19
      have hWq_1 := hWq_0.trans (hb19.mono hWq_0.size)
      have f1_1 := f1_0.below hb19
      have px_1 := px_0.below hb19
      have py_1 := py_0.below hb19
      clear hb19 hB_0 fa_0 pa_0 hWq_0 f1_0 px_0 py_0
      go_wp2_with fail
      refine hK.out _ _ ⟨pa_1.c0, pa_1.c1⟩ (fun hHeld => ?_)
      clear hK K
      try simp only [Act.put]
      try simp only [List.setIfInBounds_toArray, List.set_cons_zero, List.set_cons_succ]
      rw [← HWq.out]
      exact stq_2tt _ m1 o1 n1 c1 p1 k1 d1 m2 o2 n2 c2 p2 k2 d2 gpx gpy hB_1 fa_1 pa_1 hWq_1 f1_1 f2_0 px_1 py_1 (by omega) (by omega) (by omega)
  try simp only [HAq.out, Act.put, List.setIfInBounds_toArray, List.set_cons_zero, List.set_cons_succ] at stq_1tt
  have stq_2ff : ∀ (w' : World) (m1 : Bool) (o1 : Option Addr) (n1 : Nat) (c1 : Nat) (p1 : Option Addr) (k1 : Nat) (d1 : Nat) (m2 : Bool) (o2 : Option Addr) (n2 : Nat) (c2 : Nat) (p2 : Option Addr) (k2 : Nat) (d2 : Nat), Below w.heap.size w w' → Num w' (.agg #[.bool am, .slice ao an ac]) 10 Xa → Box w' (w.heap.size) [.bool am, .slice ao an ac] → Below w2.heap.size w2 w' → RF w' (.agg #[.bool m1, .slice o1 n1 c1, .slice p1 k1 d1]) (1) ((n : Rat)) → RF w' (.agg #[.bool m2, .slice o2 n2 c2, .slice p2 k2 d2]) (max 10 1) ((Xa : Rat)) → WWq 4 #[true, true, true, true, false, false, false, false] ((aq.put (some 16) (.agg #[.bool m1, .slice o1 n1 c1, .slice p1 k1 d1])).put (some 18) (.agg #[.bool m2, .slice o2 n2 c2, .slice p2 k2 d2])) w' := by
    intro w20 m1 o1 n1 c1 p1 k1 d1 m2 o2 n2 c2 p2 k2 d2 hB_0 fa_0 pa_0 hWq_0 f1_0 f2_0
    rw [HWq.out, HAq.out]
    try simp only [Act.put]
    try simp only [List.setIfInBounds_toArray, List.set_cons_zero, List.set_cons_succ]
    refine reg_all2 4 5 ?_ ?_ (by kernel_rfl) ?_ ?_ (fun K hK => ?_) (fun K hK => ?_)
    rotate_left 2
    · simp only [List.getElem?_toArray, List.getElem?_cons_succ, List.getElem?_cons_zero]; exact rfl
    · simp only [List.getElem?_toArray, List.getElem?_cons_succ, List.getElem?_cons_zero]; exact rfl
    · go_simp
      have hgn : w2.heap.size ≤ w20.heap.size := hWq_0.size
      obtain ⟨w21, hww21, px_0, hb21, -⟩ := new_box w20 _ rfl [.bool false, .slice none 0 0, .slice none 0 0] 27
      rw [hww21]
      have hB_1 := hB_0.trans (hb21.mono hB_0.size)
      have fa_1 := fa_0.below hb21
      have pa_1 := pa_0.below hb21
      have hWq_1 := hWq_0.trans (hb21.mono hWq_0.size)
      have f1_1 := f1_0.below hb21
      have f2_1 := f2_0.below hb21
      clear hb21 hB_0 fa_0 pa_0 hWq_0 f1_0 f2_0
      refine hK.out _ _ ⟨pa_1.c0, pa_1.c1⟩ (fun hHeld => ?_)
      clear hK K
      try simp only [Act.put]
      try simp only [List.setIfInBounds_toArray, List.set_cons_zero, List.set_cons_succ]
      rw [← HWq.out]
      exact stq_2tf _ m1 o1 n1 c1 p1 k1 d1 m2 o2 n2 c2 p2 k2 d2 w20.heap.size hB_1 fa_1 pa_1 hWq_1 f1_1 f2_1 px_0 (by omega)
    · go_simp
      have hgn : w2.heap.size ≤ w20.heap.size := hWq_0.size
      obtain ⟨w22, hww22, py_0, hb22, -⟩ := new_box w20 _ rfl [.bool false, .slice none 0 0, .slice none 0 0] 27
      rw [hww22]
      have hB_1 := hB_0.trans (hb22.mono hB_0.size)
      have fa_1 := fa_0.below hb22
      have pa_1 := pa_0.below hb22
      have hWq_1 := hWq_0.trans (hb22.mono hWq_0.size)
      have f1_1 := f1_0.below hb22
      have f2_1 := f2_0.below hb22
      clear hb22 hB_0 fa_0 pa_0 hWq_0 f1_0 f2_0
      refine hK.out _ _ ⟨pa_1.c0, pa_1.c1⟩ (fun hHeld => ?_)
      clear hK K
      try simp only [Act.put]
      try simp only [List.setIfInBounds_toArray, List.set_cons_zero, List.set_cons_succ]
      rw [← HWq.out]
      exact stq_2ft _ m1 o1 n1 c1 p1 k1 d1 m2 o2 n2 c2 p2 k2 d2 w20.heap.size hB_1 fa_1 pa_1 hWq_1 f1_1 f2_1 py_0 (by omega)
  try simp only [HAq.out, Act.put, List.setIfInBounds_toArray, List.set_cons_zero, List.set_cons_succ] at stq_2ff
  have stq_1tf : ∀ (w' : World) (m1 : Bool) (o1 : Option Addr) (n1 : Nat) (c1 : Nat) (p1 : Option Addr) (k1 : Nat) (d1 : Nat) (gpx : Nat), Below w.heap.size w w' → Num w' (.agg #[.bool am, .slice ao an ac]) 10 Xa → Box w' (w.heap.size) [.bool am, .slice ao an ac] → Below w2.heap.size w2 w' → RF w' (.agg #[.bool m1, .slice o1 n1 c1, .slice p1 k1 d1]) (1) ((n : Rat)) → Box w' gpx [.bool false, .slice none 0 0, .slice none 0 0] → w2.heap.size ≤ gpx → WWq 4 #[true, true, true, false, true, false, false, false] ((aq.put (some 16) (.agg #[.bool m1, .slice o1 n1 c1, .slice p1 k1 d1])).put (some 5) (.pointer (some ⟨gpx, 0, none⟩))) w' := by
    intro w23 m1 o1 n1 c1 p1 k1 d1 gpx hB_0 fa_0 pa_0 hWq_0 f1_0 px_0 hgpx
    rw [HWq.out, HAq.out]
    try simp only [Act.put]
    try simp only [List.setIfInBounds_toArray, List.set_cons_zero, List.set_cons_succ]
    refine reg_all2 3 5 ?_ ?_ (by kernel_rfl) ?_ ?_ (fun K hK => ?_) (fun K hK => ?_)
    rotate_left 2
    · simp only [List.getElem?_toArray, List.getElem?_cons_succ, List.getElem?_cons_zero]; exact rfl
    · simp only [List.getElem?_toArray, List.getElem?_cons_succ, List.getElem?_cons_zero]; exact rfl
    · go_simp
      refine (Whole_any _ 10 Xa _ (by omega) fa_0).mono ?_
      rintro e w24 ⟨m2, o2, n2, c2, p2, k2, d2, rfl, f2_0, hb24⟩
      have hB_1 := hB_0.trans (hb24.mono hB_0.size)
      have fa_1 := fa_0.below hb24
      have pa_1 := pa_0.below hb24
      have hWq_1 := hWq_0.trans (hb24.mono hWq_0.size)
      have f1_1 := f1_0.below hb24
      have px_1 := px_0.below hb24
      clear hb24 hB_0 fa_0 pa_0 hWq_0 f1_0 px_0
      go_wp2_with fail
      refine hK.out _ _ ⟨pa_1.c0, pa_1.c1⟩ (fun hHeld => ?_)
      clear hK K
      try simp only [Act.put]
      try simp only [List.setIfInBounds_toArray, List.set_cons_zero, List.set_cons_succ]
      rw [← HWq.out]
      exact stq_2tf _ m1 o1 n1 c1 p1 k1 d1 m2 o2 n2 c2 p2 k2 d2 gpx hB_1 fa_1 pa_1 hWq_1 f1_1 f2_0 px_1 (by omega)
    · go_simp
      have hgn : w2.heap.size ≤ w23.heap.size := hWq_0.size
      have hlpx := px_0.lt
      obtain ⟨w25, hww25, py_0, hb25, -⟩ := new_box w23 _ rfl [.bool false, .slice none 0 0, .slice none 0 0] 27
      rw [hww25]
      have hB_1 := hB_0.trans (hb25.mono hB_0.size)
      have fa_1 := fa_0.below hb25
      have pa_1 := pa_0.below hb25
      have hWq_1 := hWq_0.trans (hb25.mono hWq_0.size)
      have f1_1 := f1_0.below hb25
      have px_1 := px_0.below hb25
      clear hb25 hB_0 fa_0 pa_0 hWq_0 f1_0 px_0
      refine hK.out _ _ ⟨pa_1.c0, pa_1.c1⟩ (fun hHeld => ?_)
      clear hK K
      try simp only [Act.put]
      try simp only [List.setIfInBounds_toArray, List.set_cons_zero, List.set_cons_succ]
      rw [← HWq.out]
      exact stq_1tt _ m1 o1 n1 c1 p1 k1 d1 gpx w23.heap.size hB_1 fa_1 pa_1 hWq_1 f1_1 px_1 py_0 (by omega) (by omega) (by omega)
  try simp only [HAq.out, Act.put, List.setIfInBounds_toArray, List.set_cons_zero, List.set_cons_succ] at stq_1tf
  have stq_1ft : ∀ (w' : World) (m1 : Bool) (o1 : Option Addr) (n1 : Nat) (c1 : Nat) (p1 : Option Addr) (k1 : Nat) (d1 : Nat) (gpy : Nat), Below w.heap.size w w' → Num w' (.agg #[.bool am, .slice ao an ac]) 10 Xa → Box w' (w.heap.size) [.bool am, .slice ao an ac] → Below w2.heap.size w2 w' → RF w' (.agg #[.bool m1, .slice o1 n1 c1, .slice p1 k1 d1]) (1) ((n : Rat)) → Box w' gpy [.bool false, .slice none 0 0, .slice none 0 0] → w2.heap.size ≤ gpy → WWq 4 #[true, true, true, false, false, true, false, false] ((aq.put (some 16) (.agg #[.bool m1, .slice o1 n1 c1, .slice p1 k1 d1])).put (some 6) (.pointer (some ⟨gpy, 0, none⟩))) w' := by
    intro w26 m1 o1 n1 c1 p1 k1 d1 gpy hB_0 fa_0 pa_0 hWq_0 f1_0 py_0 hgpy
    rw [HWq.out, HAq.out]
    try simp only [Act.put]
    try simp only [List.setIfInBounds_toArray, List.set_cons_zero, List.set_cons_succ]
    refine reg_all2 3 4 ?_ ?_ (by kernel_rfl) ?_ ?_ (fun K hK => ?_) (fun K hK => ?_)
    rotate_left 2
    · simp only [List.getElem?_toArray, List.getElem?_cons_succ, List.getElem?_cons_zero]; exact rfl
    · simp only [List.getElem?_toArray, List.getElem?_cons_succ, List.getElem?_cons_zero]; exact rfl
    · go_simp
      refine (Whole_any _ 10 Xa _ (by omega) fa_0).mono ?_
      rintro e w27 ⟨m2, o2, n2, c2, p2, k2, d2, rfl, f2_0, hb27⟩
      have hB_1 := hB_0.trans (hb27.mono hB_0.size)
      have fa_1 := fa_0.below hb27
      have pa_1 := pa_0.below hb27
      have hWq_1 := hWq_0.trans (hb27.mono hWq_0.size)
      have f1_1 := f1_0.below hb27
      have py_1 := py_0.below hb27
      clear hb27 hB_0 fa_0 pa_0 hWq_0 f1_0 py_0
      go_wp2_with fail
      refine hK.out _ _ ⟨pa_1.c0, pa_1.c1⟩ (fun hHeld => ?_)
      clear hK K
      try simp only [Act.put]
      try simp only [List.setIfInBounds_toArray, List.set_cons_zero, List.set_cons_succ]
      rw [← HWq.out]
      exact stq_2ft _ m1 o1 n1 c1 p1 k1 d1 m2 o2 n2 c2 p2 k2 d2 gpy hB_1 fa_1 pa_1 hWq_1 f1_1 f2_0 py_1 (by omega)
    · go_simp
      have hgn : w2.heap.size ≤ w26.heap.size := hWq_0.size
      have hlpy := py_0.lt
      obtain ⟨w28, hww28, px_0, hb28, -⟩ := new_box w26 _ rfl [.bool false, .slice none 0 0, .slice none 0 0] 27
      rw [hww28]
      have hB_1 := hB_0.trans (hb28.mono hB_0.size)
      have fa_1 := fa_0.below hb28
      have pa_1 := pa_0.below hb28
      have hWq_1 := hWq_0.trans (hb28.mono hWq_0.size)
      have f1_1 := f1_0.below hb28
      have py_1 := py_0.below hb28
      clear hb28 hB_0 fa_0 pa_0 hWq_0 f1_0 py_0
      refine hK.out _ _ ⟨pa_1.c0, pa_1.c1⟩ (fun hHeld => ?_)
      clear hK K
      try simp only [Act.put]
      try simp only [List.setIfInBounds_toArray, List.set_cons_zero, List.set_cons_succ]
      rw [← HWq.out]
      exact stq_1tt _ m1 o1 n1 c1 p1 k1 d1 w26.heap.size gpy hB_1 fa_1 pa_1 hWq_1 f1_1 px_0 py_1 (by omega) (by omega) (by omega)
  try simp only [HAq.out, Act.put, List.setIfInBounds_toArray, List.set_cons_zero, List.set_cons_succ] at stq_1ft
  have stq_0tt : ∀ (w' : World) (gpx : Nat) (gpy : Nat), Below w.heap.size w w' → Num w' (.agg #[.bool am, .slice ao an ac]) 10 Xa → Box w' (w.heap.size) [.bool am, .slice ao an ac] → Below w2.heap.size w2 w' → Box w' gpx [.bool false, .slice none 0 0, .slice none 0 0] → Box w' gpy [.bool false, .slice none 0 0, .slice none 0 0] → w2.heap.size ≤ gpx → w2.heap.size ≤ gpy → gpx ≠ gpy → WWq 4 #[true, false, true, false, true, true, false, false] ((aq.put (some 5) (.pointer (some ⟨gpx, 0, none⟩))).put (some 6) (.pointer (some ⟨gpy, 0, none⟩))) w' := by
    intro w29 gpx gpy hB_0 fa_0 pa_0 hWq_0 px_0 py_0 hgpx hgpy hnpxpy
    rw [HWq.out, HAq.out]
    try simp only [Act.put]
    try simp only [List.setIfInBounds_toArray, List.set_cons_zero, List.set_cons_succ]
    refine reg_all1 1 ?_ (by kernel_rfl) ?_ (fun K hK => ?_)
    rotate_left 1
    · simp only [List.getElem?_toArray, List.getElem?_cons_succ, List.getElem?_cons_zero]; exact rfl
    · go_simp
      refine (fOf_any n hn1 hn2 _).mono ?_
      rintro e w30 ⟨m1, o1, n1, c1, p1, k1, d1, rfl, f1_0, hb30⟩
      have hB_1 := hB_0.trans (hb30.mono hB_0.size)
      have fa_1 := fa_0.below hb30
      have pa_1 := pa_0.below hb30
      have hWq_1 := hWq_0.trans (hb30.mono hWq_0.size)
      have px_1 := px_0.below hb30
      have py_1 := py_0.below hb30
      clear hb30 hB_0 fa_0 pa_0 hWq_0 px_0 py_0
      go_wp2_with fail
      refine hK.out _ _ ⟨pa_1.c0, pa_1.c1⟩ (fun hHeld => ?_)
      clear hK K
      try simp only [Act.put]
      try simp only [List.setIfInBounds_toArray, List.set_cons_zero, List.set_cons_succ]
      rw [← HWq.out]
      exact stq_1tt _ m1 o1 n1 c1 p1 k1 d1 gpx gpy hB_1 fa_1 pa_1 hWq_1 f1_0 px_1 py_1 (by omega) (by omega) (by omega)
  try simp only [HAq.out, Act.put, List.setIfInBounds_toArray, List.set_cons_zero, List.set_cons_succ] at stq_0tt
  have stq_1ff : ∀ (w' : World) (m1 : Bool) (o1 : Option Addr) (n1 : Nat) (c1 : Nat) (p1 : Option Addr) (k1 : Nat) (d1 : Nat), Below w.heap.size w w' → Num w' (.agg #[.bool am, .slice ao an ac]) 10 Xa → Box w' (w.heap.size) [.bool am, .slice ao an ac] → Below w2.heap.size w2 w' → RF w' (.agg #[.bool m1, .slice o1 n1 c1, .slice p1 k1 d1]) (1) ((n : Rat)) → WWq 5 #[true, true, true, false, false, false, false, false] (aq.put (some 16) (.agg #[.bool m1, .slice o1 n1 c1, .slice p1 k1 d1])) w' := by
    intro w31 m1 o1 n1 c1 p1 k1 d1 hB_0 fa_0 pa_0 hWq_0 f1_0
    rw [HWq.out, HAq.out]
    try simp only [Act.put]
    try simp only [List.setIfInBounds_toArray, List.set_cons_zero, List.set_cons_succ]
    refine reg_all3 3 4 5 ?_ ?_ ?_ (by kernel_rfl) ?_ ?_ ?_ (fun K hK => ?_) (fun K hK => ?_) (fun K hK => ?_)
    rotate_left 3
    · simp only [List.getElem?_toArray, List.getElem?_cons_succ, List.getElem?_cons_zero]; exact rfl
    · simp only [List.getElem?_toArray, List.getElem?_cons_succ, List.getElem?_cons_zero]; exact rfl
    · simp only [List.getElem?_toArray, List.getElem?_cons_succ, List.getElem?_cons_zero]; exact rfl
    · go_simp
      refine (Whole_any _ 10 Xa _ (by omega) fa_0).mono ?_
      rintro e w32 ⟨m2, o2, n2, c2, p2, k2, d2, rfl, f2_0, hb32⟩
      have hB_1 := hB_0.trans (hb32.mono hB_0.size)
      have fa_1 := fa_0.below hb32
      have pa_1 := pa_0.below hb32
      have hWq_1 := hWq_0.trans (hb32.mono hWq_0.size)
      have f1_1 := f1_0.below hb32
      clear hb32 hB_0 fa_0 pa_0 hWq_0 f1_0
      go_wp2_with fail
      refine hK.out _ _ ⟨pa_1.c0, pa_1.c1⟩ (fun hHeld => ?_)
      clear hK K
      try simp only [Act.put]
      try simp only [List.setIfInBounds_toArray, List.set_cons_zero, List.set_cons_succ]
      rw [← HWq.out]
      exact stq_2ff _ m1 o1 n1 c1 p1 k1 d1 m2 o2 n2 c2 p2 k2 d2 hB_1 fa_1 pa_1 hWq_1 f1_1 f2_0
    · go_simp
      have hgn : w2.heap.size ≤ w31.heap.size := hWq_0.size
      obtain ⟨w33, hww33, px_0, hb33, -⟩ := new_box w31 _ rfl [.bool false, .slice none 0 0, .slice none 0 0] 27
      rw [hww33]
      have hB_1 := hB_0.trans (hb33.mono hB_0.size)
      have fa_1 := fa_0.below hb33
      have pa_1 := pa_0.below hb33
      have hWq_1 := hWq_0.trans (hb33.mono hWq_0.size)
      have f1_1 := f1_0.below hb33
      clear hb33 hB_0 fa_0 pa_0 hWq_0 f1_0
      refine hK.out _ _ ⟨pa_1.c0, pa_1.c1⟩ (fun hHeld => ?_)
      clear hK K
      try simp only [Act.put]
      try simp only [List.setIfInBounds_toArray, List.set_cons_zero, List.set_cons_succ]
      rw [← HWq.out]
      exact stq_1tf _ m1 o1 n1 c1 p1 k1 d1 w31.heap.size hB_1 fa_1 pa_1 hWq_1 f1_1 px_0 (by omega)
    · go_simp
      have hgn : w2.heap.size ≤ w31.heap.size := hWq_0.size
      obtain ⟨w34, hww34, py_0, hb34, -⟩ := new_box w31 _ rfl [.bool false, .slice none 0 0, .slice none 0 0] 27
      rw [hww34]
      have hB_1 := hB_0.trans (hb34.mono hB_0.size)
      have fa_1 := fa_0.below hb34
      have pa_1 := pa_0.below hb34
      have hWq_1 := hWq_0.trans (hb34.mono hWq_0.size)
      have f1_1 := f1_0.below hb34
      clear hb34 hB_0 fa_0 pa_0 hWq_0 f1_0
      refine hK.out _ _ ⟨pa_1.c0, pa_1.c1⟩ (fun hHeld => ?_)
      clear hK K
      try simp only [Act.put]
      try simp only [List.setIfInBounds_toArray, List.set_cons_zero, List.set_cons_succ]
      rw [← HWq.out]
      exact stq_1ft _ m1 o1 n1 c1 p1 k1 d1 w31.heap.size hB_1 fa_1 pa_1 hWq_1 f1_1 py_0 (by omega)
  try simp only [HAq.out, Act.put, List.setIfInBounds_toArray, List.set_cons_zero, List.set_cons_succ] at stq_1ff
  have stq_0tf : ∀ (w' : World) (gpx : Nat), Below w.heap.size w w' → Num w' (.agg #[.bool am, .slice ao an ac]) 10 Xa → Box w' (w.heap.size) [.bool am, .slice ao an ac] → Below w2.heap.size w2 w' → Box w' gpx [.bool false, .slice none 0 0, .slice none 0 0] → w2.heap.size ≤ gpx → WWq 5 #[true, false, true, false, true, false, false, false] (aq.put (some 5) (.pointer (some ⟨gpx, 0, none⟩))) w' := by
    intro w35 gpx hB_0 fa_0 pa_0 hWq_0 px_0 hgpx
    rw [HWq.out, HAq.out]
    try simp only [Act.put]
    try simp only [List.setIfInBounds_toArray, List.set_cons_zero, List.set_cons_succ]
    refine reg_all2 1 5 ?_ ?_ (by kernel_rfl) ?_ ?_ (fun K hK => ?_) (fun K hK => ?_)
    rotate_left 2
    · simp only [List.getElem?_toArray, List.getElem?_cons_succ, List.getElem?_cons_zero]; exact rfl
    · simp only [List.getElem?_toArray, List.getElem?_cons_succ, List.getElem?_cons_zero]; exact rfl
    · go_simp
      refine (fOf_any n hn1 hn2 _).mono ?_
      rintro e w36 ⟨m1, o1, n1, c1, p1, k1, d1, rfl, f1_0, hb36⟩
      have hB_1 := hB_0.trans (hb36.mono hB_0.size)
      have fa_1 := fa_0.below hb36
      have pa_1 := pa_0.below hb36
      have hWq_1 := hWq_0.trans (hb36.mono hWq_0.size)
      have px_1 := px_0.below hb36
      clear hb36 hB_0 fa_0 pa_0 hWq_0 px_0
      go_wp2_with fail
      refine hK.out _ _ ⟨pa_1.c0, pa_1.c1⟩ (fun hHeld => ?_)
      clear hK K
      try simp only [Act.put]
      try simp only [List.setIfInBounds_toArray, List.set_cons_zero, List.set_cons_succ]
      rw [← HWq.out]
      exact stq_1tf _ m1 o1 n1 c1 p1 k1 d1 gpx hB_1 fa_1 pa_1 hWq_1 f1_0 px_1 (by omega)
    · go_simp
      have hgn : w2.heap.size ≤ w35.heap.size := hWq_0.size
      have hlpx := px_0.lt
      obtain ⟨w37, hww37, py_0, hb37, -⟩ := new_box w35 _ rfl [.bool false, .slice none 0 0, .slice none 0 0] 27
      rw [hww37]
      have hB_1 := hB_0.trans (hb37.mono hB_0.size)
      have fa_1 := fa_0.below hb37
      have pa_1 := pa_0.below hb37
      have hWq_1 := hWq_0.trans (hb37.mono hWq_0.size)
      have px_1 := px_0.below hb37
      clear hb37 hB_0 fa_0 pa_0 hWq_0 px_0
      refine hK.out _ _ ⟨pa_1.c0, pa_1.c1⟩ (fun hHeld => ?_)
      clear hK K
      try simp only [Act.put]
      try simp only [List.setIfInBounds_toArray, List.set_cons_zero, List.set_cons_succ]
      rw [← HWq.out]
      exact stq_0tt _ gpx w35.heap.size hB_1 fa_1 pa_1 hWq_1 px_1 py_0 (by omega) (by omega) (by omega)
  try simp only [HAq.out, Act.put, List.setIfInBounds_toArray, List.set_cons_zero, List.set_cons_succ] at stq_0tf
  have stq_0ft : ∀ (w' : World) (gpy : Nat), Below w.heap.size w w' → Num w' (.agg #[.bool am, .slice ao an ac]) 10 Xa → Box w' (w.heap.size) [.bool am, .slice ao an ac] → Below w2.heap.size w2 w' → Box w' gpy [.bool false, .slice none 0 0, .slice none 0 0] → w2.heap.size ≤ gpy → WWq 5 #[true, false, true, false, false, true, false, false] (aq.put (some 6) (.pointer (some ⟨gpy, 0, none⟩))) w' := by
    intro w38 gpy hB_0 fa_0 pa_0 hWq_0 py_0 hgpy
    rw [HWq.out, HAq.out]
    try simp only [Act.put]
    try simp only [List.setIfInBounds_toArray, List.set_cons_zero, List.set_cons_succ]
    refine reg_all2 1 4 ?_ ?_ (by kernel_rfl) ?_ ?_ (fun K hK => ?_) (fun K hK => ?_)
    rotate_left 2
    · simp only [List.getElem?_toArray, List.getElem?_cons_succ, List.getElem?_cons_zero]; exact rfl
    · simp only [List.getElem?_toArray, List.getElem?_cons_succ, List.getElem?_cons_zero]; exact rfl
    · go_simp
      refine (fOf_any n hn1 hn2 _).mono ?_
      rintro e w39 ⟨m1, o1, n1, c1, p1, k1, d1, rfl, f1_0, hb39⟩
      have hB_1 := hB_0.trans (hb39.mono hB_0.size)
      have fa_1 := fa_0.below hb39
      have pa_1 := pa_0.below hb39
      have hWq_1 := hWq_0.trans (hb39.mono hWq_0.size)
      have py_1 := py_0.below hb39
      clear hb39 hB_0 fa_0 pa_0 hWq_0 py_0
      go_wp2_with fail
      refine hK.out _ _ ⟨pa_1.c0, pa_1.c1⟩ (fun hHeld => ?_)
      clear hK K
      try simp only [Act.put]
      try simp only [List.setIfInBounds_toArray, List.set_cons_zero, List.set_cons_succ]
      rw [← HWq.out]
      exact stq_1ft _ m1 o1 n1 c1 p1 k1 d1 gpy hB_1 fa_1 pa_1 hWq_1 f1_0 py_1 (by omega)
    · go_simp
      have hgn : w2.heap.size ≤ w38.heap.size := hWq_0.size
      have hlpy := py_0.lt
      obtain ⟨w40, hww40, px_0, hb40, -⟩ := new_box w38 _ rfl [.bool false, .slice none 0 0, .slice none 0 0] 27
      rw [hww40]
      have hB_1 := hB_0.trans (hb40.mono hB_0.size)
      have fa_1 := fa_0.below hb40
      have pa_1 := pa_0.below hb40
      have hWq_1 := hWq_0.trans (hb40.mono hWq_0.size)
      have py_1 := py_0.below hb40
      clear hb40 hB_0 fa_0 pa_0 hWq_0 py_0
      refine hK.out _ _ ⟨pa_1.c0, pa_1.c1⟩ (fun hHeld => ?_)
      clear hK K
      try simp only [Act.put]
      try simp only [List.setIfInBounds_toArray, List.set_cons_zero, List.set_cons_succ]
      rw [← HWq.out]
      exact stq_0tt _ w38.heap.size gpy hB_1 fa_1 pa_1 hWq_1 px_0 py_1 (by omega) (by omega) (by omega)
  try simp only [HAq.out, Act.put, List.setIfInBounds_toArray, List.set_cons_zero, List.set_cons_succ] at stq_0ft
  have stq_0ff : ∀ (w' : World), Below w.heap.size w w' → Num w' (.agg #[.bool am, .slice ao an ac]) 10 Xa → Box w' (w.heap.size) [.bool am, .slice ao an ac] → Below w2.heap.size w2 w' → WWq 6 #[true, false, true, false, false, false, false, false] aq w' := by
    intro w41 hB_0 fa_0 pa_0 hWq_0
    rw [HWq.out, HAq.out]
    try simp only [Act.put]
    try simp only [List.setIfInBounds_toArray, List.set_cons_zero, List.set_cons_succ]
    refine reg_all3 1 4 5 ?_ ?_ ?_ (by kernel_rfl) ?_ ?_ ?_ (fun K hK => ?_) (fun K hK => ?_) (fun K hK => ?_)
    rotate_left 3
    · simp only [List.getElem?_toArray, List.getElem?_cons_succ, List.getElem?_cons_zero]; exact rfl
    · simp only [List.getElem?_toArray, List.getElem?_cons_succ, List.getElem?_cons_zero]; exact rfl
    · simp only [List.getElem?_toArray, List.getElem?_cons_succ, List.getElem?_cons_zero]; exact rfl
    · go_simp
      refine (fOf_any n hn1 hn2 _).mono ?_
      rintro e w42 ⟨m1, o1, n1, c1, p1, k1, d1, rfl, f1_0, hb42⟩
      have hB_1 := hB_0.trans (hb42.mono hB_0.size)
      have fa_1 := fa_0.below hb42
      have pa_1 := pa_0.below hb42
      have hWq_1 := hWq_0.trans (hb42.mono hWq_0.size)
      clear hb42 hB_0 fa_0 pa_0 hWq_0
      go_wp2_with fail
      refine hK.out _ _ ⟨pa_1.c0, pa_1.c1⟩ (fun hHeld => ?_)
      clear hK K
      try simp only [Act.put]
      try simp only [List.setIfInBounds_toArray, List.set_cons_zero, List.set_cons_succ]
      rw [← HWq.out]
      exact stq_1ff _ m1 o1 n1 c1 p1 k1 d1 hB_1 fa_1 pa_1 hWq_1 f1_0
    · go_simp
      have hgn : w2.heap.size ≤ w41.heap.size := hWq_0.size
      obtain ⟨w43, hww43, px_0, hb43, -⟩ := new_box w41 _ rfl [.bool false, .slice none 0 0, .slice none 0 0] 27
      rw [hww43]
      have hB_1 := hB_0.trans (hb43.mono hB_0.size)
      have fa_1 := fa_0.below hb43
      have pa_1 := pa_0.below hb43
      have hWq_1 := hWq_0.trans (hb43.mono hWq_0.size)
      clear hb43 hB_0 fa_0 pa_0 hWq_0
      refine hK.out _ _ ⟨pa_1.c0, pa_1.c1⟩ (fun hHeld => ?_)
      clear hK K
      try simp only [Act.put]
      try simp only [List.setIfInBounds_toArray, List.set_cons_zero, List.set_cons_succ]
      rw [← HWq.out]
      exact stq_0tf _ w41.heap.size hB_1 fa_1 pa_1 hWq_1 px_0 (by omega)
    · go_simp
      have hgn : w2.heap.size ≤ w41.heap.size := hWq_0.size
      obtain ⟨w44, hww44, py_0, hb44, -⟩ := new_box w41 _ rfl [.bool false, .slice none 0 0, .slice none 0 0] 27
      rw [hww44]
      have hB_1 := hB_0.trans (hb44.mono hB_0.size)
      have fa_1 := fa_0.below hb44
      have pa_1 := pa_0.below hb44
      have hWq_1 := hWq_0.trans (hb44.mono hWq_0.size)
      clear hb44 hB_0 fa_0 pa_0 hWq_0
      refine hK.out _ _ ⟨pa_1.c0, pa_1.c1⟩ (fun hHeld => ?_)
      clear hK K
      try simp only [Act.put]
      try simp only [List.setIfInBounds_toArray, List.set_cons_zero, List.set_cons_succ]
      rw [← HWq.out]
      exact stq_0ft _ w41.heap.size hB_1 fa_1 pa_1 hWq_1 py_0 (by omega)
  exact stq_0ff _ hB_3 fa_4 pa_2 hWq_1
end Go.Proofs.Ytmbmeapodhngaaa
