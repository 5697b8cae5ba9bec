/- The statement SpotAlongs, walked. -/
import Derived.Test.YtkcfaddilknelaaPartl
import Derived.Test.YtkcfaddilknelaaPartk
namespace Go.Proofs.Ytkcfaddilknelaa
open Go.RowKit Go.MagM
theorem FD_nil (w : World) : FD w (.agg #[.bool false, .slice none 0 0, .slice none 0 0]) 1 0 0 := ⟨_, _, _, _, _, _, _, rfl, ⟨false, _, 0, rfl, ⟨none, 0, 0, fun _ => 0, rfl, by omega, by omega, Reads.nil _ _ _, rfl⟩, rfl⟩, ⟨none, 0, 0, fun _ => 0, rfl, by omega, by omega, Reads.nil _ _ _, rfl⟩⟩
theorem along0 (a b : Rat) : a + ((0 : Int) : Rat) * (b - a) = a := by rw [show ((0 : Int) : Rat) = 0 from rfl]; grind
theorem along1 (a b : Rat) : a + ((1 : Int) : Rat) * (b - a) = b := by rw [show ((1 : Int) : Rat) = 1 from rfl]; grind
theorem along2 (a b t : Rat) : b + (((1 : Int) : Rat) - t) * (a - b) = a + t * (b - a) := by rw [show ((1 : Int) : Rat) = 1 from rfl]; grind
set_option maxRecDepth 100000 in
set_option maxHeartbeats 16000000 in
theorem SpotAlongs_w {axm : Bool} {axo : Option Addr} {axn axc : Nat} {axp : Option Addr} {axk axd : Nat} {aym : Bool} {ayo : Option Addr} {ayn ayc : Nat} {ayp : Option Addr} {ayk ayd : Nat} {bxm : Bool} {bxo : Option Addr} {bxn bxc : Nat} {bxp : Option Addr} {bxk bxd : Nat} {bym : Bool} {byo : Option Addr} {byn byc : Nat} {byp : Option Addr} {byk byd : Nat} {zm : Bool} {zo : Option Addr} {zn zc : Nat} {zp : Option Addr} {zk zd : Nat} (Lax Lay Lbx Lby Lz : Nat) (Xax Xay Xbx Xby Xz : Int) (Dax Day Dbx Dby Dz : Nat) (s c : Int) (hs : (tameQ Xz Dz).num.sign = s) (hc : qcmp (tameQ Xz Dz) ((1 : Int) : Rat) = c) (hcase : (decide (0 ≤ s) = true ∧ decide (c ≤ 0) = true ∧ (0 ≤ tameQ Xz Dz ∧ tameQ Xz Dz ≤ 1)) ∨ (decide (0 ≤ s) = true ∧ decide (c ≤ 0) = false ∧ ¬ (0 ≤ tameQ Xz Dz ∧ tameQ Xz Dz ≤ 1)) ∨ (decide (0 ≤ s) = false ∧ ¬ (0 ≤ tameQ Xz Dz ∧ tameQ Xz Dz ≤ 1))) (w : World) (fax_0 : FD w (.agg #[.bool axm, .slice axo axn axc, .slice axp axk axd]) Lax Xax Dax) (fay_0 : FD w (.agg #[.bool aym, .slice ayo ayn ayc, .slice ayp ayk ayd]) Lay Xay Day) (fbx_0 : FD w (.agg #[.bool bxm, .slice bxo bxn bxc, .slice bxp bxk bxd]) Lbx Xbx Dbx) (fby_0 : FD w (.agg #[.bool bym, .slice byo byn byc, .slice byp byk byd]) Lby Xby Dby) (fz_0 : FD w (.agg #[.bool zm, .slice zo zn zc, .slice zp zk zd]) Lz Xz Dz) :
    Calls Try.prog 4 #[.agg #[.bool axm, .slice axo axn axc, .slice axp axk axd, .bool aym, .slice ayo ayn ayc, .slice ayp ayk ayd], .agg #[.bool bxm, .slice bxo bxn bxc, .slice bxp bxk bxd, .bool bym, .slice byo byn byc, .slice byp byk byd], .agg #[.bool zm, .slice zo zn zc, .slice zp zk zd]] w fun e w' => e = .returned (.bool true) ∧ Below w.heap.size w w' := by
  have hB_0 := Below.refl w.heap.size w
  have HS := Lib.hid hs; have HC := Lib.hid hc
  clear hs hc
  have HCASE := Lib.hid hcase; clear hcase
  obtain ⟨w1, hw1, pa_0, hb1, hs1⟩ := new_box w (w.heap.size) rfl [.bool axm, .slice axo axn axc, .slice axp axk axd, .bool aym, .slice ayo ayn ayc, .slice ayp ayk ayd] 33
  have hb1' : Below w.heap.size w w1 := hb1.mono (by omega)
  clear hb1
  have hB_1 := hB_0.trans (hb1'.mono hB_0.size)
  have fax_1 := fax_0.below hb1'
  have fay_1 := fay_0.below hb1'
  have fbx_1 := fbx_0.below hb1'
  have fby_1 := fby_0.below hb1'
  have fz_1 := fz_0.below hb1'
  clear hb1' hB_0 fax_0 fay_0 fbx_0 fby_0 fz_0
  obtain ⟨w2, hw2, pb_0, hb2, hs2⟩ := new_box w1 (w.heap.size + 1) hs1 [.bool bxm, .slice bxo bxn bxc, .slice bxp bxk bxd, .bool bym, .slice byo byn byc, .slice byp byk byd] 33
  have hb2' : Below w1.heap.size w1 w2 := hb2.mono (by omega)
  clear hb2
  have hB_2 := hB_1.trans (hb2'.mono hB_1.size)
  have fax_2 := fax_1.below hb2'
  have fay_2 := fay_1.below hb2'
  have fbx_2 := fbx_1.below hb2'
  have fby_2 := fby_1.below hb2'
  have fz_2 := fz_1.below hb2'
  have pa_1 := pa_0.below hb2'
  clear hb2' hB_1 fax_1 fay_1 fbx_1 fby_1 fz_1 pa_0
  obtain ⟨w3, hw3, pz_0, hb3, hs3⟩ := new_box w2 (w.heap.size + 1 + 1) hs2 [.bool zm, .slice zo zn zc, .slice zp zk zd] 31
  have hb3' : Below w2.heap.size w2 w3 := hb3.mono (by omega)
  clear hb3
  have hB_3 := hB_2.trans (hb3'.mono hB_2.size)
  have fax_3 := fax_2.below hb3'
  have fay_3 := fay_2.below hb3'
  have fbx_3 := fbx_2.below hb3'
  have fby_3 := fby_2.below hb3'
  have fz_3 := fz_2.below hb3'
  have pa_2 := pa_1.below hb3'
  have pb_1 := pb_0.below hb3'
  clear hb3' hB_2 fax_2 fay_2 fbx_2 fby_2 fz_2 pa_1 pb_0
  go_enter Try.func4, Try.ntmps4
  obtain ⟨pae0, pae1, pae2, pae3, pae4, pae5, pae6, pae7, pae8, pae9, pae10, pae11⟩ := pa_2.open6
  obtain ⟨pbe0, pbe1, pbe2, pbe3, pbe4, pbe5, pbe6, pbe7, pbe8, pbe9, pbe10, pbe11⟩ := pb_1.open6
  obtain ⟨pze0, pze1, pze2, pze3, pze4, pze5⟩ := pz_0.open3
  go_wp2_with fail
  refine (sfit_any _).mono ?_
  rintro e w4 ⟨rfl, hb4⟩
  clear pae0 pae1 pae2 pae3 pae4 pae5 pae6 pae7 pae8 pae9 pae10 pae11 pbe0 pbe1 pbe2 pbe3 pbe4 pbe5 pbe6 pbe7 pbe8 pbe9 pbe10 pbe11 pze0 pze1 pze2 pze3 pze4 pze5
  have hB_4 := hB_3.trans (hb4.mono hB_3.size)
  have fax_4 := fax_3.below hb4
  have fay_4 := fay_3.below hb4
  have fbx_4 := fbx_3.below hb4
  have fby_4 := fby_3.below hb4
  have fz_4 := fz_3.below hb4
  have pa_3 := pa_2.below hb4
  have pb_2 := pb_1.below hb4
  have pz_1 := pz_0.below hb4
  clear hb4 hB_3 fax_3 fay_3 fbx_3 fby_3 fz_3 pa_2 pb_1 pz_0
  obtain ⟨pae0, pae1, pae2, pae3, pae4, pae5, pae6, pae7, pae8, pae9, pae10, pae11⟩ := pa_3.open6
  obtain ⟨pbe0, pbe1, pbe2, pbe3, pbe4, pbe5, pbe6, pbe7, pbe8, pbe9, pbe10, pbe11⟩ := pb_2.open6
  obtain ⟨pze0, pze1, pze2, pze3, pze4, pze5⟩ := pz_1.open3
  go_wp2
  clear pae0 pae1 pae2 pae3 pae4 pae5 pae6 pae7 pae8 pae9 pae10 pae11 pbe0 pbe1 pbe2 pbe3 pbe4 pbe5 pbe6 pbe7 pbe8 pbe9 pbe10 pbe11 pze0 pze1 pze2 pze3 pze4 pze5
  have hWi_0 := Below.refl w4.heap.size w4
  have hsi : w.heap.size ≤ w4.heap.size := hB_4.size
  have hlipa := pa_3.lt
  have hlipb := pb_2.lt
  have hlipz := pz_1.lt
  have hB_5 := hB_4.drew'
  have fax_5 := fax_4.drew
  have fay_5 := fay_4.drew
  have fbx_5 := fbx_4.drew
  have fby_5 := fby_4.drew
  have fz_5 := fz_4.drew
  have pa_4 := pa_3.drew
  have pb_3 := pb_2.drew
  have pz_2 := pz_1.drew
  have hWi_1 := hWi_0.drew'
  clear hB_4 fax_4 fay_4 fbx_4 fby_4 fz_4 pa_3 pb_2 pz_1 hWi_0
  obtain ⟨FFi, hFFi⟩ : ∃ F : World → Prop, ∀ w', F w' ↔ (Below w.heap.size w w' ∧ FD w' (.agg #[.bool axm, .slice axo axn axc, .slice axp axk axd]) Lax Xax Dax ∧ FD w' (.agg #[.bool aym, .slice ayo ayn ayc, .slice ayp ayk ayd]) Lay Xay Day ∧ FD w' (.agg #[.bool bxm, .slice bxo bxn bxc, .slice bxp bxk bxd]) Lbx Xbx Dbx ∧ FD w' (.agg #[.bool bym, .slice byo byn byc, .slice byp byk byd]) Lby Xby Dby ∧ FD w' (.agg #[.bool zm, .slice zo zn zc, .slice zp zk zd]) Lz Xz Dz ∧ Box w' (w.heap.size) [.bool axm, .slice axo axn axc, .slice axp axk axd, .bool aym, .slice ayo ayn ayc, .slice ayp ayk ayd] ∧ Box w' (w.heap.size + 1) [.bool bxm, .slice bxo bxn bxc, .slice bxp bxk bxd, .bool bym, .slice byo byn byc, .slice byp byk byd] ∧ Box w' (w.heap.size + 1 + 1) [.bool zm, .slice zo zn zc, .slice zp zk zd] ∧ Below w4.heap.size w4 w') := ⟨_, fun _ => Iff.rfl⟩
  have cFi : ∀ {w' w'' : World}, FFi w' → Below w'.heap.size w' w'' → FFi w'' := by
    intro w' w'' h hb
    obtain ⟨y0, y1, y2, y3, y4, y5, y6, y7, y8, y9⟩ := (hFFi _).1 h
    exact (hFFi _).2 ⟨y0.trans (hb.mono y0.size), y1.below hb, y2.below hb, y3.below hb, y4.below hb, y5.below hb, y6.below hb, y7.below hb, y8.below hb, y9.trans (hb.mono y9.size)⟩
  have mFi : ∀ {w' : World}, FFi w' → w4.heap.size ≤ w'.heap.size := by
    intro w' h
    obtain ⟨y0, y1, y2, y3, y4, y5, y6, y7, y8, y9⟩ := (hFFi _).1 h
    exact y9.size
  have sFi : ∀ {w' : World}, FFi w' → (True) := by
    intro w' h
    obtain ⟨y0, y1, y2, y3, y4, y5, y6, y7, y8, y9⟩ := (hFFi _).1 h
    exact trivial
  have zF : FFi w4.drew := (hFFi _).2 ⟨hB_5, fax_5, fay_5, fbx_5, fby_5, fz_5, pa_4, pb_3, pz_2, hWi_1⟩
  clear hB_5 fax_5 fay_5 fbx_5 fby_5 fz_5 pa_4 pb_3 pz_2 hWi_1
  refine wp_region_noPanic ?_
  refine wp_region_held_drew (S := fun w' => True) (by kernel_rfl) (sFi zF) (fun hHeld => ?_)
  refine reg_grab (fun WWi ai hWW hAA => ?_)
  rw [hWW]
  have HAi := Lib.hid hAA; clear hWW hAA hHeld
  obtain ⟨IVi, hIVi⟩ : ∃ IV : Array Bool → Act → World → Prop, ∀ l a w', IV l a w' ↔ ∃ (lb0 lb1 lb2 lb3 : Bool) (lv0 lv1 lv2 lv3 : Value) (m1x : Bool) (o1x : Option Addr) (n1x : Nat) (c1x : Nat) (p1x : Option Addr) (k1x : Nat) (d1x : Nat) (m1y : Bool) (o1y : Option Addr) (n1y : Nat) (c1y : Nat) (p1y : Option Addr) (k1y : Nat) (d1y : Nat) (m2x : Bool) (o2x : Option Addr) (n2x : Nat) (c2x : Nat) (p2x : Option Addr) (k2x : Nat) (d2x : Nat) (m2y : Bool) (o2y : Option Addr) (n2y : Nat) (c2y : Nat) (p2y : Option Addr) (k2y : Nat) (d2y : Nat), l = #[lb0, lb1, lb2, lb3, false, false] ∧ a = ((((ai.put (some 11) lv0).put (some 12) lv1).put (some 13) lv2).put (some 14) lv3) ∧ FFi w' ∧ (lb0 = true → lv0 = .agg #[.bool axm, .slice axo axn axc, .slice axp axk axd, .bool aym, .slice ayo ayn ayc, .slice ayp ayk ayd]) ∧ (lb1 = true → lv1 = .agg #[.bool m1x, .slice o1x n1x c1x, .slice p1x k1x d1x, .bool m1y, .slice o1y n1y c1y, .slice p1y k1y d1y] ∧ RF w' (.agg #[.bool m1x, .slice o1x n1x c1x, .slice p1x k1x d1x]) (1) (tameQ Xax Dax) ∧ RF w' (.agg #[.bool m1y, .slice o1y n1y c1y, .slice p1y k1y d1y]) (1) (tameQ Xay Day)) ∧ (lb2 = true → lv2 = .agg #[.bool bxm, .slice bxo bxn bxc, .slice bxp bxk bxd, .bool bym, .slice byo byn byc, .slice byp byk byd]) ∧ (lb3 = true → lv3 = .agg #[.bool m2x, .slice o2x n2x c2x, .slice p2x k2x d2x, .bool m2y, .slice o2y n2y c2y, .slice p2y k2y d2y] ∧ RF w' (.agg #[.bool m2x, .slice o2x n2x c2x, .slice p2x k2x d2x]) (1) (tameQ Xbx Dbx) ∧ RF w' (.agg #[.bool m2y, .slice o2y n2y c2y, .slice p2y k2y d2y]) (1) (tameQ Xby Dby)) ∧ (lb1 = true → lb0 = true) ∧ (lb3 = true → lb2 = true) ∧ (lb3 = true → lb1 = true) := ⟨_, fun _ _ _ => Iff.rfl⟩
  refine wpAnyH_until IVi ?_ _ _ _ _ ((hIVi _ _ _).2 ⟨false, false, false, false, (ai.tmps.getD 11 undef), (ai.tmps.getD 12 undef), (ai.tmps.getD 13 undef), (ai.tmps.getD 14 undef), false, none, 0, 0, none, 0, 0, false, none, 0, 0, none, 0, 0, false, none, 0, 0, none, 0, 0, false, none, 0, 0, none, 0, 0, rfl, (by simp only [put_same]), zF, (fun h => by cases h), (fun h => by cases h), (fun h => by cases h), (fun h => by cases h), (fun h => by cases h), (fun h => by cases h), (fun h => by cases h)⟩) (by kernel_rfl)
  clear zF
  intro ll aa w5 hI
  obtain ⟨lb0, lb1, lb2, lb3, lv0, lv1, lv2, lv3, m1x, o1x, n1x, c1x, p1x, k1x, d1x, m1y, o1y, n1y, c1y, p1y, k1y, d1y, m2x, o2x, n2x, c2x, p2x, k2x, d2x, m2y, o2y, n2y, c2y, p2y, k2y, d2y, rfl, rfl, zF, F0, F1, F2, F3, dp1_0, dp3_2, dp3_1⟩ := (hIVi _ _ _).1 hI
  clear hI
  by_cases hL : lb0 = true ∧ lb1 = true ∧ lb2 = true ∧ lb3 = true
  · left
    obtain ⟨rfl, rfl, rfl, rfl⟩ := hL
    obtain rfl := F0 rfl
    clear F0
    obtain ⟨rfl, f1x_0, f1y_0⟩ := F1 rfl
    clear F1
    obtain rfl := F2 rfl
    clear F2
    obtain ⟨rfl, f2x_0, f2y_0⟩ := F3 rfl
    clear F3
    clear dp1_0 dp3_2 dp3_1
    show wpAnyH _ _ _ _ _ 2 _ _ _
    rw [HAi.out]
    try simp only [Act.put]
    try simp only [List.setIfInBounds_toArray, List.set_cons_zero, List.set_cons_succ]
    obtain ⟨hB_0, fax_0, fay_0, fbx_0, fby_0, fz_0, pa_0, pb_0, pz_0, hWi_0⟩ := (hFFi _).1 zF
    clear zF
    clear hWi_0
    obtain ⟨sf1a, sf1b, sf1c, sf1d, sf1e, sf1f, sf1g, sf1h, sf1i, sf1j, sf1k, sf1l⟩ := pa_0.open6
    obtain ⟨sg1a, sg1b, sg1c, sg1d, sg1e, sg1f, sg1g, sg1h, sg1i, sg1j⟩ := Box.put6 pa_0 (.bool m1x) (.slice o1x n1x c1x) (.slice p1x k1x d1x) (.bool m1y) (.slice o1y n1y c1y)
    refine reg_call 4 ?_ (by kernel_rfl) ?_ (fun K hK => ?_)
    rotate_left 1
    · simp only [List.getElem?_toArray, List.getElem?_cons_succ, List.getElem?_cons_zero]; exact rfl
    go_simp
    have hB_1 := below_setAll hB_0 (g := w.heap.size) (by omega) [.bool m1x, .slice o1x n1x c1x, .slice p1x k1x d1x, .bool m1y, .slice o1y n1y c1y, .slice p1y k1y d1y]
    have fax_1 := fax_0.setAll pa_0 (noWord6 _ _ _ _ _ _ _ _ _ _ _ _ _ _) [.bool m1x, .slice o1x n1x c1x, .slice p1x k1x d1x, .bool m1y, .slice o1y n1y c1y, .slice p1y k1y d1y] rfl
    have fay_1 := fay_0.setAll pa_0 (noWord6 _ _ _ _ _ _ _ _ _ _ _ _ _ _) [.bool m1x, .slice o1x n1x c1x, .slice p1x k1x d1x, .bool m1y, .slice o1y n1y c1y, .slice p1y k1y d1y] rfl
    have fbx_1 := fbx_0.setAll pa_0 (noWord6 _ _ _ _ _ _ _ _ _ _ _ _ _ _) [.bool m1x, .slice o1x n1x c1x, .slice p1x k1x d1x, .bool m1y, .slice o1y n1y c1y, .slice p1y k1y d1y] rfl
    have fby_1 := fby_0.setAll pa_0 (noWord6 _ _ _ _ _ _ _ _ _ _ _ _ _ _) [.bool m1x, .slice o1x n1x c1x, .slice p1x k1x d1x, .bool m1y, .slice o1y n1y c1y, .slice p1y k1y d1y] rfl
    have fz_1 := fz_0.setAll pa_0 (noWord6 _ _ _ _ _ _ _ _ _ _ _ _ _ _) [.bool m1x, .slice o1x n1x c1x, .slice p1x k1x d1x, .bool m1y, .slice o1y n1y c1y, .slice p1y k1y d1y] rfl
    have pb_1 := pb_0.farAll (g' := w.heap.size) (by omega) [.bool m1x, .slice o1x n1x c1x, .slice p1x k1x d1x, .bool m1y, .slice o1y n1y c1y, .slice p1y k1y d1y]
    have pz_1 := pz_0.farAll (g' := w.heap.size) (by omega) [.bool m1x, .slice o1x n1x c1x, .slice p1x k1x d1x, .bool m1y, .slice o1y n1y c1y, .slice p1y k1y d1y]
    have f1x_1 := f1x_0.setAll pa_0 (noWord6 _ _ _ _ _ _ _ _ _ _ _ _ _ _) [.bool m1x, .slice o1x n1x c1x, .slice p1x k1x d1x, .bool m1y, .slice o1y n1y c1y, .slice p1y k1y d1y] rfl
    have f1y_1 := f1y_0.setAll pa_0 (noWord6 _ _ _ _ _ _ _ _ _ _ _ _ _ _) [.bool m1x, .slice o1x n1x c1x, .slice p1x k1x d1x, .bool m1y, .slice o1y n1y c1y, .slice p1y k1y d1y] rfl
    have f2x_1 := f2x_0.setAll pa_0 (noWord6 _ _ _ _ _ _ _ _ _ _ _ _ _ _) [.bool m1x, .slice o1x n1x c1x, .slice p1x k1x d1x, .bool m1y, .slice o1y n1y c1y, .slice p1y k1y d1y] rfl
    have f2y_1 := f2y_0.setAll pa_0 (noWord6 _ _ _ _ _ _ _ _ _ _ _ _ _ _) [.bool m1x, .slice o1x n1x c1x, .slice p1x k1x d1x, .bool m1y, .slice o1y n1y c1y, .slice p1y k1y d1y] rfl
    have pa_1 := pa_0.setAll [.bool m1x, .slice o1x n1x c1x, .slice p1x k1x d1x, .bool m1y, .slice o1y n1y c1y, .slice p1y k1y d1y] rfl
    simp only [setAll, Nat.zero_add, Nat.reduceAdd] at hB_1 fax_1 fay_1 fbx_1 fby_1 fz_1 pa_1 pb_1 pz_1 f1x_1 f1y_1 f2x_1 f2y_1
    clear sf1a sf1b sf1c sf1d sf1e sf1f sf1g sf1h sf1i sf1j sf1k sf1l sg1a sg1b sg1c sg1d sg1e sg1f sg1g sg1h sg1i sg1j
    clear hB_0 fax_0 fay_0 fbx_0 fby_0 fz_0 pb_0 pz_0 f1x_0 f1y_0 f2x_0 f2y_0 pa_0
    refine hK.out _ _ trivial (fun hHeld => ?_)
    clear hK K
    try simp only [Act.put]
    try simp only [List.setIfInBounds_toArray, List.set_cons_zero, List.set_cons_succ]
    generalize (World.setCell (World.setCell (World.setCell (World.setCell (World.setCell (World.setCell w5 ⟨w.heap.size, 0, none⟩ (.bool m1x)) ⟨w.heap.size, 1, none⟩ (.slice o1x n1x c1x)) ⟨w.heap.size, 2, none⟩ (.slice p1x k1x d1x)) ⟨w.heap.size, 3, none⟩ (.bool m1y)) ⟨w.heap.size, 4, none⟩ (.slice o1y n1y c1y)) ⟨w.heap.size, 5, none⟩ (.slice p1y k1y d1y)) = w6 at *
    obtain ⟨sf2a, sf2b, sf2c, sf2d, sf2e, sf2f, sf2g, sf2h, sf2i, sf2j, sf2k, sf2l⟩ := pb_1.open6
    obtain ⟨sg2a, sg2b, sg2c, sg2d, sg2e, sg2f, sg2g, sg2h, sg2i, sg2j⟩ := Box.put6 pb_1 (.bool m2x) (.slice o2x n2x c2x) (.slice p2x k2x d2x) (.bool m2y) (.slice o2y n2y c2y)
    refine reg_call 5 ?_ (by kernel_rfl) ?_ (fun K hK => ?_)
    rotate_left 1
    · simp only [List.getElem?_toArray, List.getElem?_cons_succ, List.getElem?_cons_zero]; exact rfl
    go_simp
    have hB_2 := below_setAll hB_1 (g := w.heap.size + 1) (by omega) [.bool m2x, .slice o2x n2x c2x, .slice p2x k2x d2x, .bool m2y, .slice o2y n2y c2y, .slice p2y k2y d2y]
    have fax_2 := fax_1.setAll pb_1 (noWord6 _ _ _ _ _ _ _ _ _ _ _ _ _ _) [.bool m2x, .slice o2x n2x c2x, .slice p2x k2x d2x, .bool m2y, .slice o2y n2y c2y, .slice p2y k2y d2y] rfl
    have fay_2 := fay_1.setAll pb_1 (noWord6 _ _ _ _ _ _ _ _ _ _ _ _ _ _) [.bool m2x, .slice o2x n2x c2x, .slice p2x k2x d2x, .bool m2y, .slice o2y n2y c2y, .slice p2y k2y d2y] rfl
    have fbx_2 := fbx_1.setAll pb_1 (noWord6 _ _ _ _ _ _ _ _ _ _ _ _ _ _) [.bool m2x, .slice o2x n2x c2x, .slice p2x k2x d2x, .bool m2y, .slice o2y n2y c2y, .slice p2y k2y d2y] rfl
    have fby_2 := fby_1.setAll pb_1 (noWord6 _ _ _ _ _ _ _ _ _ _ _ _ _ _) [.bool m2x, .slice o2x n2x c2x, .slice p2x k2x d2x, .bool m2y, .slice o2y n2y c2y, .slice p2y k2y d2y] rfl
    have fz_2 := fz_1.setAll pb_1 (noWord6 _ _ _ _ _ _ _ _ _ _ _ _ _ _) [.bool m2x, .slice o2x n2x c2x, .slice p2x k2x d2x, .bool m2y, .slice o2y n2y c2y, .slice p2y k2y d2y] rfl
    have pa_2 := pa_1.farAll (g' := w.heap.size + 1) (by omega) [.bool m2x, .slice o2x n2x c2x, .slice p2x k2x d2x, .bool m2y, .slice o2y n2y c2y, .slice p2y k2y d2y]
    have pz_2 := pz_1.farAll (g' := w.heap.size + 1) (by omega) [.bool m2x, .slice o2x n2x c2x, .slice p2x k2x d2x, .bool m2y, .slice o2y n2y c2y, .slice p2y k2y d2y]
    have f1x_2 := f1x_1.setAll pb_1 (noWord6 _ _ _ _ _ _ _ _ _ _ _ _ _ _) [.bool m2x, .slice o2x n2x c2x, .slice p2x k2x d2x, .bool m2y, .slice o2y n2y c2y, .slice p2y k2y d2y] rfl
    have f1y_2 := f1y_1.setAll pb_1 (noWord6 _ _ _ _ _ _ _ _ _ _ _ _ _ _) [.bool m2x, .slice o2x n2x c2x, .slice p2x k2x d2x, .bool m2y, .slice o2y n2y c2y, .slice p2y k2y d2y] rfl
    have f2x_2 := f2x_1.setAll pb_1 (noWord6 _ _ _ _ _ _ _ _ _ _ _ _ _ _) [.bool m2x, .slice o2x n2x c2x, .slice p2x k2x d2x, .bool m2y, .slice o2y n2y c2y, .slice p2y k2y d2y] rfl
    have f2y_2 := f2y_1.setAll pb_1 (noWord6 _ _ _ _ _ _ _ _ _ _ _ _ _ _) [.bool m2x, .slice o2x n2x c2x, .slice p2x k2x d2x, .bool m2y, .slice o2y n2y c2y, .slice p2y k2y d2y] rfl
    have pb_2 := pb_1.setAll [.bool m2x, .slice o2x n2x c2x, .slice p2x k2x d2x, .bool m2y, .slice o2y n2y c2y, .slice p2y k2y d2y] rfl
    simp only [setAll, Nat.zero_add, Nat.reduceAdd] at hB_2 fax_2 fay_2 fbx_2 fby_2 fz_2 pa_2 pb_2 pz_2 f1x_2 f1y_2 f2x_2 f2y_2
    clear sf2a sf2b sf2c sf2d sf2e sf2f sf2g sf2h sf2i sf2j sf2k sf2l sg2a sg2b sg2c sg2d sg2e sg2f sg2g sg2h sg2i sg2j
    clear hB_1 fax_1 fay_1 fbx_1 fby_1 fz_1 pa_1 pz_1 f1x_1 f1y_1 f2x_1 f2y_1 pb_1
    refine hK.out _ _ trivial (fun hHeld => ?_)
    clear hK K
    try simp only [Act.put]
    try simp only [List.setIfInBounds_toArray, List.set_cons_zero, List.set_cons_succ]
    generalize (World.setCell (World.setCell (World.setCell (World.setCell (World.setCell (World.setCell w6 ⟨w.heap.size + 1, 0, none⟩ (.bool m2x)) ⟨w.heap.size + 1, 1, none⟩ (.slice o2x n2x c2x)) ⟨w.heap.size + 1, 2, none⟩ (.slice p2x k2x d2x)) ⟨w.heap.size + 1, 3, none⟩ (.bool m2y)) ⟨w.heap.size + 1, 4, none⟩ (.slice o2y n2y c2y)) ⟨w.heap.size + 1, 5, none⟩ (.slice p2y k2y d2y)) = w7 at *
    refine wpAnyH_done (by kernel_rfl) ?_ _
    refine NoPanic.normal ?_
    clear fax_2 fay_2 fbx_2 fby_2
    obtain ⟨pae0, pae1, pae2, pae3, pae4, pae5, pae6, pae7, pae8, pae9, pae10, pae11⟩ := pa_2.open6
    obtain ⟨pbe0, pbe1, pbe2, pbe3, pbe4, pbe5, pbe6, pbe7, pbe8, pbe9, pbe10, pbe11⟩ := pb_2.open6
    obtain ⟨pze0, pze1, pze2, pze3, pze4, pze5⟩ := pz_2.open3
    go_wp2_with fail
    refine (stame_any Lz 1 Xz 0 Dz 0 _ fz_2 (FD_nil _)).mono ?_
    rintro e w8 ⟨m3x, o3x, n3x, c3x, p3x, k3x, d3x, m3y, o3y, n3y, c3y, p3y, k3y, d3y, rfl, f3x_0, f3y_0, hb8⟩
    clear pae0 pae1 pae2 pae3 pae4 pae5 pae6 pae7 pae8 pae9 pae10 pae11 pbe0 pbe1 pbe2 pbe3 pbe4 pbe5 pbe6 pbe7 pbe8 pbe9 pbe10 pbe11 pze0 pze1 pze2 pze3 pze4 pze5
    have hB_3 := hB_2.trans (hb8.mono hB_2.size)
    have fz_3 := fz_2.below hb8
    have pa_3 := pa_2.below hb8
    have pb_3 := pb_2.below hb8
    have pz_3 := pz_2.below hb8
    have f1x_3 := f1x_2.below hb8
    have f1y_3 := f1y_2.below hb8
    have f2x_3 := f2x_2.below hb8
    have f2y_3 := f2y_2.below hb8
    clear hb8 hB_2 fz_2 pa_2 pb_2 pz_2 f1x_2 f1y_2 f2x_2 f2y_2
    clear f3y_0 fz_3
    have hfl : ∀ w, (Instr.field 33 (.agg #[.bool m3x, .slice o3x n3x c3x, .slice p3x k3x d3x, .bool m3y, .slice o3y n3y c3y, .slice p3y k3y d3y]) 0).run Try.prog w = .ok (.agg #[.bool m3x, .slice o3x n3x c3x, .slice p3x k3x d3x]) w := fun _ => by kernel_rfl
    obtain ⟨sf3a, sf3b, sf3c, sf3d, sf3e, sf3f⟩ := pz_3.open3
    obtain ⟨sg3a, sg3b, sg3c, sg3d⟩ := Box.put3 pz_3 (.bool m3x) (.slice o3x n3x c3x)
    have hB_4 := below_setAll hB_3 (g := w.heap.size + 1 + 1) (by omega) [.bool m3x, .slice o3x n3x c3x, .slice p3x k3x d3x]
    have pa_4 := pa_3.farAll (g' := w.heap.size + 1 + 1) (by omega) [.bool m3x, .slice o3x n3x c3x, .slice p3x k3x d3x]
    have pb_4 := pb_3.farAll (g' := w.heap.size + 1 + 1) (by omega) [.bool m3x, .slice o3x n3x c3x, .slice p3x k3x d3x]
    have f1x_4 := f1x_3.setAll pz_3 (noWord3 _ _ _ _ _ _ _) [.bool m3x, .slice o3x n3x c3x, .slice p3x k3x d3x] rfl
    have f1y_4 := f1y_3.setAll pz_3 (noWord3 _ _ _ _ _ _ _) [.bool m3x, .slice o3x n3x c3x, .slice p3x k3x d3x] rfl
    have f2x_4 := f2x_3.setAll pz_3 (noWord3 _ _ _ _ _ _ _) [.bool m3x, .slice o3x n3x c3x, .slice p3x k3x d3x] rfl
    have f2y_4 := f2y_3.setAll pz_3 (noWord3 _ _ _ _ _ _ _) [.bool m3x, .slice o3x n3x c3x, .slice p3x k3x d3x] rfl
    have f3x_1 := f3x_0.setAll pz_3 (noWord3 _ _ _ _ _ _ _) [.bool m3x, .slice o3x n3x c3x, .slice p3x k3x d3x] rfl
    have pz_4 := pz_3.setAll [.bool m3x, .slice o3x n3x c3x, .slice p3x k3x d3x] rfl
    simp only [setAll, Nat.zero_add, Nat.reduceAdd] at hB_4 pa_4 pb_4 pz_4 f1x_4 f1y_4 f2x_4 f2y_4 f3x_1
    obtain ⟨pae0, pae1, pae2, pae3, pae4, pae5, pae6, pae7, pae8, pae9, pae10, pae11⟩ := pa_4.open6
    obtain ⟨pbe0, pbe1, pbe2, pbe3, pbe4, pbe5, pbe6, pbe7, pbe8, pbe9, pbe10, pbe11⟩ := pb_4.open6
    obtain ⟨pze0, pze1, pze2, pze3, pze4, pze5⟩ := pz_4.open3
    go_wp2_with fail
    clear sf3a sf3b sf3c sf3d sf3e sf3f sg3a sg3b sg3c sg3d hB_3 pa_3 pb_3 f1x_3 f1y_3 f2x_3 f2y_3 f3x_0 pz_3
    generalize (World.setCell (World.setCell (World.setCell w8 ⟨w.heap.size + 1 + 1, 0, none⟩ (.bool m3x)) ⟨w.heap.size + 1 + 1, 1, none⟩ (.slice o3x n3x c3x)) ⟨w.heap.size + 1 + 1, 2, none⟩ (.slice p3x k3x d3x)) = w9 at *
    clear hfl
    go_wp2_with fail
    refine (sAlong_any 1 _ _ 1 _ _ 1 _ _ (by omega) (by omega) (by omega) f1x_4.q f1y_4.q f2x_4.q f2y_4.q f3x_1.q).mono ?_
    rintro e w10 ⟨m4x, o4x, n4x, c4x, p4x, k4x, d4x, m4y, o4y, n4y, c4y, p4y, k4y, d4y, rfl, f4x_0, f4y_0, hb10⟩
    clear pae0 pae1 pae2 pae3 pae4 pae5 pae6 pae7 pae8 pae9 pae10 pae11 pbe0 pbe1 pbe2 pbe3 pbe4 pbe5 pbe6 pbe7 pbe8 pbe9 pbe10 pbe11 pze0 pze1 pze2 pze3 pze4 pze5
    have hB_5 := hB_4.trans (hb10.mono hB_4.size)
    have pa_5 := pa_4.below hb10
    have pb_5 := pb_4.below hb10
    have pz_5 := pz_4.below hb10
    have f1x_5 := f1x_4.below hb10
    have f1y_5 := f1y_4.below hb10
    have f2x_5 := f2x_4.below hb10
    have f2y_5 := f2y_4.below hb10
    have f3x_2 := f3x_1.below hb10
    clear hb10 hB_4 pa_4 pb_4 pz_4 f1x_4 f1y_4 f2x_4 f2y_4 f3x_1
    have hl1pa := pa_5.lt
    have hl1pb := pb_5.lt
    have hl1pz := pz_5.lt
    have hl1B := hB_5.size
    obtain ⟨w11, hw11, ps_0, hb11, hs11⟩ := new_box w10 (w10.heap.size) rfl [.bool m4x, .slice o4x n4x c4x, .slice p4x k4x d4x, .bool m4y, .slice o4y n4y c4y, .slice p4y k4y d4y] 33
    have hb11' : Below w10.heap.size w10 w11 := hb11.mono (by omega)
    clear hb11
    have hB_6 := hB_5.trans (hb11'.mono hB_5.size)
    have pa_6 := pa_5.below hb11'
    have pb_6 := pb_5.below hb11'
    have pz_6 := pz_5.below hb11'
    have f1x_6 := f1x_5.below hb11'
    have f1y_6 := f1y_5.below hb11'
    have f2x_6 := f2x_5.below hb11'
    have f2y_6 := f2y_5.below hb11'
    have f3x_3 := f3x_2.below hb11'
    have f4x_1 := f4x_0.below hb11'
    have f4y_1 := f4y_0.below hb11'
    clear hb11' hB_5 pa_5 pb_5 pz_5 f1x_5 f1y_5 f2x_5 f2y_5 f3x_2 f4x_0 f4y_0
    go_wp2
    try rw [hw11]
    have hB_7 := hB_6.drew'
    have pa_7 := pa_6.drew
    have pb_7 := pb_6.drew
    have pz_7 := pz_6.drew
    have f1x_7 := f1x_6.drew
    have f1y_7 := f1y_6.drew
    have f2x_7 := f2x_6.drew
    have f2y_7 := f2y_6.drew
    have f3x_4 := f3x_3.drew
    have f4x_2 := f4x_1.drew
    have f4y_2 := f4y_1.drew
    have ps_1 := ps_0.drew
    clear hB_6 pa_6 pb_6 pz_6 f1x_6 f1y_6 f2x_6 f2y_6 f3x_3 f4x_1 f4y_1 ps_0
    go_region_held3 (fun w' => w'.cell? ⟨w.heap.size, 0, none⟩ = some (.bool m1x) ∧ w'.cell? ⟨w.heap.size, 1, none⟩ = some (.slice o1x n1x c1x) ∧ w'.cell? ⟨w.heap.size, 2, none⟩ = some (.slice p1x k1x d1x) ∧ w'.cell? ⟨w.heap.size, 3, none⟩ = some (.bool m1y) ∧ w'.cell? ⟨w.heap.size, 4, none⟩ = some (.slice o1y n1y c1y) ∧ w'.cell? ⟨w.heap.size, 5, none⟩ = some (.slice p1y k1y d1y) ∧ w'.cell? ⟨w.heap.size + 1, 0, none⟩ = some (.bool m2x) ∧ w'.cell? ⟨w.heap.size + 1, 1, none⟩ = some (.slice o2x n2x c2x) ∧ w'.cell? ⟨w.heap.size + 1, 2, none⟩ = some (.slice p2x k2x d2x) ∧ w'.cell? ⟨w.heap.size + 1, 3, none⟩ = some (.bool m2y) ∧ w'.cell? ⟨w.heap.size + 1, 4, none⟩ = some (.slice o2y n2y c2y) ∧ w'.cell? ⟨w.heap.size + 1, 5, none⟩ = some (.slice p2y k2y d2y) ∧ w'.cell? ⟨w10.heap.size, 0, none⟩ = some (.bool m4x) ∧ w'.cell? ⟨w10.heap.size, 1, none⟩ = some (.slice o4x n4x c4x) ∧ w'.cell? ⟨w10.heap.size, 2, none⟩ = some (.slice p4x k4x d4x) ∧ w'.cell? ⟨w10.heap.size, 3, none⟩ = some (.bool m4y) ∧ w'.cell? ⟨w10.heap.size, 4, none⟩ = some (.slice o4y n4y c4y) ∧ w'.cell? ⟨w10.heap.size, 5, none⟩ = some (.slice p4y k4y d4y))
      (first | with_reducible exact ⟨pa_7.c0, pa_7.c1, pa_7.c2, pa_7.c3, pa_7.c4, pa_7.c5, pb_7.c0, pb_7.c1, pb_7.c2, pb_7.c3, pb_7.c4, pb_7.c5, ps_1.c0, ps_1.c1, ps_1.c2, ps_1.c3, ps_1.c4, ps_1.c5⟩ | with_reducible exact ⟨pa_8.c0, pa_8.c1, pa_8.c2, pa_8.c3, pa_8.c4, pa_8.c5, pb_8.c0, pb_8.c1, pb_8.c2, pb_8.c3, pb_8.c4, pb_8.c5, ps_2.c0, ps_2.c1, ps_2.c2, ps_2.c3, ps_2.c4, ps_2.c5⟩ | with_reducible exact ⟨pa_9.c0, pa_9.c1, pa_9.c2, pa_9.c3, pa_9.c4, pa_9.c5, pb_9.c0, pb_9.c1, pb_9.c2, pb_9.c3, pb_9.c4, pb_9.c5, ps_3.c0, ps_3.c1, ps_3.c2, ps_3.c3, ps_3.c4, ps_3.c5⟩ | with_reducible exact ⟨pa_10.c0, pa_10.c1, pa_10.c2, pa_10.c3, pa_10.c4, pa_10.c5, pb_10.c0, pb_10.c1, pb_10.c2, pb_10.c3, pb_10.c4, pb_10.c5, ps_4.c0, ps_4.c1, ps_4.c2, ps_4.c3, ps_4.c4, ps_4.c5⟩ | with_reducible exact ⟨pa_11.c0, pa_11.c1, pa_11.c2, pa_11.c3, pa_11.c4, pa_11.c5, pb_11.c0, pb_11.c1, pb_11.c2, pb_11.c3, pb_11.c4, pb_11.c5, ps_5.c0, ps_5.c1, ps_5.c2, ps_5.c3, ps_5.c4, ps_5.c5⟩ | with_reducible exact ⟨pa_12.c0, pa_12.c1, pa_12.c2, pa_12.c3, pa_12.c4, pa_12.c5, pb_12.c0, pb_12.c1, pb_12.c2, pb_12.c3, pb_12.c4, pb_12.c5, ps_6.c0, ps_6.c1, ps_6.c2, ps_6.c3, ps_6.c4, ps_6.c5⟩ | with_reducible exact ⟨pa_13.c0, pa_13.c1, pa_13.c2, pa_13.c3, pa_13.c4, pa_13.c5, pb_13.c0, pb_13.c1, pb_13.c2, pb_13.c3, pb_13.c4, pb_13.c5, ps_7.c0, ps_7.c1, ps_7.c2, ps_7.c3, ps_7.c4, ps_7.c5⟩ | with_reducible exact ⟨pa_14.c0, pa_14.c1, pa_14.c2, pa_14.c3, pa_14.c4, pa_14.c5, pb_14.c0, pb_14.c1, pb_14.c2, pb_14.c3, pb_14.c4, pb_14.c5, ps_8.c0, ps_8.c1, ps_8.c2, ps_8.c3, ps_8.c4, ps_8.c5⟩ | fail)
      (first
        | (go_at_call 21; (with_reducible refine (fOf_any 0 (by omega) (by omega) _).mono ?_); rintro e w12 ⟨m5, o5, n5, c5, p5, k5, d5, rfl, f5_0, hb12⟩; have hB_8 := hB_7.trans (hb12.mono hB_7.size); have pa_8 := pa_7.below hb12; have pb_8 := pb_7.below hb12; have pz_8 := pz_7.below hb12; have f1x_8 := f1x_7.below hb12; have f1y_8 := f1y_7.below hb12; have f2x_8 := f2x_7.below hb12; have f2y_8 := f2y_7.below hb12; have f3x_5 := f3x_4.below hb12; have f4x_3 := f4x_2.below hb12; have f4y_3 := f4y_2.below hb12; have ps_2 := ps_1.below hb12; clear hb12 hB_7 pa_7 pb_7 pz_7 f1x_7 f1y_7 f2x_7 f2y_7 f3x_4 f4x_2 f4y_2 ps_1)
        | (go_at_call 20; (with_reducible refine (sAlong_any 1 _ _ 1 _ _ 1 _ _ (by omega) (by omega) (by omega) f1x_8.q f1y_8.q f2x_8.q f2y_8.q f5_0.q).mono ?_); rintro e w13 ⟨m6x, o6x, n6x, c6x, p6x, k6x, d6x, m6y, o6y, n6y, c6y, p6y, k6y, d6y, rfl, f6x_0, f6y_0, hb13⟩; have hB_9 := hB_8.trans (hb13.mono hB_8.size); have pa_9 := pa_8.below hb13; have pb_9 := pb_8.below hb13; have pz_9 := pz_8.below hb13; have f1x_9 := f1x_8.below hb13; have f1y_9 := f1y_8.below hb13; have f2x_9 := f2x_8.below hb13; have f2y_9 := f2y_8.below hb13; have f3x_6 := f3x_5.below hb13; have f4x_4 := f4x_3.below hb13; have f4y_4 := f4y_3.below hb13; have ps_3 := ps_2.below hb13; have f5_1 := f5_0.below hb13; clear hb13 hB_8 pa_8 pb_8 pz_8 f1x_8 f1y_8 f2x_8 f2y_8 f3x_5 f4x_3 f4y_3 ps_2 f5_0)
        | (go_at_call 17; (with_reducible refine (sSame_any (1 + (1 + (1 + 1 + 2) + 2) + 2) _ _ 1 _ _ _ (by omega) (by omega) f6x_0.q f6y_0.q f1x_9.q f1y_9.q true ⟨fun _ => rfl, fun _ => ⟨along0 _ _, along0 _ _⟩⟩).mono ?_); rintro e w14 ⟨rfl, hb14⟩; have hB_10 := hB_9.trans (hb14.mono hB_9.size); have pa_10 := pa_9.below hb14; have pb_10 := pb_9.below hb14; have pz_10 := pz_9.below hb14; have f1x_10 := f1x_9.below hb14; have f1y_10 := f1y_9.below hb14; have f2x_10 := f2x_9.below hb14; have f2y_10 := f2y_9.below hb14; have f3x_7 := f3x_6.below hb14; have f4x_5 := f4x_4.below hb14; have f4y_5 := f4y_4.below hb14; have ps_4 := ps_3.below hb14; have f5_2 := f5_1.below hb14; have f6x_1 := f6x_0.below hb14; have f6y_1 := f6y_0.below hb14; clear hb14 hB_9 pa_9 pb_9 pz_9 f1x_9 f1y_9 f2x_9 f2y_9 f3x_6 f4x_4 f4y_4 ps_3 f5_1 f6x_0 f6y_0)
        | (go_at_call 21; (with_reducible refine (fOf_any 1 (by omega) (by omega) _).mono ?_); rintro e w15 ⟨m7, o7, n7, c7, p7, k7, d7, rfl, f7_0, hb15⟩; have hB_11 := hB_10.trans (hb15.mono hB_10.size); have pa_11 := pa_10.below hb15; have pb_11 := pb_10.below hb15; have pz_11 := pz_10.below hb15; have f1x_11 := f1x_10.below hb15; have f1y_11 := f1y_10.below hb15; have f2x_11 := f2x_10.below hb15; have f2y_11 := f2y_10.below hb15; have f3x_8 := f3x_7.below hb15; have f4x_6 := f4x_5.below hb15; have f4y_6 := f4y_5.below hb15; have ps_5 := ps_4.below hb15; have f5_3 := f5_2.below hb15; have f6x_2 := f6x_1.below hb15; have f6y_2 := f6y_1.below hb15; clear hb15 hB_10 pa_10 pb_10 pz_10 f1x_10 f1y_10 f2x_10 f2y_10 f3x_7 f4x_5 f4y_5 ps_4 f5_2 f6x_1 f6y_1)
        | (go_at_call 20; (with_reducible refine (sAlong_any 1 _ _ 1 _ _ 1 _ _ (by omega) (by omega) (by omega) f1x_11.q f1y_11.q f2x_11.q f2y_11.q f7_0.q).mono ?_); rintro e w16 ⟨m8x, o8x, n8x, c8x, p8x, k8x, d8x, m8y, o8y, n8y, c8y, p8y, k8y, d8y, rfl, f8x_0, f8y_0, hb16⟩; have hB_12 := hB_11.trans (hb16.mono hB_11.size); have pa_12 := pa_11.below hb16; have pb_12 := pb_11.below hb16; have pz_12 := pz_11.below hb16; have f1x_12 := f1x_11.below hb16; have f1y_12 := f1y_11.below hb16; have f2x_12 := f2x_11.below hb16; have f2y_12 := f2y_11.below hb16; have f3x_9 := f3x_8.below hb16; have f4x_7 := f4x_6.below hb16; have f4y_7 := f4y_6.below hb16; have ps_6 := ps_5.below hb16; have f5_4 := f5_3.below hb16; have f6x_3 := f6x_2.below hb16; have f6y_3 := f6y_2.below hb16; have f7_1 := f7_0.below hb16; clear hb16 hB_11 pa_11 pb_11 pz_11 f1x_11 f1y_11 f2x_11 f2y_11 f3x_8 f4x_6 f4y_6 ps_5 f5_3 f6x_2 f6y_2 f7_0)
        | (go_at_call 17; (with_reducible refine (sSame_any (1 + (1 + (1 + 1 + 2) + 2) + 2) _ _ 1 _ _ _ (by omega) (by omega) f8x_0.q f8y_0.q f2x_12.q f2y_12.q true ⟨fun _ => rfl, fun _ => ⟨along1 _ _, along1 _ _⟩⟩).mono ?_); rintro e w17 ⟨rfl, hb17⟩; have hB_13 := hB_12.trans (hb17.mono hB_12.size); have pa_13 := pa_12.below hb17; have pb_13 := pb_12.below hb17; have pz_13 := pz_12.below hb17; have f1x_13 := f1x_12.below hb17; have f1y_13 := f1y_12.below hb17; have f2x_13 := f2x_12.below hb17; have f2y_13 := f2y_12.below hb17; have f3x_10 := f3x_9.below hb17; have f4x_8 := f4x_7.below hb17; have f4y_8 := f4y_7.below hb17; have ps_7 := ps_6.below hb17; have f5_5 := f5_4.below hb17; have f6x_4 := f6x_3.below hb17; have f6y_4 := f6y_3.below hb17; have f7_2 := f7_1.below hb17; have f8x_1 := f8x_0.below hb17; have f8y_1 := f8y_0.below hb17; clear hb17 hB_12 pa_12 pb_12 pz_12 f1x_12 f1y_12 f2x_12 f2y_12 f3x_9 f4x_7 f4y_7 ps_6 f5_4 f6x_3 f6y_3 f7_1 f8x_0 f8y_0)
        | (go_at_call 22; (with_reducible refine (sSide_any 1 _ _ 1 _ _ (1 + (1 + (1 + 1 + 2) + 2) + 2) _ _ 0 _ (by omega) (by omega) (by omega) f1x_13.q f1y_13.q f2x_13.q f2y_13.q f4x_8.q f4y_8.q (along_side _ _ _ _ _)).mono ?_); rintro e w18 ⟨rfl, hb18⟩; have hB_14 := hB_13.trans (hb18.mono hB_13.size); have pa_14 := pa_13.below hb18; have pb_14 := pb_13.below hb18; have pz_14 := pz_13.below hb18; have f1x_14 := f1x_13.below hb18; have f1y_14 := f1y_13.below hb18; have f2x_14 := f2x_13.below hb18; have f2y_14 := f2y_13.below hb18; have f3x_11 := f3x_10.below hb18; have f4x_9 := f4x_8.below hb18; have f4y_9 := f4y_8.below hb18; have ps_8 := ps_7.below hb18; have f5_6 := f5_5.below hb18; have f6x_5 := f6x_4.below hb18; have f6y_5 := f6y_4.below hb18; have f7_3 := f7_2.below hb18; have f8x_2 := f8x_1.below hb18; have f8y_2 := f8y_1.below hb18; clear hb18 hB_13 pa_13 pb_13 pz_13 f1x_13 f1y_13 f2x_13 f2y_13 f3x_10 f4x_8 f4y_8 ps_7 f5_5 f6x_4 f6y_4 f7_2 f8x_1 f8y_1))
    clear f5_6 f6x_5 f6y_5 f7_3 f8x_2 f8y_2
    go_wp2
    have hB_15 := hB_14.drew'
    have pa_15 := pa_14.drew
    have pb_15 := pb_14.drew
    have pz_15 := pz_14.drew
    have f1x_15 := f1x_14.drew
    have f1y_15 := f1y_14.drew
    have f2x_15 := f2x_14.drew
    have f2y_15 := f2y_14.drew
    have f3x_12 := f3x_11.drew
    have f4x_10 := f4x_9.drew
    have f4y_10 := f4y_9.drew
    have ps_9 := ps_8.drew
    clear hB_14 pa_14 pb_14 pz_14 f1x_14 f1y_14 f2x_14 f2y_14 f3x_11 f4x_9 f4y_9 ps_8
    go_region_held3 (fun w' => w'.cell? ⟨w.heap.size, 0, none⟩ = some (.bool m1x) ∧ w'.cell? ⟨w.heap.size, 1, none⟩ = some (.slice o1x n1x c1x) ∧ w'.cell? ⟨w.heap.size, 2, none⟩ = some (.slice p1x k1x d1x) ∧ w'.cell? ⟨w.heap.size, 3, none⟩ = some (.bool m1y) ∧ w'.cell? ⟨w.heap.size, 4, none⟩ = some (.slice o1y n1y c1y) ∧ w'.cell? ⟨w.heap.size, 5, none⟩ = some (.slice p1y k1y d1y) ∧ w'.cell? ⟨w.heap.size + 1, 0, none⟩ = some (.bool m2x) ∧ w'.cell? ⟨w.heap.size + 1, 1, none⟩ = some (.slice o2x n2x c2x) ∧ w'.cell? ⟨w.heap.size + 1, 2, none⟩ = some (.slice p2x k2x d2x) ∧ w'.cell? ⟨w.heap.size + 1, 3, none⟩ = some (.bool m2y) ∧ w'.cell? ⟨w.heap.size + 1, 4, none⟩ = some (.slice o2y n2y c2y) ∧ w'.cell? ⟨w.heap.size + 1, 5, none⟩ = some (.slice p2y k2y d2y) ∧ w'.cell? ⟨w.heap.size + 1 + 1, 0, none⟩ = some (.bool m3x) ∧ w'.cell? ⟨w.heap.size + 1 + 1, 1, none⟩ = some (.slice o3x n3x c3x) ∧ w'.cell? ⟨w.heap.size + 1 + 1, 2, none⟩ = some (.slice p3x k3x d3x) ∧ w'.cell? ⟨w10.heap.size, 0, none⟩ = some (.bool m4x) ∧ w'.cell? ⟨w10.heap.size, 1, none⟩ = some (.slice o4x n4x c4x) ∧ w'.cell? ⟨w10.heap.size, 2, none⟩ = some (.slice p4x k4x d4x) ∧ w'.cell? ⟨w10.heap.size, 3, none⟩ = some (.bool m4y) ∧ w'.cell? ⟨w10.heap.size, 4, none⟩ = some (.slice o4y n4y c4y) ∧ w'.cell? ⟨w10.heap.size, 5, none⟩ = some (.slice p4y k4y d4y))
      (first | with_reducible exact ⟨pa_15.c0, pa_15.c1, pa_15.c2, pa_15.c3, pa_15.c4, pa_15.c5, pb_15.c0, pb_15.c1, pb_15.c2, pb_15.c3, pb_15.c4, pb_15.c5, pz_15.c0, pz_15.c1, pz_15.c2, ps_9.c0, ps_9.c1, ps_9.c2, ps_9.c3, ps_9.c4, ps_9.c5⟩ | with_reducible exact ⟨pa_16.c0, pa_16.c1, pa_16.c2, pa_16.c3, pa_16.c4, pa_16.c5, pb_16.c0, pb_16.c1, pb_16.c2, pb_16.c3, pb_16.c4, pb_16.c5, pz_16.c0, pz_16.c1, pz_16.c2, ps_10.c0, ps_10.c1, ps_10.c2, ps_10.c3, ps_10.c4, ps_10.c5⟩ | with_reducible exact ⟨pa_17.c0, pa_17.c1, pa_17.c2, pa_17.c3, pa_17.c4, pa_17.c5, pb_17.c0, pb_17.c1, pb_17.c2, pb_17.c3, pb_17.c4, pb_17.c5, pz_17.c0, pz_17.c1, pz_17.c2, ps_11.c0, ps_11.c1, ps_11.c2, ps_11.c3, ps_11.c4, ps_11.c5⟩ | with_reducible exact ⟨pa_18.c0, pa_18.c1, pa_18.c2, pa_18.c3, pa_18.c4, pa_18.c5, pb_18.c0, pb_18.c1, pb_18.c2, pb_18.c3, pb_18.c4, pb_18.c5, pz_18.c0, pz_18.c1, pz_18.c2, ps_12.c0, ps_12.c1, ps_12.c2, ps_12.c3, ps_12.c4, ps_12.c5⟩ | with_reducible exact ⟨pa_19.c0, pa_19.c1, pa_19.c2, pa_19.c3, pa_19.c4, pa_19.c5, pb_19.c0, pb_19.c1, pb_19.c2, pb_19.c3, pb_19.c4, pb_19.c5, pz_19.c0, pz_19.c1, pz_19.c2, ps_13.c0, ps_13.c1, ps_13.c2, ps_13.c3, ps_13.c4, ps_13.c5⟩ | with_reducible exact ⟨pa_20.c0, pa_20.c1, pa_20.c2, pa_20.c3, pa_20.c4, pa_20.c5, pb_20.c0, pb_20.c1, pb_20.c2, pb_20.c3, pb_20.c4, pb_20.c5, pz_20.c0, pz_20.c1, pz_20.c2, ps_14.c0, ps_14.c1, ps_14.c2, ps_14.c3, ps_14.c4, ps_14.c5⟩ | with_reducible exact ⟨pa_21.c0, pa_21.c1, pa_21.c2, pa_21.c3, pa_21.c4, pa_21.c5, pb_21.c0, pb_21.c1, pb_21.c2, pb_21.c3, pb_21.c4, pb_21.c5, pz_21.c0, pz_21.c1, pz_21.c2, ps_15.c0, ps_15.c1, ps_15.c2, ps_15.c3, ps_15.c4, ps_15.c5⟩ | with_reducible exact ⟨pa_22.c0, pa_22.c1, pa_22.c2, pa_22.c3, pa_22.c4, pa_22.c5, pb_22.c0, pb_22.c1, pb_22.c2, pb_22.c3, pb_22.c4, pb_22.c5, pz_22.c0, pz_22.c1, pz_22.c2, ps_16.c0, ps_16.c1, ps_16.c2, ps_16.c3, ps_16.c4, ps_16.c5⟩ | with_reducible exact ⟨pa_23.c0, pa_23.c1, pa_23.c2, pa_23.c3, pa_23.c4, pa_23.c5, pb_23.c0, pb_23.c1, pb_23.c2, pb_23.c3, pb_23.c4, pb_23.c5, pz_23.c0, pz_23.c1, pz_23.c2, ps_17.c0, ps_17.c1, ps_17.c2, ps_17.c3, ps_17.c4, ps_17.c5⟩ | with_reducible exact ⟨pa_24.c0, pa_24.c1, pa_24.c2, pa_24.c3, pa_24.c4, pa_24.c5, pb_24.c0, pb_24.c1, pb_24.c2, pb_24.c3, pb_24.c4, pb_24.c5, pz_24.c0, pz_24.c1, pz_24.c2, ps_18.c0, ps_18.c1, ps_18.c2, ps_18.c3, ps_18.c4, ps_18.c5⟩ | fail)
      (first
        | (go_at_call 14; (with_reducible refine (sDist2_any 1 _ _ (1 + (1 + (1 + 1 + 2) + 2) + 2) _ _ _ (by omega) (by omega) f1x_15.q f1y_15.q f4x_10.q f4y_10.q).mono ?_); rintro e w19 ⟨m5, o5, n5, c5, p5, k5, d5, rfl, f5_0, hb19⟩; have hB_16 := hB_15.trans (hb19.mono hB_15.size); have pa_16 := pa_15.below hb19; have pb_16 := pb_15.below hb19; have pz_16 := pz_15.below hb19; have f1x_16 := f1x_15.below hb19; have f1y_16 := f1y_15.below hb19; have f2x_16 := f2x_15.below hb19; have f2y_16 := f2y_15.below hb19; have f3x_13 := f3x_12.below hb19; have f4x_11 := f4x_10.below hb19; have f4y_11 := f4y_10.below hb19; have ps_10 := ps_9.below hb19; clear hb19 hB_15 pa_15 pb_15 pz_15 f1x_15 f1y_15 f2x_15 f2y_15 f3x_12 f4x_10 f4y_10 ps_9)
        | (go_at_call 23; (with_reducible refine (qMul _ _ 1 1 _ _ _ (by omega) (by omega) f3x_13.q f3x_13.q).mono ?_); rintro e w20 ⟨m6, o6, n6, c6, p6, k6, d6, rfl, f6_0, hb20⟩; have hB_17 := hB_16.trans (hb20.mono hB_16.size); have pa_17 := pa_16.below hb20; have pb_17 := pb_16.below hb20; have pz_17 := pz_16.below hb20; have f1x_17 := f1x_16.below hb20; have f1y_17 := f1y_16.below hb20; have f2x_17 := f2x_16.below hb20; have f2y_17 := f2y_16.below hb20; have f3x_14 := f3x_13.below hb20; have f4x_12 := f4x_11.below hb20; have f4y_12 := f4y_11.below hb20; have ps_11 := ps_10.below hb20; have f5_1 := f5_0.below hb20; clear hb20 hB_16 pa_16 pb_16 pz_16 f1x_16 f1y_16 f2x_16 f2y_16 f3x_13 f4x_11 f4y_11 ps_10 f5_0)
        | (go_at_call 14; (with_reducible refine (sDist2_any 1 _ _ 1 _ _ _ (by omega) (by omega) f1x_17.q f1y_17.q f2x_17.q f2y_17.q).mono ?_); rintro e w21 ⟨m7, o7, n7, c7, p7, k7, d7, rfl, f7_0, hb21⟩; have hB_18 := hB_17.trans (hb21.mono hB_17.size); have pa_18 := pa_17.below hb21; have pb_18 := pb_17.below hb21; have pz_18 := pz_17.below hb21; have f1x_18 := f1x_17.below hb21; have f1y_18 := f1y_17.below hb21; have f2x_18 := f2x_17.below hb21; have f2y_18 := f2y_17.below hb21; have f3x_15 := f3x_14.below hb21; have f4x_13 := f4x_12.below hb21; have f4y_13 := f4y_12.below hb21; have ps_12 := ps_11.below hb21; have f5_2 := f5_1.below hb21; have f6_1 := f6_0.below hb21; clear hb21 hB_17 pa_17 pb_17 pz_17 f1x_17 f1y_17 f2x_17 f2y_17 f3x_14 f4x_12 f4y_12 ps_11 f5_1 f6_0)
        | (go_at_call 23; (with_reducible refine (qMul _ _ _ _ _ _ _ (by omega) (by omega) f6_1.q f7_0.q).mono ?_); rintro e w22 ⟨m8, o8, n8, c8, p8, k8, d8, rfl, f8_0, hb22⟩; have hB_19 := hB_18.trans (hb22.mono hB_18.size); have pa_19 := pa_18.below hb22; have pb_19 := pb_18.below hb22; have pz_19 := pz_18.below hb22; have f1x_19 := f1x_18.below hb22; have f1y_19 := f1y_18.below hb22; have f2x_19 := f2x_18.below hb22; have f2y_19 := f2y_18.below hb22; have f3x_16 := f3x_15.below hb22; have f4x_14 := f4x_13.below hb22; have f4y_14 := f4y_13.below hb22; have ps_13 := ps_12.below hb22; have f5_3 := f5_2.below hb22; have f6_2 := f6_1.below hb22; have f7_1 := f7_0.below hb22; clear hb22 hB_18 pa_18 pb_18 pz_18 f1x_18 f1y_18 f2x_18 f2y_18 f3x_15 f4x_13 f4y_13 ps_12 f5_2 f6_1 f7_0)
        | (go_at_call 16; (with_reducible refine (qSame_yes _ _ _ _ _ _ _ (by omega) (by omega) f5_3.q f8_0.q (along_dist _ _ _ _ _)).mono ?_); rintro e w23 ⟨rfl, hb23⟩; have hB_20 := hB_19.trans (hb23.mono hB_19.size); have pa_20 := pa_19.below hb23; have pb_20 := pb_19.below hb23; have pz_20 := pz_19.below hb23; have f1x_20 := f1x_19.below hb23; have f1y_20 := f1y_19.below hb23; have f2x_20 := f2x_19.below hb23; have f2y_20 := f2y_19.below hb23; have f3x_17 := f3x_16.below hb23; have f4x_15 := f4x_14.below hb23; have f4y_15 := f4y_14.below hb23; have ps_14 := ps_13.below hb23; have f5_4 := f5_3.below hb23; have f6_3 := f6_2.below hb23; have f7_2 := f7_1.below hb23; have f8_1 := f8_0.below hb23; clear hb23 hB_19 pa_19 pb_19 pz_19 f1x_19 f1y_19 f2x_19 f2y_19 f3x_16 f4x_14 f4y_14 ps_13 f5_3 f6_2 f7_1 f8_0)
        | (go_at_call 21; (with_reducible refine (fOf_any 1 (by omega) (by omega) _).mono ?_); rintro e w24 ⟨m9, o9, n9, c9, p9, k9, d9, rfl, f9_0, hb24⟩; have hB_21 := hB_20.trans (hb24.mono hB_20.size); have pa_21 := pa_20.below hb24; have pb_21 := pb_20.below hb24; have pz_21 := pz_20.below hb24; have f1x_21 := f1x_20.below hb24; have f1y_21 := f1y_20.below hb24; have f2x_21 := f2x_20.below hb24; have f2y_21 := f2y_20.below hb24; have f3x_18 := f3x_17.below hb24; have f4x_16 := f4x_15.below hb24; have f4y_16 := f4y_15.below hb24; have ps_15 := ps_14.below hb24; have f5_5 := f5_4.below hb24; have f6_4 := f6_3.below hb24; have f7_3 := f7_2.below hb24; have f8_2 := f8_1.below hb24; clear hb24 hB_20 pa_20 pb_20 pz_20 f1x_20 f1y_20 f2x_20 f2y_20 f3x_17 f4x_15 f4y_15 ps_14 f5_4 f6_3 f7_2 f8_1)
        | (go_at_call 24; (with_reducible refine (qSub _ _ 1 1 _ _ _ (by omega) (by omega) f9_0.q f3x_18.q).mono ?_); rintro e w25 ⟨m10, o10, n10, c10, p10, k10, d10, rfl, f10_0, hb25⟩; have hB_22 := hB_21.trans (hb25.mono hB_21.size); have pa_22 := pa_21.below hb25; have pb_22 := pb_21.below hb25; have pz_22 := pz_21.below hb25; have f1x_22 := f1x_21.below hb25; have f1y_22 := f1y_21.below hb25; have f2x_22 := f2x_21.below hb25; have f2y_22 := f2y_21.below hb25; have f3x_19 := f3x_18.below hb25; have f4x_17 := f4x_16.below hb25; have f4y_17 := f4y_16.below hb25; have ps_16 := ps_15.below hb25; have f5_6 := f5_5.below hb25; have f6_5 := f6_4.below hb25; have f7_4 := f7_3.below hb25; have f8_3 := f8_2.below hb25; have f9_1 := f9_0.below hb25; clear hb25 hB_21 pa_21 pb_21 pz_21 f1x_21 f1y_21 f2x_21 f2y_21 f3x_18 f4x_16 f4y_16 ps_15 f5_5 f6_4 f7_3 f8_2 f9_0)
        | (go_at_call 20; (with_reducible refine (sAlong_any 1 _ _ 1 _ _ (1 + 1 + 2) _ _ (by omega) (by omega) (by omega) f2x_22.q f2y_22.q f1x_22.q f1y_22.q f10_0.q).mono ?_); rintro e w26 ⟨m11x, o11x, n11x, c11x, p11x, k11x, d11x, m11y, o11y, n11y, c11y, p11y, k11y, d11y, rfl, f11x_0, f11y_0, hb26⟩; have hB_23 := hB_22.trans (hb26.mono hB_22.size); have pa_23 := pa_22.below hb26; have pb_23 := pb_22.below hb26; have pz_23 := pz_22.below hb26; have f1x_23 := f1x_22.below hb26; have f1y_23 := f1y_22.below hb26; have f2x_23 := f2x_22.below hb26; have f2y_23 := f2y_22.below hb26; have f3x_20 := f3x_19.below hb26; have f4x_18 := f4x_17.below hb26; have f4y_18 := f4y_17.below hb26; have ps_17 := ps_16.below hb26; have f5_7 := f5_6.below hb26; have f6_6 := f6_5.below hb26; have f7_5 := f7_4.below hb26; have f8_4 := f8_3.below hb26; have f9_2 := f9_1.below hb26; have f10_1 := f10_0.below hb26; clear hb26 hB_22 pa_22 pb_22 pz_22 f1x_22 f1y_22 f2x_22 f2y_22 f3x_19 f4x_17 f4y_17 ps_16 f5_6 f6_5 f7_4 f8_3 f9_1 f10_0)
        | (go_at_call 17; (with_reducible refine (sSame_any _ _ _ _ _ _ _ (by omega) (by omega) f11x_0.q f11y_0.q f4x_18.q f4y_18.q true ⟨fun _ => rfl, fun _ => ⟨along2 _ _ _, along2 _ _ _⟩⟩).mono ?_); rintro e w27 ⟨rfl, hb27⟩; have hB_24 := hB_23.trans (hb27.mono hB_23.size); have pa_24 := pa_23.below hb27; have pb_24 := pb_23.below hb27; have pz_24 := pz_23.below hb27; have f1x_24 := f1x_23.below hb27; have f1y_24 := f1y_23.below hb27; have f2x_24 := f2x_23.below hb27; have f2y_24 := f2y_23.below hb27; have f3x_21 := f3x_20.below hb27; have f4x_19 := f4x_18.below hb27; have f4y_19 := f4y_18.below hb27; have ps_18 := ps_17.below hb27; have f5_8 := f5_7.below hb27; have f6_7 := f6_6.below hb27; have f7_6 := f7_5.below hb27; have f8_5 := f8_4.below hb27; have f9_3 := f9_2.below hb27; have f10_2 := f10_1.below hb27; have f11x_1 := f11x_0.below hb27; have f11y_1 := f11y_0.below hb27; clear hb27 hB_23 pa_23 pb_23 pz_23 f1x_23 f1y_23 f2x_23 f2y_23 f3x_20 f4x_18 f4y_18 ps_17 f5_7 f6_6 f7_5 f8_4 f9_2 f10_1 f11x_0 f11y_0))
    clear f5_8 f6_7 f7_6 f8_5 f9_3 f10_2 f11x_1 f11y_1
    go_wp2
    rcases HCASE.out with ⟨g1, g2, hin⟩ | ⟨g1, g2, hin⟩ | ⟨g1, hin⟩
    · have HIN := Lib.hid hin; clear hin HCASE
      have hB_25 := hB_24.drew'
      have pa_25 := pa_24.drew
      have pb_25 := pb_24.drew
      have pz_25 := pz_24.drew
      have f1x_25 := f1x_24.drew
      have f1y_25 := f1y_24.drew
      have f2x_25 := f2x_24.drew
      have f2y_25 := f2y_24.drew
      have f3x_22 := f3x_21.drew
      have f4x_20 := f4x_19.drew
      have f4y_20 := f4y_19.drew
      have ps_19 := ps_18.drew
      refine wp_region_noPanic ?_
      refine wp_region_held_drew (S := fun w' => w'.cell? ⟨w.heap.size + 1 + 1, 0, none⟩ = some (.bool m3x) ∧ w'.cell? ⟨w.heap.size + 1 + 1, 1, none⟩ = some (.slice o3x n3x c3x) ∧ w'.cell? ⟨w.heap.size + 1 + 1, 2, none⟩ = some (.slice p3x k3x d3x)) (by kernel_rfl) (⟨pz_25.c0, pz_25.c1, pz_25.c2⟩) (fun hHeld => ?_)
      refine reg_take 0 ?_ ?_ ?_ (by kernel_rfl) (by kernel_rfl) (by kernel_rfl) (fun _ _ _ h => h) ?_ ?_ (by assumption) ?_
      rotate_left 2
      · simp only [List.getElem?_toArray, List.getElem?_cons_zero]; exact rfl
      · rfl
      · intro w hSw; (try dsimp only at hSw); go_simp; try with_reducible rfl
      try simp only [Act.put]
      try simp only [List.setIfInBounds_toArray, List.set_cons_zero, List.set_cons_succ]
      refine reg_call 1 ?_ (by kernel_rfl) ?_ (fun K hK => ?_)
      rotate_left 1
      · simp only [List.getElem?_toArray, List.getElem?_cons_succ, List.getElem?_cons_zero]; exact rfl
      go_simp
      refine (qSign _ 1 _ _ (by omega) f3x_22.q s HS.out).mono ?_
      rintro e w28 ⟨rfl, hb28⟩
      have hB_26 := hB_25.trans (hb28.mono hB_25.size)
      have pa_26 := pa_25.below hb28
      have pb_26 := pb_25.below hb28
      have pz_26 := pz_25.below hb28
      have f1x_26 := f1x_25.below hb28
      have f1y_26 := f1y_25.below hb28
      have f2x_26 := f2x_25.below hb28
      have f2y_26 := f2y_25.below hb28
      have f3x_23 := f3x_22.below hb28
      have f4x_21 := f4x_20.below hb28
      have f4y_21 := f4y_20.below hb28
      have ps_20 := ps_19.below hb28
      clear hb28 hB_25 pa_25 pb_25 pz_25 f1x_25 f1y_25 f2x_25 f2y_25 f3x_22 f4x_20 f4y_20 ps_19
      go_wp2_with fail
      refine hK.out _ _ ⟨pz_26.c0, pz_26.c1, pz_26.c2⟩ (fun hHeld => ?_)
      clear hK K
      try simp only [Act.put]
      try simp only [List.setIfInBounds_toArray, List.set_cons_zero, List.set_cons_succ]
      refine reg_take 2 ?_ ?_ ?_ (by kernel_rfl) (by kernel_rfl) (by kernel_rfl) (fun _ _ _ h => h) ?_ ?_ (by assumption) ?_
      rotate_left 2
      · simp only [List.getElem?_toArray, List.getElem?_cons_succ, List.getElem?_cons_zero]; exact rfl
      · rfl
      · intro w hSw; (try dsimp only at hSw); go_simp; try with_reducible rfl
      try simp only [Act.put]
      try simp only [List.setIfInBounds_toArray, List.set_cons_zero, List.set_cons_succ]
      refine reg_take 3 ?_ ?_ ?_ (by kernel_rfl) (by kernel_rfl) (by kernel_rfl) (fun _ _ _ h => h) ?_ ?_ (by assumption) ?_
      rotate_left 2
      · simp only [List.getElem?_toArray, List.getElem?_cons_succ, List.getElem?_cons_zero]; exact rfl
      · rfl
      · intro w hSw; (try dsimp only at hSw); go_simp; try with_reducible rfl
      try simp only [Act.put]
      try simp only [List.setIfInBounds_toArray, List.set_cons_zero, List.set_cons_succ]
      refine reg_take 4 ?_ ?_ ?_ (by kernel_rfl) (by kernel_rfl) (by kernel_rfl) (fun _ _ _ h => h) ?_ ?_ (by assumption) ?_
      rotate_left 2
      · simp only [List.getElem?_toArray, List.getElem?_cons_succ, List.getElem?_cons_zero]; exact rfl
      · rfl
      · intro w hSw; (try dsimp only at hSw); go_simp; try with_reducible rfl
      try simp only [Act.put]
      try simp only [List.setIfInBounds_toArray, List.set_cons_zero, List.set_cons_succ]
      refine reg_call 5 ?_ (by kernel_rfl) ?_ (fun K hK => ?_)
      rotate_left 1
      · simp only [List.getElem?_toArray, List.getElem?_cons_succ, List.getElem?_cons_zero]; exact rfl
      go_simp
      refine (fOf_any 1 (by omega) (by omega) _).mono ?_
      rintro e w29 ⟨m5, o5, n5, c5, p5, k5, d5, rfl, f5_0, hb29⟩
      have hB_27 := hB_26.trans (hb29.mono hB_26.size)
      have pa_27 := pa_26.below hb29
      have pb_27 := pb_26.below hb29
      have pz_27 := pz_26.below hb29
      have f1x_27 := f1x_26.below hb29
      have f1y_27 := f1y_26.below hb29
      have f2x_27 := f2x_26.below hb29
      have f2y_27 := f2y_26.below hb29
      have f3x_24 := f3x_23.below hb29
      have f4x_22 := f4x_21.below hb29
      have f4y_22 := f4y_21.below hb29
      have ps_21 := ps_20.below hb29
      clear hb29 hB_26 pa_26 pb_26 pz_26 f1x_26 f1y_26 f2x_26 f2y_26 f3x_23 f4x_21 f4y_21 ps_20
      go_wp2_with fail
      refine hK.out _ _ ⟨pz_27.c0, pz_27.c1, pz_27.c2⟩ (fun hHeld => ?_)
      clear hK K
      try simp only [Act.put]
      try simp only [List.setIfInBounds_toArray, List.set_cons_zero, List.set_cons_succ]
      refine reg_call 6 ?_ (by kernel_rfl) ?_ (fun K hK => ?_)
      rotate_left 1
      · simp only [List.getElem?_toArray, List.getElem?_cons_succ, List.getElem?_cons_zero]; exact rfl
      go_simp
      refine (qCmp _ _ 1 1 _ _ _ (by omega) (by omega) f3x_24.q f5_0.q c HC.out).mono ?_
      rintro e w30 ⟨rfl, hb30⟩
      have hB_28 := hB_27.trans (hb30.mono hB_27.size)
      have pa_28 := pa_27.below hb30
      have pb_28 := pb_27.below hb30
      have pz_28 := pz_27.below hb30
      have f1x_28 := f1x_27.below hb30
      have f1y_28 := f1y_27.below hb30
      have f2x_28 := f2x_27.below hb30
      have f2y_28 := f2y_27.below hb30
      have f3x_25 := f3x_24.below hb30
      have f4x_23 := f4x_22.below hb30
      have f4y_23 := f4y_22.below hb30
      have ps_22 := ps_21.below hb30
      have f5_1 := f5_0.below hb30
      clear hb30 hB_27 pa_27 pb_27 pz_27 f1x_27 f1y_27 f2x_27 f2y_27 f3x_24 f4x_22 f4y_22 ps_21 f5_0
      go_wp2_with fail
      refine hK.out _ _ ⟨pz_28.c0, pz_28.c1, pz_28.c2⟩ (fun hHeld => ?_)
      clear hK K
      try simp only [Act.put]
      try simp only [List.setIfInBounds_toArray, List.set_cons_zero, List.set_cons_succ]
      refine reg_take 7 ?_ ?_ ?_ (by kernel_rfl) (by kernel_rfl) (by kernel_rfl) (fun _ _ _ h => h) ?_ ?_ (by assumption) ?_
      rotate_left 2
      · simp only [List.getElem?_toArray, List.getElem?_cons_succ, List.getElem?_cons_zero]; exact rfl
      · rfl
      · intro w hSw; (try dsimp only at hSw); go_simp; try with_reducible rfl
      try simp only [Act.put]
      try simp only [List.setIfInBounds_toArray, List.set_cons_zero, List.set_cons_succ]
      refine reg_take 8 ?_ ?_ ?_ (by kernel_rfl) (by kernel_rfl) (by kernel_rfl) (fun _ _ _ h => h) ?_ ?_ (by assumption) ?_
      rotate_left 2
      · simp only [List.getElem?_toArray, List.getElem?_cons_succ, List.getElem?_cons_zero]; exact rfl
      · rfl
      · intro w hSw; (try dsimp only at hSw); go_simp; try with_reducible rfl
      try simp only [Act.put]
      try simp only [List.setIfInBounds_toArray, List.set_cons_zero, List.set_cons_succ]
      refine reg_take 9 ?_ ?_ ?_ (by kernel_rfl) (by kernel_rfl) (by kernel_rfl) (fun _ _ _ h => h) ?_ ?_ (by assumption) ?_
      rotate_left 2
      · simp only [List.getElem?_toArray, List.getElem?_cons_succ, List.getElem?_cons_zero]; exact rfl
      · rfl
      · intro w hSw; (try dsimp only at hSw); go_simp; try with_reducible rfl
      try simp only [Act.put]
      try simp only [List.setIfInBounds_toArray, List.set_cons_zero, List.set_cons_succ]
      refine reg_skip 10 ?_ ?_ (by kernel_rfl) (by kernel_rfl) (by kernel_rfl) (fun _ _ _ h => h) ?_ (by assumption) ?_
      rotate_left 1
      · simp only [List.getElem?_toArray, List.getElem?_cons_succ, List.getElem?_cons_zero]; exact rfl
      · rfl
      try simp only [Act.put]
      try simp only [List.setIfInBounds_toArray, List.set_cons_zero, List.set_cons_succ]
      refine reg_skip 11 ?_ ?_ (by kernel_rfl) (by kernel_rfl) (by kernel_rfl) (fun _ _ _ h => h) ?_ (by assumption) ?_
      rotate_left 1
      · simp only [List.getElem?_toArray, List.getElem?_cons_succ, List.getElem?_cons_zero]; exact rfl
      · rfl
      try simp only [Act.put]
      try simp only [List.setIfInBounds_toArray, List.set_cons_zero, List.set_cons_succ]
      refine reg_skip 12 ?_ ?_ (by kernel_rfl) (by kernel_rfl) (by kernel_rfl) (fun _ _ _ h => h) ?_ (by assumption) ?_
      rotate_left 1
      · simp only [List.getElem?_toArray, List.getElem?_cons_succ, List.getElem?_cons_zero]; exact rfl
      · rfl
      try simp only [Act.put]
      try simp only [List.setIfInBounds_toArray, List.set_cons_zero, List.set_cons_succ]
      refine reg_take 13 ?_ ?_ ?_ (by kernel_rfl) (by kernel_rfl) (by kernel_rfl) (fun _ _ _ h => h) ?_ ?_ (by assumption) ?_
      rotate_left 2
      · simp only [List.getElem?_toArray, List.getElem?_cons_succ, List.getElem?_cons_zero]; exact rfl
      · rfl
      · intro w hSw; (try dsimp only at hSw); go_simp; try with_reducible rfl
      try simp only [Act.put]
      try simp only [List.setIfInBounds_toArray, List.set_cons_zero, List.set_cons_succ]
      refine reg_take 14 ?_ ?_ ?_ (by kernel_rfl) (by kernel_rfl) (by kernel_rfl) (fun _ _ _ h => h) ?_ ?_ (by assumption) ?_
      rotate_left 2
      · simp only [List.getElem?_toArray, List.getElem?_cons_succ, List.getElem?_cons_zero]; exact rfl
      · rfl
      · intro w hSw; (try dsimp only at hSw); go_simp; try with_reducible rfl
      try simp only [Act.put]
      try simp only [List.setIfInBounds_toArray, List.set_cons_zero, List.set_cons_succ]
      refine wpAnyH_done (by kernel_rfl) ?_ _
      refine NoPanic.normal ?_
      clear f5_1
      obtain ⟨pse0, pse1, pse2, pse3, pse4, pse5, pse6, pse7, pse8, pse9, pse10, pse11⟩ := ps_22.open6
      obtain ⟨pae0, pae1, pae2, pae3, pae4, pae5, pae6, pae7, pae8, pae9, pae10, pae11⟩ := pa_28.open6
      obtain ⟨pbe0, pbe1, pbe2, pbe3, pbe4, pbe5, pbe6, pbe7, pbe8, pbe9, pbe10, pbe11⟩ := pb_28.open6
      go_wp2_with fail
      refine (sOn_any (1 + (1 + (1 + 1 + 2) + 2) + 2) _ _ 1 _ _ 1 _ _ _ (by omega) (by omega) (by omega) f4x_23.q f4y_23.q f1x_28.q f1y_28.q f2x_28.q f2y_28.q true (along_on _ ⟨fun _ => .inl HIN.out, fun _ => rfl⟩)).mono ?_
      rintro e w31 ⟨rfl, hb31⟩
      clear pse0 pse1 pse2 pse3 pse4 pse5 pse6 pse7 pse8 pse9 pse10 pse11 pae0 pae1 pae2 pae3 pae4 pae5 pae6 pae7 pae8 pae9 pae10 pae11 pbe0 pbe1 pbe2 pbe3 pbe4 pbe5 pbe6 pbe7 pbe8 pbe9 pbe10 pbe11
      have hB_29 := hB_28.trans (hb31.mono hB_28.size)
      have pa_29 := pa_28.below hb31
      have pb_29 := pb_28.below hb31
      have pz_29 := pz_28.below hb31
      have f1x_29 := f1x_28.below hb31
      have f1y_29 := f1y_28.below hb31
      have f2x_29 := f2x_28.below hb31
      have f2y_29 := f2y_28.below hb31
      have f3x_26 := f3x_25.below hb31
      have f4x_24 := f4x_23.below hb31
      have f4y_24 := f4y_23.below hb31
      have ps_23 := ps_22.below hb31
      clear hb31 hB_28 pa_28 pb_28 pz_28 f1x_28 f1y_28 f2x_28 f2y_28 f3x_25 f4x_23 f4y_23 ps_22
      obtain ⟨pse0, pse1, pse2, pse3, pse4, pse5, pse6, pse7, pse8, pse9, pse10, pse11⟩ := ps_23.open6
      obtain ⟨pae0, pae1, pae2, pae3, pae4, pae5, pae6, pae7, pae8, pae9, pae10, pae11⟩ := pa_29.open6
      obtain ⟨pbe0, pbe1, pbe2, pbe3, pbe4, pbe5, pbe6, pbe7, pbe8, pbe9, pbe10, pbe11⟩ := pb_29.open6
      go_wp2_with fail
      refine (sOn_any (1 + (1 + (1 + 1 + 2) + 2) + 2) _ _ 1 _ _ 1 _ _ _ (by omega) (by omega) (by omega) f4x_24.q f4y_24.q f2x_29.q f2y_29.q f1x_29.q f1y_29.q true ((onQ_back _ _ _ _ _ _).trans (along_on _ ⟨fun _ => .inl HIN.out, fun _ => rfl⟩))).mono ?_
      rintro e w32 ⟨rfl, hb32⟩
      clear pse0 pse1 pse2 pse3 pse4 pse5 pse6 pse7 pse8 pse9 pse10 pse11 pae0 pae1 pae2 pae3 pae4 pae5 pae6 pae7 pae8 pae9 pae10 pae11 pbe0 pbe1 pbe2 pbe3 pbe4 pbe5 pbe6 pbe7 pbe8 pbe9 pbe10 pbe11
      have hB_30 := hB_29.trans (hb32.mono hB_29.size)
      have pa_30 := pa_29.below hb32
      have pb_30 := pb_29.below hb32
      have pz_30 := pz_29.below hb32
      have f1x_30 := f1x_29.below hb32
      have f1y_30 := f1y_29.below hb32
      have f2x_30 := f2x_29.below hb32
      have f2y_30 := f2y_29.below hb32
      have f3x_27 := f3x_26.below hb32
      have f4x_25 := f4x_24.below hb32
      have f4y_25 := f4y_24.below hb32
      have ps_24 := ps_23.below hb32
      clear hb32 hB_29 pa_29 pb_29 pz_29 f1x_29 f1y_29 f2x_29 f2y_29 f3x_26 f4x_24 f4y_24 ps_23
      obtain ⟨pse0, pse1, pse2, pse3, pse4, pse5, pse6, pse7, pse8, pse9, pse10, pse11⟩ := ps_24.open6
      obtain ⟨pae0, pae1, pae2, pae3, pae4, pae5, pae6, pae7, pae8, pae9, pae10, pae11⟩ := pa_30.open6
      obtain ⟨pbe0, pbe1, pbe2, pbe3, pbe4, pbe5, pbe6, pbe7, pbe8, pbe9, pbe10, pbe11⟩ := pb_30.open6
      go_wp2
      go_ret
      exact ⟨rfl, hB_30⟩
    · have HIN := Lib.hid hin; clear hin HCASE
      obtain ⟨q, hq⟩ : ∃ q : Bool, (tameQ Xax Dax = tameQ Xbx Dbx ∧ tameQ Xay Day = tameQ Xby Dby) ↔ q = true := ⟨decide _, decide_eq_true_iff.symm⟩
      have HQ := Lib.hid hq; clear hq
      have hB_25 := hB_24.drew'
      have pa_25 := pa_24.drew
      have pb_25 := pb_24.drew
      have pz_25 := pz_24.drew
      have f1x_25 := f1x_24.drew
      have f1y_25 := f1y_24.drew
      have f2x_25 := f2x_24.drew
      have f2y_25 := f2y_24.drew
      have f3x_22 := f3x_21.drew
      have f4x_20 := f4x_19.drew
      have f4y_20 := f4y_19.drew
      have ps_19 := ps_18.drew
      clear hB_24 pa_24 pb_24 pz_24 f1x_24 f1y_24 f2x_24 f2y_24 f3x_21 f4x_19 f4y_19 ps_18
      go_region_held3 (fun w' => w'.cell? ⟨w.heap.size + 1 + 1, 0, none⟩ = some (.bool m3x) ∧ w'.cell? ⟨w.heap.size + 1 + 1, 1, none⟩ = some (.slice o3x n3x c3x) ∧ w'.cell? ⟨w.heap.size + 1 + 1, 2, none⟩ = some (.slice p3x k3x d3x) ∧ w'.cell? ⟨w.heap.size, 0, none⟩ = some (.bool m1x) ∧ w'.cell? ⟨w.heap.size, 1, none⟩ = some (.slice o1x n1x c1x) ∧ w'.cell? ⟨w.heap.size, 2, none⟩ = some (.slice p1x k1x d1x) ∧ w'.cell? ⟨w.heap.size, 3, none⟩ = some (.bool m1y) ∧ w'.cell? ⟨w.heap.size, 4, none⟩ = some (.slice o1y n1y c1y) ∧ w'.cell? ⟨w.heap.size, 5, none⟩ = some (.slice p1y k1y d1y) ∧ w'.cell? ⟨w.heap.size + 1, 0, none⟩ = some (.bool m2x) ∧ w'.cell? ⟨w.heap.size + 1, 1, none⟩ = some (.slice o2x n2x c2x) ∧ w'.cell? ⟨w.heap.size + 1, 2, none⟩ = some (.slice p2x k2x d2x) ∧ w'.cell? ⟨w.heap.size + 1, 3, none⟩ = some (.bool m2y) ∧ w'.cell? ⟨w.heap.size + 1, 4, none⟩ = some (.slice o2y n2y c2y) ∧ w'.cell? ⟨w.heap.size + 1, 5, none⟩ = some (.slice p2y k2y d2y))
        (first | with_reducible exact ⟨pz_25.c0, pz_25.c1, pz_25.c2, pa_25.c0, pa_25.c1, pa_25.c2, pa_25.c3, pa_25.c4, pa_25.c5, pb_25.c0, pb_25.c1, pb_25.c2, pb_25.c3, pb_25.c4, pb_25.c5⟩ | with_reducible exact ⟨pz_26.c0, pz_26.c1, pz_26.c2, pa_26.c0, pa_26.c1, pa_26.c2, pa_26.c3, pa_26.c4, pa_26.c5, pb_26.c0, pb_26.c1, pb_26.c2, pb_26.c3, pb_26.c4, pb_26.c5⟩ | with_reducible exact ⟨pz_27.c0, pz_27.c1, pz_27.c2, pa_27.c0, pa_27.c1, pa_27.c2, pa_27.c3, pa_27.c4, pa_27.c5, pb_27.c0, pb_27.c1, pb_27.c2, pb_27.c3, pb_27.c4, pb_27.c5⟩ | with_reducible exact ⟨pz_28.c0, pz_28.c1, pz_28.c2, pa_28.c0, pa_28.c1, pa_28.c2, pa_28.c3, pa_28.c4, pa_28.c5, pb_28.c0, pb_28.c1, pb_28.c2, pb_28.c3, pb_28.c4, pb_28.c5⟩ | with_reducible exact ⟨pz_29.c0, pz_29.c1, pz_29.c2, pa_29.c0, pa_29.c1, pa_29.c2, pa_29.c3, pa_29.c4, pa_29.c5, pb_29.c0, pb_29.c1, pb_29.c2, pb_29.c3, pb_29.c4, pb_29.c5⟩ | fail)
        (first
          | (go_at_call 13; (with_reducible refine (qSign _ 1 _ _ (by omega) f3x_22.q s HS.out).mono ?_); rintro e w28 ⟨rfl, hb28⟩; have hB_26 := hB_25.trans (hb28.mono hB_25.size); have pa_26 := pa_25.below hb28; have pb_26 := pb_25.below hb28; have pz_26 := pz_25.below hb28; have f1x_26 := f1x_25.below hb28; have f1y_26 := f1y_25.below hb28; have f2x_26 := f2x_25.below hb28; have f2y_26 := f2y_25.below hb28; have f3x_23 := f3x_22.below hb28; have f4x_21 := f4x_20.below hb28; have f4y_21 := f4y_20.below hb28; have ps_20 := ps_19.below hb28; clear hb28 hB_25 pa_25 pb_25 pz_25 f1x_25 f1y_25 f2x_25 f2y_25 f3x_22 f4x_20 f4y_20 ps_19)
          | (go_at_call 21; (with_reducible refine (fOf_any 1 (by omega) (by omega) _).mono ?_); rintro e w29 ⟨m5, o5, n5, c5, p5, k5, d5, rfl, f5_0, hb29⟩; have hB_27 := hB_26.trans (hb29.mono hB_26.size); have pa_27 := pa_26.below hb29; have pb_27 := pb_26.below hb29; have pz_27 := pz_26.below hb29; have f1x_27 := f1x_26.below hb29; have f1y_27 := f1y_26.below hb29; have f2x_27 := f2x_26.below hb29; have f2y_27 := f2y_26.below hb29; have f3x_24 := f3x_23.below hb29; have f4x_22 := f4x_21.below hb29; have f4y_22 := f4y_21.below hb29; have ps_21 := ps_20.below hb29; clear hb29 hB_26 pa_26 pb_26 pz_26 f1x_26 f1y_26 f2x_26 f2y_26 f3x_23 f4x_21 f4y_21 ps_20)
          | (go_at_call 25; (with_reducible refine (qCmp _ _ 1 1 _ _ _ (by omega) (by omega) f3x_24.q f5_0.q c HC.out).mono ?_); rintro e w30 ⟨rfl, hb30⟩; have hB_28 := hB_27.trans (hb30.mono hB_27.size); have pa_28 := pa_27.below hb30; have pb_28 := pb_27.below hb30; have pz_28 := pz_27.below hb30; have f1x_28 := f1x_27.below hb30; have f1y_28 := f1y_27.below hb30; have f2x_28 := f2x_27.below hb30; have f2y_28 := f2y_27.below hb30; have f3x_25 := f3x_24.below hb30; have f4x_23 := f4x_22.below hb30; have f4y_23 := f4y_22.below hb30; have ps_22 := ps_21.below hb30; have f5_1 := f5_0.below hb30; clear hb30 hB_27 pa_27 pb_27 pz_27 f1x_27 f1y_27 f2x_27 f2y_27 f3x_24 f4x_22 f4y_22 ps_21 f5_0)
          | (go_at_call 17; (with_reducible refine (sSame_any 1 _ _ 1 _ _ _ (by omega) (by omega) f1x_28.q f1y_28.q f2x_28.q f2y_28.q q HQ.out).mono ?_); rintro e w31 ⟨rfl, hb31⟩; have hB_29 := hB_28.trans (hb31.mono hB_28.size); have pa_29 := pa_28.below hb31; have pb_29 := pb_28.below hb31; have pz_29 := pz_28.below hb31; have f1x_29 := f1x_28.below hb31; have f1y_29 := f1y_28.below hb31; have f2x_29 := f2x_28.below hb31; have f2y_29 := f2y_28.below hb31; have f3x_26 := f3x_25.below hb31; have f4x_24 := f4x_23.below hb31; have f4y_24 := f4y_23.below hb31; have ps_23 := ps_22.below hb31; have f5_2 := f5_1.below hb31; clear hb31 hB_28 pa_28 pb_28 pz_28 f1x_28 f1y_28 f2x_28 f2y_28 f3x_25 f4x_23 f4y_23 ps_22 f5_1))
      clear f5_2
      obtain ⟨pse0, pse1, pse2, pse3, pse4, pse5, pse6, pse7, pse8, pse9, pse10, pse11⟩ := ps_23.open6
      obtain ⟨pae0, pae1, pae2, pae3, pae4, pae5, pae6, pae7, pae8, pae9, pae10, pae11⟩ := pa_29.open6
      obtain ⟨pbe0, pbe1, pbe2, pbe3, pbe4, pbe5, pbe6, pbe7, pbe8, pbe9, pbe10, pbe11⟩ := pb_29.open6
      go_wp2_with fail
      refine (sOn_any (1 + (1 + (1 + 1 + 2) + 2) + 2) _ _ 1 _ _ 1 _ _ _ (by omega) (by omega) (by omega) f4x_24.q f4y_24.q f1x_29.q f1y_29.q f2x_29.q f2y_29.q q (along_on _ ⟨fun k => .inr (HQ.out.2 k), fun k => by rcases k with k | k; exact absurd k HIN.out; exact HQ.out.1 k⟩)).mono ?_
      rintro e w32 ⟨rfl, hb32⟩
      clear pse0 pse1 pse2 pse3 pse4 pse5 pse6 pse7 pse8 pse9 pse10 pse11 pae0 pae1 pae2 pae3 pae4 pae5 pae6 pae7 pae8 pae9 pae10 pae11 pbe0 pbe1 pbe2 pbe3 pbe4 pbe5 pbe6 pbe7 pbe8 pbe9 pbe10 pbe11
      have hB_30 := hB_29.trans (hb32.mono hB_29.size)
      have pa_30 := pa_29.below hb32
      have pb_30 := pb_29.below hb32
      have pz_30 := pz_29.below hb32
      have f1x_30 := f1x_29.below hb32
      have f1y_30 := f1y_29.below hb32
      have f2x_30 := f2x_29.below hb32
      have f2y_30 := f2y_29.below hb32
      have f3x_27 := f3x_26.below hb32
      have f4x_25 := f4x_24.below hb32
      have f4y_25 := f4y_24.below hb32
      have ps_24 := ps_23.below hb32
      clear hb32 hB_29 pa_29 pb_29 pz_29 f1x_29 f1y_29 f2x_29 f2y_29 f3x_26 f4x_24 f4y_24 ps_23
      obtain ⟨pse0, pse1, pse2, pse3, pse4, pse5, pse6, pse7, pse8, pse9, pse10, pse11⟩ := ps_24.open6
      obtain ⟨pae0, pae1, pae2, pae3, pae4, pae5, pae6, pae7, pae8, pae9, pae10, pae11⟩ := pa_30.open6
      obtain ⟨pbe0, pbe1, pbe2, pbe3, pbe4, pbe5, pbe6, pbe7, pbe8, pbe9, pbe10, pbe11⟩ := pb_30.open6
      go_wp2_with fail
      refine (sOn_any (1 + (1 + (1 + 1 + 2) + 2) + 2) _ _ 1 _ _ 1 _ _ _ (by omega) (by omega) (by omega) f4x_25.q f4y_25.q f2x_30.q f2y_30.q f1x_30.q f1y_30.q q ((onQ_back _ _ _ _ _ _).trans (along_on _ ⟨fun k => .inr (HQ.out.2 k), fun k => by rcases k with k | k; exact absurd k HIN.out; exact HQ.out.1 k⟩))).mono ?_
      rintro e w33 ⟨rfl, hb33⟩
      clear pse0 pse1 pse2 pse3 pse4 pse5 pse6 pse7 pse8 pse9 pse10 pse11 pae0 pae1 pae2 pae3 pae4 pae5 pae6 pae7 pae8 pae9 pae10 pae11 pbe0 pbe1 pbe2 pbe3 pbe4 pbe5 pbe6 pbe7 pbe8 pbe9 pbe10 pbe11
      have hB_31 := hB_30.trans (hb33.mono hB_30.size)
      have pa_31 := pa_30.below hb33
      have pb_31 := pb_30.below hb33
      have pz_31 := pz_30.below hb33
      have f1x_31 := f1x_30.below hb33
      have f1y_31 := f1y_30.below hb33
      have f2x_31 := f2x_30.below hb33
      have f2y_31 := f2y_30.below hb33
      have f3x_28 := f3x_27.below hb33
      have f4x_26 := f4x_25.below hb33
      have f4y_26 := f4y_25.below hb33
      have ps_25 := ps_24.below hb33
      clear hb33 hB_30 pa_30 pb_30 pz_30 f1x_30 f1y_30 f2x_30 f2y_30 f3x_27 f4x_25 f4y_25 ps_24
      obtain ⟨pse0, pse1, pse2, pse3, pse4, pse5, pse6, pse7, pse8, pse9, pse10, pse11⟩ := ps_25.open6
      obtain ⟨pae0, pae1, pae2, pae3, pae4, pae5, pae6, pae7, pae8, pae9, pae10, pae11⟩ := pa_31.open6
      obtain ⟨pbe0, pbe1, pbe2, pbe3, pbe4, pbe5, pbe6, pbe7, pbe8, pbe9, pbe10, pbe11⟩ := pb_31.open6
      go_wp2
      go_ret
      exact ⟨rfl, hB_31⟩
    · have HIN := Lib.hid hin; clear hin HCASE
      obtain ⟨q, hq⟩ : ∃ q : Bool, (tameQ Xax Dax = tameQ Xbx Dbx ∧ tameQ Xay Day = tameQ Xby Dby) ↔ q = true := ⟨decide _, decide_eq_true_iff.symm⟩
      have HQ := Lib.hid hq; clear hq
      have hB_25 := hB_24.drew'
      have pa_25 := pa_24.drew
      have pb_25 := pb_24.drew
      have pz_25 := pz_24.drew
      have f1x_25 := f1x_24.drew
      have f1y_25 := f1y_24.drew
      have f2x_25 := f2x_24.drew
      have f2y_25 := f2y_24.drew
      have f3x_22 := f3x_21.drew
      have f4x_20 := f4x_19.drew
      have f4y_20 := f4y_19.drew
      have ps_19 := ps_18.drew
      refine wp_region_noPanic ?_
      refine wp_region_held_drew (S := fun w' => w'.cell? ⟨w.heap.size + 1 + 1, 0, none⟩ = some (.bool m3x) ∧ w'.cell? ⟨w.heap.size + 1 + 1, 1, none⟩ = some (.slice o3x n3x c3x) ∧ w'.cell? ⟨w.heap.size + 1 + 1, 2, none⟩ = some (.slice p3x k3x d3x) ∧ w'.cell? ⟨w.heap.size, 0, none⟩ = some (.bool m1x) ∧ w'.cell? ⟨w.heap.size, 1, none⟩ = some (.slice o1x n1x c1x) ∧ w'.cell? ⟨w.heap.size, 2, none⟩ = some (.slice p1x k1x d1x) ∧ w'.cell? ⟨w.heap.size, 3, none⟩ = some (.bool m1y) ∧ w'.cell? ⟨w.heap.size, 4, none⟩ = some (.slice o1y n1y c1y) ∧ w'.cell? ⟨w.heap.size, 5, none⟩ = some (.slice p1y k1y d1y) ∧ w'.cell? ⟨w.heap.size + 1, 0, none⟩ = some (.bool m2x) ∧ w'.cell? ⟨w.heap.size + 1, 1, none⟩ = some (.slice o2x n2x c2x) ∧ w'.cell? ⟨w.heap.size + 1, 2, none⟩ = some (.slice p2x k2x d2x) ∧ w'.cell? ⟨w.heap.size + 1, 3, none⟩ = some (.bool m2y) ∧ w'.cell? ⟨w.heap.size + 1, 4, none⟩ = some (.slice o2y n2y c2y) ∧ w'.cell? ⟨w.heap.size + 1, 5, none⟩ = some (.slice p2y k2y d2y)) (by kernel_rfl) (⟨pz_25.c0, pz_25.c1, pz_25.c2, pa_25.c0, pa_25.c1, pa_25.c2, pa_25.c3, pa_25.c4, pa_25.c5, pb_25.c0, pb_25.c1, pb_25.c2, pb_25.c3, pb_25.c4, pb_25.c5⟩) (fun hHeld => ?_)
      refine reg_take 0 ?_ ?_ ?_ (by kernel_rfl) (by kernel_rfl) (by kernel_rfl) (fun _ _ _ h => h) ?_ ?_ (by assumption) ?_
      rotate_left 2
      · simp only [List.getElem?_toArray, List.getElem?_cons_zero]; exact rfl
      · rfl
      · intro w hSw; (try dsimp only at hSw); go_simp; try with_reducible rfl
      try simp only [Act.put]
      try simp only [List.setIfInBounds_toArray, List.set_cons_zero, List.set_cons_succ]
      refine reg_call 1 ?_ (by kernel_rfl) ?_ (fun K hK => ?_)
      rotate_left 1
      · simp only [List.getElem?_toArray, List.getElem?_cons_succ, List.getElem?_cons_zero]; exact rfl
      go_simp
      refine (qSign _ 1 _ _ (by omega) f3x_22.q s HS.out).mono ?_
      rintro e w28 ⟨rfl, hb28⟩
      have hB_26 := hB_25.trans (hb28.mono hB_25.size)
      have pa_26 := pa_25.below hb28
      have pb_26 := pb_25.below hb28
      have pz_26 := pz_25.below hb28
      have f1x_26 := f1x_25.below hb28
      have f1y_26 := f1y_25.below hb28
      have f2x_26 := f2x_25.below hb28
      have f2y_26 := f2y_25.below hb28
      have f3x_23 := f3x_22.below hb28
      have f4x_21 := f4x_20.below hb28
      have f4y_21 := f4y_20.below hb28
      have ps_20 := ps_19.below hb28
      clear hb28 hB_25 pa_25 pb_25 pz_25 f1x_25 f1y_25 f2x_25 f2y_25 f3x_22 f4x_20 f4y_20 ps_19
      go_wp2_with fail
      refine hK.out _ _ ⟨pz_26.c0, pz_26.c1, pz_26.c2, pa_26.c0, pa_26.c1, pa_26.c2, pa_26.c3, pa_26.c4, pa_26.c5, pb_26.c0, pb_26.c1, pb_26.c2, pb_26.c3, pb_26.c4, pb_26.c5⟩ (fun hHeld => ?_)
      clear hK K
      try simp only [Act.put]
      try simp only [List.setIfInBounds_toArray, List.set_cons_zero, List.set_cons_succ]
      refine reg_take 2 ?_ ?_ ?_ (by kernel_rfl) (by kernel_rfl) (by kernel_rfl) (fun _ _ _ h => h) ?_ ?_ (by assumption) ?_
      rotate_left 2
      · simp only [List.getElem?_toArray, List.getElem?_cons_succ, List.getElem?_cons_zero]; exact rfl
      · rfl
      · intro w hSw; (try dsimp only at hSw); go_simp; try with_reducible rfl
      try simp only [Act.put]
      try simp only [List.setIfInBounds_toArray, List.set_cons_zero, List.set_cons_succ]
      refine reg_take 3 ?_ ?_ ?_ (by kernel_rfl) (by kernel_rfl) (by kernel_rfl) (fun _ _ _ h => h) ?_ ?_ (by assumption) ?_
      rotate_left 2
      · simp only [List.getElem?_toArray, List.getElem?_cons_succ, List.getElem?_cons_zero]; exact rfl
      · rfl
      · intro w hSw; (try dsimp only at hSw); go_simp; try with_reducible rfl
      try simp only [Act.put]
      try simp only [List.setIfInBounds_toArray, List.set_cons_zero, List.set_cons_succ]
      refine reg_skip 4 ?_ ?_ (by kernel_rfl) (by kernel_rfl) (by kernel_rfl) (fun _ _ _ h => h) ?_ (by assumption) ?_
      rotate_left 1
      · simp only [List.getElem?_toArray, List.getElem?_cons_succ, List.getElem?_cons_zero]; exact rfl
      · rfl
      try simp only [Act.put]
      try simp only [List.setIfInBounds_toArray, List.set_cons_zero, List.set_cons_succ]
      refine reg_skip 5 ?_ ?_ (by kernel_rfl) (by kernel_rfl) (by kernel_rfl) (fun _ _ _ h => h) ?_ (by assumption) ?_
      rotate_left 1
      · simp only [List.getElem?_toArray, List.getElem?_cons_succ, List.getElem?_cons_zero]; exact rfl
      · rfl
      try simp only [Act.put]
      try simp only [List.setIfInBounds_toArray, List.set_cons_zero, List.set_cons_succ]
      refine reg_skip 6 ?_ ?_ (by kernel_rfl) (by kernel_rfl) (by kernel_rfl) (fun _ _ _ h => h) ?_ (by assumption) ?_
      rotate_left 1
      · simp only [List.getElem?_toArray, List.getElem?_cons_succ, List.getElem?_cons_zero]; exact rfl
      · rfl
      try simp only [Act.put]
      try simp only [List.setIfInBounds_toArray, List.set_cons_zero, List.set_cons_succ]
      refine reg_skip 7 ?_ ?_ (by kernel_rfl) (by kernel_rfl) (by kernel_rfl) (fun _ _ _ h => h) ?_ (by assumption) ?_
      rotate_left 1
      · simp only [List.getElem?_toArray, List.getElem?_cons_succ, List.getElem?_cons_zero]; exact rfl
      · rfl
      try simp only [Act.put]
      try simp only [List.setIfInBounds_toArray, List.set_cons_zero, List.set_cons_succ]
      refine reg_take 8 ?_ ?_ ?_ (by kernel_rfl) (by kernel_rfl) (by kernel_rfl) (fun _ _ _ h => h) ?_ ?_ (by assumption) ?_
      rotate_left 2
      · simp only [List.getElem?_toArray, List.getElem?_cons_succ, List.getElem?_cons_zero]; exact rfl
      · rfl
      · intro w hSw; (try dsimp only at hSw); go_simp; try with_reducible rfl
      try simp only [Act.put]
      try simp only [List.setIfInBounds_toArray, List.set_cons_zero, List.set_cons_succ]
      refine reg_take 9 ?_ ?_ ?_ (by kernel_rfl) (by kernel_rfl) (by kernel_rfl) (fun _ _ _ h => h) ?_ ?_ (by assumption) ?_
      rotate_left 2
      · simp only [List.getElem?_toArray, List.getElem?_cons_succ, List.getElem?_cons_zero]; exact rfl
      · rfl
      · intro w hSw; (try dsimp only at hSw); go_simp; try with_reducible rfl
      try simp only [Act.put]
      try simp only [List.setIfInBounds_toArray, List.set_cons_zero, List.set_cons_succ]
      refine reg_take 10 ?_ ?_ ?_ (by kernel_rfl) (by kernel_rfl) (by kernel_rfl) (fun _ _ _ h => h) ?_ ?_ (by assumption) ?_
      rotate_left 2
      · simp only [List.getElem?_toArray, List.getElem?_cons_succ, List.getElem?_cons_zero]; exact rfl
      · rfl
      · intro w hSw; (try dsimp only at hSw); go_simp; try with_reducible rfl
      try simp only [Act.put]
      try simp only [List.setIfInBounds_toArray, List.set_cons_zero, List.set_cons_succ]
      refine reg_take 11 ?_ ?_ ?_ (by kernel_rfl) (by kernel_rfl) (by kernel_rfl) (fun _ _ _ h => h) ?_ ?_ (by assumption) ?_
      rotate_left 2
      · simp only [List.getElem?_toArray, List.getElem?_cons_succ, List.getElem?_cons_zero]; exact rfl
      · rfl
      · intro w hSw; (try dsimp only at hSw); go_simp; try with_reducible rfl
      try simp only [Act.put]
      try simp only [List.setIfInBounds_toArray, List.set_cons_zero, List.set_cons_succ]
      refine reg_call 12 ?_ (by kernel_rfl) ?_ (fun K hK => ?_)
      rotate_left 1
      · simp only [List.getElem?_toArray, List.getElem?_cons_succ, List.getElem?_cons_zero]; exact rfl
      go_simp
      refine (sSame_any 1 _ _ 1 _ _ _ (by omega) (by omega) f1x_26.q f1y_26.q f2x_26.q f2y_26.q q HQ.out).mono ?_
      rintro e w29 ⟨rfl, hb29⟩
      have hB_27 := hB_26.trans (hb29.mono hB_26.size)
      have pa_27 := pa_26.below hb29
      have pb_27 := pb_26.below hb29
      have pz_27 := pz_26.below hb29
      have f1x_27 := f1x_26.below hb29
      have f1y_27 := f1y_26.below hb29
      have f2x_27 := f2x_26.below hb29
      have f2y_27 := f2y_26.below hb29
      have f3x_24 := f3x_23.below hb29
      have f4x_22 := f4x_21.below hb29
      have f4y_22 := f4y_21.below hb29
      have ps_21 := ps_20.below hb29
      clear hb29 hB_26 pa_26 pb_26 pz_26 f1x_26 f1y_26 f2x_26 f2y_26 f3x_23 f4x_21 f4y_21 ps_20
      go_wp2_with fail
      refine hK.out _ _ ⟨pz_27.c0, pz_27.c1, pz_27.c2, pa_27.c0, pa_27.c1, pa_27.c2, pa_27.c3, pa_27.c4, pa_27.c5, pb_27.c0, pb_27.c1, pb_27.c2, pb_27.c3, pb_27.c4, pb_27.c5⟩ (fun hHeld => ?_)
      clear hK K
      try simp only [Act.put]
      try simp only [List.setIfInBounds_toArray, List.set_cons_zero, List.set_cons_succ]
      refine reg_take 13 ?_ ?_ ?_ (by kernel_rfl) (by kernel_rfl) (by kernel_rfl) (fun _ _ _ h => h) ?_ ?_ (by assumption) ?_
      rotate_left 2
      · simp only [List.getElem?_toArray, List.getElem?_cons_succ, List.getElem?_cons_zero]; exact rfl
      · rfl
      · intro w hSw; (try dsimp only at hSw); go_simp; try with_reducible rfl
      try simp only [Act.put]
      try simp only [List.setIfInBounds_toArray, List.set_cons_zero, List.set_cons_succ]
      refine reg_take 14 ?_ ?_ ?_ (by kernel_rfl) (by kernel_rfl) (by kernel_rfl) (fun _ _ _ h => h) ?_ ?_ (by assumption) ?_
      rotate_left 2
      · simp only [List.getElem?_toArray, List.getElem?_cons_succ, List.getElem?_cons_zero]; exact rfl
      · rfl
      · intro w hSw; (try dsimp only at hSw); go_simp; try with_reducible rfl
      try simp only [Act.put]
      try simp only [List.setIfInBounds_toArray, List.set_cons_zero, List.set_cons_succ]
      refine wpAnyH_done (by kernel_rfl) ?_ _
      refine NoPanic.normal ?_
      obtain ⟨pse0, pse1, pse2, pse3, pse4, pse5, pse6, pse7, pse8, pse9, pse10, pse11⟩ := ps_21.open6
      obtain ⟨pae0, pae1, pae2, pae3, pae4, pae5, pae6, pae7, pae8, pae9, pae10, pae11⟩ := pa_27.open6
      obtain ⟨pbe0, pbe1, pbe2, pbe3, pbe4, pbe5, pbe6, pbe7, pbe8, pbe9, pbe10, pbe11⟩ := pb_27.open6
      go_wp2_with fail
      refine (sOn_any (1 + (1 + (1 + 1 + 2) + 2) + 2) _ _ 1 _ _ 1 _ _ _ (by omega) (by omega) (by omega) f4x_22.q f4y_22.q f1x_27.q f1y_27.q f2x_27.q f2y_27.q q (along_on _ ⟨fun k => .inr (HQ.out.2 k), fun k => by rcases k with k | k; exact absurd k HIN.out; exact HQ.out.1 k⟩)).mono ?_
      rintro e w30 ⟨rfl, hb30⟩
      clear pse0 pse1 pse2 pse3 pse4 pse5 pse6 pse7 pse8 pse9 pse10 pse11 pae0 pae1 pae2 pae3 pae4 pae5 pae6 pae7 pae8 pae9 pae10 pae11 pbe0 pbe1 pbe2 pbe3 pbe4 pbe5 pbe6 pbe7 pbe8 pbe9 pbe10 pbe11
      have hB_28 := hB_27.trans (hb30.mono hB_27.size)
      have pa_28 := pa_27.below hb30
      have pb_28 := pb_27.below hb30
      have pz_28 := pz_27.below hb30
      have f1x_28 := f1x_27.below hb30
      have f1y_28 := f1y_27.below hb30
      have f2x_28 := f2x_27.below hb30
      have f2y_28 := f2y_27.below hb30
      have f3x_25 := f3x_24.below hb30
      have f4x_23 := f4x_22.below hb30
      have f4y_23 := f4y_22.below hb30
      have ps_22 := ps_21.below hb30
      clear hb30 hB_27 pa_27 pb_27 pz_27 f1x_27 f1y_27 f2x_27 f2y_27 f3x_24 f4x_22 f4y_22 ps_21
      obtain ⟨pse0, pse1, pse2, pse3, pse4, pse5, pse6, pse7, pse8, pse9, pse10, pse11⟩ := ps_22.open6
      obtain ⟨pae0, pae1, pae2, pae3, pae4, pae5, pae6, pae7, pae8, pae9, pae10, pae11⟩ := pa_28.open6
      obtain ⟨pbe0, pbe1, pbe2, pbe3, pbe4, pbe5, pbe6, pbe7, pbe8, pbe9, pbe10, pbe11⟩ := pb_28.open6
      go_wp2_with fail
      refine (sOn_any (1 + (1 + (1 + 1 + 2) + 2) + 2) _ _ 1 _ _ 1 _ _ _ (by omega) (by omega) (by omega) f4x_23.q f4y_23.q f2x_28.q f2y_28.q f1x_28.q f1y_28.q q ((onQ_back _ _ _ _ _ _).trans (along_on _ ⟨fun k => .inr (HQ.out.2 k), fun k => by rcases k with k | k; exact absurd k HIN.out; exact HQ.out.1 k⟩))).mono ?_
      rintro e w31 ⟨rfl, hb31⟩
      clear pse0 pse1 pse2 pse3 pse4 pse5 pse6 pse7 pse8 pse9 pse10 pse11 pae0 pae1 pae2 pae3 pae4 pae5 pae6 pae7 pae8 pae9 pae10 pae11 pbe0 pbe1 pbe2 pbe3 pbe4 pbe5 pbe6 pbe7 pbe8 pbe9 pbe10 pbe11
      have hB_29 := hB_28.trans (hb31.mono hB_28.size)
      have pa_29 := pa_28.below hb31
      have pb_29 := pb_28.below hb31
      have pz_29 := pz_28.below hb31
      have f1x_29 := f1x_28.below hb31
      have f1y_29 := f1y_28.below hb31
      have f2x_29 := f2x_28.below hb31
      have f2y_29 := f2y_28.below hb31
      have f3x_26 := f3x_25.below hb31
      have f4x_24 := f4x_23.below hb31
      have f4y_24 := f4y_23.below hb31
      have ps_23 := ps_22.below hb31
      clear hb31 hB_28 pa_28 pb_28 pz_28 f1x_28 f1y_28 f2x_28 f2y_28 f3x_25 f4x_23 f4y_23 ps_22
      obtain ⟨pse0, pse1, pse2, pse3, pse4, pse5, pse6, pse7, pse8, pse9, pse10, pse11⟩ := ps_23.open6
      obtain ⟨pae0, pae1, pae2, pae3, pae4, pae5, pae6, pae7, pae8, pae9, pae10, pae11⟩ := pa_29.open6
      obtain ⟨pbe0, pbe1, pbe2, pbe3, pbe4, pbe5, pbe6, pbe7, pbe8, pbe9, pbe10, pbe11⟩ := pb_29.open6
      go_wp2
      go_ret
      exact ⟨rfl, hB_29⟩
  · right
    refine ⟨?_, fun i hi => ?_⟩
    · clear zF F0 F1 F2 F3
      cases lb0
      · exact ready_of 0 _ rfl rfl (by kernel_rfl)
      cases lb1
      · exact ready_of 1 _ rfl rfl (by kernel_rfl)
      cases lb2
      · exact ready_of 2 _ rfl rfl (by kernel_rfl)
      cases lb3
      · exact ready_of 3 _ rfl rfl (by kernel_rfl)
      exact absurd ⟨rfl, rfl, rfl, rfl⟩ hL
    have hd : (lb0 = false ∧ i = 0) ∨ (lb1 = false ∧ lb0 = true ∧ i = 1) ∨ (lb2 = false ∧ i = 2) ∨ (lb3 = false ∧ lb2 = true ∧ lb1 = true ∧ i = 3) := by
      have hin := ready_lt hi
      obtain rfl | rfl | rfl | rfl | rfl | rfl : i = 0 ∨ i = 1 ∨ i = 2 ∨ i = 3 ∨ i = 4 ∨ i = 5 := by have hin' : i < 6 := hin; omega
      · exact .inl ⟨ready_off hi, rfl⟩
      · exact .inr (.inl ⟨ready_off hi, ready_dep (d := 0) hi (by kernel_rfl), rfl⟩)
      · exact .inr (.inr (.inl ⟨ready_off hi, rfl⟩))
      · exact .inr (.inr (.inr (⟨ready_off hi, ready_dep (d := 2) hi (by kernel_rfl), ready_dep (d := 1) hi (by kernel_rfl), rfl⟩)))
      · have k1 : lb1 = true := ready_dep (d := 1) hi (by kernel_rfl); have k3 : lb3 = true := ready_dep (d := 3) hi (by kernel_rfl); have k0 : lb0 = true := ready_dep (d := 0) hi (by kernel_rfl)
        have k2 := dp3_2 k3
        exact absurd ⟨k0, k1, k2, k3⟩ hL
      · exact absurd (ready_dep (d := 4) hi (by kernel_rfl)) (fun h => Bool.noConfusion (show false = true from h))
    clear hi hL
    rcases hd with ⟨rfl, rfl⟩ | ⟨rfl, rfl, rfl⟩ | ⟨rfl, rfl⟩ | ⟨rfl, rfl, rfl, rfl⟩
    · obtain ⟨-, -, -, -, -, -, pa_0, -, -, -⟩ := (hFFi _).1 zF
      obtain ⟨pae0, pae1, pae2, pae3, pae4, pae5, pae6, pae7, pae8, pae9, pae10, pae11⟩ := pa_0.open6
      refine step_of 0 ?_ ?_ (fun K hK => ?_)
      rotate_left 1
      · simp only [List.getElem?_toArray, List.getElem?_cons_zero]; exact rfl
      rw [HAi.out]
      try simp only [Act.put]
      try simp only [List.setIfInBounds_toArray, List.set_cons_zero, List.set_cons_succ]
      go_simp
      refine hK.out _ _ (sFi zF) ?_
      exact (hIVi _ _ _).2 ⟨true, lb1, lb2, lb3, (.agg #[.bool axm, .slice axo axn axc, .slice axp axk axd, .bool aym, .slice ayo ayn ayc, .slice ayp ayk ayd]), lv1, lv2, lv3, m1x, o1x, n1x, c1x, p1x, k1x, d1x, m1y, o1y, n1y, c1y, p1y, k1y, d1y, m2x, o2x, n2x, c2x, p2x, k2x, d2x, m2y, o2y, n2y, c2y, p2y, k2y, d2y, rfl, (by simp only [HAi.out, Act.put, List.setIfInBounds_toArray, List.set_cons_zero, List.set_cons_succ]), zF, (fun _ => rfl), (fun h => absurd (dp1_0 h) (by decide)), F2, (fun h => absurd (dp1_0 (dp3_1 h)) (by decide)), (fun _ => rfl), dp3_2, dp3_1⟩
    · obtain rfl := F0 rfl
      clear F0
      obtain ⟨-, fax_0, fay_0, -, -, -, -, -, -, -⟩ := (hFFi _).1 zF
      refine step_of 1 ?_ ?_ (fun K hK => ?_)
      rotate_left 1
      · simp only [List.getElem?_toArray, List.getElem?_cons_succ, List.getElem?_cons_zero]; exact rfl
      rw [HAi.out]
      try simp only [Act.put]
      try simp only [List.setIfInBounds_toArray, List.set_cons_zero, List.set_cons_succ]
      go_simp
      refine (stame_any Lax Lay Xax Xay Dax Day _ fax_0 fay_0).mono ?_
      rintro e w28 ⟨m1x, o1x, n1x, c1x, p1x, k1x, d1x, m1y, o1y, n1y, c1y, p1y, k1y, d1y, rfl, f1x_0, f1y_0, hb⟩
      go_wp2_with fail
      refine hK.out _ _ (sFi (cFi zF hb)) ?_
      exact (hIVi _ _ _).2 ⟨true, true, lb2, lb3, _, (.agg #[.bool m1x, .slice o1x n1x c1x, .slice p1x k1x d1x, .bool m1y, .slice o1y n1y c1y, .slice p1y k1y d1y]), lv2, lv3, m1x, o1x, n1x, c1x, p1x, k1x, d1x, m1y, o1y, n1y, c1y, p1y, k1y, d1y, m2x, o2x, n2x, c2x, p2x, k2x, d2x, m2y, o2y, n2y, c2y, p2y, k2y, d2y, rfl, (by simp only [HAi.out, Act.put, List.setIfInBounds_toArray, List.set_cons_zero, List.set_cons_succ]), (cFi zF hb), (fun _ => rfl), (fun _ => ⟨rfl, f1x_0, f1y_0⟩), F2, (fun h => absurd (dp3_1 h) (by decide)), (fun _ => rfl), dp3_2, (fun _ => rfl)⟩
    · obtain ⟨-, -, -, -, -, -, -, pb_0, -, -⟩ := (hFFi _).1 zF
      obtain ⟨pbe0, pbe1, pbe2, pbe3, pbe4, pbe5, pbe6, pbe7, pbe8, pbe9, pbe10, pbe11⟩ := pb_0.open6
      refine step_of 2 ?_ ?_ (fun K hK => ?_)
      rotate_left 1
      · simp only [List.getElem?_toArray, List.getElem?_cons_succ, List.getElem?_cons_zero]; exact rfl
      rw [HAi.out]
      try simp only [Act.put]
      try simp only [List.setIfInBounds_toArray, List.set_cons_zero, List.set_cons_succ]
      go_simp
      refine hK.out _ _ (sFi zF) ?_
      exact (hIVi _ _ _).2 ⟨lb0, lb1, true, lb3, lv0, lv1, (.agg #[.bool bxm, .slice bxo bxn bxc, .slice bxp bxk bxd, .bool bym, .slice byo byn byc, .slice byp byk byd]), lv3, m1x, o1x, n1x, c1x, p1x, k1x, d1x, m1y, o1y, n1y, c1y, p1y, k1y, d1y, m2x, o2x, n2x, c2x, p2x, k2x, d2x, m2y, o2y, n2y, c2y, p2y, k2y, d2y, rfl, (by simp only [HAi.out, Act.put, List.setIfInBounds_toArray, List.set_cons_zero, List.set_cons_succ]), zF, F0, F1, (fun _ => rfl), (fun h => absurd (dp3_2 h) (by decide)), dp1_0, (fun _ => rfl), dp3_1⟩
    · obtain rfl := dp1_0 rfl
      obtain rfl := F0 rfl
      clear F0
      obtain ⟨rfl, f1x_0, f1y_0⟩ := F1 rfl
      clear F1
      obtain rfl := F2 rfl
      clear F2
      obtain ⟨-, -, -, fbx_0, fby_0, -, -, -, -, -⟩ := (hFFi _).1 zF
      refine step_of 3 ?_ ?_ (fun K hK => ?_)
      rotate_left 1
      · simp only [List.getElem?_toArray, List.getElem?_cons_succ, List.getElem?_cons_zero]; exact rfl
      rw [HAi.out]
      try simp only [Act.put]
      try simp only [List.setIfInBounds_toArray, List.set_cons_zero, List.set_cons_succ]
      go_simp
      refine (stame_any Lbx Lby Xbx Xby Dbx Dby _ fbx_0 fby_0).mono ?_
      rintro e w29 ⟨m2x, o2x, n2x, c2x, p2x, k2x, d2x, m2y, o2y, n2y, c2y, p2y, k2y, d2y, rfl, f2x_0, f2y_0, hb⟩
      go_wp2_with fail
      refine hK.out _ _ (sFi (cFi zF hb)) ?_
      exact (hIVi _ _ _).2 ⟨true, true, true, true, _, _, _, (.agg #[.bool m2x, .slice o2x n2x c2x, .slice p2x k2x d2x, .bool m2y, .slice o2y n2y c2y, .slice p2y k2y d2y]), m1x, o1x, n1x, c1x, p1x, k1x, d1x, m1y, o1y, n1y, c1y, p1y, k1y, d1y, m2x, o2x, n2x, c2x, p2x, k2x, d2x, m2y, o2y, n2y, c2y, p2y, k2y, d2y, rfl, (by simp only [HAi.out, Act.put, List.setIfInBounds_toArray, List.set_cons_zero, List.set_cons_succ]), (cFi zF hb), (fun _ => rfl), (fun _ => ⟨rfl, f1x_0.below hb, f1y_0.below hb⟩), (fun _ => rfl), (fun _ => ⟨rfl, f2x_0, f2y_0⟩), (fun _ => rfl), (fun _ => rfl), (fun _ => rfl)⟩
end Go.Proofs.Ytkcfaddilknelaa
/- What is said of the nearest whole number. -/
namespace Go.Proofs.Ytkcfaddilknelaa
open Go.RowKit Go.MagM
theorem rnd_near (q : Rat) : -(1 / 2 : Rat) ≤ q - (rnd q : Rat) ∧ q - (rnd q : Rat) ≤ 1 / 2 ∧ ((q - (rnd q : Rat) = 1 / 2 ∨ q - (rnd q : Rat) = -(1 / 2)) → rnd q % 2 = 0) := by
  have h1 := Rat.floor_le q
  have h2 := Rat.lt_floor_add_one q
  rw [Rat.intCast_add] at h2
  have e1 : ((1 : Int) : Rat) = 1 := rfl
  rw [e1] at h2
  unfold rnd
  generalize q.floor = f at *
  split
  · next h =>
    rcases h with h | ⟨h, h3⟩
    · refine ⟨by grind, by grind, fun h4 => ?_⟩
      exfalso
      rcases h4 with h4 | h4
      · have h5 : 2 * (q - (f : Rat)) = 1 := by rw [h4, Rat.mul_comm]; exact Rat.div_mul_cancel (by decide)
        rw [h5] at h
        exact Rat.lt_irrefl h
      · grind
    · exact ⟨by grind, by grind, fun _ => h3⟩
  · next h =>
    have h4 : ¬ 2 * (q - (f : Rat)) < 1 := fun a => h (Or.inl a)
    rw [Rat.intCast_add, e1]
    refine ⟨by grind, by grind, fun h5 => ?_⟩
    have h6 : 2 * (q - (f : Rat)) = 1 := by rcases h5 with h5 | h5 <;> grind
    have h7 : ¬ f % 2 = 0 := fun a => h (Or.inr ⟨h6, a⟩)
    omega
theorem near_unique {q : Rat} {y z : Int} (_h1 : -(1 / 2 : Rat) ≤ q - (y : Rat)) (h2 : q - (y : Rat) ≤ 1 / 2) (h3 : (q - (y : Rat) = 1 / 2 ∨ q - (y : Rat) = -(1 / 2)) → y % 2 = 0)
    (k1 : -(1 / 2 : Rat) ≤ q - (z : Rat)) (_k2 : q - (z : Rat) ≤ 1 / 2) (k3 : (q - (z : Rat) = 1 / 2 ∨ q - (z : Rat) = -(1 / 2)) → z % 2 = 0) : ¬ y < z := by
  intro h
  have h4 : y + 1 ≤ z := h
  have h5 := Rat.intCast_le_intCast.2 h4
  rw [Rat.intCast_add, show ((1 : Int) : Rat) = 1 from rfl] at h5
  have h6 : q - (y : Rat) = 1 / 2 := by grind
  have h7 : q - (z : Rat) = -(1 / 2) := by grind
  have h8 : (z : Rat) = ((y + 1 : Int) : Rat) := by
    rw [Rat.intCast_add, show ((1 : Int) : Rat) = 1 from rfl]; grind
  have h9 := Rat.intCast_inj.1 h8
  have a := h3 (Or.inl h6)
  have b := k3 (Or.inr h7)
  omega
theorem rnd_neg (q : Rat) : rnd (-q) = -rnd q := by
  obtain ⟨h1, h2, h3⟩ := rnd_near q
  obtain ⟨k1, k2, k3⟩ := rnd_near (-q)
  have e : ((-rnd (-q) : Int) : Rat) = -(rnd (-q) : Rat) := Rat.intCast_neg _
  have m1 : -(1 / 2 : Rat) ≤ q - ((-rnd (-q) : Int) : Rat) := by rw [e]; grind
  have m2 : q - ((-rnd (-q) : Int) : Rat) ≤ 1 / 2 := by rw [e]; grind
  have m3 : (q - ((-rnd (-q) : Int) : Rat) = 1 / 2 ∨ q - ((-rnd (-q) : Int) : Rat) = -(1 / 2)) → (-rnd (-q)) % 2 = 0 := by
    rw [e]
    intro h
    have := k3 (by rcases h with h | h <;> grind)
    omega
  have a := near_unique h1 h2 h3 m1 m2 m3
  have b := near_unique m1 m2 m3 h1 h2 h3
  omega
theorem rnd_int (n : Int) : rnd (n : Rat) = n := by
  have h1 : ((n : Rat).floor : Int) = n := Rat.floor_intCast n
  unfold rnd
  rw [h1, Rat.sub_self, if_pos]
  exact Or.inl (by rw [Rat.mul_zero]; rfl)
theorem rest_sign (q : Rat) : ¬ (q - (q.floor : Rat)).num.sign < 0 := by
  have h1 := Rat.floor_le q
  have h2 : 0 ≤ q - (q.floor : Rat) := by grind
  have h3 := Rat.num_nonneg.2 h2
  intro h
  have := Int.neg_of_sign_eq_neg_one (a := (q - (q.floor : Rat)).num) (by
    rcases Int.lt_trichotomy (q - (q.floor : Rat)).num 0 with h4 | h4 | h4
    · omega
    · rw [h4] at h; exact absurd h (by decide)
    · rw [Int.sign_eq_one_of_pos h4] at h; omega)
  omega
theorem rest_small (q : Rat) : qcmp (q - (q.floor : Rat)) ((1 : Int) : Rat) = -1 := by
  have h2 := Rat.lt_floor_add_one q
  rw [Rat.intCast_add] at h2
  apply qcmp_lt
  grind
theorem half_eq : ((1 : Int) : Rat) / ((2 : Int) : Rat) = 1 / 2 := rfl
theorem sign_neg_iff (q : Rat) : q.num.sign < 0 ↔ q < 0 := by
  have h1 := @Rat.num_nonneg q
  rcases Int.lt_trichotomy q.num 0 with h4 | h4 | h4
  · rw [Int.sign_eq_neg_one_of_neg h4]
    exact ⟨fun _ => by have : ¬ 0 ≤ q := fun a => by have := h1.2 a; omega
                       grind, fun _ => by decide⟩
  · rw [h4]
    exact ⟨fun h => absurd h (by decide), fun h => by
      have : 0 ≤ q := h1.1 (by omega)
      grind⟩
  · rw [Int.sign_eq_one_of_pos h4]
    exact ⟨fun h => absurd h (by decide), fun h => by
      have : 0 ≤ q := h1.1 (by omega)
      grind⟩
theorem away_le {q d : Rat} (h : d = q - (rnd q : Rat) ∨ d = -(q - (rnd q : Rat))) : ¬ 0 < qcmp d (((1 : Int) : Rat) / ((2 : Int) : Rat)) := by
  rw [half_eq]
  obtain ⟨h1, h2, _⟩ := rnd_near q
  have h3 : ¬ (1 / 2 : Rat) < d := by rcases h with h | h <;> grind
  by_cases h4 : d < 1 / 2
  · rw [qcmp_lt h4]; decide
  · have h5 : d = 1 / 2 := by grind
    rw [h5, qcmp_self]; decide
theorem away_even {q d : Rat} (h : d = q - (rnd q : Rat) ∨ d = -(q - (rnd q : Rat))) (h0 : qcmp d (((1 : Int) : Rat) / ((2 : Int) : Rat)) = 0) : rnd q % 2 = 0 := by
  rw [half_eq] at h0
  obtain ⟨h1, h2, h3⟩ := rnd_near q
  have h4 := qcmp_zero.1 h0
  apply h3
  rcases h with h | h <;> grind
end Go.Proofs.Ytkcfaddilknelaa
/- The statement SpotAlongs: for all inputs. -/
namespace Go.Proofs.Ytkcfaddilknelaa
open Go.RowKit Go.MagM
theorem part_cases (z : Rat) (s c : Int) (hs : z.num.sign = s) (hc : qcmp z ((1 : Int) : Rat) = c) : (decide (0 ≤ s) = true ∧ decide (c ≤ 0) = true ∧ (0 ≤ z ∧ z ≤ 1)) ∨ (decide (0 ≤ s) = true ∧ decide (c ≤ 0) = false ∧ ¬ (0 ≤ z ∧ z ≤ 1)) ∨ (decide (0 ≤ s) = false ∧ ¬ (0 ≤ z ∧ z ≤ 1)) := by
  have e1 : ((1 : Int) : Rat) = 1 := rfl
  rw [e1] at hc
  have h1 := sign_neg_iff z
  rw [hs] at h1
  by_cases h : z < 0
  · have := h1.2 h
    exact .inr (.inr ⟨decide_eq_false (by omega), fun k => by grind⟩)
  · have h2 : 0 ≤ s := by
      have : ¬ s < 0 := fun k => h (h1.1 k)
      omega
    rcases qcmp_cases z 1 with ⟨k, e⟩ | ⟨k, e⟩ | ⟨k, e⟩ <;> rw [hc] at e <;> subst e
    · exact .inl ⟨decide_eq_true h2, rfl, by grind, by grind⟩
    · exact .inl ⟨decide_eq_true h2, rfl, by grind, by grind⟩
    · exact .inr (.inl ⟨decide_eq_true h2, rfl, fun m => by grind⟩)
theorem SpotAlongs_walk {axm : Bool} {axo : Option Addr} {axn axc : Nat} {axp : Option Addr} {axk axd : Nat} {aym : Bool} {ayo : Option Addr} {ayn ayc : Nat} {ayp : Option Addr} {ayk ayd : Nat} {bxm : Bool} {bxo : Option Addr} {bxn bxc : Nat} {bxp : Option Addr} {bxk bxd : Nat} {bym : Bool} {byo : Option Addr} {byn byc : Nat} {byp : Option Addr} {byk byd : Nat} {zm : Bool} {zo : Option Addr} {zn zc : Nat} {zp : Option Addr} {zk zd : Nat} {Lax Lay Lbx Lby Lz : Nat} {Xax Xay Xbx Xby Xz : Int} {Dax Day Dbx Dby Dz : Nat} (w : World) (fax_0 : FD w (.agg #[.bool axm, .slice axo axn axc, .slice axp axk axd]) Lax Xax Dax) (fay_0 : FD w (.agg #[.bool aym, .slice ayo ayn ayc, .slice ayp ayk ayd]) Lay Xay Day) (fbx_0 : FD w (.agg #[.bool bxm, .slice bxo bxn bxc, .slice bxp bxk bxd]) Lbx Xbx Dbx) (fby_0 : FD w (.agg #[.bool bym, .slice byo byn byc, .slice byp byk byd]) Lby Xby Dby) (fz_0 : FD w (.agg #[.bool zm, .slice zo zn zc, .slice zp zk zd]) Lz Xz Dz) : Calls Try.prog 4 #[.agg #[.bool axm, .slice axo axn axc, .slice axp axk axd, .bool aym, .slice ayo ayn ayc, .slice ayp ayk ayd], .agg #[.bool bxm, .slice bxo bxn bxc, .slice bxp bxk bxd, .bool bym, .slice byo byn byc, .slice byp byk byd], .agg #[.bool zm, .slice zo zn zc, .slice zp zk zd]] w fun e w' => e = .returned (.bool true) ∧ Below w.heap.size w w' :=
  SpotAlongs_w Lax Lay Lbx Lby Lz Xax Xay Xbx Xby Xz Dax Day Dbx Dby Dz _ _ rfl rfl (part_cases _ _ _ rfl rfl) w fax_0 fay_0 fbx_0 fby_0 fz_0
end Go.Proofs.Ytkcfaddilknelaa
